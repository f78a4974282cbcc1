/- The rows of a set of backends; the table. -/
import Derived.Test.YtgmimdnebgncoaaMagRZ
set_option linter.unusedVariables false
namespace Go.Proofs.Ytgmimdnebgncoaa
open Go.RowKit

theorem infoI : (Try.prog.info? 3).map (fun i => (i.zero, i.size, i.bytes)) = some (some (.int .i64 0), 1, 8) := by kernel_rfl
def rwF (n : Nat) (b : BkD) : Rw := ⟨b.id, b.weight.toNat, offF b.id n, skF b.id n⟩
def rowsF (bs : List BkD) (n : Nat) : List Rw := bs.map (rwF n)
theorem rowsF_length (bs : List BkD) (n : Nat) : (rowsF bs n).length = bs.length := by simp [rowsF]
theorem rowsF_snoc (bs : List BkD) (n k : Nat) (h : k < bs.length) : rowsF (bs.take (k + 1)) n = rowsF (bs.take k) n ++ [rwF n bs[k]] := by
  unfold rowsF; rw [List.take_succ_eq_append_getElem h, List.map_append]; rfl
theorem gmay_at {bs : List BkD} (h : gmay bs = true) (i : Nat) (hi : i < bs.length) : mayKB bs[i] = true := by
  have := ((gmay_iff bs).1 h).2 i hi
  unfold okAt at this
  rw [List.getElem?_eq_getElem hi] at this
  simp only [Bool.and_eq_true] at this
  exact this.1
theorem gmay_up {bs : List BkD} (h : gmay bs = true) : bs.Pairwise (fun a b => a.id < b.id) := by
  have hs : ∀ i (hi : i + 1 < bs.length), bs[i].id < bs[i + 1].id := fun i hi => by
    have := ((gmay_iff bs).1 h).2 (i + 1) hi
    rw [okAt_succ (List.getElem?_eq_getElem hi) (List.getElem?_eq_getElem (by omega))] at this
    simp only [Bool.and_eq_true, decide_eq_true_iff] at this
    exact this.2
  rw [List.pairwise_iff_getElem]
  intro i j hi hj hij
  induction j with
  | zero => omega
  | succ j ih =>
    have h1 := hs j hj
    rcases Nat.lt_or_ge i j with h9 | h9
    · have := ih (by omega) h9; omega
    · obtain rfl : i = j := by omega
      exact h1
theorem rows_fine {bs : List BkD} {n : Nat} (hp : Prm n) (h : gmay bs = true) : Rws (rowsF bs n) n := by
  refine ⟨hp, by rw [rowsF_length]; exact ((gmay_iff bs).1 h).1, fun r hr => ?_, ?_⟩
  · obtain ⟨b, hb, rfl⟩ := List.mem_map.1 hr
    obtain ⟨i, hi, rfl⟩ := List.getElem_of_mem hb
    have hm := (mayKB_iff _).1 (gmay_at h i hi)
    have h1 := hp.lo
    have h2 : offF bs[i].id n < n := Nat.mod_lt _ (by omega)
    have h3 : mixF 2 (id4 bs[i].id) % (n - 1) < n - 1 := Nat.mod_lt _ (by omega)
    refine ⟨hm.1.1, hm.1.2, ?_, ?_, h2, ?_, ?_⟩
    · show 1 ≤ bs[i].weight.toNat; omega
    · show bs[i].weight.toNat ≤ 10; omega
    · show 1 ≤ skF bs[i].id n; unfold skF; omega
    · show skF bs[i].id n < n; unfold skF; omega
  · unfold rowsF
    rw [List.pairwise_map]
    exact gmay_up h

/-- The table's slots. -/
def tabF (bs : List BkD) (n : Nat) : List Int := if bs.length = 0 ∨ gmay bs = false then List.replicate n (-1) else (stM (rowsF bs n) n n).1
theorem zI_list (n : Nat) : (madeCells (Value.int .i64 0).cells (n * 1)).toList = ((List.replicate n (0 : Int)).map cI).flatten := by
  rw [Nat.mul_one]; show (madeCells #[Value.int .i64 0] n).toList = _
  rw [toList_madeCells_one, List.map_replicate]
  induction n with
  | zero => rfl
  | succ n ih => rw [List.replicate_succ, List.replicate_succ, List.flatten_cons, ← ih]; rfl
theorem OwnT.made {w : World} {B n g : Nat} (h : w.ownsRow B 3 1 (.slice (some ⟨g, 0, none⟩) n n) n (madeCells (Value.int .i64 0).cells (n * 1)).toList) : OwnT w B (.slice (some ⟨g, 0, none⟩) n n) (List.replicate n 0) := by
  rw [zI_list] at h
  exact ⟨by simpa using h, by intro l hl; obtain ⟨x, _, rfl⟩ := List.mem_map.1 hl; rfl⟩
theorem set_fill (n k : Nat) (h : k < n) : (List.replicate k (-1 : Int) ++ List.replicate (n - k) 0).set k (-1) = List.replicate (k + 1) (-1) ++ List.replicate (n - (k + 1)) 0 := by
  rw [List.set_append_right _ _ (by simp), List.length_replicate, Nat.sub_self, show n - k = (n - (k + 1)) + 1 from by omega, List.replicate_succ, List.set_cons_zero, List.replicate_succ', List.append_assoc]; rfl

end Go.Proofs.Ytgmimdnebgncoaa
