/- Frames that came in; what the law's Bytes makes of them. -/
import Derived.Test.YtjmhfbfpndpkkaaFrmScans
import Derived.Test.YtjmhfbfpndpkkaaFrmAwake
import Derived.Test.YtjmhfbfpndpkkaaGrowB
set_option linter.unusedVariables false
namespace Go.Proofs.Ytjmhfbfpndpkkaa
open Go.ChangeShapes Go.WideShapes Go.ChangeAt Go.RowKit

theorem list_of {α β : Type} (R : Nat → α → β → Prop) : ∀ (l : List α) (s : Nat), (∀ i a, l[i]? = some a → ∃ b, R (s + i) a b) → ∃ m : List β, m.length = l.length ∧ ∀ i a b, l[i]? = some a → m[i]? = some b → R (s + i) a b
  | [], s, _ => ⟨[], rfl, fun i a b h => by simp at h⟩
  | x :: l, s, h => by
    obtain ⟨b0, hb0⟩ := h 0 x rfl
    obtain ⟨m, hm, hr⟩ := list_of R l (s + 1) (fun i a hi => by
      have := h (i + 1) a (by simpa using hi)
      rwa [show s + 1 + i = s + (i + 1) from by omega])
    refine ⟨b0 :: m, by simp [hm], fun i a b ha hb => ?_⟩
    cases i with
    | zero => simp at ha hb; subst ha; subst hb; exact hb0
    | succ i =>
      have := hr i a b (by simpa using ha) (by simpa using hb)
      rwa [show s + 1 + i = s + (i + 1) from by omega] at this

theorem ArgIn.frames {H : Type} {enc : TypeId × Value → H} {W : World} {base : Nat} {v : Value} {d : DataW H} {p : List MemPlace} (h : ArgIn enc Try.prog W base 31 v d p) :
    ∃ (a : Option Addr) (len cap : Nat) (fs : List FrD), v = .slice a len cap ∧ RowF W a len cap fs ∧ ∀ f ∈ fs, -9223372036854775808 ≤ f.k ∧ f.k ≤ 9223372036854775807 ∧ -9223372036854775808 ≤ f.v ∧ f.v ≤ 9223372036854775807 := by
  obtain ⟨a0, len0, cap0, rfl⟩ := okWide_slice Try.underlying31 h.ok
  have hc3 : Try.prog.cellsOf 24 = 3 := by kernel_rfl
  rcases h.tr.slice Try.underlying31 with ⟨hcs, hd⟩ | ⟨a, len, cap, es, rest, hcs, hd, hel, _, hl, hm, _, hat⟩
  · simp [Value.cells] at hcs
    obtain ⟨rfl, rfl, rfl⟩ := hcs
    exact ⟨_, _, _, [], rfl, RowF.nil _ _ _ (by omega), by simp⟩
  · simp [Value.cells] at hcs
    obtain ⟨rfl, rfl, rfl⟩ := hcs
    obtain ⟨fs, hfl, hfs⟩ := list_of (fun i e (f : FrD) => (∀ j (hj : j < f.cells.length), W.cell? (a.add (i * 3 + j)) = some f.cells[j]) ∧ FrOk W f) es 0 (fun i e he => by
      obtain ⟨us, hul, hcells, htr⟩ := hat i e he
      obtain ⟨f, hf, hok, _, _⟩ := htr.frame
      subst hf
      refine ⟨f, fun j hj => ?_, hok⟩
      rw [Nat.zero_add, ← hc3]; exact hcells j hj)
    have hfs' : ∀ i (hi : i < fs.length), (∀ j (hj : j < fs[i].cells.length), W.cell? (a.add (i * 3 + j)) = some fs[i].cells[j]) ∧ FrOk W fs[i] := fun i hi => by
      have := hfs i es[i] fs[i] (List.getElem?_eq_getElem (by omega)) (List.getElem?_eq_getElem hi)
      rwa [Nat.zero_add] at this
    refine ⟨_, _, _, fs, rfl, ⟨by omega, hl, hm, fun f hf => ?_, ?_⟩, fun f hf => ?_⟩
    · obtain ⟨i, hi, rfl⟩ := List.getElem_of_mem hf
      exact (hfs' i hi).2.row
    · by_cases h0 : len0 = 0
      · exact .inl h0
      · right
        obtain ⟨b, off, spot⟩ := a
        have hc0 := (hfs' 0 (by omega)).1 0 (by simp [FrD.cells])
        have hspot : spot = none := by simpa [Addr.add] using World.cell?_spot hc0
        subst hspot
        have ea : ∀ j, (⟨b, off, none⟩ : Addr).add j = ⟨b, off + j, none⟩ := fun j => by simp only [Addr.add]; split <;> simp_all
        refine ⟨b, off, rfl, cell_lt hc0, fun i hi => ?_⟩
        have g := (hfs' i hi).1
        have g0 := g 0 (by simp [FrD.cells])
        have g1 := g 1 (by simp [FrD.cells])
        have g2 := g 2 (by simp [FrD.cells])
        rw [ea] at g0 g1 g2
        exact ⟨by simpa [FrD.cells] using g0, by simpa [FrD.cells, Nat.add_assoc] using g1, by simpa [FrD.cells, Nat.add_assoc] using g2⟩
    · obtain ⟨i, hi, rfl⟩ := List.getElem_of_mem hf
      have := (hfs' i hi).2
      exact ⟨this.k64.1, this.k64.2, this.v64.1, this.v64.2⟩

/-- The bytes of the frames that the law takes: the first twelve, none too long. -/
def oneB (f : FrD) : List Nat := if f.ys.length ≤ 300 then putF f.k f.v f.ys else []
def manyB (fs : List FrD) : List Nat := (fs.take 12).flatMap oneB
theorem putF_length (k v : Int) (ys : List Nat) : (putF k v ys).length ≤ 16 + ys.length := by
  unfold putF
  by_cases h : putE k v ys.length = 0
  · rw [if_pos h, frmF_length]; exact Nat.le_refl _
  · rw [if_neg h]; simp
theorem oneB_length (f : FrD) : (oneB f).length ≤ 316 := by
  unfold oneB
  by_cases h : f.ys.length ≤ 300
  · rw [if_pos h]; have := putF_length f.k f.v f.ys; omega
  · rw [if_neg h]; simp
theorem flat_length : ∀ (fs : List FrD), (fs.flatMap oneB).length ≤ fs.length * 316
  | [] => by simp
  | f :: r => by have := flat_length r; have := oneB_length f; simp only [List.flatMap_cons, List.length_append, List.length_cons]; omega
theorem manyB_length (fs : List FrD) : (manyB fs).length ≤ 3792 := by
  have := flat_length (fs.take 12)
  have h2 : (fs.take 12).length ≤ 12 := by simp; omega
  unfold manyB; omega
theorem manyB_step (fs : List FrD) (k : Nat) (h : k < fs.length) : manyB (fs.take (k + 1)) = if k < 12 then manyB (fs.take k) ++ oneB fs[k] else manyB (fs.take k) := by
  unfold manyB
  rw [List.take_take, List.take_take]
  by_cases hk : k < 12
  · rw [if_pos hk, show min 12 (k + 1) = k + 1 from by omega, show min 12 k = k from by omega, List.take_succ_eq_append_getElem h, List.flatMap_append, List.flatMap_singleton]
  · rw [if_neg hk, show min 12 (k + 1) = 12 from by omega, show min 12 k = 12 from by omega]
end Go.Proofs.Ytjmhfbfpndpkkaa
