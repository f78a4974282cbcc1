/- HC: MagT, MagS, MagA, Cho, RecRPlain, RecMay, RecW, Cho2. -/
import Derived.Test.YtgmimdnebgncoaaGreatHBZ
import Derived.Test.YtgmimdnebgncoaaGreatGAZ
import Derived.Maps.OwnOps
import Derived.Maps.OwnSet
import Derived.Maps.Views
import Derived.Test.YtgmimdnebgncoaaGreatGCZ
import Derived.Defers
import Derived.Recover
import Derived.Laws.Pointers
import Derived.Test.YtgmimdnebgncoaaGreatGBZ
import Derived.StillTailTactics
import Derived.Deep.DeepCutAuto
section
/- The rows of a set of backends; the table. -/
set_option linter.unusedVariables false
namespace Go.Proofs.YtgmimdnebgncoaaGreat
open Go.RowKit

theorem infoI : (Tryz.prog.info? 3).map (fun i => (i.zero, i.size, i.bytes)) = some (some (.int .i64 0), 1, 8) := by kernel_rfl
def rwF (n : Nat) (b : BkD) : Rw := ⟨b.id, b.weight.toNat, offF b.id n, skF b.id n⟩
def rowsF (bs : List BkD) (n : Nat) : List Rw := bs.map (rwF n)
theorem rowsF_length (bs : List BkD) (n : Nat) : (rowsF bs n).length = bs.length := by simp [rowsF]
theorem rowsF_snoc (bs : List BkD) (n k : Nat) (h : k < bs.length) : rowsF (bs.take (k + 1)) n = rowsF (bs.take k) n ++ [rwF n bs[k]] := by
  unfold rowsF; rw [List.take_succ_eq_append_getElem h, List.map_append]; rfl
theorem gmay_at {bs : List BkD} (h : gmay bs = true) (i : Nat) (hi : i < bs.length) : mayKB bs[i] = true := by
  have := ((gmay_iff bs).1 h).2 i hi
  unfold okAt at this
  rw [List.getElem?_eq_getElem hi] at this
  simp only [Bool.and_eq_true] at this
  exact this.1
theorem gmay_up {bs : List BkD} (h : gmay bs = true) : bs.Pairwise (fun a b => a.id < b.id) := by
  have hs : ∀ i (hi : i + 1 < bs.length), bs[i].id < bs[i + 1].id := fun i hi => by
    have := ((gmay_iff bs).1 h).2 (i + 1) hi
    rw [okAt_succ (List.getElem?_eq_getElem hi) (List.getElem?_eq_getElem (by omega))] at this
    simp only [Bool.and_eq_true, decide_eq_true_iff] at this
    exact this.2
  rw [List.pairwise_iff_getElem]
  intro i j hi hj hij
  induction j with
  | zero => omega
  | succ j ih =>
    have h1 := hs j hj
    rcases Nat.lt_or_ge i j with h9 | h9
    · have := ih (by omega) h9; omega
    · obtain rfl : i = j := by omega
      exact h1
theorem rows_fine {bs : List BkD} {n : Nat} (hp : Prm n) (h : gmay bs = true) : Rws (rowsF bs n) n := by
  refine ⟨hp, by rw [rowsF_length]; exact ((gmay_iff bs).1 h).1, fun r hr => ?_, ?_⟩
  · obtain ⟨b, hb, rfl⟩ := List.mem_map.1 hr
    obtain ⟨i, hi, rfl⟩ := List.getElem_of_mem hb
    have hm := (mayKB_iff _).1 (gmay_at h i hi)
    have h1 := hp.lo
    have h2 : offF bs[i].id n < n := Nat.mod_lt _ (by omega)
    have h3 : mixF 2 (id4 bs[i].id) % (n - 1) < n - 1 := Nat.mod_lt _ (by omega)
    refine ⟨hm.1.1, hm.1.2, ?_, ?_, h2, ?_, ?_⟩
    · show 1 ≤ bs[i].weight.toNat; omega
    · show bs[i].weight.toNat ≤ 10; omega
    · show 1 ≤ skF bs[i].id n; unfold skF; omega
    · show skF bs[i].id n < n; unfold skF; omega
  · unfold rowsF
    rw [List.pairwise_map]
    exact gmay_up h

/-- The table's slots. -/
def tabF (bs : List BkD) (n : Nat) : List Int := if bs.length = 0 ∨ gmay bs = false then List.replicate n (-1) else (stM (rowsF bs n) n n).1
theorem zI_list (n : Nat) : (madeCells (Value.int .i64 0).cells (n * 1)).toList = ((List.replicate n (0 : Int)).map cI).flatten := by
  rw [Nat.mul_one]; show (madeCells #[Value.int .i64 0] n).toList = _
  rw [toList_madeCells_one, List.map_replicate]
  induction n with
  | zero => rfl
  | succ n ih => rw [List.replicate_succ, List.replicate_succ, List.flatten_cons, ← ih]; rfl
theorem OwnT.made {w : World} {B n g : Nat} (h : w.ownsRow B 3 1 (.slice (some ⟨g, 0, none⟩) n n) n (madeCells (Value.int .i64 0).cells (n * 1)).toList) : OwnT w B (.slice (some ⟨g, 0, none⟩) n n) (List.replicate n 0) := by
  rw [zI_list] at h
  exact ⟨by simpa using h, by intro l hl; obtain ⟨x, _, rfl⟩ := List.mem_map.1 hl; rfl⟩
theorem set_fill (n k : Nat) (h : k < n) : (List.replicate k (-1 : Int) ++ List.replicate (n - k) 0).set k (-1) = List.replicate (k + 1) (-1) ++ List.replicate (n - (k + 1)) 0 := by
  rw [List.set_append_right _ _ (by simp), List.length_replicate, Nat.sub_self, show n - k = (n - (k + 1)) + 1 from by omega, List.replicate_succ, List.set_cons_zero, List.replicate_succ', List.append_assoc]; rfl

end Go.Proofs.YtgmimdnebgncoaaGreat

end

section
/- How many slots each has; in how many places two tables part; are they the same. -/
set_option linter.unusedVariables false
namespace Go.Proofs.YtgmimdnebgncoaaGreat
open Go.RowKit Go.Maps

/-! ### Rows of numbers -/
theorem RowI.still {w w' : World} {a : Option Addr} {len cap : Nat} {zs : List Int} (h : RowI w a len cap zs) (t : Touch w w' (fun _ => False)) : RowI w' a len cap zs := by
  obtain ⟨h1, h2, h3, h4, h5⟩ := h
  refine ⟨h1, h2, h3, h4, ?_⟩
  rcases h5 with h5 | ⟨b, off, ha, hlt, hc⟩
  · exact .inl h5
  · exact .inr ⟨b, off, ha, Nat.lt_of_lt_of_le hlt t.size, fun i hi => (t.cell (p := ⟨b, off + i, none⟩) hlt (fun h => h)).trans (hc i hi)⟩
theorem OwnT.rowI {w : World} {B G n c : Nat} {T : List Int} (h : OwnT w B (.slice (some ⟨G, 0, none⟩) n c) T) (hT : ∀ z ∈ T, -9223372036854775808 ≤ z ∧ z ≤ 9223372036854775807) : RowI w (some ⟨G, 0, none⟩) n c T :=
  ⟨h.len, (OwnS.row' h).2.1.hcap, (OwnS.row' h).2.1.hmax, hT, .inr ⟨G, 0, rfl, h.lt.2, fun i hi => by rw [Nat.zero_add]; exact h.at_ i hi⟩⟩
theorem RowI.some {w : World} {a : Option Addr} {len cap : Nat} {zs : List Int} (h : RowI w a len cap zs) (h0 : 0 < len) : ∃ b off, a = .some ⟨b, off, none⟩ ∧ ∀ i, (h : i < zs.length) → w.cell? ⟨b, off + i, none⟩ = Option.some (.int .i64 zs[i]) := by
  rcases h.2.2.2.2 with h5 | ⟨b, off, ha, _, hc⟩
  · omega
  · exact ⟨b, off, ha, hc⟩

/-! ### Shares -/
def key (x : Int) : Lit := .int .i64 x
def num (x : Int) : DataW Unit := .lit (.int .i64 x)
theorem num_inj {x y : Int} (h : num x = num y) : x = y := by unfold num at h; simpa using h
/-- The shares behind the first k slots. -/
def shD (T : List Int) : Nat → DataW Unit
  | 0 => .map []
  | k + 1 => match T[k]? with
    | none => shD T k
    | some x => if 0 ≤ x then (shD T k).put (key x) (num ((T.take k).count x + 1 : Nat)) else shD T k
theorem shD_map (T : List Int) : ∀ k, IsMap (shD T k)
  | 0 => isMap_empty
  | k + 1 => by
    unfold shD
    split
    · exact shD_map T k
    · split
      · exact (shD_map T k).put _ _
      · exact shD_map T k
theorem key_lit (x : Int) : WideAt.IsKeyLit (key x) := trivial
theorem key_inj {x y : Int} (h : key x = key y) : x = y := by unfold key at h; simpa using h
theorem shD_at (T : List Int) (x : Int) (hx : 0 ≤ x) : ∀ k, k ≤ T.length → (shD T k).atKey (key x) (num 0) = num ((T.take k).count x : Nat)
  | 0, _ => by simp [shD, DataW.atKey, num]
  | k + 1, hk => by
    have ih := shD_at T x hx k (by omega)
    have hg : T[k]? = some T[k] := List.getElem?_eq_getElem (by omega)
    rw [List.take_succ_eq_append_getElem (by omega), List.count_append]
    unfold shD
    rw [hg]
    generalize T[k] = y
    simp only
    by_cases hy : 0 ≤ y
    · rw [if_pos hy]
      by_cases hxy : y = x
      · subst hxy
        rw [atKey_put_same (shD_map T k) (key_lit _)]
        simp
      · rw [atKey_put_other (fun e => hxy (key_inj e).symm), ih]
        simp [hxy]
    · rw [if_neg hy, ih]
      have : y ≠ x := by omega
      simp [this]
theorem shD_has (T : List Int) (x : Int) : ∀ k, k ≤ T.length → has (shD T k) (key x) = decide (0 ≤ x ∧ x ∈ T.take k)
  | 0, _ => by simp [shD, has]
  | k + 1, hk => by
    have ih := shD_has T x k (by omega)
    have hg : T[k]? = some T[k] := List.getElem?_eq_getElem (by omega)
    rw [List.take_succ_eq_append_getElem (by omega)]
    unfold shD
    rw [hg]
    generalize T[k] = y
    simp only
    by_cases hy : 0 ≤ y
    · rw [if_pos hy]
      by_cases hxy : y = x
      · subst hxy
        rw [has_put_same (shD_map T k) (key_lit _)]
        simp [hy]
      · rw [has_put_other (fun e => hxy (key_inj e).symm), ih]
        have : ¬ x = y := fun h => hxy h.symm
        simp [this]
    · rw [if_neg hy, ih]
      by_cases hx : 0 ≤ x
      · have : x ≠ y := by omega
        simp [this]
      · simp [hx]
theorem shD_tidy (T : List Int) : ∀ k, Tidy (shD T k)
  | 0 => tidy_empty
  | k + 1 => by
    unfold shD
    split
    · exact shD_tidy T k
    · split
      · exact (shD_tidy T k).put (key_lit _) _
      · exact shD_tidy T k
theorem countP_one {p q : Int → Bool} {x : Int} : ∀ l : List Int, l.Nodup → (∀ y, y ≠ x → q y = p y) → l.countP q ≤ l.countP p + 1
  | [], _, _ => by simp
  | z :: l, hn, hq => by
    rw [List.nodup_cons] at hn
    by_cases hz : z = x
    · subst hz
      have e : l.countP q = l.countP p := List.countP_congr (fun y hy => by rw [hq y (fun e => hn.1 (e ▸ hy))])
      rw [List.countP_cons, List.countP_cons, e]
      split <;> split <;> omega
    · have ih := countP_one l hn.2 hq
      rw [List.countP_cons, List.countP_cons, hq z hz]
      split <;> omega
theorem countP_in {p q : Int → Bool} {x : Int} : ∀ l : List Int, l.Nodup → x ∈ l → p x = false → q x = true → (∀ y, y ≠ x → q y = p y) → l.countP q = l.countP p + 1
  | [], _, h, _, _, _ => by simp at h
  | z :: l, hn, hx, hp, hqx, hq => by
    rw [List.nodup_cons] at hn
    by_cases hz : z = x
    · subst hz
      have e : l.countP q = l.countP p := List.countP_congr (fun y hy => by rw [hq y (fun e => hn.1 (e ▸ hy))])
      rw [List.countP_cons, List.countP_cons, e, hqx, hp]; simp
    · have hx2 : x ∈ l := by
        rcases List.mem_cons.1 hx with h | h
        · exact absurd h.symm hz
        · exact h
      have ih := countP_in l hn.2 hx2 hp hqx hq
      rw [List.countP_cons, List.countP_cons, hq z hz, ih]
      split <;> omega
/-- There are no more shares than there are numbers that may have one. -/
theorem shD_size (T ids : List Int) (hn : ids.Nodup) (hm : ∀ x ∈ T, 0 ≤ x → x ∈ ids) : ∀ k, k ≤ T.length → size (shD T k) = ids.countP (fun x => has (shD T k) (key x))
  | 0, _ => by simp [shD, size, has]
  | k + 1, hk => by
    have ih := shD_size T ids hn hm k (by omega)
    have hg : T[k]? = some T[k] := List.getElem?_eq_getElem (by omega)
    have hmem := hm T[k] (List.getElem_mem _)
    have e : shD T (k + 1) = if 0 ≤ T[k] then (shD T k).put (key T[k]) (num ((T.take k).count T[k] + 1 : Nat)) else shD T k := by
      conv => lhs; unfold shD
      rw [hg]
    generalize T[k] = y at *
    by_cases hy : 0 ≤ y
    · rw [e, if_pos hy, size_put (shD_tidy T k)]
      generalize num ((T.take k).count y + 1 : Nat) = d
      have hs := has_put_same (shD_map T k) (key_lit y) d
      have ho : ∀ x, x ≠ y → has ((shD T k).put (key y) d) (key x) = has (shD T k) (key x) := fun x hx => has_put_other (fun e => hx (key_inj e)) d
      by_cases hh : has (shD T k) (key y) = true
      · rw [if_pos hh, ih]
        refine List.countP_congr (fun x _ => ?_)
        by_cases hx : x = y
        · subst hx; rw [hs, hh]
        · rw [ho x hx]
      · rw [if_neg hh, ih]
        exact (countP_in ids hn (hmem hy) (by simpa using hh) hs ho).symm
    · rw [e, if_neg hy]; exact ih
theorem shD_none (T : List Int) (h : ∀ x ∈ T, x < 0) : ∀ k, shD T k = .map []
  | 0 => rfl
  | k + 1 => by
    unfold shD
    split
    · exact shD_none T h k
    · rename_i x hx
      rw [if_neg (by have := h x (List.mem_of_getElem? hx); omega)]
      exact shD_none T h k

theorem keyedI : Keyed Tryz.prog 3 := int_keyed Tryz.underlying3
theorem zeroIM (w : World) : (zeroValue 3).run Tryz.prog w = .ok (.int .i64 0) w := by kernel_rfl
/-- Block b is the shares of the first k slots. -/
def Shr (w : World) (b : Nat) (T : List Int) (k : Nat) : Prop := w.ownsMap Tryz.prog 3 (plainElem (H := Unit) Tryz.prog 3) b k (shD T k)
theorem Shr.kept {w w' : World} {b : Nat} {T : List Int} {k : Nat} (h : Shr w b T k) (t : Touch w w' (fun _ => False)) : Shr w' b T k := by
  have hb := World.ownsMap.lt h
  unfold Shr at h ⊢
  have e := t.block b hb (fun h => h)
  unfold World.ownsMap at h ⊢
  rw [e]; exact h

/-! ### In how many places two tables part -/
def diffN : List Int → List Int → Nat
  | [], ys => ys.length
  | xs, [] => xs.length
  | x :: xs, y :: ys => (if x = y then 0 else 1) + diffN xs ys
theorem diffN_nil (xs : List Int) : diffN xs [] = xs.length := by cases xs <;> rfl
theorem diffN_comm : ∀ xs ys : List Int, diffN xs ys = diffN ys xs
  | [], ys => by rw [diffN_nil]; rfl
  | x :: xs, [] => rfl
  | x :: xs, y :: ys => by
    unfold diffN; rw [diffN_comm xs ys]
    by_cases h : x = y
    · rw [if_pos h, if_pos h.symm]
    · rw [if_neg h, if_neg (fun e => h e.symm)]
theorem diffN_self : ∀ xs : List Int, diffN xs xs = 0
  | [] => rfl
  | x :: xs => by unfold diffN; rw [diffN_self xs]; simp
theorem diffN_step : ∀ (xs ys : List Int) (k : Nat) (h1 : k < xs.length) (h2 : k < ys.length), diffN (xs.take (k + 1)) (ys.take (k + 1)) = diffN (xs.take k) (ys.take k) + (if xs[k] = ys[k] then 0 else 1)
  | [], _, _, h, _ => by simp at h
  | _ :: _, [], _, _, h => by simp at h
  | x :: xs, y :: ys, 0, _, _ => by simp [diffN]
  | x :: xs, y :: ys, k + 1, h1, h2 => by
    have ih := diffN_step xs ys k (by simpa using h1) (by simpa using h2)
    simp only [List.take_succ_cons, diffN, List.getElem_cons_succ] at ih ⊢
    omega
theorem diffN_end : ∀ (xs ys : List Int), xs.length ≤ ys.length → diffN xs ys = diffN (xs.take xs.length) (ys.take xs.length) + (ys.length - xs.length)
  | [], ys, _ => by simp [diffN]
  | x :: xs, [], h => by simp at h
  | x :: xs, y :: ys, h => by
    have ih := diffN_end xs ys (by simpa using h)
    simp only [List.length_cons, List.take_succ_cons, diffN]
    omega
theorem diffN_le : ∀ (xs ys : List Int), diffN xs ys ≤ max xs.length ys.length
  | [], ys => by simp [diffN]
  | x :: xs, [] => by simp [diffN]
  | x :: xs, y :: ys => by
    have := diffN_le xs ys
    simp only [diffN, List.length_cons]
    split <;> omega

end Go.Proofs.YtgmimdnebgncoaaGreat

end

section
/- The known table: awake answers true. Two rows of numbers are held against one another. -/
set_option linter.unusedVariables false
namespace Go.Proofs.YtgmimdnebgncoaaGreat
open Go.RowKit Go.Maps

def bsA : List BkD := [⟨1, 0, 1⟩, ⟨2, 0, 1⟩]
theorem tabA1 : (tabF bsA 7).count 1 = 4 := by decide +kernel
theorem tabA2 : (tabF bsA 7).count 2 = 3 := by decide +kernel
theorem may251 : mayS 251 = true := by decide +kernel
theorem may9 : mayS 9 = false := by decide +kernel
/-- A table's slots are small numbers. -/
theorem tab_small {bs : List BkD} {n : Nat} (hp : Prm n) : ∀ x ∈ tabF bs n, -1 ≤ x ∧ x ≤ 65535 := by
  intro x hx
  unfold tabF at hx
  split at hx
  · simp at hx; omega
  · rename_i hc
    have hg : gmay bs = true := by
      cases h : gmay bs with
      | true => rfl
      | false => exact absurd (.inr h) hc
    have hR := rows_fine hp hg
    have hI := inv_all hR (by rw [rowsF_length]; omega) n (Nat.le_refl _)
    rcases hI.mem x hx with h | ⟨r, hr, h⟩
    · omega
    · have := hR.each r hr; omega
theorem tab_len {bs : List BkD} {n : Nat} (hp : Prm n) : (tabF bs n).length = n := by
  unfold tabF
  split
  · simp
  · rename_i hc
    have hg : gmay bs = true := by
      cases h : gmay bs with
      | true => rfl
      | false => exact absurd (.inr h) hc
    exact (inv_all (rows_fine hp hg) (by rw [rowsF_length]; omega) n (Nat.le_refl _)).tl
theorem tab_i64 {bs : List BkD} {n : Nat} (hp : Prm n) : ∀ x ∈ tabF bs n, -9223372036854775808 ≤ x ∧ x ≤ 9223372036854775807 := fun x hx => by have := tab_small hp x hx; omega

end Go.Proofs.YtgmimdnebgncoaaGreat

end

section
/- Who is out where nobody is: leaving, says, Without; the backend of a number. -/
set_option linter.unusedVariables false
namespace Go.Proofs.YtgmimdnebgncoaaGreat
open Go.RowKit

end Go.Proofs.YtgmimdnebgncoaaGreat

end

section
/- Records: what the reference's PlainRecord answers. -/
set_option linter.unusedVariables false
set_option linter.unusedSimpArgs false
namespace Go.Proofs.YtgmimdnebgncoaaGreat
open Go.RowKit

end Go.Proofs.YtgmimdnebgncoaaGreat

end

section
/- Records: may one be? What May of package record answers. -/
set_option linter.unusedVariables false
set_option linter.unusedSimpArgs false
namespace Go.Proofs.YtgmimdnebgncoaaGreat
open Go.RowKit

/-- May it be a record? -/
def mayRB (r : RecD) : Bool :=
  if r.kind = 1 then mayTB r.t && idB r.fb && cntB r.fg && timB r.fs
  else if r.kind = 2 then mayTB r.t
  else if r.kind = 3 then cntB r.gen && decide (r.bs.length ≤ 16) && r.bs.all mayKB
  else if r.kind = 4 then idB r.be && timB r.un
  else if r.kind = 5 then idB r.be
  else if r.kind = 6 then cntB r.ct
  else false
theorem heap_two (w : World) (A B : Obj) : ((w.alloc A).alloc B).heap[w.heap.size + 1]? = some B := by
  show ((w.heap.push A).push B)[w.heap.size + 1]? = some B
  rw [Array.getElem?_push, if_pos (by simp)]
theorem still2 (w : World) (A B : Obj) : Touch w ((w.alloc A).alloc B) (fun _ => False) := ((Touch.refl w (fun _ => False)).alloc A).alloc B

end Go.Proofs.YtgmimdnebgncoaaGreat

end

section
/- Records: a writer beside blocks that are not its own; what the writer's calls put. -/
set_option linter.unusedVariables false
set_option linter.unusedSimpArgs false
namespace Go.Proofs.YtgmimdnebgncoaaGreat
open Go.RowKit

/-- The writer in block G has put xs; none of its blocks is one of D, all lie from base on. -/
structure WrD (w : World) (base G : Nat) (D : Nat → Prop) (xs : List Nat) : Prop where
  hb : base ≤ w.heap.size
  dl : ∀ k, D k → k < w.heap.size
  dg : ¬ D G
  ex : ∃ v, WrB w base G v xs ∧ ∀ k, v.ownBlock = some k → ¬ D k
section
variable {w w' : World} {base G : Nat} {D : Nat → Prop} {xs zs : List Nat}
theorem WrD.put (h : WrD w base G D xs) : ∃ v, WrB w base G v xs ∧ ∀ w' zs, PutB base G v w zs w' → WrD w' base G D zs ∧ Touch w w' (fun k => base ≤ k ∧ ¬ D k) := by
  obtain ⟨hb, dl, dg, v, hw, hv⟩ := h
  refine ⟨v, hw, fun w' zs p => ?_⟩
  obtain ⟨v', h', ht, hn⟩ := p
  refine ⟨⟨Nat.le_trans hb ht.size, fun k hk => Nat.lt_of_lt_of_le (dl k hk) ht.size, dg, v', h', fun k hk hd => ?_⟩, ht.mono (fun k hk hs => ?_)⟩
  · rcases hn k hk with h1 | h1
    · exact hv k h1 hd
    · have := dl k hd; omega
  · rcases hs with rfl | hs
    · exact ⟨hw.low, dg⟩
    · exact ⟨(hw.foot.2 k hs).1, hv k hs⟩
theorem WrD.still (h : WrD w base G D xs) (t : Touch w w' (fun _ => False)) : WrD w' base G D xs := by
  obtain ⟨hb, dl, dg, v, hw, hv⟩ := h
  exact ⟨Nat.le_trans hb t.size, fun k hk => Nat.lt_of_lt_of_le (dl k hk) t.size, dg, v, hw.touch t (fun h => h) (fun _ _ h => h), hv⟩
theorem WrD.mono {D' : Nat → Prop} (h : WrD w base G D xs) (hd : ∀ k, D' k → D k) : WrD w base G D' xs :=
  ⟨h.hb, fun k hk => h.dl k (hd k hk), fun hk => h.dg (hd _ hk), h.ex.imp fun v hv => ⟨hv.1, fun k hk hk2 => hv.2 k hk (hd k hk2)⟩⟩
/-- A block that was just laid is not the writer's. -/
theorem WrD.more (h : WrD w base G D xs) (o : Obj) : WrD (w.alloc o) base G (fun k => D k ∨ k = w.heap.size) xs := by
  have t := (Touch.refl w (fun _ => False)).alloc o
  obtain ⟨v, hw, hv⟩ := h.ex
  have hG := hw.foot.1
  refine ⟨Nat.le_trans h.hb t.size, fun k hk => ?_, fun hk => ?_, v, hw.touch t (fun h => h) (fun _ _ h => h), fun k hk hk2 => ?_⟩
  · rcases hk with hk | rfl
    · exact Nat.lt_of_lt_of_le (h.dl k hk) t.size
    · simp
  · rcases hk with hk | hk
    · exact h.dg hk
    · omega
  · rcases hk2 with hk2 | hk2
    · exact hv k hk hk2
    · have := (hw.foot.2 k hk).2; omega
theorem WrE.toD (h : WrE w base G xs) : WrD w base G (fun _ => False) xs := by
  obtain ⟨hb, v, hw⟩ := h
  exact ⟨hb, fun _ h => h.elim, fun h => h, v, hw, fun _ _ h => h⟩
theorem WrD.toE (h : WrD w base G D xs) : WrE w base G xs := by
  obtain ⟨hb, _, _, v, hw, _⟩ := h
  exact ⟨hb, v, hw⟩
theorem WrD.drew (h : WrD w base G D xs) : WrD w.drew base G D xs := h.still ((Touch.refl w (fun _ => False)).drew)
end
def isI (n : Int) : Prop := -9223372036854775808 ≤ n ∧ n ≤ 9223372036854775807
theorem d_wU8 (base G : Nat) (D : Nat → Prop) (xs : List Nat) (n : Int) (w : World) (h : WrD w base G D xs) (hn : -9223372036854775808 ≤ n ∧ n ≤ 9223372036854775807) (hlen : xs.length ≤ 1000000) :
    Calls Tryz.prog 65 #[.pointer (some ⟨G, 0, none⟩), .int .i64 n] w fun e w' => e = .returned (.tuple #[]) ∧ WrD w' base G D (xs ++ beB 1 (u64N n)) ∧ Touch w w' (fun k => base ≤ k ∧ ¬ D k) := by
  obtain ⟨v, hw, hp⟩ := h.put
  refine (wU8_any G v xs base n w hw hn (by omega) h.hb).mono ?_
  rintro e w' ⟨rfl, p⟩
  exact ⟨rfl, hp _ _ p⟩
theorem d_wU16 (base G : Nat) (D : Nat → Prop) (xs : List Nat) (n : Int) (w : World) (h : WrD w base G D xs) (hn : -9223372036854775808 ≤ n ∧ n ≤ 9223372036854775807) (hlen : xs.length ≤ 1000000) :
    Calls Tryz.prog 66 #[.pointer (some ⟨G, 0, none⟩), .int .i64 n] w fun e w' => e = .returned (.tuple #[]) ∧ WrD w' base G D (xs ++ beB 2 (u64N n)) ∧ Touch w w' (fun k => base ≤ k ∧ ¬ D k) := by
  obtain ⟨v, hw, hp⟩ := h.put
  refine (wU16_any G v xs base n w hw hn (by omega) h.hb).mono ?_
  rintro e w' ⟨rfl, p⟩
  exact ⟨rfl, hp _ _ p⟩
theorem d_wU32 (base G : Nat) (D : Nat → Prop) (xs : List Nat) (n : Int) (w : World) (h : WrD w base G D xs) (hn : 0 ≤ n ∧ n ≤ 4294967295) (hlen : xs.length ≤ 1000000) :
    Calls Tryz.prog 64 #[.pointer (some ⟨G, 0, none⟩), .int .u32 n] w fun e w' => e = .returned (.tuple #[]) ∧ WrD w' base G D (xs ++ beB 4 (u64N n)) ∧ Touch w w' (fun k => base ≤ k ∧ ¬ D k) := by
  obtain ⟨v, hw, hp⟩ := h.put
  refine (wU32_any G v xs base n w hw hn (by omega) h.hb).mono ?_
  rintro e w' ⟨rfl, p⟩
  exact ⟨rfl, hp _ _ p⟩
/-- What a call leaves that puts ys behind xs. -/
def PutD (w : World) (base G : Nat) (D : Nat → Prop) (xs ys : List Nat) (e : Ending) (w' : World) : Prop :=
  e = .returned (.tuple #[]) ∧ WrD w' base G D (xs ++ ys) ∧ Touch w w' (fun k => base ≤ k ∧ ¬ D k)

/-- A tuple's bytes. -/
def tbF (t : TupD) : List Nat := beB 4 (u64N t.src) ++ beB 4 (u64N t.dst) ++ beB 1 (u64N t.proto) ++ beB 2 (u64N t.sport) ++ beB 2 (u64N t.dport)
theorem tbF_length (t : TupD) : (tbF t).length = 13 := by simp [tbF, beB_length]
theorem tcells_of {w : World} {B : Nat} {t : TupD} {T : TypeId} (hb : w.heap[B]? = some (.cells (tcs t) T (0, 0))) :
    w.cell? ⟨B, 0, none⟩ = some (.int .u32 t.src) ∧ w.cell? ⟨B, 1, none⟩ = some (.int .u32 t.dst) ∧ w.cell? ⟨B, 2, none⟩ = some (.int .i64 t.proto) ∧ w.cell? ⟨B, 3, none⟩ = some (.int .i64 t.sport) ∧ w.cell? ⟨B, 4, none⟩ = some (.int .i64 t.dport) :=
  ⟨cell_of_cells hb 0, cell_of_cells hb 1, cell_of_cells hb 2, cell_of_cells hb 3, cell_of_cells hb 4⟩
set_option maxRecDepth 20000 in
set_option maxHeartbeats 4000000 in
theorem tWrite_any (base G : Nat) (D : Nat → Prop) (xs : List Nat) (t : TupD) (w : World) (h : WrD w base G D xs) (ok : TupOk t) (hlen : xs.length ≤ 900000) :
    Calls Tryz.prog 45 #[.pointer (some ⟨G, 0, none⟩), .agg (tcs t)] w (PutD w base G D xs (tbF t)) := by
  obtain ⟨src, dst, proto, sport, dport⟩ := t
  obtain ⟨o1, o2, o3, o4, o5⟩ := ok
  simp only [u32, i64] at o1 o2 o3 o4 o5
  obtain ⟨W1, hW1⟩ : ∃ W, w.alloc (.cells (tcs ⟨src, dst, proto, sport, dport⟩) 33) = W := ⟨_, rfl⟩
  have hw1 : WrD W1 base G (fun k => D k ∨ k = w.heap.size) xs := hW1 ▸ h.more _
  have hb1 : W1.heap[w.heap.size]? = some (.cells (tcs ⟨src, dst, proto, sport, dport⟩) 33 (0, 0)) := hW1 ▸ heap_alloc_new w _
  have HW := Lib.hid hw1
  have HB := Lib.hid hb1
  have HT : RowKit.Hid (Touch w W1 (fun k => base ≤ k ∧ ¬ D k)) := Lib.hid (hW1 ▸ (Touch.refl _ _).alloc _)
  have HL := Lib.hid hlen
  obtain ⟨c0, c1, c2, c3, c4⟩ := tcells_of hb1
  simp only at c0 c1 c2 c3 c4
  clear h hw1 hb1 hlen
  simp only [tcs] at hW1
  simp only [tcs]
  go_enter Tryz.func45, Tryz.ntmps45
  go_wp2_with (first
    | (go_at_call 64; (with_reducible refine (d_wU32 _ _ _ _ _ _ HW.out (by omega) (by have := HL.out; (try simp only [List.length_append, beB_length]); omega)).mono ?_); rintro e w2 ⟨rfl, h1, h2⟩; have HW := Lib.hid h1; have HB := Lib.hid (h2.keeps HB.out (fun h => h.2 (.inr rfl))); have HT := Lib.hid (HT.out.trans h2 (fun k hk h => ⟨h.1, fun hd => h.2 (.inl hd)⟩)); clear h1 h2 c0 c1 c2 c3 c4; obtain ⟨c0, c1, c2, c3, c4⟩ := tcells_of HB.out; simp only at c0 c1 c2 c3 c4)
    | (go_at_call 65; (with_reducible refine (d_wU8 _ _ _ _ _ _ HW.out (by omega) (by have := HL.out; (try simp only [List.length_append, beB_length]); omega)).mono ?_); rintro e w2 ⟨rfl, h1, h2⟩; have HW := Lib.hid h1; have HB := Lib.hid (h2.keeps HB.out (fun h => h.2 (.inr rfl))); have HT := Lib.hid (HT.out.trans h2 (fun k hk h => ⟨h.1, fun hd => h.2 (.inl hd)⟩)); clear h1 h2 c0 c1 c2 c3 c4; obtain ⟨c0, c1, c2, c3, c4⟩ := tcells_of HB.out; simp only at c0 c1 c2 c3 c4)
    | (go_at_call 66; (with_reducible refine (d_wU16 _ _ _ _ _ _ HW.out (by omega) (by have := HL.out; (try simp only [List.length_append, beB_length]); omega)).mono ?_); rintro e w2 ⟨rfl, h1, h2⟩; have HW := Lib.hid h1; have HB := Lib.hid (h2.keeps HB.out (fun h => h.2 (.inr rfl))); have HT := Lib.hid (HT.out.trans h2 (fun k hk h => ⟨h.1, fun hd => h.2 (.inl hd)⟩)); clear h1 h2 c0 c1 c2 c3 c4; obtain ⟨c0, c1, c2, c3, c4⟩ := tcells_of HB.out; simp only at c0 c1 c2 c3 c4))
  go_end0
  refine ⟨rfl, ?_, HT.out⟩
  have hw := HW.out.mono (D' := D) (fun k hk => .inl hk)
  simp only [List.append_assoc] at hw
  simpa only [tbF, List.append_assoc] using hw
end Go.Proofs.YtgmimdnebgncoaaGreat

end

section
/- A tuple's hash; a backend by its number; a chooser that there isn't. -/
set_option linter.unusedVariables false
namespace Go.Proofs.YtgmimdnebgncoaaGreat
open Go.RowKit

def bkZ : BkD := ⟨0, 0, 0⟩
/-- A backend as a value. -/
def bkV' (b : BkD) : Value := .agg #[.int .i64 b.id, .int .u32 b.addr, .int .i64 b.weight]

def hashF (t : TupD) : Nat := mixF 0 (tbF t)
theorem hashF_lt (t : TupD) : hashF t < 4294967296 := mixF_lt _ _
def findF (bs : List BkD) (id : Int) : Option BkD := bs.find? (fun b => b.id == id)
def findV (bs : List BkD) (id : Int) : Value := match findF bs id with
  | some b => .tuple #[bkV' b, .bool true]
  | none => .tuple #[bkV' bkZ, .bool false]

end Go.Proofs.YtgmimdnebgncoaaGreat

end
