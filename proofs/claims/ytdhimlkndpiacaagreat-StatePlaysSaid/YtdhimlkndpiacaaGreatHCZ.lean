/- HC: MagT, MagS, MagA, Cho, RecRPlain, RecMay, RecW, Cho2. -/
import Derived.Test.YtdhimlkndpiacaaGreatHBZ
import Derived.Test.YtdhimlkndpiacaaGreatGAZ
import Derived.Maps.OwnOps
import Derived.Maps.OwnSet
import Derived.Maps.Views
import Derived.Test.YtdhimlkndpiacaaGreatGCZ
import Derived.Defers
import Derived.Recover
import Derived.Laws.Pointers
import Derived.Test.YtdhimlkndpiacaaGreatGBZ
import Derived.StillTailTactics
import Derived.Deep.DeepCutAuto
section
/- The rows of a set of backends; the table. -/
set_option linter.unusedVariables false
namespace Go.Proofs.YtdhimlkndpiacaaGreat
open Go.RowKit

theorem infoI : (Tryz.prog.info? 3).map (fun i => (i.zero, i.size, i.bytes)) = some (some (.int .i64 0), 1, 8) := by kernel_rfl
def rwF (n : Nat) (b : BkD) : Rw := ⟨b.id, b.weight.toNat, offF b.id n, skF b.id n⟩
def rowsF (bs : List BkD) (n : Nat) : List Rw := bs.map (rwF n)
theorem rowsF_length (bs : List BkD) (n : Nat) : (rowsF bs n).length = bs.length := by simp [rowsF]
theorem rowsF_snoc (bs : List BkD) (n k : Nat) (h : k < bs.length) : rowsF (bs.take (k + 1)) n = rowsF (bs.take k) n ++ [rwF n bs[k]] := by
  unfold rowsF; rw [List.take_succ_eq_append_getElem h, List.map_append]; rfl
theorem gmay_at {bs : List BkD} (h : gmay bs = true) (i : Nat) (hi : i < bs.length) : mayKB bs[i] = true := by
  have := ((gmay_iff bs).1 h).2 i hi
  unfold okAt at this
  rw [List.getElem?_eq_getElem hi] at this
  simp only [Bool.and_eq_true] at this
  exact this.1
theorem gmay_up {bs : List BkD} (h : gmay bs = true) : bs.Pairwise (fun a b => a.id < b.id) := by
  have hs : ∀ i (hi : i + 1 < bs.length), bs[i].id < bs[i + 1].id := fun i hi => by
    have := ((gmay_iff bs).1 h).2 (i + 1) hi
    rw [okAt_succ (List.getElem?_eq_getElem hi) (List.getElem?_eq_getElem (by omega))] at this
    simp only [Bool.and_eq_true, decide_eq_true_iff] at this
    exact this.2
  rw [List.pairwise_iff_getElem]
  intro i j hi hj hij
  induction j with
  | zero => omega
  | succ j ih =>
    have h1 := hs j hj
    rcases Nat.lt_or_ge i j with h9 | h9
    · have := ih (by omega) h9; omega
    · obtain rfl : i = j := by omega
      exact h1
theorem rows_fine {bs : List BkD} {n : Nat} (hp : Prm n) (h : gmay bs = true) : Rws (rowsF bs n) n := by
  refine ⟨hp, by rw [rowsF_length]; exact ((gmay_iff bs).1 h).1, fun r hr => ?_, ?_⟩
  · obtain ⟨b, hb, rfl⟩ := List.mem_map.1 hr
    obtain ⟨i, hi, rfl⟩ := List.getElem_of_mem hb
    have hm := (mayKB_iff _).1 (gmay_at h i hi)
    have h1 := hp.lo
    have h2 : offF bs[i].id n < n := Nat.mod_lt _ (by omega)
    have h3 : mixF 2 (id4 bs[i].id) % (n - 1) < n - 1 := Nat.mod_lt _ (by omega)
    refine ⟨hm.1.1, hm.1.2, ?_, ?_, h2, ?_, ?_⟩
    · show 1 ≤ bs[i].weight.toNat; omega
    · show bs[i].weight.toNat ≤ 10; omega
    · show 1 ≤ skF bs[i].id n; unfold skF; omega
    · show skF bs[i].id n < n; unfold skF; omega
  · unfold rowsF
    rw [List.pairwise_map]
    exact gmay_up h

/-- The table's slots. -/
def tabF (bs : List BkD) (n : Nat) : List Int := if bs.length = 0 ∨ gmay bs = false then List.replicate n (-1) else (stM (rowsF bs n) n n).1
theorem zI_list (n : Nat) : (madeCells (Value.int .i64 0).cells (n * 1)).toList = ((List.replicate n (0 : Int)).map cI).flatten := by
  rw [Nat.mul_one]; show (madeCells #[Value.int .i64 0] n).toList = _
  rw [toList_madeCells_one, List.map_replicate]
  induction n with
  | zero => rfl
  | succ n ih => rw [List.replicate_succ, List.replicate_succ, List.flatten_cons, ← ih]; rfl
theorem OwnT.made {w : World} {B n g : Nat} (h : w.ownsRow B 3 1 (.slice (some ⟨g, 0, none⟩) n n) n (madeCells (Value.int .i64 0).cells (n * 1)).toList) : OwnT w B (.slice (some ⟨g, 0, none⟩) n n) (List.replicate n 0) := by
  rw [zI_list] at h
  exact ⟨by simpa using h, by intro l hl; obtain ⟨x, _, rfl⟩ := List.mem_map.1 hl; rfl⟩
theorem set_fill (n k : Nat) (h : k < n) : (List.replicate k (-1 : Int) ++ List.replicate (n - k) 0).set k (-1) = List.replicate (k + 1) (-1) ++ List.replicate (n - (k + 1)) 0 := by
  rw [List.set_append_right _ _ (by simp), List.length_replicate, Nat.sub_self, show n - k = (n - (k + 1)) + 1 from by omega, List.replicate_succ, List.set_cons_zero, List.replicate_succ', List.append_assoc]; rfl

end Go.Proofs.YtdhimlkndpiacaaGreat

end

section
/- How many slots each has; in how many places two tables part; are they the same. -/
set_option linter.unusedVariables false
namespace Go.Proofs.YtdhimlkndpiacaaGreat
open Go.RowKit Go.Maps

/-! ### Rows of numbers -/
theorem RowI.still {w w' : World} {a : Option Addr} {len cap : Nat} {zs : List Int} (h : RowI w a len cap zs) (t : Touch w w' (fun _ => False)) : RowI w' a len cap zs := by
  obtain ⟨h1, h2, h3, h4, h5⟩ := h
  refine ⟨h1, h2, h3, h4, ?_⟩
  rcases h5 with h5 | ⟨b, off, ha, hlt, hc⟩
  · exact .inl h5
  · exact .inr ⟨b, off, ha, Nat.lt_of_lt_of_le hlt t.size, fun i hi => (t.cell (p := ⟨b, off + i, none⟩) hlt (fun h => h)).trans (hc i hi)⟩
theorem OwnT.rowI {w : World} {B G n c : Nat} {T : List Int} (h : OwnT w B (.slice (some ⟨G, 0, none⟩) n c) T) (hT : ∀ z ∈ T, -9223372036854775808 ≤ z ∧ z ≤ 9223372036854775807) : RowI w (some ⟨G, 0, none⟩) n c T :=
  ⟨h.len, (OwnS.row' h).2.1.hcap, (OwnS.row' h).2.1.hmax, hT, .inr ⟨G, 0, rfl, h.lt.2, fun i hi => by rw [Nat.zero_add]; exact h.at_ i hi⟩⟩
theorem RowI.some {w : World} {a : Option Addr} {len cap : Nat} {zs : List Int} (h : RowI w a len cap zs) (h0 : 0 < len) : ∃ b off, a = .some ⟨b, off, none⟩ ∧ ∀ i, (h : i < zs.length) → w.cell? ⟨b, off + i, none⟩ = Option.some (.int .i64 zs[i]) := by
  rcases h.2.2.2.2 with h5 | ⟨b, off, ha, _, hc⟩
  · omega
  · exact ⟨b, off, ha, hc⟩

/-! ### Shares -/
def key (x : Int) : Lit := .int .i64 x
def num (x : Int) : DataW Unit := .lit (.int .i64 x)
theorem num_inj {x y : Int} (h : num x = num y) : x = y := by unfold num at h; simpa using h
/-- The shares behind the first k slots. -/
def shD (T : List Int) : Nat → DataW Unit
  | 0 => .map []
  | k + 1 => match T[k]? with
    | none => shD T k
    | some x => if 0 ≤ x then (shD T k).put (key x) (num ((T.take k).count x + 1 : Nat)) else shD T k
theorem shD_map (T : List Int) : ∀ k, IsMap (shD T k)
  | 0 => isMap_empty
  | k + 1 => by
    unfold shD
    split
    · exact shD_map T k
    · split
      · exact (shD_map T k).put _ _
      · exact shD_map T k
theorem key_lit (x : Int) : WideAt.IsKeyLit (key x) := trivial
theorem key_inj {x y : Int} (h : key x = key y) : x = y := by unfold key at h; simpa using h
theorem shD_at (T : List Int) (x : Int) (hx : 0 ≤ x) : ∀ k, k ≤ T.length → (shD T k).atKey (key x) (num 0) = num ((T.take k).count x : Nat)
  | 0, _ => by simp [shD, DataW.atKey, num]
  | k + 1, hk => by
    have ih := shD_at T x hx k (by omega)
    have hg : T[k]? = some T[k] := List.getElem?_eq_getElem (by omega)
    rw [List.take_succ_eq_append_getElem (by omega), List.count_append]
    unfold shD
    rw [hg]
    generalize T[k] = y
    simp only
    by_cases hy : 0 ≤ y
    · rw [if_pos hy]
      by_cases hxy : y = x
      · subst hxy
        rw [atKey_put_same (shD_map T k) (key_lit _)]
        simp
      · rw [atKey_put_other (fun e => hxy (key_inj e).symm), ih]
        simp [hxy]
    · rw [if_neg hy, ih]
      have : y ≠ x := by omega
      simp [this]
theorem shD_has (T : List Int) (x : Int) : ∀ k, k ≤ T.length → has (shD T k) (key x) = decide (0 ≤ x ∧ x ∈ T.take k)
  | 0, _ => by simp [shD, has]
  | k + 1, hk => by
    have ih := shD_has T x k (by omega)
    have hg : T[k]? = some T[k] := List.getElem?_eq_getElem (by omega)
    rw [List.take_succ_eq_append_getElem (by omega)]
    unfold shD
    rw [hg]
    generalize T[k] = y
    simp only
    by_cases hy : 0 ≤ y
    · rw [if_pos hy]
      by_cases hxy : y = x
      · subst hxy
        rw [has_put_same (shD_map T k) (key_lit _)]
        simp [hy]
      · rw [has_put_other (fun e => hxy (key_inj e).symm), ih]
        have : ¬ x = y := fun h => hxy h.symm
        simp [this]
    · rw [if_neg hy, ih]
      by_cases hx : 0 ≤ x
      · have : x ≠ y := by omega
        simp [this]
      · simp [hx]
theorem shD_tidy (T : List Int) : ∀ k, Tidy (shD T k)
  | 0 => tidy_empty
  | k + 1 => by
    unfold shD
    split
    · exact shD_tidy T k
    · split
      · exact (shD_tidy T k).put (key_lit _) _
      · exact shD_tidy T k
theorem countP_one {p q : Int → Bool} {x : Int} : ∀ l : List Int, l.Nodup → (∀ y, y ≠ x → q y = p y) → l.countP q ≤ l.countP p + 1
  | [], _, _ => by simp
  | z :: l, hn, hq => by
    rw [List.nodup_cons] at hn
    by_cases hz : z = x
    · subst hz
      have e : l.countP q = l.countP p := List.countP_congr (fun y hy => by rw [hq y (fun e => hn.1 (e ▸ hy))])
      rw [List.countP_cons, List.countP_cons, e]
      split <;> split <;> omega
    · have ih := countP_one l hn.2 hq
      rw [List.countP_cons, List.countP_cons, hq z hz]
      split <;> omega
theorem countP_in {p q : Int → Bool} {x : Int} : ∀ l : List Int, l.Nodup → x ∈ l → p x = false → q x = true → (∀ y, y ≠ x → q y = p y) → l.countP q = l.countP p + 1
  | [], _, h, _, _, _ => by simp at h
  | z :: l, hn, hx, hp, hqx, hq => by
    rw [List.nodup_cons] at hn
    by_cases hz : z = x
    · subst hz
      have e : l.countP q = l.countP p := List.countP_congr (fun y hy => by rw [hq y (fun e => hn.1 (e ▸ hy))])
      rw [List.countP_cons, List.countP_cons, e, hqx, hp]; simp
    · have hx2 : x ∈ l := by
        rcases List.mem_cons.1 hx with h | h
        · exact absurd h.symm hz
        · exact h
      have ih := countP_in l hn.2 hx2 hp hqx hq
      rw [List.countP_cons, List.countP_cons, hq z hz, ih]
      split <;> omega
/-- There are no more shares than there are numbers that may have one. -/
theorem shD_size (T ids : List Int) (hn : ids.Nodup) (hm : ∀ x ∈ T, 0 ≤ x → x ∈ ids) : ∀ k, k ≤ T.length → size (shD T k) = ids.countP (fun x => has (shD T k) (key x))
  | 0, _ => by simp [shD, size, has]
  | k + 1, hk => by
    have ih := shD_size T ids hn hm k (by omega)
    have hg : T[k]? = some T[k] := List.getElem?_eq_getElem (by omega)
    have hmem := hm T[k] (List.getElem_mem _)
    have e : shD T (k + 1) = if 0 ≤ T[k] then (shD T k).put (key T[k]) (num ((T.take k).count T[k] + 1 : Nat)) else shD T k := by
      conv => lhs; unfold shD
      rw [hg]
    generalize T[k] = y at *
    by_cases hy : 0 ≤ y
    · rw [e, if_pos hy, size_put (shD_tidy T k)]
      generalize num ((T.take k).count y + 1 : Nat) = d
      have hs := has_put_same (shD_map T k) (key_lit y) d
      have ho : ∀ x, x ≠ y → has ((shD T k).put (key y) d) (key x) = has (shD T k) (key x) := fun x hx => has_put_other (fun e => hx (key_inj e)) d
      by_cases hh : has (shD T k) (key y) = true
      · rw [if_pos hh, ih]
        refine List.countP_congr (fun x _ => ?_)
        by_cases hx : x = y
        · subst hx; rw [hs, hh]
        · rw [ho x hx]
      · rw [if_neg hh, ih]
        exact (countP_in ids hn (hmem hy) (by simpa using hh) hs ho).symm
    · rw [e, if_neg hy]; exact ih
theorem shD_none (T : List Int) (h : ∀ x ∈ T, x < 0) : ∀ k, shD T k = .map []
  | 0 => rfl
  | k + 1 => by
    unfold shD
    split
    · exact shD_none T h k
    · rename_i x hx
      rw [if_neg (by have := h x (List.mem_of_getElem? hx); omega)]
      exact shD_none T h k

theorem keyedI : Keyed Tryz.prog 3 := int_keyed Tryz.underlying3
theorem zeroIM (w : World) : (zeroValue 3).run Tryz.prog w = .ok (.int .i64 0) w := by kernel_rfl
/-- Block b is the shares of the first k slots. -/
def Shr (w : World) (b : Nat) (T : List Int) (k : Nat) : Prop := w.ownsMap Tryz.prog 3 (plainElem (H := Unit) Tryz.prog 3) b k (shD T k)
theorem Shr.kept {w w' : World} {b : Nat} {T : List Int} {k : Nat} (h : Shr w b T k) (t : Touch w w' (fun _ => False)) : Shr w' b T k := by
  have hb := World.ownsMap.lt h
  unfold Shr at h ⊢
  have e := t.block b hb (fun h => h)
  unfold World.ownsMap at h ⊢
  rw [e]; exact h

/-! ### In how many places two tables part -/
def diffN : List Int → List Int → Nat
  | [], ys => ys.length
  | xs, [] => xs.length
  | x :: xs, y :: ys => (if x = y then 0 else 1) + diffN xs ys
theorem diffN_nil (xs : List Int) : diffN xs [] = xs.length := by cases xs <;> rfl
theorem diffN_comm : ∀ xs ys : List Int, diffN xs ys = diffN ys xs
  | [], ys => by rw [diffN_nil]; rfl
  | x :: xs, [] => rfl
  | x :: xs, y :: ys => by
    unfold diffN; rw [diffN_comm xs ys]
    by_cases h : x = y
    · rw [if_pos h, if_pos h.symm]
    · rw [if_neg h, if_neg (fun e => h e.symm)]
theorem diffN_self : ∀ xs : List Int, diffN xs xs = 0
  | [] => rfl
  | x :: xs => by unfold diffN; rw [diffN_self xs]; simp
theorem diffN_step : ∀ (xs ys : List Int) (k : Nat) (h1 : k < xs.length) (h2 : k < ys.length), diffN (xs.take (k + 1)) (ys.take (k + 1)) = diffN (xs.take k) (ys.take k) + (if xs[k] = ys[k] then 0 else 1)
  | [], _, _, h, _ => by simp at h
  | _ :: _, [], _, _, h => by simp at h
  | x :: xs, y :: ys, 0, _, _ => by simp [diffN]
  | x :: xs, y :: ys, k + 1, h1, h2 => by
    have ih := diffN_step xs ys k (by simpa using h1) (by simpa using h2)
    simp only [List.take_succ_cons, diffN, List.getElem_cons_succ] at ih ⊢
    omega
theorem diffN_end : ∀ (xs ys : List Int), xs.length ≤ ys.length → diffN xs ys = diffN (xs.take xs.length) (ys.take xs.length) + (ys.length - xs.length)
  | [], ys, _ => by simp [diffN]
  | x :: xs, [], h => by simp at h
  | x :: xs, y :: ys, h => by
    have ih := diffN_end xs ys (by simpa using h)
    simp only [List.length_cons, List.take_succ_cons, diffN]
    omega
theorem diffN_le : ∀ (xs ys : List Int), diffN xs ys ≤ max xs.length ys.length
  | [], ys => by simp [diffN]
  | x :: xs, [] => by simp [diffN]
  | x :: xs, y :: ys => by
    have := diffN_le xs ys
    simp only [diffN, List.length_cons]
    split <;> omega

end Go.Proofs.YtdhimlkndpiacaaGreat

end

section
/- The known table: awake answers true. Two rows of numbers are held against one another. -/
set_option linter.unusedVariables false
namespace Go.Proofs.YtdhimlkndpiacaaGreat
open Go.RowKit Go.Maps

def bsA : List BkD := [⟨1, 0, 1⟩, ⟨2, 0, 1⟩]
theorem tabA1 : (tabF bsA 7).count 1 = 4 := by decide +kernel
theorem tabA2 : (tabF bsA 7).count 2 = 3 := by decide +kernel
theorem may251 : mayS 251 = true := by decide +kernel
theorem may9 : mayS 9 = false := by decide +kernel
/-- A table's slots are small numbers. -/
theorem tab_small {bs : List BkD} {n : Nat} (hp : Prm n) : ∀ x ∈ tabF bs n, -1 ≤ x ∧ x ≤ 65535 := by
  intro x hx
  unfold tabF at hx
  split at hx
  · simp at hx; omega
  · rename_i hc
    have hg : gmay bs = true := by
      cases h : gmay bs with
      | true => rfl
      | false => exact absurd (.inr h) hc
    have hR := rows_fine hp hg
    have hI := inv_all hR (by rw [rowsF_length]; omega) n (Nat.le_refl _)
    rcases hI.mem x hx with h | ⟨r, hr, h⟩
    · omega
    · have := hR.each r hr; omega
theorem tab_len {bs : List BkD} {n : Nat} (hp : Prm n) : (tabF bs n).length = n := by
  unfold tabF
  split
  · simp
  · rename_i hc
    have hg : gmay bs = true := by
      cases h : gmay bs with
      | true => rfl
      | false => exact absurd (.inr h) hc
    exact (inv_all (rows_fine hp hg) (by rw [rowsF_length]; omega) n (Nat.le_refl _)).tl
theorem tab_i64 {bs : List BkD} {n : Nat} (hp : Prm n) : ∀ x ∈ tabF bs n, -9223372036854775808 ≤ x ∧ x ≤ 9223372036854775807 := fun x hx => by have := tab_small hp x hx; omega

end Go.Proofs.YtdhimlkndpiacaaGreat

end

section
/- Who is out where nobody is: leaving, says, Without; the backend of a number. -/
set_option linter.unusedVariables false
namespace Go.Proofs.YtdhimlkndpiacaaGreat
open Go.RowKit

end Go.Proofs.YtdhimlkndpiacaaGreat

end

section
/- Records: what the reference's PlainRecord answers. -/
set_option linter.unusedVariables false
set_option linter.unusedSimpArgs false
namespace Go.Proofs.YtdhimlkndpiacaaGreat
open Go.RowKit

set_option maxRecDepth 20000 in
set_option maxHeartbeats 4000000 in
theorem rplain_one (r : RecD) (a : Option Addr) (cap : Nat) (w : World) (hk : r.kind = 1) :
    Calls Tryz.prog 26 #[.agg (rcs r a cap)] w fun e w' => RecIs w w' (plainD r) e := by
  have hp : plainD r = ⟨1, r.t, r.fb, r.fg, r.fs, 0, [], 0, 0, 0⟩ := by unfold plainD; rw [if_pos hk]
  rw [hp]
  clear hp
  obtain ⟨kind, ⟨src, dst, proto, sport, dport⟩, fb, fg, fs, gen, bs, be, un, ct⟩ := r
  simp only at hk
  subst hk
  simp only [rcs, noT]
  go_enter Tryz.func26, Tryz.ntmps26
  go_wp2
  all_goals exact recEnd w _ _ ⟨1, ⟨src, dst, proto, sport, dport⟩, fb, fg, fs, 0, [], 0, 0, 0⟩ rfl rfl rfl rfl

set_option maxRecDepth 20000 in
set_option maxHeartbeats 4000000 in
theorem rplain_two (r : RecD) (a : Option Addr) (cap : Nat) (w : World) (hk : r.kind = 2) :
    Calls Tryz.prog 26 #[.agg (rcs r a cap)] w fun e w' => RecIs w w' (plainD r) e := by
  have hp : plainD r = ⟨2, r.t, 0, 0, 0, 0, [], 0, 0, 0⟩ := by unfold plainD; rw [if_neg (by omega), if_pos hk]
  rw [hp]
  clear hp
  obtain ⟨kind, ⟨src, dst, proto, sport, dport⟩, fb, fg, fs, gen, bs, be, un, ct⟩ := r
  simp only at hk
  subst hk
  simp only [rcs, noT]
  go_enter Tryz.func26, Tryz.ntmps26
  go_wp2
  all_goals exact recEnd w _ _ ⟨2, ⟨src, dst, proto, sport, dport⟩, 0, 0, 0, 0, [], 0, 0, 0⟩ rfl rfl rfl rfl

set_option maxRecDepth 20000 in
set_option maxHeartbeats 4000000 in
theorem rplain_four (r : RecD) (a : Option Addr) (cap : Nat) (w : World) (hk : r.kind = 4) :
    Calls Tryz.prog 26 #[.agg (rcs r a cap)] w fun e w' => RecIs w w' (plainD r) e := by
  have hp : plainD r = ⟨4, noT, 0, 0, 0, 0, [], r.be, r.un, 0⟩ := by unfold plainD; rw [if_neg (by omega), if_neg (by omega), if_neg (by omega), if_pos hk]
  rw [hp]
  clear hp
  obtain ⟨kind, ⟨src, dst, proto, sport, dport⟩, fb, fg, fs, gen, bs, be, un, ct⟩ := r
  simp only at hk
  subst hk
  simp only [rcs, noT]
  go_enter Tryz.func26, Tryz.ntmps26
  go_wp2
  go_region
  all_goals go_wp2
  all_goals exact recEndD w _ _ ⟨4, noT, 0, 0, 0, 0, [], be, un, 0⟩ rfl rfl rfl rfl

set_option maxRecDepth 20000 in
set_option maxHeartbeats 4000000 in
theorem rplain_five (r : RecD) (a : Option Addr) (cap : Nat) (w : World) (hk : r.kind = 5) :
    Calls Tryz.prog 26 #[.agg (rcs r a cap)] w fun e w' => RecIs w w' (plainD r) e := by
  have hp : plainD r = ⟨5, noT, 0, 0, 0, 0, [], r.be, 0, 0⟩ := by unfold plainD; rw [if_neg (by omega), if_neg (by omega), if_neg (by omega), if_neg (by omega), if_pos hk]
  rw [hp]
  clear hp
  obtain ⟨kind, ⟨src, dst, proto, sport, dport⟩, fb, fg, fs, gen, bs, be, un, ct⟩ := r
  simp only at hk
  subst hk
  simp only [rcs, noT]
  go_enter Tryz.func26, Tryz.ntmps26
  go_wp2
  all_goals exact recEnd w _ _ ⟨5, noT, 0, 0, 0, 0, [], be, 0, 0⟩ rfl rfl rfl rfl

set_option maxRecDepth 20000 in
set_option maxHeartbeats 4000000 in
theorem rplain_six (r : RecD) (a : Option Addr) (cap : Nat) (w : World) (hk : r.kind = 6) :
    Calls Tryz.prog 26 #[.agg (rcs r a cap)] w fun e w' => RecIs w w' (plainD r) e := by
  have hp : plainD r = ⟨6, noT, 0, 0, 0, 0, [], 0, 0, r.ct⟩ := by unfold plainD; rw [if_neg (by omega), if_neg (by omega), if_neg (by omega), if_neg (by omega), if_neg (by omega), if_pos hk]
  rw [hp]
  clear hp
  obtain ⟨kind, ⟨src, dst, proto, sport, dport⟩, fb, fg, fs, gen, bs, be, un, ct⟩ := r
  simp only at hk
  subst hk
  simp only [rcs, noT]
  go_enter Tryz.func26, Tryz.ntmps26
  go_wp2
  all_goals exact recEnd w _ _ ⟨6, noT, 0, 0, 0, 0, [], 0, 0, ct⟩ rfl rfl rfl rfl

set_option maxRecDepth 20000 in
set_option maxHeartbeats 4000000 in
theorem rplain_else (r : RecD) (a : Option Addr) (cap : Nat) (w : World) (h1 : r.kind ≠ 1) (h2 : r.kind ≠ 2) (h3 : r.kind ≠ 3) (h4 : r.kind ≠ 4) (h5 : r.kind ≠ 5) (h6 : r.kind ≠ 6) :
    Calls Tryz.prog 26 #[.agg (rcs r a cap)] w fun e w' => RecIs w w' (plainD r) e := by
  have hp : plainD r = ⟨r.kind, noT, 0, 0, 0, 0, [], 0, 0, 0⟩ := by unfold plainD; rw [if_neg h1, if_neg h2, if_neg h3, if_neg h4, if_neg h5, if_neg h6]
  rw [hp]
  clear hp
  obtain ⟨kind, ⟨src, dst, proto, sport, dport⟩, fb, fg, fs, gen, bs, be, un, ct⟩ := r
  simp only at h1 h2 h3 h4 h5 h6
  have b1 : (kind == 1) = false := beq_eq_false_iff_ne.2 h1
  have b2 : (kind == 2) = false := beq_eq_false_iff_ne.2 h2
  have b3 : (kind == 3) = false := beq_eq_false_iff_ne.2 h3
  have b4 : (kind == 4) = false := beq_eq_false_iff_ne.2 h4
  have b5 : (kind == 5) = false := beq_eq_false_iff_ne.2 h5
  have b6 : (kind == 6) = false := beq_eq_false_iff_ne.2 h6
  simp only [rcs, noT]
  go_enter Tryz.func26, Tryz.ntmps26
  go_wp2
  all_goals exact recEnd w _ _ ⟨kind, noT, 0, 0, 0, 0, [], 0, 0, 0⟩ rfl rfl rfl rfl

set_option maxRecDepth 20000 in
set_option maxHeartbeats 4000000 in
theorem rplain_three (r : RecD) (a : Option Addr) (cap : Nat) (w : World) (hk : r.kind = 3) (hr : RowK w a r.bs.length cap r.bs) (hlen : r.bs.length ≤ 100000) :
    Calls Tryz.prog 26 #[.agg (rcs r a cap)] w fun e w' => RecIs w w' (plainD r) e := by
  have hp : plainD r = ⟨3, noT, 0, 0, 0, r.gen, r.bs, 0, 0, 0⟩ := by unfold plainD; rw [if_neg (by omega), if_neg (by omega), if_pos hk]
  rw [hp]
  clear hp
  obtain ⟨kind, ⟨src, dst, proto, sport, dport⟩, fb, fg, fs, gen, bs, be, un, ct⟩ := r
  simp only at hk hr hlen
  subst hk
  simp only [rcs]
  have t3 := still3 w (.cells #[.int .i64 3, .int .u32 src, .int .u32 dst, .int .i64 proto, .int .i64 sport, .int .i64 dport, .int .i64 fb, .int .i64 fg, .int .i64 fs, .int .i64 gen, .slice a bs.length cap, .int .i64 be, .int .i64 un, .int .i64 ct] 41) (.cells #[.int .i64 0, .int .u32 0, .int .u32 0, .int .i64 0, .int .i64 0, .int .i64 0, .int .i64 0, .int .i64 0, .int .i64 0, .int .i64 0, .slice none 0 0, .int .i64 0, .int .i64 0, .int .i64 0] 41) (.cells #[.int .i64 3, .int .u32 0, .int .u32 0, .int .i64 0, .int .i64 0, .int .i64 0, .int .i64 0, .int .i64 0, .int .i64 0, .int .i64 gen, .slice none 0 0, .int .i64 0, .int .i64 0, .int .i64 0] 41)
  have HR := Lib.hid (hr.still t3)
  have HT := Lib.hid t3
  have HB := Lib.hid (t3.under (Nat.le_refl w.heap.size))
  have HB3 := Lib.hid (Below.refl (((w.alloc (.cells #[.int .i64 3, .int .u32 src, .int .u32 dst, .int .i64 proto, .int .i64 sport, .int .i64 dport, .int .i64 fb, .int .i64 fg, .int .i64 fs, .int .i64 gen, .slice a bs.length cap, .int .i64 be, .int .i64 un, .int .i64 ct] 41)).alloc (.cells #[.int .i64 0, .int .u32 0, .int .u32 0, .int .i64 0, .int .i64 0, .int .i64 0, .int .i64 0, .int .i64 0, .int .i64 0, .int .i64 0, .slice none 0 0, .int .i64 0, .int .i64 0, .int .i64 0] 41)).alloc (.cells #[.int .i64 3, .int .u32 0, .int .u32 0, .int .i64 0, .int .i64 0, .int .i64 0, .int .i64 0, .int .i64 0, .int .i64 0, .int .i64 gen, .slice none 0 0, .int .i64 0, .int .i64 0, .int .i64 0] 41)).heap.size (((w.alloc (.cells #[.int .i64 3, .int .u32 src, .int .u32 dst, .int .i64 proto, .int .i64 sport, .int .i64 dport, .int .i64 fb, .int .i64 fg, .int .i64 fs, .int .i64 gen, .slice a bs.length cap, .int .i64 be, .int .i64 un, .int .i64 ct] 41)).alloc (.cells #[.int .i64 0, .int .u32 0, .int .u32 0, .int .i64 0, .int .i64 0, .int .i64 0, .int .i64 0, .int .i64 0, .int .i64 0, .int .i64 0, .slice none 0 0, .int .i64 0, .int .i64 0, .int .i64 0] 41)).alloc (.cells #[.int .i64 3, .int .u32 0, .int .u32 0, .int .i64 0, .int .i64 0, .int .i64 0, .int .i64 0, .int .i64 0, .int .i64 0, .int .i64 gen, .slice none 0 0, .int .i64 0, .int .i64 0, .int .i64 0] 41)))
  have HM : RowKit.Hid ((((w.alloc (.cells #[.int .i64 3, .int .u32 src, .int .u32 dst, .int .i64 proto, .int .i64 sport, .int .i64 dport, .int .i64 fb, .int .i64 fg, .int .i64 fs, .int .i64 gen, .slice a bs.length cap, .int .i64 be, .int .i64 un, .int .i64 ct] 41)).alloc (.cells #[.int .i64 0, .int .u32 0, .int .u32 0, .int .i64 0, .int .i64 0, .int .i64 0, .int .i64 0, .int .i64 0, .int .i64 0, .int .i64 0, .slice none 0 0, .int .i64 0, .int .i64 0, .int .i64 0] 41)).alloc (.cells #[.int .i64 3, .int .u32 0, .int .u32 0, .int .i64 0, .int .i64 0, .int .i64 0, .int .i64 0, .int .i64 0, .int .i64 0, .int .i64 gen, .slice none 0 0, .int .i64 0, .int .i64 0, .int .i64 0] 41)).heap[w.heap.size + 1]? = some (.cells (rcs ⟨0, noT, 0, 0, 0, 0, [], 0, 0, 0⟩ none 0) 41 (0, 0))) := Lib.hid (heap_mid w _ _ _)
  have HP : RowKit.Hid ((((w.alloc (.cells #[.int .i64 3, .int .u32 src, .int .u32 dst, .int .i64 proto, .int .i64 sport, .int .i64 dport, .int .i64 fb, .int .i64 fg, .int .i64 fs, .int .i64 gen, .slice a bs.length cap, .int .i64 be, .int .i64 un, .int .i64 ct] 41)).alloc (.cells #[.int .i64 0, .int .u32 0, .int .u32 0, .int .i64 0, .int .i64 0, .int .i64 0, .int .i64 0, .int .i64 0, .int .i64 0, .int .i64 0, .slice none 0 0, .int .i64 0, .int .i64 0, .int .i64 0] 41)).alloc (.cells #[.int .i64 3, .int .u32 0, .int .u32 0, .int .i64 0, .int .i64 0, .int .i64 0, .int .i64 0, .int .i64 0, .int .i64 0, .int .i64 gen, .slice none 0 0, .int .i64 0, .int .i64 0, .int .i64 0] 41)).heap[w.heap.size + 2]? = some (.cells (rcs ⟨3, noT, 0, 0, 0, gen, [], 0, 0, 0⟩ none 0) 41 (0, 0))) := Lib.hid (heap_top w _ _ _)
  have HSZ : RowKit.Hid ((((w.alloc (.cells #[.int .i64 3, .int .u32 src, .int .u32 dst, .int .i64 proto, .int .i64 sport, .int .i64 dport, .int .i64 fb, .int .i64 fg, .int .i64 fs, .int .i64 gen, .slice a bs.length cap, .int .i64 be, .int .i64 un, .int .i64 ct] 41)).alloc (.cells #[.int .i64 0, .int .u32 0, .int .u32 0, .int .i64 0, .int .i64 0, .int .i64 0, .int .i64 0, .int .i64 0, .int .i64 0, .int .i64 0, .slice none 0 0, .int .i64 0, .int .i64 0, .int .i64 0] 41)).alloc (.cells #[.int .i64 3, .int .u32 0, .int .u32 0, .int .i64 0, .int .i64 0, .int .i64 0, .int .i64 0, .int .i64 0, .int .i64 0, .int .i64 gen, .slice none 0 0, .int .i64 0, .int .i64 0, .int .i64 0] 41)).heap.size = w.heap.size + 3) := Lib.hid (by simp)
  have HIF := Lib.hid infoBk
  have HIR := Lib.hid infoRec
  have HL := Lib.hid hr.len
  clear hr t3
  go_enter Tryz.func26, Tryz.ntmps26
  go_wp2_with (first
    | (at_builtin; (with_reducible refine wp_appS (OwnS.nil _ (((w.alloc (.cells #[.int .i64 3, .int .u32 src, .int .u32 dst, .int .i64 proto, .int .i64 sport, .int .i64 dport, .int .i64 fb, .int .i64 fg, .int .i64 fs, .int .i64 gen, .slice a bs.length cap, .int .i64 be, .int .i64 un, .int .i64 ct] 41)).alloc (.cells #[.int .i64 0, .int .u32 0, .int .u32 0, .int .i64 0, .int .i64 0, .int .i64 0, .int .i64 0, .int .i64 0, .int .i64 0, .int .i64 0, .slice none 0 0, .int .i64 0, .int .i64 0, .int .i64 0] 41)).alloc (.cells #[.int .i64 3, .int .u32 0, .int .u32 0, .int .i64 0, .int .i64 0, .int .i64 0, .int .i64 0, .int .i64 0, .int .i64 0, .int .i64 gen, .slice none 0 0, .int .i64 0, .int .i64 0, .int .i64 0] 41)).heap.size _ _) HR.out.toS (bk_one bs) 31 Tryz.underlying31 _ 24 HIF.out rfl (by decide) (by simp only [maxLen, List.length_nil]; omega) (by simp only [List.length_nil]; omega) HB3.out (Nat.le_refl _) (Nat.le_refl _) rfl _ _ rfl rfl rfl bs.length _ (Nat.zero_add _) (List.nil_append _) ?_); intro a4 c4 w4 ho4 hg4 hb4 hp4
       have t4 := Touch.ofBelow (S := fun _ => False) hb4 (fun k h1 h2 => (by omega))
       have hp0 := t4.keeps HP.out (fun h => h)
       have hm0 := t4.keeps HM.out (fun h => h)
       have p10 := cell_of_cells hp0 10
       have pf := free_of_cells hp0
       have hset := heap_setCell_same w4 (w.heap.size + 1 + 1) 10 _ _ (.slice a4 bs.length c4) hp0
       have tp : Touch w4 (w4.setCell ⟨w.heap.size + 1 + 1, 10, none⟩ (.slice a4 bs.length c4)) (fun k => k = w.heap.size + 1 + 1) := (Touch.refl w4 (fun k => k = w.heap.size + 1 + 1)).into 10 _
       have HPX : RowKit.Hid ((w4.setCell ⟨w.heap.size + 1 + 1, 10, none⟩ (.slice a4 bs.length c4)).heap[w.heap.size + 1 + 1]? = some (.cells (rcs ⟨3, noT, 0, 0, 0, gen, bs, 0, 0, 0⟩ a4 c4) 41 (0, 0))) := Lib.hid hset
       have HMX := Lib.hid (tp.keeps hm0 (fun h => (by omega)))
       have HTX := Lib.hid ((HT.out.trans t4 (fun _ _ h => h)).trans tp (fun k h1 h2 => (by omega)))
       have HO4 := Lib.hid ho4
       have TP := Lib.hid tp
       simp [rcs] at p10
       clear ho4 hg4 hb4 hp4 t4 hp0 hm0 hset tp)
    | (refine wpList_load_row rfl 41 (.tmp 3) rfl (w.heap.size + 1 + 1) rfl _ _ _ _ HPX.out Tryz.underlying41 rfl HIR.out ?_)
    | (refine store_row rfl 41 (.tmp 2) (.tmp 48) rfl (w.heap.size + 1) _ rfl rfl _ _ HMX.out HIR.out rfl rfl ?_))
  refine recRet ⟨3, noT, 0, 0, 0, gen, bs, 0, 0, 0⟩ (w.heap.size + 1) a4 c4 rfl rfl rfl (setRow_heap _ _ _ _ _ _ HMX.out) ?_ (HTX.out.setRow _ _ (fun h => absurd h (by omega)))
  have hlow : ∀ x, (Value.slice a4 bs.length c4).ownBlock = some x → w.heap.size + 3 ≤ x := fun x hx => by
    have h1 := (HO4.out.own.lt x hx).1
    have h2 := HSZ.out
    omega
  have ho5 : OwnK w4 _ (.slice a4 bs.length c4) bs := HO4.out
  exact ((ho5.touch TP.out (fun x hx h => by have := hlow x hx; omega)).rebase (base' := w.heap.size) (fun x hx => by have := hlow x hx; omega)).touch ((Touch.refl _ (fun k => k = w.heap.size + 1)).setRow _ _ (fun _ => rfl)) (fun x hx h => by have := hlow x hx; omega)
theorem rplain_any (r : RecD) (a : Option Addr) (cap : Nat) (w : World) (hr : RowK w a r.bs.length cap r.bs) (hlen : r.bs.length ≤ 100000) :
    Calls Tryz.prog 26 #[.agg (rcs r a cap)] w fun e w' => RecIs w w' (plainD r) e := by
  by_cases h1 : r.kind = 1
  · exact rplain_one r a cap w h1
  by_cases h2 : r.kind = 2
  · exact rplain_two r a cap w h2
  by_cases h3 : r.kind = 3
  · exact rplain_three r a cap w h3 hr hlen
  by_cases h4 : r.kind = 4
  · exact rplain_four r a cap w h4
  by_cases h5 : r.kind = 5
  · exact rplain_five r a cap w h5
  by_cases h6 : r.kind = 6
  · exact rplain_six r a cap w h6
  exact rplain_else r a cap w h1 h2 h3 h4 h5 h6
end Go.Proofs.YtdhimlkndpiacaaGreat

end

section
/- Records: may one be? What May of package record answers. -/
set_option linter.unusedVariables false
set_option linter.unusedSimpArgs false
namespace Go.Proofs.YtdhimlkndpiacaaGreat
open Go.RowKit

/-- May it be a record? -/
def mayRB (r : RecD) : Bool :=
  if r.kind = 1 then mayTB r.t && idB r.fb && cntB r.fg && timB r.fs
  else if r.kind = 2 then mayTB r.t
  else if r.kind = 3 then cntB r.gen && decide (r.bs.length ≤ 16) && r.bs.all mayKB
  else if r.kind = 4 then idB r.be && timB r.un
  else if r.kind = 5 then idB r.be
  else if r.kind = 6 then cntB r.ct
  else false
theorem heap_two (w : World) (A B : Obj) : ((w.alloc A).alloc B).heap[w.heap.size + 1]? = some B := by
  show ((w.heap.push A).push B)[w.heap.size + 1]? = some B
  rw [Array.getElem?_push, if_pos (by simp)]
theorem still2 (w : World) (A B : Obj) : Touch w ((w.alloc A).alloc B) (fun _ => False) := ((Touch.refl w (fun _ => False)).alloc A).alloc B

set_option maxRecDepth 20000 in
set_option maxHeartbeats 4000000 in
theorem may_k1 (r : RecD) (a : Option Addr) (cap : Nat) (w : World) (hk : r.kind = 1) :
    Calls Tryz.prog 21 #[.agg (rcs r a cap)] w fun e w' => e = .returned (.bool (mayRB r)) ∧ Touch w w' (fun _ => False) := by
  have hp : mayRB r = (mayTB r.t && idB r.fb && cntB r.fg && timB r.fs) := by unfold mayRB; rw [if_pos hk]
  obtain ⟨kind, ⟨src, dst, proto, sport, dport⟩, fb, fg, fs, gen, bs, be, un, ct⟩ := r
  simp only at hk
  subst hk
  simp only at hp
  have HP := Lib.hid hp
  clear hp
  generalize mayRB _ = m at *
  have HC : RowKit.Hid (∀ w, Calls Tryz.prog 51 #[.agg #[.int .u32 src, .int .u32 dst, .int .i64 proto, .int .i64 sport, .int .i64 dport]] w fun e w' => e = .returned (.bool (mayTB ⟨src, dst, proto, sport, dport⟩)) ∧ Touch w w' (fun _ => False)) := Lib.hid (fun w => mayT_any ⟨src, dst, proto, sport, dport⟩ w)
  generalize mayTB _ = T at *
  have HH : RowKit.Hid (∀ A, ((w.alloc A).alloc (.cells #[.int .u32 src, .int .u32 dst, .int .i64 proto, .int .i64 sport, .int .i64 dport, .int .i64 fb, .int .i64 fg, .int .i64 fs] 39)).heap[w.heap.size + 1]? = some (.cells #[.int .u32 src, .int .u32 dst, .int .i64 proto, .int .i64 sport, .int .i64 dport, .int .i64 fb, .int .i64 fg, .int .i64 fs] 39 (0, 0))) := Lib.hid (fun A => heap_two w A _)
  simp only [rcs]
  go_enter Tryz.func21, Tryz.ntmps21
  go_wp2_with (first
    | (go_at_call 51; (with_reducible refine (HC.out _).mono ?_); rintro e w9 ⟨rfl, t9⟩; have hb := t9.keeps (HH.out _) (fun h => h); have c5 := cell_of_cells hb 5; have c6 := cell_of_cells hb 6; have c7 := cell_of_cells hb 7; simp at c5 c6 c7; have HT := Lib.hid ((still2 w _ _).trans t9 (fun _ _ h => h)); clear t9 hb)
    | (go_at_call 52; (with_reducible refine (isId_any _ _).mono ?_); rintro e w' ⟨rfl, rfl⟩)
    | (go_at_call 53; (with_reducible refine (isCount_any _ _).mono ?_); rintro e w' ⟨rfl, rfl⟩)
    | (go_at_call 54; (with_reducible refine (isTime_any _ _).mono ?_); rintro e w' ⟨rfl, rfl⟩))
  all_goals (go_ret; refine ⟨ret_bool ?_, HT.out⟩; rw [HP.out]; clear HP HT HH HC; simp_all)

set_option maxRecDepth 20000 in
set_option maxHeartbeats 4000000 in
theorem may_k2 (r : RecD) (a : Option Addr) (cap : Nat) (w : World) (hk : r.kind = 2) :
    Calls Tryz.prog 21 #[.agg (rcs r a cap)] w fun e w' => e = .returned (.bool (mayRB r)) ∧ Touch w w' (fun _ => False) := by
  have hp : mayRB r = (mayTB r.t) := by unfold mayRB; rw [if_neg (by omega), if_pos hk]
  obtain ⟨kind, ⟨src, dst, proto, sport, dport⟩, fb, fg, fs, gen, bs, be, un, ct⟩ := r
  simp only at hk
  subst hk
  simp only at hp
  have HP := Lib.hid hp
  clear hp
  generalize mayRB _ = m at *
  have HC : RowKit.Hid (∀ w, Calls Tryz.prog 51 #[.agg #[.int .u32 src, .int .u32 dst, .int .i64 proto, .int .i64 sport, .int .i64 dport]] w fun e w' => e = .returned (.bool (mayTB ⟨src, dst, proto, sport, dport⟩)) ∧ Touch w w' (fun _ => False)) := Lib.hid (fun w => mayT_any ⟨src, dst, proto, sport, dport⟩ w)
  generalize mayTB _ = T at *
  simp only [rcs]
  go_enter Tryz.func21, Tryz.ntmps21
  go_wp2_with (go_at_call 51; (with_reducible refine (HC.out _).mono ?_); rintro e w9 ⟨rfl, t9⟩; have HT := Lib.hid (((Touch.refl w (fun _ => False)).alloc _).trans t9 (fun _ _ h => h)); clear t9)
  all_goals (go_ret; exact ⟨ret_bool (by rw [HP.out]), HT.out⟩)

set_option maxRecDepth 20000 in
set_option maxHeartbeats 4000000 in
theorem may_k3 (r : RecD) (a : Option Addr) (cap : Nat) (w : World) (hk : r.kind = 3) (hr : RowK w a r.bs.length cap r.bs) :
    Calls Tryz.prog 21 #[.agg (rcs r a cap)] w fun e w' => e = .returned (.bool (mayRB r)) ∧ Touch w w' (fun _ => False) := by
  have hp : mayRB r = (cntB r.gen && decide (r.bs.length ≤ 16) && r.bs.all mayKB) := by unfold mayRB; rw [if_neg (by omega), if_neg (by omega), if_pos hk]
  obtain ⟨kind, ⟨src, dst, proto, sport, dport⟩, fb, fg, fs, gen, bs, be, un, ct⟩ := r
  simp only at hk
  subst hk
  simp only at hp
  have HP := Lib.hid hp
  clear hp
  generalize mayRB _ = m at *
  have HR := Lib.hid hr
  clear hr
  simp only at HR
  have HC : RowKit.Hid (∀ (B : World), RowK B a bs.length cap bs → Calls Tryz.prog 55 #[.slice a bs.length cap, .func (.func 56) #[] #[]] B fun e w' => e = .returned (.bool (!(bs.all mayKB))) ∧ Touch B w' (fun _ => False)) := Lib.hid (fun B h => contains_any _ _ _ _ B h)
  generalize bs.all mayKB = K at *
  have HT := Lib.hid (Touch.refl w (fun _ => False))
  simp only [rcs]
  go_enter Tryz.func21, Tryz.ntmps21
  go_wp2_with (first
    | (go_at_call 53; (with_reducible refine (isCount_any _ _).mono ?_); rintro e w' ⟨rfl, rfl⟩)
    | (go_at_call 55; (with_reducible refine (HC.out _ (HR.out.still ((Touch.refl w (fun _ => False)).alloc _))).mono ?_); rintro e w9 ⟨rfl, t9⟩; have HT := Lib.hid (((Touch.refl w (fun _ => False)).alloc _).trans t9 (fun _ _ h => h)); clear t9))
  all_goals (go_ret; refine ⟨ret_bool ?_, (by first | exact HT.out | exact (Touch.refl w (fun _ => False)).alloc _)⟩; rw [HP.out]; clear HP HT HR HC; first | (simp_all; done) | (simp_all; omega))

set_option maxRecDepth 20000 in
set_option maxHeartbeats 4000000 in
theorem may_k4 (r : RecD) (a : Option Addr) (cap : Nat) (w : World) (hk : r.kind = 4) :
    Calls Tryz.prog 21 #[.agg (rcs r a cap)] w fun e w' => e = .returned (.bool (mayRB r)) ∧ Touch w w' (fun _ => False) := by
  have hp : mayRB r = (idB r.be && timB r.un) := by unfold mayRB; rw [if_neg (by omega), if_neg (by omega), if_neg (by omega), if_pos hk]
  obtain ⟨kind, ⟨src, dst, proto, sport, dport⟩, fb, fg, fs, gen, bs, be, un, ct⟩ := r
  simp only at hk
  subst hk
  simp only at hp
  have HP := Lib.hid hp
  clear hp
  generalize mayRB _ = m at *
  simp only [rcs]
  go_enter Tryz.func21, Tryz.ntmps21
  go_wp2_with (first
    | (go_at_call 52; (with_reducible refine (isId_any _ _).mono ?_); rintro e w' ⟨rfl, rfl⟩)
    | (go_at_call 54; (with_reducible refine (isTime_any _ _).mono ?_); rintro e w' ⟨rfl, rfl⟩))
  all_goals (go_ret; refine ⟨ret_bool ?_, (Touch.refl w (fun _ => False)).alloc _⟩; rw [HP.out]; clear HP; simp_all)

set_option maxRecDepth 20000 in
set_option maxHeartbeats 4000000 in
theorem may_k5 (r : RecD) (a : Option Addr) (cap : Nat) (w : World) (hk : r.kind = 5) :
    Calls Tryz.prog 21 #[.agg (rcs r a cap)] w fun e w' => e = .returned (.bool (mayRB r)) ∧ Touch w w' (fun _ => False) := by
  have hp : mayRB r = (idB r.be) := by unfold mayRB; rw [if_neg (by omega), if_neg (by omega), if_neg (by omega), if_neg (by omega), if_pos hk]
  obtain ⟨kind, ⟨src, dst, proto, sport, dport⟩, fb, fg, fs, gen, bs, be, un, ct⟩ := r
  simp only at hk
  subst hk
  simp only at hp
  have HP := Lib.hid hp
  clear hp
  generalize mayRB _ = m at *
  simp only [rcs]
  go_enter Tryz.func21, Tryz.ntmps21
  go_wp2_with (go_at_call 52; (with_reducible refine (isId_any _ _).mono ?_); rintro e w' ⟨rfl, rfl⟩)
  all_goals (go_ret; refine ⟨ret_bool ?_, (Touch.refl w (fun _ => False)).alloc _⟩; rw [HP.out])

set_option maxRecDepth 20000 in
set_option maxHeartbeats 4000000 in
theorem may_k6 (r : RecD) (a : Option Addr) (cap : Nat) (w : World) (hk : r.kind = 6) :
    Calls Tryz.prog 21 #[.agg (rcs r a cap)] w fun e w' => e = .returned (.bool (mayRB r)) ∧ Touch w w' (fun _ => False) := by
  have hp : mayRB r = (cntB r.ct) := by unfold mayRB; rw [if_neg (by omega), if_neg (by omega), if_neg (by omega), if_neg (by omega), if_neg (by omega), if_pos hk]
  obtain ⟨kind, ⟨src, dst, proto, sport, dport⟩, fb, fg, fs, gen, bs, be, un, ct⟩ := r
  simp only at hk
  subst hk
  simp only at hp
  have HP := Lib.hid hp
  clear hp
  generalize mayRB _ = m at *
  simp only [rcs]
  go_enter Tryz.func21, Tryz.ntmps21
  go_wp2_with (go_at_call 53; (with_reducible refine (isCount_any _ _).mono ?_); rintro e w' ⟨rfl, rfl⟩)
  all_goals (go_ret; refine ⟨ret_bool ?_, (Touch.refl w (fun _ => False)).alloc _⟩; rw [HP.out])

set_option maxRecDepth 20000 in
set_option maxHeartbeats 4000000 in
theorem may_else (r : RecD) (a : Option Addr) (cap : Nat) (w : World) (h1 : r.kind ≠ 1) (h2 : r.kind ≠ 2) (h3 : r.kind ≠ 3) (h4 : r.kind ≠ 4) (h5 : r.kind ≠ 5) (h6 : r.kind ≠ 6) :
    Calls Tryz.prog 21 #[.agg (rcs r a cap)] w fun e w' => e = .returned (.bool (mayRB r)) ∧ Touch w w' (fun _ => False) := by
  have hp : mayRB r = false := by unfold mayRB; rw [if_neg h1, if_neg h2, if_neg h3, if_neg h4, if_neg h5, if_neg h6]
  rw [hp]
  clear hp
  obtain ⟨kind, ⟨src, dst, proto, sport, dport⟩, fb, fg, fs, gen, bs, be, un, ct⟩ := r
  simp only at h1 h2 h3 h4 h5 h6
  have b1 : (kind == 1) = false := beq_eq_false_iff_ne.2 h1
  have b2 : (kind == 2) = false := beq_eq_false_iff_ne.2 h2
  have b3 : (kind == 3) = false := beq_eq_false_iff_ne.2 h3
  have b4 : (kind == 4) = false := beq_eq_false_iff_ne.2 h4
  have b5 : (kind == 5) = false := beq_eq_false_iff_ne.2 h5
  have b6 : (kind == 6) = false := beq_eq_false_iff_ne.2 h6
  simp only [rcs]
  go_enter Tryz.func21, Tryz.ntmps21
  go_wp2
  all_goals (go_ret; exact ⟨rfl, (Touch.refl w (fun _ => False)).alloc _⟩)
theorem mayR_any (r : RecD) (a : Option Addr) (cap : Nat) (w : World) (hr : RowK w a r.bs.length cap r.bs) :
    Calls Tryz.prog 21 #[.agg (rcs r a cap)] w fun e w' => e = .returned (.bool (mayRB r)) ∧ Touch w w' (fun _ => False) := by
  by_cases h1 : r.kind = 1
  · exact may_k1 r a cap w h1
  by_cases h2 : r.kind = 2
  · exact may_k2 r a cap w h2
  by_cases h3 : r.kind = 3
  · exact may_k3 r a cap w h3 hr
  by_cases h4 : r.kind = 4
  · exact may_k4 r a cap w h4
  by_cases h5 : r.kind = 5
  · exact may_k5 r a cap w h5
  by_cases h6 : r.kind = 6
  · exact may_k6 r a cap w h6
  exact may_else r a cap w h1 h2 h3 h4 h5 h6
end Go.Proofs.YtdhimlkndpiacaaGreat

end

section
/- Records: a writer beside blocks that are not its own; what the writer's calls put. -/
set_option linter.unusedVariables false
set_option linter.unusedSimpArgs false
namespace Go.Proofs.YtdhimlkndpiacaaGreat
open Go.RowKit

/-- The writer in block G has put xs; none of its blocks is one of D, all lie from base on. -/
structure WrD (w : World) (base G : Nat) (D : Nat → Prop) (xs : List Nat) : Prop where
  hb : base ≤ w.heap.size
  dl : ∀ k, D k → k < w.heap.size
  dg : ¬ D G
  ex : ∃ v, WrB w base G v xs ∧ ∀ k, v.ownBlock = some k → ¬ D k
section
variable {w w' : World} {base G : Nat} {D : Nat → Prop} {xs zs : List Nat}
theorem WrD.put (h : WrD w base G D xs) : ∃ v, WrB w base G v xs ∧ ∀ w' zs, PutB base G v w zs w' → WrD w' base G D zs ∧ Touch w w' (fun k => base ≤ k ∧ ¬ D k) := by
  obtain ⟨hb, dl, dg, v, hw, hv⟩ := h
  refine ⟨v, hw, fun w' zs p => ?_⟩
  obtain ⟨v', h', ht, hn⟩ := p
  refine ⟨⟨Nat.le_trans hb ht.size, fun k hk => Nat.lt_of_lt_of_le (dl k hk) ht.size, dg, v', h', fun k hk hd => ?_⟩, ht.mono (fun k hk hs => ?_)⟩
  · rcases hn k hk with h1 | h1
    · exact hv k h1 hd
    · have := dl k hd; omega
  · rcases hs with rfl | hs
    · exact ⟨hw.low, dg⟩
    · exact ⟨(hw.foot.2 k hs).1, hv k hs⟩
theorem WrD.still (h : WrD w base G D xs) (t : Touch w w' (fun _ => False)) : WrD w' base G D xs := by
  obtain ⟨hb, dl, dg, v, hw, hv⟩ := h
  exact ⟨Nat.le_trans hb t.size, fun k hk => Nat.lt_of_lt_of_le (dl k hk) t.size, dg, v, hw.touch t (fun h => h) (fun _ _ h => h), hv⟩
theorem WrD.mono {D' : Nat → Prop} (h : WrD w base G D xs) (hd : ∀ k, D' k → D k) : WrD w base G D' xs :=
  ⟨h.hb, fun k hk => h.dl k (hd k hk), fun hk => h.dg (hd _ hk), h.ex.imp fun v hv => ⟨hv.1, fun k hk hk2 => hv.2 k hk (hd k hk2)⟩⟩
/-- A block that was just laid is not the writer's. -/
theorem WrD.more (h : WrD w base G D xs) (o : Obj) : WrD (w.alloc o) base G (fun k => D k ∨ k = w.heap.size) xs := by
  have t := (Touch.refl w (fun _ => False)).alloc o
  obtain ⟨v, hw, hv⟩ := h.ex
  have hG := hw.foot.1
  refine ⟨Nat.le_trans h.hb t.size, fun k hk => ?_, fun hk => ?_, v, hw.touch t (fun h => h) (fun _ _ h => h), fun k hk hk2 => ?_⟩
  · rcases hk with hk | rfl
    · exact Nat.lt_of_lt_of_le (h.dl k hk) t.size
    · simp
  · rcases hk with hk | hk
    · exact h.dg hk
    · omega
  · rcases hk2 with hk2 | hk2
    · exact hv k hk hk2
    · have := (hw.foot.2 k hk).2; omega
theorem WrE.toD (h : WrE w base G xs) : WrD w base G (fun _ => False) xs := by
  obtain ⟨hb, v, hw⟩ := h
  exact ⟨hb, fun _ h => h.elim, fun h => h, v, hw, fun _ _ h => h⟩
theorem WrD.toE (h : WrD w base G D xs) : WrE w base G xs := by
  obtain ⟨hb, _, _, v, hw, _⟩ := h
  exact ⟨hb, v, hw⟩
theorem WrD.drew (h : WrD w base G D xs) : WrD w.drew base G D xs := h.still ((Touch.refl w (fun _ => False)).drew)
end
def isI (n : Int) : Prop := -9223372036854775808 ≤ n ∧ n ≤ 9223372036854775807
/-- What a call leaves that puts ys behind xs. -/
def PutD (w : World) (base G : Nat) (D : Nat → Prop) (xs ys : List Nat) (e : Ending) (w' : World) : Prop :=
  e = .returned (.tuple #[]) ∧ WrD w' base G D (xs ++ ys) ∧ Touch w w' (fun k => base ≤ k ∧ ¬ D k)

/-- A tuple's bytes. -/
def tbF (t : TupD) : List Nat := beB 4 (u64N t.src) ++ beB 4 (u64N t.dst) ++ beB 1 (u64N t.proto) ++ beB 2 (u64N t.sport) ++ beB 2 (u64N t.dport)
theorem tbF_length (t : TupD) : (tbF t).length = 13 := by simp [tbF, beB_length]
theorem tcells_of {w : World} {B : Nat} {t : TupD} {T : TypeId} (hb : w.heap[B]? = some (.cells (tcs t) T (0, 0))) :
    w.cell? ⟨B, 0, none⟩ = some (.int .u32 t.src) ∧ w.cell? ⟨B, 1, none⟩ = some (.int .u32 t.dst) ∧ w.cell? ⟨B, 2, none⟩ = some (.int .i64 t.proto) ∧ w.cell? ⟨B, 3, none⟩ = some (.int .i64 t.sport) ∧ w.cell? ⟨B, 4, none⟩ = some (.int .i64 t.dport) :=
  ⟨cell_of_cells hb 0, cell_of_cells hb 1, cell_of_cells hb 2, cell_of_cells hb 3, cell_of_cells hb 4⟩
end Go.Proofs.YtdhimlkndpiacaaGreat

end

section
/- A tuple's hash; a backend by its number; a chooser that there isn't. -/
set_option linter.unusedVariables false
namespace Go.Proofs.YtdhimlkndpiacaaGreat
open Go.RowKit

theorem infoBk3 : (Tryz.prog.info? 86).map (·.size) = some 3 := by kernel_rfl
def bkZ : BkD := ⟨0, 0, 0⟩
/-- A backend as a value. -/
def bkV' (b : BkD) : Value := .agg #[.int .i64 b.id, .int .u32 b.addr, .int .i64 b.weight]

def hashF (t : TupD) : Nat := mixF 0 (tbF t)
theorem hashF_lt (t : TupD) : hashF t < 4294967296 := mixF_lt _ _
def findF (bs : List BkD) (id : Int) : Option BkD := bs.find? (fun b => b.id == id)
def findV (bs : List BkD) (id : Int) : Value := match findF bs id with
  | some b => .tuple #[bkV' b, .bool true]
  | none => .tuple #[bkV' bkZ, .bool false]

end Go.Proofs.YtdhimlkndpiacaaGreat

end
