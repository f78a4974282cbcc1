/- How many slots each has; in how many places two tables part; are they the same. -/
import Derived.Test.YtgmimdnebgncoaaMagTZ
import Derived.Test.YtgmimdnebgncoaaGAZ
import Derived.Maps.OwnOps
import Derived.Maps.OwnSet
import Derived.Maps.Views
set_option linter.unusedVariables false
namespace Go.Proofs.Ytgmimdnebgncoaa
open Go.RowKit Go.Maps

/-! ### Rows of numbers -/
theorem RowI.still {w w' : World} {a : Option Addr} {len cap : Nat} {zs : List Int} (h : RowI w a len cap zs) (t : Touch w w' (fun _ => False)) : RowI w' a len cap zs := by
  obtain ⟨h1, h2, h3, h4, h5⟩ := h
  refine ⟨h1, h2, h3, h4, ?_⟩
  rcases h5 with h5 | ⟨b, off, ha, hlt, hc⟩
  · exact .inl h5
  · exact .inr ⟨b, off, ha, Nat.lt_of_lt_of_le hlt t.size, fun i hi => (t.cell (p := ⟨b, off + i, none⟩) hlt (fun h => h)).trans (hc i hi)⟩
theorem OwnT.rowI {w : World} {B G n c : Nat} {T : List Int} (h : OwnT w B (.slice (some ⟨G, 0, none⟩) n c) T) (hT : ∀ z ∈ T, -9223372036854775808 ≤ z ∧ z ≤ 9223372036854775807) : RowI w (some ⟨G, 0, none⟩) n c T :=
  ⟨h.len, (OwnS.row' h).2.1.hcap, (OwnS.row' h).2.1.hmax, hT, .inr ⟨G, 0, rfl, h.lt.2, fun i hi => by rw [Nat.zero_add]; exact h.at_ i hi⟩⟩
theorem RowI.some {w : World} {a : Option Addr} {len cap : Nat} {zs : List Int} (h : RowI w a len cap zs) (h0 : 0 < len) : ∃ b off, a = .some ⟨b, off, none⟩ ∧ ∀ i, (h : i < zs.length) → w.cell? ⟨b, off + i, none⟩ = Option.some (.int .i64 zs[i]) := by
  rcases h.2.2.2.2 with h5 | ⟨b, off, ha, _, hc⟩
  · omega
  · exact ⟨b, off, ha, hc⟩

/-! ### Shares -/
def key (x : Int) : Lit := .int .i64 x
def num (x : Int) : DataW Unit := .lit (.int .i64 x)
theorem num_inj {x y : Int} (h : num x = num y) : x = y := by unfold num at h; simpa using h
/-- The shares behind the first k slots. -/
def shD (T : List Int) : Nat → DataW Unit
  | 0 => .map []
  | k + 1 => match T[k]? with
    | none => shD T k
    | some x => if 0 ≤ x then (shD T k).put (key x) (num ((T.take k).count x + 1 : Nat)) else shD T k
theorem shD_map (T : List Int) : ∀ k, IsMap (shD T k)
  | 0 => isMap_empty
  | k + 1 => by
    unfold shD
    split
    · exact shD_map T k
    · split
      · exact (shD_map T k).put _ _
      · exact shD_map T k
theorem key_lit (x : Int) : WideAt.IsKeyLit (key x) := trivial
theorem key_inj {x y : Int} (h : key x = key y) : x = y := by unfold key at h; simpa using h
theorem shD_at (T : List Int) (x : Int) (hx : 0 ≤ x) : ∀ k, k ≤ T.length → (shD T k).atKey (key x) (num 0) = num ((T.take k).count x : Nat)
  | 0, _ => by simp [shD, DataW.atKey, num]
  | k + 1, hk => by
    have ih := shD_at T x hx k (by omega)
    have hg : T[k]? = some T[k] := List.getElem?_eq_getElem (by omega)
    rw [List.take_succ_eq_append_getElem (by omega), List.count_append]
    unfold shD
    rw [hg]
    generalize T[k] = y
    simp only
    by_cases hy : 0 ≤ y
    · rw [if_pos hy]
      by_cases hxy : y = x
      · subst hxy
        rw [atKey_put_same (shD_map T k) (key_lit _)]
        simp
      · rw [atKey_put_other (fun e => hxy (key_inj e).symm), ih]
        simp [hxy]
    · rw [if_neg hy, ih]
      have : y ≠ x := by omega
      simp [this]
theorem shD_has (T : List Int) (x : Int) : ∀ k, k ≤ T.length → has (shD T k) (key x) = decide (0 ≤ x ∧ x ∈ T.take k)
  | 0, _ => by simp [shD, has]
  | k + 1, hk => by
    have ih := shD_has T x k (by omega)
    have hg : T[k]? = some T[k] := List.getElem?_eq_getElem (by omega)
    rw [List.take_succ_eq_append_getElem (by omega)]
    unfold shD
    rw [hg]
    generalize T[k] = y
    simp only
    by_cases hy : 0 ≤ y
    · rw [if_pos hy]
      by_cases hxy : y = x
      · subst hxy
        rw [has_put_same (shD_map T k) (key_lit _)]
        simp [hy]
      · rw [has_put_other (fun e => hxy (key_inj e).symm), ih]
        have : ¬ x = y := fun h => hxy h.symm
        simp [this]
    · rw [if_neg hy, ih]
      by_cases hx : 0 ≤ x
      · have : x ≠ y := by omega
        simp [this]
      · simp [hx]
theorem shD_tidy (T : List Int) : ∀ k, Tidy (shD T k)
  | 0 => tidy_empty
  | k + 1 => by
    unfold shD
    split
    · exact shD_tidy T k
    · split
      · exact (shD_tidy T k).put (key_lit _) _
      · exact shD_tidy T k
theorem countP_one {p q : Int → Bool} {x : Int} : ∀ l : List Int, l.Nodup → (∀ y, y ≠ x → q y = p y) → l.countP q ≤ l.countP p + 1
  | [], _, _ => by simp
  | z :: l, hn, hq => by
    rw [List.nodup_cons] at hn
    by_cases hz : z = x
    · subst hz
      have e : l.countP q = l.countP p := List.countP_congr (fun y hy => by rw [hq y (fun e => hn.1 (e ▸ hy))])
      rw [List.countP_cons, List.countP_cons, e]
      split <;> split <;> omega
    · have ih := countP_one l hn.2 hq
      rw [List.countP_cons, List.countP_cons, hq z hz]
      split <;> omega
theorem countP_in {p q : Int → Bool} {x : Int} : ∀ l : List Int, l.Nodup → x ∈ l → p x = false → q x = true → (∀ y, y ≠ x → q y = p y) → l.countP q = l.countP p + 1
  | [], _, h, _, _, _ => by simp at h
  | z :: l, hn, hx, hp, hqx, hq => by
    rw [List.nodup_cons] at hn
    by_cases hz : z = x
    · subst hz
      have e : l.countP q = l.countP p := List.countP_congr (fun y hy => by rw [hq y (fun e => hn.1 (e ▸ hy))])
      rw [List.countP_cons, List.countP_cons, e, hqx, hp]; simp
    · have hx2 : x ∈ l := by
        rcases List.mem_cons.1 hx with h | h
        · exact absurd h.symm hz
        · exact h
      have ih := countP_in l hn.2 hx2 hp hqx hq
      rw [List.countP_cons, List.countP_cons, hq z hz, ih]
      split <;> omega
/-- There are no more shares than there are numbers that may have one. -/
theorem shD_size (T ids : List Int) (hn : ids.Nodup) (hm : ∀ x ∈ T, 0 ≤ x → x ∈ ids) : ∀ k, k ≤ T.length → size (shD T k) = ids.countP (fun x => has (shD T k) (key x))
  | 0, _ => by simp [shD, size, has]
  | k + 1, hk => by
    have ih := shD_size T ids hn hm k (by omega)
    have hg : T[k]? = some T[k] := List.getElem?_eq_getElem (by omega)
    have hmem := hm T[k] (List.getElem_mem _)
    have e : shD T (k + 1) = if 0 ≤ T[k] then (shD T k).put (key T[k]) (num ((T.take k).count T[k] + 1 : Nat)) else shD T k := by
      conv => lhs; unfold shD
      rw [hg]
    generalize T[k] = y at *
    by_cases hy : 0 ≤ y
    · rw [e, if_pos hy, size_put (shD_tidy T k)]
      generalize num ((T.take k).count y + 1 : Nat) = d
      have hs := has_put_same (shD_map T k) (key_lit y) d
      have ho : ∀ x, x ≠ y → has ((shD T k).put (key y) d) (key x) = has (shD T k) (key x) := fun x hx => has_put_other (fun e => hx (key_inj e)) d
      by_cases hh : has (shD T k) (key y) = true
      · rw [if_pos hh, ih]
        refine List.countP_congr (fun x _ => ?_)
        by_cases hx : x = y
        · subst hx; rw [hs, hh]
        · rw [ho x hx]
      · rw [if_neg hh, ih]
        exact (countP_in ids hn (hmem hy) (by simpa using hh) hs ho).symm
    · rw [e, if_neg hy]; exact ih
theorem shD_none (T : List Int) (h : ∀ x ∈ T, x < 0) : ∀ k, shD T k = .map []
  | 0 => rfl
  | k + 1 => by
    unfold shD
    split
    · exact shD_none T h k
    · rename_i x hx
      rw [if_neg (by have := h x (List.mem_of_getElem? hx); omega)]
      exact shD_none T h k

theorem keyedI : Keyed Try.prog 3 := int_keyed Try.underlying3
theorem zeroI (w : World) : (zeroValue 3).run Try.prog w = .ok (.int .i64 0) w := by kernel_rfl
/-- Block b is the shares of the first k slots. -/
def Shr (w : World) (b : Nat) (T : List Int) (k : Nat) : Prop := w.ownsMap Try.prog 3 (plainElem (H := Unit) Try.prog 3) b k (shD T k)
theorem Shr.kept {w w' : World} {b : Nat} {T : List Int} {k : Nat} (h : Shr w b T k) (t : Touch w w' (fun _ => False)) : Shr w' b T k := by
  have hb := World.ownsMap.lt h
  unfold Shr at h ⊢
  have e := t.block b hb (fun h => h)
  unfold World.ownsMap at h ⊢
  rw [e]; exact h

/-! ### In how many places two tables part -/
def diffN : List Int → List Int → Nat
  | [], ys => ys.length
  | xs, [] => xs.length
  | x :: xs, y :: ys => (if x = y then 0 else 1) + diffN xs ys
theorem diffN_nil (xs : List Int) : diffN xs [] = xs.length := by cases xs <;> rfl
theorem diffN_comm : ∀ xs ys : List Int, diffN xs ys = diffN ys xs
  | [], ys => by rw [diffN_nil]; rfl
  | x :: xs, [] => rfl
  | x :: xs, y :: ys => by
    unfold diffN; rw [diffN_comm xs ys]
    by_cases h : x = y
    · rw [if_pos h, if_pos h.symm]
    · rw [if_neg h, if_neg (fun e => h e.symm)]
theorem diffN_self : ∀ xs : List Int, diffN xs xs = 0
  | [] => rfl
  | x :: xs => by unfold diffN; rw [diffN_self xs]; simp
theorem diffN_step : ∀ (xs ys : List Int) (k : Nat) (h1 : k < xs.length) (h2 : k < ys.length), diffN (xs.take (k + 1)) (ys.take (k + 1)) = diffN (xs.take k) (ys.take k) + (if xs[k] = ys[k] then 0 else 1)
  | [], _, _, h, _ => by simp at h
  | _ :: _, [], _, _, h => by simp at h
  | x :: xs, y :: ys, 0, _, _ => by simp [diffN]
  | x :: xs, y :: ys, k + 1, h1, h2 => by
    have ih := diffN_step xs ys k (by simpa using h1) (by simpa using h2)
    simp only [List.take_succ_cons, diffN, List.getElem_cons_succ] at ih ⊢
    omega
theorem diffN_end : ∀ (xs ys : List Int), xs.length ≤ ys.length → diffN xs ys = diffN (xs.take xs.length) (ys.take xs.length) + (ys.length - xs.length)
  | [], ys, _ => by simp [diffN]
  | x :: xs, [], h => by simp at h
  | x :: xs, y :: ys, h => by
    have ih := diffN_end xs ys (by simpa using h)
    simp only [List.length_cons, List.take_succ_cons, diffN]
    omega
theorem diffN_le : ∀ (xs ys : List Int), diffN xs ys ≤ max xs.length ys.length
  | [], ys => by simp [diffN]
  | x :: xs, [] => by simp [diffN]
  | x :: xs, y :: ys => by
    have := diffN_le xs ys
    simp only [diffN, List.length_cons]
    split <;> omega

end Go.Proofs.Ytgmimdnebgncoaa
