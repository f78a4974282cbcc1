/- Shares are fair: as lists. -/
import Derived.Test.YtfjnhaoiecndpaaMagA
set_option linter.unusedVariables false
namespace Go.Proofs.Ytfjnhaoiecndpaa
open Go.RowKit Go.Maps

theorem okAt_app (bs : List BkD) (b : BkD) (i : Nat) (h : i < bs.length) : okAt (bs ++ [b]) i = okAt bs i := by
  unfold okAt
  rw [List.getElem?_append_left h, List.getElem?_append_left (by omega)]
theorem gmay_snoc {bs : List BkD} {b : BkD} (h : gmay bs = true) (hl : bs.length < 16) (hb : mayKB b = true) (hlt : ∀ a ∈ bs, a.id < b.id) : gmay (bs ++ [b]) = true := by
  rw [gmay_iff] at h ⊢
  refine ⟨by simp; omega, fun i hi => ?_⟩
  rcases Nat.lt_or_ge i bs.length with h9 | h9
  · rw [okAt_app bs b i h9]; exact h.2 i h9
  · have e : i = bs.length := by simp at hi; omega
    subst e
    have hg : (bs ++ [b])[bs.length]? = some b := by simp
    cases hn : bs.length with
    | zero => rw [hn] at hg; rw [okAt_zero hg]; exact hb
    | succ m =>
      rw [hn] at hg
      have hm : m < bs.length := by omega
      rw [okAt_succ hg (a := bs[m]) (by rw [List.getElem?_append_left hm]; exact List.getElem?_eq_getElem hm), hb, Bool.true_and]
      exact decide_eq_true (hlt _ (List.getElem_mem hm))
theorem gmay_nil : gmay [] = true := by decide

/-- The shares, one behind the other. -/
def totF (rs : List Rw) (n i : Nat) : Nat := ((List.range i).map (fun q => cnt rs q n)).sum
theorem totF_succ (rs : List Rw) (n i : Nat) : totF rs n (i + 1) = totF rs n i + cnt rs i n := by
  unfold totF; rw [List.range_succ]; simp
theorem sum_one (f : Nat → Nat) (x : Nat) : ∀ m, x < m → ((List.range m).map (fun i => f i + (if x = i then 1 else 0))).sum = ((List.range m).map f).sum + 1
  | 0, h => by omega
  | m + 1, h => by
    rw [List.range_succ, List.map_append, List.map_append, List.sum_append, List.sum_append]
    by_cases hx : x = m
    · subst hx
      have e : (List.range x).map (fun i => f i + (if x = i then 1 else 0)) = (List.range x).map f := List.map_congr_left (fun i hi => by
        have := List.mem_range.1 hi
        rw [if_neg (by omega)]; rfl)
      rw [e]; simp; omega
    · have ih := sum_one f x m (by omega)
      rw [ih]; simp [hx]; omega
theorem totF_all (rs : List Rw) (h0 : 0 < allW rs) : ∀ k, totF rs k rs.length = k
  | 0 => by
    unfold totF
    simp only [cnt]
    induction rs.length with
    | zero => rfl
    | succ m ih => rw [List.range_succ, List.map_append, List.sum_append, ih]; rfl
  | k + 1 => by
    have ih := totF_all rs h0 k
    unfold totF at ih ⊢
    have := sum_one (fun q => cnt rs q k) (who rs (k % allW rs)) rs.length (who_lt rs _ (Nat.mod_lt _ h0))
    simp only [cnt]
    rw [this, ih]
theorem rounds_two (n all : Nat) (h0 : 0 < all) : (n % all = 0 ∧ (n + all - 1) / all = n / all) ∨ (0 < n % all ∧ (n + all - 1) / all = n / all + 1) := by
  have hd := Nat.div_add_mod n all
  rcases Nat.eq_zero_or_pos (n % all) with h | h
  · left
    refine ⟨h, ?_⟩
    have e : n + all - 1 = all * (n / all) + (all - 1) := by omega
    rw [e, Nat.mul_add_div h0, Nat.div_eq_of_lt (show all - 1 < all by omega)]; omega
  · right
    refine ⟨h, ?_⟩
    have e : n + all - 1 = all * (n / all) + (all + (n % all - 1)) := by omega
    rw [e, Nat.mul_add_div h0, Nat.add_div_left _ h0, Nat.div_eq_of_lt (show n % all - 1 < all by have := Nat.mod_lt n h0; omega)]
theorem cnt_bounds (rs : List Rw) (i n : Nat) (r : Rw) (h : rs[i]? = some r) (h1 : 1 ≤ r.wt) : ((n + allW rs - 1) / allW rs - 1) * r.wt ≤ cnt rs i n ∧ cnt rs i n ≤ (n + allW rs - 1) / allW rs * r.wt := by
  have hp := pre_wt_le rs i r h
  rw [cnt_is rs i r h h1 n]
  rcases rounds_two n (allW rs) (by omega) with ⟨e1, e2⟩ | ⟨e1, e2⟩
  · rw [e2, e1]
    have := Nat.mul_le_mul_right r.wt (Nat.sub_le (n / allW rs) 1)
    omega
  · rw [e2, Nat.add_sub_cancel, Nat.succ_mul]; omega
/-- What a table of some backends is. -/
structure Fair (bs : List BkD) (n : Nat) (T : List Int) : Prop where
  each : ∀ (i : Nat) (b : BkD), bs[i]? = some b → T.count b.id = cnt (rowsF bs n) i n ∧ b.weight = ((b.weight.toNat : Nat) : Int) ∧ 1 ≤ b.weight.toNat ∧ b.weight.toNat ≤ 10 ∧ 0 ≤ b.id ∧ b.id ≤ 65535 ∧
    ((n + allW (rowsF bs n) - 1) / allW (rowsF bs n) - 1) * b.weight.toNat ≤ T.count b.id ∧ T.count b.id ≤ (n + allW (rowsF bs n) - 1) / allW (rowsF bs n) * b.weight.toNat ∧ pre (rowsF bs n) (i + 1) = pre (rowsF bs n) i + b.weight.toNat
  total : totF (rowsF bs n) n bs.length = n
  all : pre (rowsF bs n) bs.length = allW (rowsF bs n)
  pos : 0 < allW (rowsF bs n)
  le : allW (rowsF bs n) ≤ 160
  size : Maps.size (shD T n) ≤ bs.length
theorem allW_le : ∀ rs : List Rw, (∀ r ∈ rs, r.wt ≤ 10) → allW rs ≤ 10 * rs.length
  | [], _ => by simp [allW]
  | r :: rs, h => by
    have := allW_le rs (fun q hq => h q (List.mem_cons_of_mem _ hq))
    have := h r (List.mem_cons_self ..)
    simp only [allW, List.length_cons]; omega
theorem fair_tab {bs : List BkD} {n : Nat} (hp : Prm n) (hg : gmay bs = true) (h0 : 0 < bs.length) : Fair bs n (tabF bs n) := by
  have hR := rows_fine hp hg
  have hrl := rowsF_length bs n
  have hI := inv_all hR (by omega) n (Nat.le_refl _)
  have hT : tabF bs n = (stM (rowsF bs n) n n).1 := by unfold tabF; rw [if_neg (fun h => h.elim (fun h => by omega) (fun h => by rw [hg] at h; cases h))]
  have hpos : 0 < allW (rowsF bs n) := allW_pos (fun r hr => (hR.each r hr).2.2.1) (by omega)
  refine ⟨fun i b hb => ?_, ?_, ?_, hpos, ?_, ?_⟩
  · have hr : (rowsF bs n)[i]? = some (rwF n b) := by unfold rowsF; rw [List.getElem?_map, hb]; rfl
    have he := hR.each _ (List.mem_of_getElem? hr)
    have hc := hI.has i _ hr
    have hbd := cnt_bounds (rowsF bs n) i n (rwF n b) hr he.2.2.1
    rw [← hT] at hc
    have e1 : (rwF n b).id = b.id := rfl
    have e2 : (rwF n b).wt = b.weight.toNat := rfl
    rw [e1] at hc
    rw [e2] at hbd
    rw [e1, e2] at he
    rw [← hc] at hbd
    have hw := (mayKB_iff b).1 (by
      obtain ⟨hi, rfl⟩ := List.getElem?_eq_some_iff.1 hb
      exact gmay_at hg i hi)
    refine ⟨hc, by omega, he.2.2.1, he.2.2.2.1, he.1, he.2.1, hbd.1, hbd.2, ?_⟩
    rw [pre_succ _ i _ hr, e2]
  · rw [← hrl]; exact totF_all _ hpos n
  · rw [← hrl]; exact pre_all _
  · have := allW_le _ (fun r hr => (hR.each r hr).2.2.2.1)
    have := hR.len
    omega
  · have hn : (bs.map (·.id)).Nodup := by
      have := gmay_up hg
      refine List.Pairwise.map _ (fun a b h => ?_) this
      omega
    have hs := shD_size (tabF bs n) (bs.map (·.id)) hn (fun x hx h0 => by
      rw [hT] at hx
      rcases hI.mem x hx with h | ⟨r, hr, h⟩
      · omega
      · unfold rowsF at hr
        obtain ⟨b, hb, rfl⟩ := List.mem_map.1 hr
        exact List.mem_map.2 ⟨b, hb, h.symm⟩) n (by rw [tab_len hp]; exact Nat.le_refl _)
    rw [hs]
    have := List.countP_le_length (p := fun x => has (shD (tabF bs n) n) (key x)) (l := bs.map (·.id))
    simpa using this
end Go.Proofs.Ytfjnhaoiecndpaa
