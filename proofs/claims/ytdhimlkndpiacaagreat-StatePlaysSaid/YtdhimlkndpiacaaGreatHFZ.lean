/- HF: Cho3, Cho4, Cho5, ChoG, MagB, ChoR, MagF. -/
import Derived.Test.YtdhimlkndpiacaaGreatHCZ
import Derived.Deep.RegionHeld3
import Derived.Lib.QuietBelow
import Derived.BigQuiet
import Derived.Deep.DeepCutAuto
section
/- A chooser: made, set. -/
set_option linter.unusedVariables false
namespace Go.Proofs.YtdhimlkndpiacaaGreat
open Go.RowKit

theorem RowI.touch {w w' : World} {a : Option Addr} {len cap : Nat} {zs : List Int} {S : Nat → Prop} (h : RowI w a len cap zs) (t : Touch w w' S) (hn : ∀ x, a = Option.some x → len = 0 ∨ ¬ S x.block) : RowI w' a len cap zs := by
  obtain ⟨h1, h2, h3, h4, h5⟩ := h
  refine ⟨h1, h2, h3, h4, ?_⟩
  rcases h5 with h5 | ⟨b, off, ha, hlt, hc⟩
  · exact .inl h5
  · rcases hn _ ha with h9 | h9
    · exact .inl h9
    · exact .inr ⟨b, off, ha, Nat.lt_of_lt_of_le hlt t.size, fun i hi => (t.cell (p := ⟨b, off + i, none⟩) hlt h9).trans (hc i hi)⟩

/-- A chooser's cells. -/
def chC (n : Nat) (ab : Option Addr) (lb cb : Nat) (at_ : Option Addr) (lt ct : Nat) (m : Nat) : Array Value := #[.int .i64 (n : Nat), .slice ab lb cb, .slice at_ lt ct, .int .i64 (m : Nat)]
theorem may8 : mayS 8 = false := by decide +kernel

end Go.Proofs.YtdhimlkndpiacaaGreat

end

section
/- A chooser asked: by number, by tuple; one that there isn't; the known choice. -/
set_option linter.unusedVariables false
namespace Go.Proofs.YtdhimlkndpiacaaGreat
open Go.RowKit

theorem findV_form (bs : List BkD) (id : Int) : ∃ (b : BkD) (x : Bool), findV bs id = .tuple #[bkV' b, .bool x] := by
  unfold findV
  cases findF bs id with
  | none => exact ⟨bkZ, false, rfl⟩
  | some b => exact ⟨b, true, rfl⟩

end Go.Proofs.YtdhimlkndpiacaaGreat

end

section
/- A chooser that there isn't; the known choice: awake answers true. -/
set_option linter.unusedVariables false
namespace Go.Proofs.YtdhimlkndpiacaaGreat
open Go.RowKit

theorem tab_mem {bs : List BkD} {n : Nat} (hp : Prm n) (hg : gmay bs = true) (h0 : 0 < bs.length) : ∀ x ∈ tabF bs n, ∃ b ∈ bs, x = b.id := by
  intro x hx
  unfold tabF at hx
  rw [if_neg (by simp only [hg, not_or]; exact ⟨by omega, by simp⟩)] at hx
  have hI := inv_all (rows_fine hp hg) (by rw [rowsF_length]; exact h0) n (Nat.le_refl _)
  rcases hI.mem x hx with h1 | ⟨r, hr, h1⟩
  · have h2 := hI.free
    have h3 : 0 < (stM (rowsF bs n) n n).1.count (-1) := List.count_pos_iff.2 (h1 ▸ hx)
    omega
  · obtain ⟨b, hb, rfl⟩ := List.mem_map.1 hr
    exact ⟨b, hb, h1⟩

def bkA : BkD := ⟨5, 0, 1⟩
theorem gmayA : gmay [bkA] = true := by decide +kernel
def tupA : TupD := ⟨0, 0, 6, 0, 0⟩
theorem mayTA : mayTB tupA = true := by decide +kernel
theorem tupOkA : TupOk tupA := ⟨by unfold u32; decide, by unfold u32; decide, by unfold i64; decide, by unfold i64; decide, by unfold i64; decide⟩

end Go.Proofs.YtdhimlkndpiacaaGreat

end

section
/- Who is out: gone, says, Without; a chooser set. -/
set_option linter.unusedVariables false
namespace Go.Proofs.YtdhimlkndpiacaaGreat
open Go.RowKit

/-- Is it out? -/
def outB (xs : List Int) (id : Int) : Bool := decide (id ∈ xs)
theorem outB_nil (id : Int) : outB [] id = false := by simp [outB]
theorem outB_snoc (xs : List Int) (x id : Int) : outB (xs ++ [x]) id = (outB xs id || (x == id)) := by
  unfold outB
  rw [Bool.eq_iff_iff]
  simp only [List.mem_append, List.mem_singleton, decide_eq_true_eq, Bool.or_eq_true, beq_iff_eq]
  exact or_congr Iff.rfl eq_comm
theorem outB_mem {xs : List Int} {id : Int} (h : id ∈ xs) : outB xs id = true := decide_eq_true h
def keepF (out : Int → Bool) (bs : List BkD) : List BkD := bs.filter (fun b => !out b.id)
theorem keepF_snoc (out : Int → Bool) (bs : List BkD) (b : BkD) : keepF out (bs ++ [b]) = keepF out bs ++ (if out b.id then [] else [b]) := by
  unfold keepF
  rw [List.filter_append]
  congr 1
  cases h : out b.id <;> simp [h]
theorem keepF_len (out : Int → Bool) (bs : List BkD) : (keepF out bs).length ≤ bs.length := List.length_filter_le _ _

end Go.Proofs.YtdhimlkndpiacaaGreat

end

section
/- May a set of backends be, as the reference has it. -/
set_option linter.unusedVariables false
namespace Go.Proofs.YtdhimlkndpiacaaGreat
open Go.RowKit

set_option maxRecDepth 20000 in
set_option maxHeartbeats 2000000 in
theorem rgmay_any (a : Option Addr) (len cap : Nat) (bs : List BkD) (w : World) (hr : RowK w a len cap bs) :
    Calls Tryz.prog 30 #[.slice a len cap] w fun e w' => e = .returned (.bool (gmay bs)) ∧ Touch w w' (fun _ => False) := by
  have hl := hr.len
  have hcap := hr.hmax
  have hcap1 := hr.hcap
  have HG := Lib.hid (gmay_iff bs)
  have HR := Lib.hid hr
  have HL := Lib.hid hl
  by_cases h16 : len ≤ 16
  case neg =>
    have HF : RowKit.Hid (gmay bs = false) := Lib.hid (by
      cases hh : gmay bs with
      | false => rfl
      | true => have := (HG.out.1 hh).1; omega)
    have h16I : (len : Int) > 16 := by omega
    clear hr hl
    go_enter Tryz.func30, Tryz.ntmps30
    go_wp2
    go_ret
    exact ⟨by rw [HF.out]; rfl, Touch.refl _ _⟩
  case pos =>
  have h16I : ¬ (len : Int) > 16 := by omega
  clear hr hl
  go_enter Tryz.func30, Tryz.ntmps30
  go_wp2_with fail
  go_loopw [10] (fun i wr => ∃ k : Nat, k ≤ len ∧ i = .int .i64 k ∧ Touch w wr (fun _ => False) ∧ ∀ j, j < k → okAt bs j = true) (fun i _ => len - (intOf i).toNat)
  case atStart => exact ⟨0, Nat.zero_le _, rfl, Touch.refl _ _, fun j hj => by omega⟩
  case round =>
    obtain ⟨k, hk, rfl, ht, he⟩ := hrel
    have HT := Lib.hid ht
    have HE := Lib.hid he
    clear he ht
    by_cases hlt : k < len
    case neg =>
      obtain rfl : len = k := by omega
      have hlt' : ¬ (len : Int) < len := by omega
      have HF : RowKit.Hid (gmay bs = true) := Lib.hid (HG.out.2 ⟨by rw [HL.out]; exact h16, fun i hi => HE.out i (by rw [← HL.out]; exact hi)⟩)
      go_wp2
      go_ret
      exact ⟨by rw [HF.out]; rfl, HT.out⟩
    case pos =>
    have hr := HR.out.still HT.out
    obtain ⟨b, off, rfl⟩ := hr.some (by omega)
    have hk1 : k < bs.length := by rw [HL.out]; exact hlt
    obtain ⟨c0, c1, c2⟩ := hr.cells k hk1
    have HK : RowKit.Hid (bs[k]? = some bs[k]) := Lib.hid (List.getElem?_eq_getElem hk1)
    have HFA : RowKit.Hid (okAt bs k = false → gmay bs = false) := Lib.hid (fun h => by
      cases hh : gmay bs with
      | false => rfl
      | true => rw [(HG.out.1 hh).2 k hk1] at h; cases h)
    obtain ⟨W1, hW1⟩ : ∃ W, wr.alloc (.cells #[.int .i64 bs[k].id, .int .u32 bs[k].addr, .int .i64 bs[k].weight] 86) = W := ⟨_, rfl⟩
    have t1 : Touch wr W1 (fun _ => False) := hW1 ▸ (Touch.refl wr _).alloc _
    have HR1 := Lib.hid (hr.still t1)
    have g1 : W1.heap[wr.heap.size]? = some (.cells #[.int .i64 bs[k].id, .int .u32 bs[k].addr, .int .i64 bs[k].weight] 86 (0, 0)) := hW1 ▸ heap_alloc_new ..
    have x0 : W1.cell? ⟨wr.heap.size, 0, none⟩ = some (.int .i64 bs[k].id) := cell_of_cells g1 0
    have x1 : W1.cell? ⟨wr.heap.size, 1, none⟩ = some (.int .u32 bs[k].addr) := cell_of_cells g1 1
    have x2 : W1.cell? ⟨wr.heap.size, 2, none⟩ = some (.int .i64 bs[k].weight) := cell_of_cells g1 2
    have HX0 := Lib.hid x0
    have HX1 := Lib.hid x1
    have HX2 := Lib.hid x2
    have HG1 := Lib.hid g1
    have HKC : RowKit.Hid (∀ W, Touch W1 W (fun _ => False) → W.cell? ⟨wr.heap.size, 0, none⟩ = some (.int .i64 bs[k].id) ∧ W.cell? ⟨wr.heap.size, 1, none⟩ = some (.int .u32 bs[k].addr) ∧ W.cell? ⟨wr.heap.size, 2, none⟩ = some (.int .i64 bs[k].weight)) := Lib.hid (fun W t => by
      have g := t.keeps g1 (fun h => h)
      exact ⟨cell_of_cells g 0, cell_of_cells g 1, cell_of_cells g 2⟩)
    have HT1 := Lib.hid (HT.out.trans t1 (fun _ _ h => h))
    have HW1 := Lib.hid hW1
    have HMK : RowKit.Hid (∀ W, Calls Tryz.prog 59 #[.agg #[.int .i64 bs[k].id, .int .u32 bs[k].addr, .int .i64 bs[k].weight]] W fun e w' => e = .returned (.bool (mayKB bs[k])) ∧ Touch W w' (fun _ => False)) := Lib.hid (fun W => rmayK_any bs[k] W)
    clear hr t1 g1 hW1 x0 x1 x2
    have hlI : (k : Int) < len := by omega
    cases hm : mayKB bs[k]
    case false =>
      rw [hm] at HMK
      have HOK : RowKit.Hid (gmay bs = false) := Lib.hid (HFA.out (by unfold okAt; rw [HK.out]; simp [hm]))
      clear hm HK HFA
      generalize bs[k] = f at *
      go_upto_region 6 with (fail)
      rw [HW1.out]
      have x0 := fun d os => cell_regrown HX0.out d os
      have x1 := fun d os => cell_regrown HX1.out d os
      have x2 := fun d os => cell_regrown HX2.out d os
      have cM := fun d os => Calls.regrown_of ((HMK.out (Sort.grow (redrawn W1 d) os)).mono (fun e w' h => ⟨h.1, h.2.below (fun _ _ h => h.elim) (Nat.le_refl _)⟩))
      refine wp_region_quiet_below (by kernel_rfl) (by kernel_rfl) ?_
      repeat (go_big_quiet_step (exact cM _ _))
      refine wpQuiet_nil ?_
      intro _ hw'
      obtain ⟨⟨dq, osq⟩, hw''⟩ := hw'
      subst hw''
      have HT6 := Lib.hid (HT1.out.trans (Touch.ofBelow (S := fun _ => False) (below_regrown W1 dq osq) (fun k h1 h2 => by omega)) (fun _ _ h => h))
      go_wp2
      go_ret
      exact ⟨by rw [HOK.out]; rfl, HT6.out⟩
    case true =>
      rw [hm] at HMK
      cases k with
      | zero =>
        have HOK : RowKit.Hid (okAt bs 0 = true) := Lib.hid (by rw [okAt_zero HK.out]; exact hm)
        clear hm HK HFA
        generalize bs[0] = f at *
        simp only [Nat.zero_mul, Nat.add_zero] at c0 c1 c2
        go_upto_region 6 with (fail)
        rw [HW1.out]
        have x0 := fun d os => cell_regrown HX0.out d os
        have x1 := fun d os => cell_regrown HX1.out d os
        have x2 := fun d os => cell_regrown HX2.out d os
        have cM := fun d os => Calls.regrown_of ((HMK.out (Sort.grow (redrawn W1 d) os)).mono (fun e w' h => ⟨h.1, h.2.below (fun _ _ h => h.elim) (Nat.le_refl _)⟩))
        refine wp_region_quiet_below (by kernel_rfl) (by kernel_rfl) ?_
        repeat (go_big_quiet_step (exact cM _ _))
        refine wpQuiet_nil ?_
        intro _ hw'
        obtain ⟨⟨dq, osq⟩, hw''⟩ := hw'
        subst hw''
        have HT6 := Lib.hid (HT1.out.trans (Touch.ofBelow (S := fun _ => False) (below_regrown W1 dq osq) (fun k h1 h2 => by omega)) (fun _ _ h => h))
        go_wp2
        exact ⟨⟨1, hlt, rfl, HT6.out, fun j hj => by (obtain rfl : j = 0 := (by omega)); exact HOK.out⟩, by simp [intOf]; omega⟩
      | succ k =>
        have hk0 : k < bs.length := by omega
        obtain ⟨p, hp⟩ : ∃ p, bs[k] = p := ⟨_, rfl⟩
        have HCP : RowKit.Hid (∀ W, Touch W1 W (fun _ => False) → W.cell? ⟨b, off + k * 3, none⟩ = some (.int .i64 p.id)) := Lib.hid (fun W t => by
          have := ((HR1.out.still t).cells k hk0).1
          rwa [hp] at this)
        have hok := okAt_succ HK.out (show bs[k]? = some p by rw [List.getElem?_eq_getElem hk0, hp])
        rw [hm, Bool.true_and] at hok
        have HOK := Lib.hid hok
        clear hm hok HK hp
        generalize bs[k + 1] = f at *
        have hkl2 : (k : Int) < len := by omega
        have hkl3 : ¬ ((k : Int) + 1 = 0) := by omega
        obtain ⟨eb, heb⟩ : ∃ eb, decide (f.id ≤ p.id) = eb := ⟨_, rfl⟩
        have HEB := Lib.hid heb
        go_upto_region 6 with (fail)
        rw [HW1.out]
        have x0 := fun d os => cell_regrown HX0.out d os
        have x1 := fun d os => cell_regrown HX1.out d os
        have x2 := fun d os => cell_regrown HX2.out d os
        have cM := fun d os => Calls.regrown_of ((HMK.out (Sort.grow (redrawn W1 d) os)).mono (fun e w' h => ⟨h.1, h.2.below (fun _ _ h => h.elim) (Nat.le_refl _)⟩))
        have y2 := fun d os => cell_regrown (HCP.out W1 (Touch.refl _ _)) d os
        refine wp_region_quiet_below (by kernel_rfl) (by kernel_rfl) ?_
        repeat (go_big_quiet_step (exact cM _ _))
        refine wpQuiet_nil ?_
        intro _ hw'
        obtain ⟨⟨dq, osq⟩, hw''⟩ := hw'
        subst hw''
        have HT6 := Lib.hid (HT1.out.trans (Touch.ofBelow (S := fun _ => False) (below_regrown W1 dq osq) (fun k h1 h2 => by omega)) (fun _ _ h => h))
        clear heb
        cases eb with
        | true =>
          have HF : RowKit.Hid (gmay bs = false) := Lib.hid (HFA.out (by
            rw [HOK.out]
            have := of_decide_eq_true HEB.out
            exact decide_eq_false (by omega)))
          go_wp2
          go_ret
          exact ⟨by rw [HF.out]; rfl, HT6.out⟩
        | false =>
          go_wp2
          refine ⟨⟨k + 2, hlt, by go_num, HT6.out, fun j hj => ?_⟩, by simp [intOf]; omega⟩
          rcases Nat.lt_or_ge j (k + 1) with h9 | h9
          · exact HE.out j h9
          · obtain rfl : j = k + 1 := by omega
            rw [HOK.out]
            have := of_decide_eq_false HEB.out
            exact decide_eq_true (by omega)
end Go.Proofs.YtdhimlkndpiacaaGreat

end

section
/- The reference: a backend by its number, who stays; a pick of any tuple. -/
set_option linter.unusedVariables false
namespace Go.Proofs.YtdhimlkndpiacaaGreat
open Go.RowKit

end Go.Proofs.YtdhimlkndpiacaaGreat

end

section
/- Shares are fair: as lists. -/
set_option linter.unusedVariables false
namespace Go.Proofs.YtdhimlkndpiacaaGreat
open Go.RowKit Go.Maps

theorem okAt_app (bs : List BkD) (b : BkD) (i : Nat) (h : i < bs.length) : okAt (bs ++ [b]) i = okAt bs i := by
  unfold okAt
  rw [List.getElem?_append_left h, List.getElem?_append_left (by omega)]
theorem gmay_snoc {bs : List BkD} {b : BkD} (h : gmay bs = true) (hl : bs.length < 16) (hb : mayKB b = true) (hlt : ∀ a ∈ bs, a.id < b.id) : gmay (bs ++ [b]) = true := by
  rw [gmay_iff] at h ⊢
  refine ⟨by simp; omega, fun i hi => ?_⟩
  rcases Nat.lt_or_ge i bs.length with h9 | h9
  · rw [okAt_app bs b i h9]; exact h.2 i h9
  · have e : i = bs.length := by simp at hi; omega
    subst e
    have hg : (bs ++ [b])[bs.length]? = some b := by simp
    cases hn : bs.length with
    | zero => rw [hn] at hg; rw [okAt_zero hg]; exact hb
    | succ m =>
      rw [hn] at hg
      have hm : m < bs.length := by omega
      rw [okAt_succ hg (a := bs[m]) (by rw [List.getElem?_append_left hm]; exact List.getElem?_eq_getElem hm), hb, Bool.true_and]
      exact decide_eq_true (hlt _ (List.getElem_mem hm))
theorem gmay_nil : gmay [] = true := by decide

/-- The shares, one behind the other. -/
def totF (rs : List Rw) (n i : Nat) : Nat := ((List.range i).map (fun q => cnt rs q n)).sum
theorem totF_succ (rs : List Rw) (n i : Nat) : totF rs n (i + 1) = totF rs n i + cnt rs i n := by
  unfold totF; rw [List.range_succ]; simp
theorem sum_one (f : Nat → Nat) (x : Nat) : ∀ m, x < m → ((List.range m).map (fun i => f i + (if x = i then 1 else 0))).sum = ((List.range m).map f).sum + 1
  | 0, h => by omega
  | m + 1, h => by
    rw [List.range_succ, List.map_append, List.map_append, List.sum_append, List.sum_append]
    by_cases hx : x = m
    · subst hx
      have e : (List.range x).map (fun i => f i + (if x = i then 1 else 0)) = (List.range x).map f := List.map_congr_left (fun i hi => by
        have := List.mem_range.1 hi
        rw [if_neg (by omega)]; rfl)
      rw [e]; simp; omega
    · have ih := sum_one f x m (by omega)
      rw [ih]; simp [hx]; omega
theorem totF_all (rs : List Rw) (h0 : 0 < allW rs) : ∀ k, totF rs k rs.length = k
  | 0 => by
    unfold totF
    simp only [cnt]
    induction rs.length with
    | zero => rfl
    | succ m ih => rw [List.range_succ, List.map_append, List.sum_append, ih]; rfl
  | k + 1 => by
    have ih := totF_all rs h0 k
    unfold totF at ih ⊢
    have := sum_one (fun q => cnt rs q k) (who rs (k % allW rs)) rs.length (who_lt rs _ (Nat.mod_lt _ h0))
    simp only [cnt]
    rw [this, ih]
theorem rounds_two (n all : Nat) (h0 : 0 < all) : (n % all = 0 ∧ (n + all - 1) / all = n / all) ∨ (0 < n % all ∧ (n + all - 1) / all = n / all + 1) := by
  have hd := Nat.div_add_mod n all
  rcases Nat.eq_zero_or_pos (n % all) with h | h
  · left
    refine ⟨h, ?_⟩
    have e : n + all - 1 = all * (n / all) + (all - 1) := by omega
    rw [e, Nat.mul_add_div h0, Nat.div_eq_of_lt (show all - 1 < all by omega)]; omega
  · right
    refine ⟨h, ?_⟩
    have e : n + all - 1 = all * (n / all) + (all + (n % all - 1)) := by omega
    rw [e, Nat.mul_add_div h0, Nat.add_div_left _ h0, Nat.div_eq_of_lt (show n % all - 1 < all by have := Nat.mod_lt n h0; omega)]
theorem cnt_bounds (rs : List Rw) (i n : Nat) (r : Rw) (h : rs[i]? = some r) (h1 : 1 ≤ r.wt) : ((n + allW rs - 1) / allW rs - 1) * r.wt ≤ cnt rs i n ∧ cnt rs i n ≤ (n + allW rs - 1) / allW rs * r.wt := by
  have hp := pre_wt_le rs i r h
  rw [cnt_is rs i r h h1 n]
  rcases rounds_two n (allW rs) (by omega) with ⟨e1, e2⟩ | ⟨e1, e2⟩
  · rw [e2, e1]
    have := Nat.mul_le_mul_right r.wt (Nat.sub_le (n / allW rs) 1)
    omega
  · rw [e2, Nat.add_sub_cancel, Nat.succ_mul]; omega
/-- What a table of some backends is. -/
structure Fair (bs : List BkD) (n : Nat) (T : List Int) : Prop where
  each : ∀ (i : Nat) (b : BkD), bs[i]? = some b → T.count b.id = cnt (rowsF bs n) i n ∧ b.weight = ((b.weight.toNat : Nat) : Int) ∧ 1 ≤ b.weight.toNat ∧ b.weight.toNat ≤ 10 ∧ 0 ≤ b.id ∧ b.id ≤ 65535 ∧
    ((n + allW (rowsF bs n) - 1) / allW (rowsF bs n) - 1) * b.weight.toNat ≤ T.count b.id ∧ T.count b.id ≤ (n + allW (rowsF bs n) - 1) / allW (rowsF bs n) * b.weight.toNat ∧ pre (rowsF bs n) (i + 1) = pre (rowsF bs n) i + b.weight.toNat
  total : totF (rowsF bs n) n bs.length = n
  all : pre (rowsF bs n) bs.length = allW (rowsF bs n)
  pos : 0 < allW (rowsF bs n)
  le : allW (rowsF bs n) ≤ 160
  size : Maps.size (shD T n) ≤ bs.length
theorem allW_le : ∀ rs : List Rw, (∀ r ∈ rs, r.wt ≤ 10) → allW rs ≤ 10 * rs.length
  | [], _ => by simp [allW]
  | r :: rs, h => by
    have := allW_le rs (fun q hq => h q (List.mem_cons_of_mem _ hq))
    have := h r (List.mem_cons_self ..)
    simp only [allW, List.length_cons]; omega
theorem fair_tab {bs : List BkD} {n : Nat} (hp : Prm n) (hg : gmay bs = true) (h0 : 0 < bs.length) : Fair bs n (tabF bs n) := by
  have hR := rows_fine hp hg
  have hrl := rowsF_length bs n
  have hI := inv_all hR (by omega) n (Nat.le_refl _)
  have hT : tabF bs n = (stM (rowsF bs n) n n).1 := by unfold tabF; rw [if_neg (fun h => h.elim (fun h => by omega) (fun h => by rw [hg] at h; cases h))]
  have hpos : 0 < allW (rowsF bs n) := allW_pos (fun r hr => (hR.each r hr).2.2.1) (by omega)
  refine ⟨fun i b hb => ?_, ?_, ?_, hpos, ?_, ?_⟩
  · have hr : (rowsF bs n)[i]? = some (rwF n b) := by unfold rowsF; rw [List.getElem?_map, hb]; rfl
    have he := hR.each _ (List.mem_of_getElem? hr)
    have hc := hI.has i _ hr
    have hbd := cnt_bounds (rowsF bs n) i n (rwF n b) hr he.2.2.1
    rw [← hT] at hc
    have e1 : (rwF n b).id = b.id := rfl
    have e2 : (rwF n b).wt = b.weight.toNat := rfl
    rw [e1] at hc
    rw [e2] at hbd
    rw [e1, e2] at he
    rw [← hc] at hbd
    have hw := (mayKB_iff b).1 (by
      obtain ⟨hi, rfl⟩ := List.getElem?_eq_some_iff.1 hb
      exact gmay_at hg i hi)
    refine ⟨hc, by omega, he.2.2.1, he.2.2.2.1, he.1, he.2.1, hbd.1, hbd.2, ?_⟩
    rw [pre_succ _ i _ hr, e2]
  · rw [← hrl]; exact totF_all _ hpos n
  · rw [← hrl]; exact pre_all _
  · have := allW_le _ (fun r hr => (hR.each r hr).2.2.2.1)
    have := hR.len
    omega
  · have hn : (bs.map (·.id)).Nodup := by
      have := gmay_up hg
      refine List.Pairwise.map _ (fun a b h => ?_) this
      omega
    have hs := shD_size (tabF bs n) (bs.map (·.id)) hn (fun x hx h0 => by
      rw [hT] at hx
      rcases hI.mem x hx with h | ⟨r, hr, h⟩
      · omega
      · unfold rowsF at hr
        obtain ⟨b, hb, rfl⟩ := List.mem_map.1 hr
        exact List.mem_map.2 ⟨b, hb, h.symm⟩) n (by rw [tab_len hp]; exact Nat.le_refl _)
    rw [hs]
    have := List.countP_le_length (p := fun x => has (shD (tabF bs n) n) (key x)) (l := bs.map (·.id))
    simpa using this
end Go.Proofs.YtdhimlkndpiacaaGreat

end
