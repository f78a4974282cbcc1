import Derived.Test.YtpjdcgjoepjmcaaGreatKBZ
import Derived.Test.YtpjdcgjoepjmcaaGreatHBZ
set_option linter.unusedVariables false
namespace Go.Proofs.YtpjdcgjoepjmcaaGreat
open Go.RowKit
def whyF (xs : List Nat) : Nat :=
 if xs.length < 20 then 1 else if gb xs 0 / 16 ≠ 4 then 2 else if gb xs 0 % 16 < 5 then 3 else if xs.length < 4 * (gb xs 0 % 16) then 1
 else if netF (xs.take (4 * (gb xs 0 % 16))) ≠ 0 then 4 else if gb xs 2 * 256 + gb xs 3 < 4 * (gb xs 0 % 16) then 3 else if xs.length < gb xs 2 * 256 + gb xs 3 then 5 else 0
def hdr0 : Hdr := ⟨0, 0, 0, 0, 0, 0, 0, 0, 0, 0, 0⟩
section
variable {xs : List Nat}
theorem why_short (h : xs.length < 20) : whyF xs = 1 := by unfold whyF; rw [if_pos h]
theorem why_version (h : 20 ≤ xs.length) (h1 : ((gb xs 0 : Int) / 16 != 4) = true) : whyF xs = 2 := by
 have := bne_iff_ne.1 h1
 unfold whyF; rw [if_neg (by omega), if_pos (by omega)]
theorem why_header (h : 20 ≤ xs.length) (h1 : ((gb xs 0 : Int) / 16 != 4) = false) (i : Nat) (hi : i = gb xs 0 % 16) (h2 : (i : Int) < 5) : whyF xs = 3 := by
 have := bne_eq_false_iff_eq.1 h1
 unfold whyF; rw [if_neg (by omega), if_neg (by omega), if_pos (by omega)]
theorem why_short2 (h : 20 ≤ xs.length) (h1 : ((gb xs 0 : Int) / 16 != 4) = false) (i : Nat) (hi : i = gb xs 0 % 16) (h2 : 5 ≤ (i : Int)) (h3 : (xs.length : Int) < 4 * i) : whyF xs = 1 := by
 have := bne_eq_false_iff_eq.1 h1
 unfold whyF; rw [if_neg (by omega), if_neg (by omega), if_neg (by omega), if_pos (by omega)]
theorem why_sum (h : 20 ≤ xs.length) (h1 : ((gb xs 0 : Int) / 16 != 4) = false) (i : Nat) (hi : i = gb xs 0 % 16) (h2 : 5 ≤ (i : Int)) (h3 : 4 * (i : Int) ≤ xs.length) (h4 : (netF (xs.take (4 * i)) != 0) = true) : whyF xs = 4 := by
 have := bne_eq_false_iff_eq.1 h1
 have h5 := bne_iff_ne.1 h4
 subst hi
 unfold whyF; rw [if_neg (by omega), if_neg (by omega), if_neg (by omega), if_neg (by omega), if_pos h5]
theorem why_header2 (h : 20 ≤ xs.length) (h1 : ((gb xs 0 : Int) / 16 != 4) = false) (i l : Nat) (hi : i = gb xs 0 % 16) (hl : l = gb xs 2 * 256 + gb xs 3) (h2 : 5 ≤ (i : Int)) (h3 : 4 * (i : Int) ≤ xs.length) (h4 : (netF (xs.take (4 * i)) != 0) = false) (h5 : (l : Int) < 4 * i) : whyF xs = 3 := by
 have := bne_eq_false_iff_eq.1 h1
 have h6 := bne_eq_false_iff_eq.1 h4
 subst hi; subst hl
 unfold whyF; rw [if_neg (by omega), if_neg (by omega), if_neg (by omega), if_neg (by omega), if_neg (by simpa using h6), if_pos (by omega)]
theorem why_length (h : 20 ≤ xs.length) (h1 : ((gb xs 0 : Int) / 16 != 4) = false) (i l : Nat) (hi : i = gb xs 0 % 16) (hl : l = gb xs 2 * 256 + gb xs 3) (h2 : 5 ≤ (i : Int)) (h3 : 4 * (i : Int) ≤ xs.length) (h4 : (netF (xs.take (4 * i)) != 0) = false) (h5 : 4 * (i : Int) ≤ l) (h6 : (xs.length : Int) < l) : whyF xs = 5 := by
 have := bne_eq_false_iff_eq.1 h1
 have h7 := bne_eq_false_iff_eq.1 h4
 subst hi; subst hl
 unfold whyF; rw [if_neg (by omega), if_neg (by omega), if_neg (by omega), if_neg (by omega), if_neg (by simpa using h7), if_neg (by omega), if_pos (by omega)]
theorem why_ok (h : 20 ≤ xs.length) (h1 : ((gb xs 0 : Int) / 16 != 4) = false) (i l : Nat) (hi : i = gb xs 0 % 16) (hl : l = gb xs 2 * 256 + gb xs 3) (h2 : 5 ≤ (i : Int)) (h3 : 4 * (i : Int) ≤ xs.length) (h4 : (netF (xs.take (4 * i)) != 0) = false) (h5 : 4 * (i : Int) ≤ l) (h6 : (l : Int) ≤ xs.length) : whyF xs = 0 := by
 have := bne_eq_false_iff_eq.1 h1
 have h7 := bne_eq_false_iff_eq.1 h4
 subst hi; subst hl
 unfold whyF; rw [if_neg (by omega), if_neg (by omega), if_neg (by omega), if_neg (by omega), if_neg (by simpa using h7), if_neg (by omega), if_neg (by omega)]
theorem why_zero (h : whyF xs = 0) : 20 ≤ xs.length ∧ gb xs 0 / 16 = 4 ∧ 5 ≤ gb xs 0 % 16 ∧ 4 * (gb xs 0 % 16) ≤ xs.length ∧ netF (xs.take (4 * (gb xs 0 % 16))) = 0 ∧ 4 * (gb xs 0 % 16) ≤ gb xs 2 * 256 + gb xs 3 ∧ gb xs 2 * 256 + gb xs 3 ≤ xs.length := by
 unfold whyF at h
 split at h; · omega
 split at h; · omega
 split at h; · omega
 split at h; · omega
 split at h; · omega
 split at h; · omega
 split at h; · omega
 rename_i h5 _ _
 exact ⟨by omega, by omega, by omega, by omega, by simpa using h5, by omega, by omega⟩
end
theorem length_any (x : Int) (h0 : 0 ≤ x) (h1 : x < 1000) (a b c d e f g i j k : Value) (w : World) :
 Calls Tryz.prog 107 #[.agg #[.int .i64 x, a, b, c, d, e, f, g, i, j, k]] w fun e w' => e = .returned (.int .i64 (4 * x)) ∧ Touch w w' (fun _ => False) := by
 go_enter Tryz.func107, Tryz.ntmps107
 go_wp2
 go_ret
 exact ⟨rfl, (Touch.refl _ _).alloc _⟩
set_option maxRecDepth 20000 in
set_option maxHeartbeats 2000000 in
theorem header_short (a : Option Addr) (len cap : Nat) (xs : List Nat) (w : World) (hr : RowB w a len cap xs) (hl : len < 20) :
 Calls Tryz.prog 105 #[.slice a len cap] w fun e w' => e = .returned (.tuple #[hv hdr0, .int .i64 1]) ∧ Touch w w' (fun _ => False) := by
 have hl' : (len : Int) < 20 := by omega
 have HTy : RowKit.Hid ((Tryz.prog.info? 76).map (·.size) = some 11) := Lib.hid (by kernel_rfl)
 clear hr
 go_enter Tryz.func105, Tryz.ntmps105
 go_wp2
 refine ret_row1 rfl rfl w.heap.size ?t ?cs ?fr _ rfl ?hg Tryz.underlying76 rfl ?hi _ rfl ?hR
 case hg => exact heap_alloc_new w _
 case hi => exact HTy.out
 case hR => exact ⟨rfl, (Touch.refl _ _).alloc _⟩
set_option maxRecDepth 20000 in
set_option maxHeartbeats 8000000 in
theorem header_long (a : Option Addr) (len cap : Nat) (xs : List Nat) (w : World) (hr : RowB w a len cap xs) (hl : 20 ≤ len) :
 Calls Tryz.prog 105 #[.slice a len cap] w fun e w' => e = .returned (.tuple #[hv (hdr xs), .int .i64 (whyF xs)]) ∧ Touch w w' (fun _ => False) := by
 have hx := hr.1
 have hcap := hr.2.1
 have hl' : ¬ (len : Int) < 20 := by omega
 have HTy : RowKit.Hid ((Tryz.prog.info? 76).map (·.size) = some 11) := Lib.hid (by kernel_rfl)
 obtain ⟨b, off, rfl⟩ := hr.some (by omega)
 obtain ⟨W1, hW1⟩ : ∃ W1, w.alloc (.cells #[.int .i64 0, .int .i64 0, .int .i64 0, .int .i64 0, .int .i64 0, .int .i64 0, .int .i64 0, .int .i64 0, .int .i64 0, .int .u32 0, .int .u32 0] 76) = W1 := ⟨_, rfl⟩
 have t1 : Touch w W1 (fun _ => False) := hW1 ▸ (Touch.refl _ _).alloc _
 have hR1 : W1.heap[w.heap.size]? = _ := hW1 ▸ heap_alloc_new w _
 have H := Lib.hid (fields_any (some ⟨b, off, none⟩) len cap xs W1 (hr.touch t1 (fun _ _ => .inr (fun h => h))) hl)
 have b0 := gb_lt xs hr.2.2.2.2.1 0
 have b2 := gb_lt xs hr.2.2.2.2.1 2
 have b3 := gb_lt xs hr.2.2.2.2.1 3
 have HR := Lib.hid hr
 clear hr hR1
 go_enter Tryz.func105, Tryz.ntmps105
 go_wp2_with fail
 refine H.out.mono ?_
 rintro e w2 ⟨rfl, t2⟩
 have T2 := t1.trans t2 (fun _ _ h => h)
 have hR2 : w2.heap[w.heap.size]? = _ := t2.keeps (hW1 ▸ heap_alloc_new w _) (fun h => h)
 have hr2 := HR.out.touch T2 (fun _ _ => .inr (fun h => h))
 obtain ⟨W3, hW3⟩ : ∃ W, w2.alloc (.cells (hcs (hdr xs)) 76) = W := ⟨_, rfl⟩
 obtain ⟨B, hB⟩ : ∃ B, w2.heap.size = B := ⟨_, rfl⟩
 have t3 : Touch w2 W3 (fun _ => False) := hW3 ▸ (Touch.refl _ _).alloc _
 have T3 := Lib.hid (T2.trans t3 (fun _ _ h => h))
 have hB3 : W3.heap[B]? = some (.cells (hcs (hdr xs)) 76 (0, 0)) := hB ▸ hW3 ▸ heap_alloc_new w2 _
 have hr3 := hr2.touch t3 (fun _ _ => .inr (fun h => h))
 have HR3 := Lib.hid (t3.keeps hR2 (fun h => h))
 have c0 := hr3.gb 0 (by omega)
 simp only [Nat.add_zero] at c0
 have hi1 : (hdr xs).ihl = gb xs 0 % 16 := rfl
 have hi2 : (hdr xs).len = gb xs 2 * 256 + gb xs 3 := rfl
 have HI1 := Lib.hid hi1
 have HI2 := Lib.hid hi2
 have hb1 : (hdr xs).ihl < 16 := by omega
 have hb2 : (hdr xs).len < 65536 := by omega
 clear hi1 hi2
 simp only [hv, hcs] at hW3 hB3 ⊢
 generalize hH : hdr xs = h at *
 have HH := Lib.hid hH
 have cB0 := cell_of_cells hB3 0
 have cB2 := cell_of_cells hB3 2
 simp at cB0 cB2
 have HB3 := Lib.hid hB3
 have T3 := Lib.hid (T2.trans t3 (fun _ _ h => h))
 have hw1 : IntKind.i64.wrap (4 * (h.ihl : Int)) = 4 * (h.ihl : Int) := IntWalk.i64_in _ (by omega)
 clear hB3 hH H hR2 hr2 HR t1 t2 T2 t3
 go_wp2_with (first
  | (go_at_call 107; refine (length_any _ (by omega) (by omega) _ _ _ _ _ _ _ _ _ _ _).mono ?_; rintro e w5 ⟨rfl, t5⟩; have HB3 := Lib.hid (t5.keeps HB3.out (fun h => h)); have HR3 := Lib.hid (t5.keeps HR3.out (fun h => h)); have T3 := Lib.hid (T3.out.trans t5 (fun _ _ h => h)); have hr3 := hr3.touch t5 (fun _ _ => .inr (fun h => h)); clear t5)
  | (go_at_call 119; refine (net_any _ _ _ (xs.take (4 * h.ihl)) _ (hr3.take _ (by omega))).mono ?_; rintro e w6 ⟨rfl, n6, rfl⟩; have t6 := (Touch.refl w5 (fun _ => False)).drewN n6; have HB3 := Lib.hid (t6.keeps HB3.out (fun h => h)); have HR3 := Lib.hid (t6.keeps HR3.out (fun h => h)); have T3 := Lib.hid (T3.out.trans t6 (fun _ _ h => h)); clear t6; have cB0 := cell_of_cells HB3.out 0; have cB2 := cell_of_cells HB3.out 2; simp at cB0 cB2)
  | (refine wpList_load_row rfl 76 (.tmp 4) rfl B rfl _ _ _ _ HB3.out Tryz.underlying76 rfl HTy.out ?_)
  | (refine store_row rfl 76 (.tmp 2) (.tmp 17) rfl w.heap.size _ rfl rfl _ _ HR3.out HTy.out rfl rfl ?_) | (refine store_row rfl 76 (.tmp 2) (.tmp 22) rfl w.heap.size _ rfl rfl _ _ HR3.out HTy.out rfl rfl ?_) | (refine store_row rfl 76 (.tmp 2) (.tmp 29) rfl w.heap.size _ rfl rfl _ _ HR3.out HTy.out rfl rfl ?_) | (refine store_row rfl 76 (.tmp 2) (.tmp 37) rfl w.heap.size _ rfl rfl _ _ HR3.out HTy.out rfl rfl ?_) | (refine store_row rfl 76 (.tmp 2) (.tmp 44) rfl w.heap.size _ rfl rfl _ _ HR3.out HTy.out rfl rfl ?_) | (refine store_row rfl 76 (.tmp 2) (.tmp 52) rfl w.heap.size _ rfl rfl _ _ HR3.out HTy.out rfl rfl ?_))
 all_goals (try (
  have hlx : 20 ≤ xs.length := by omega
  have i1 := HI1.out
  have i2 := HI2.out
  refine ret_row1 rfl rfl w.heap.size ?t ?cs ?fr _ rfl ?hg Tryz.underlying76 rfl ?hi _ rfl ?hR
  case hg => exact setRow_heap _ _ _ _ _ _ HR3.out
  case hi => exact HTy.out
  case hR =>
   refine ⟨?_, T3.out.setRow _ _ (fun h => absurd h (Nat.lt_irrefl _))⟩
   rw [HH.out]
   first
    | (rw [why_version hlx (by assumption)]; rfl)
    | (rw [why_header hlx (by assumption) _ i1 (by assumption)]; rfl)
    | (rw [why_short2 hlx (by assumption) _ i1 (by assumption) (by rw [hx]; assumption)]; rfl)
    | (rw [why_sum hlx (by assumption) _ i1 (by assumption) (by rw [hx]; assumption) (by assumption)]; rfl)))
 have h4v : ((gb xs 0 : Int) / 16 != 4) = false := by assumption
 have h5v : 5 ≤ (h.ihl : Int) := by assumption
 have h6v : 4 * (h.ihl : Int) ≤ (len : Int) := by assumption
 have h7v : (netF (xs.take (4 * h.ihl)) != 0) = false := by assumption
 clear cB0 cB2 c0
 generalize w5.drewN n6 = W6 at *
 have HV := Lib.hid h4v
 have HS := Lib.hid h7v
 have c0 := cell_of_cells HB3.out 0
 have c1 := cell_of_cells HB3.out 1
 have c2 := cell_of_cells HB3.out 2
 have c3 := cell_of_cells HB3.out 3
 have c4 := cell_of_cells HB3.out 4
 have c5 := cell_of_cells HB3.out 5
 have c6 := cell_of_cells HB3.out 6
 have c7 := cell_of_cells HB3.out 7
 have c8 := cell_of_cells HB3.out 8
 have c9 := cell_of_cells HB3.out 9
 have c10 := cell_of_cells HB3.out 10
 simp at c0 c1 c2 c3 c4 c5 c6 c7 c8 c9 c10
 have t6 := (Touch.refl W6 (fun _ => False)).drew
 have HB3 := Lib.hid (t6.keeps HB3.out (fun h => h))
 have HR3 := Lib.hid (t6.keeps HR3.out (fun h => h))
 have T3 := Lib.hid (T3.out.trans t6 (fun _ _ h => h))
 clear h4v h7v t6
 go_region_with (go_at_call 107; refine (length_any _ (by omega) (by omega) _ _ _ _ _ _ _ _ _ _ _).mono ?_; rintro e w7 ⟨rfl, t7⟩; have d2 : w7.cell? ⟨B, 2, none⟩ = some (.int .i64 (h.len : Nat)) := (cell_of_cells (t7.keeps HB3.out (fun h => h)) 2); have HB3 := Lib.hid (t7.keeps HB3.out (fun h => h)); have HR3 := Lib.hid (t7.keeps HR3.out (fun h => h)); have T3 := Lib.hid (T3.out.trans t7 (fun _ _ h => h)); clear t7)
 all_goals (
  clear c0 c1 c2 c3 c4 c5 c6 c7 c8 c9 c10
  go_wp2_with (first
  | (refine wpList_load_row rfl 76 (.tmp 4) rfl B rfl _ _ _ _ HB3.out Tryz.underlying76 rfl HTy.out ?_)
  | (refine store_row rfl 76 (.tmp 2) (.tmp 44) rfl w.heap.size _ rfl rfl _ _ HR3.out HTy.out rfl rfl ?_) | (refine store_row rfl 76 (.tmp 2) (.tmp 52) rfl w.heap.size _ rfl rfl _ _ HR3.out HTy.out rfl rfl ?_) | (refine store_row rfl 76 (.tmp 2) (.tmp 51) rfl w.heap.size _ rfl rfl _ _ HR3.out HTy.out rfl rfl ?_))
  all_goals (
   have hlx : 20 ≤ xs.length := by omega
   have i1 := HI1.out
   have i2 := HI2.out
   refine ret_row1 rfl rfl w.heap.size ?t ?cs ?fr _ rfl ?hg Tryz.underlying76 rfl ?hi _ rfl ?hR
   case hg => exact setRow_heap _ _ _ _ _ _ HR3.out
   case hi => exact HTy.out
   case hR =>
    refine ⟨?_, T3.out.setRow _ _ (fun h => absurd h (Nat.lt_irrefl _))⟩
    rw [HH.out]
    first
     | (rw [why_header2 hlx HV.out _ _ i1 i2 h5v (by omega) HS.out (by omega)]; rfl)
     | (rw [why_length hlx HV.out _ _ i1 i2 h5v (by omega) HS.out (by omega) (by omega)]; rfl)
     | (rw [why_ok hlx HV.out _ _ i1 i2 h5v (by omega) HS.out (by omega) (by omega)]; rfl)))
end Go.Proofs.YtpjdcgjoepjmcaaGreat
