import Derived.Test.YtpjdcgjoepjmcaaGreatIpHeadZ
import Derived.Test.YtpjdcgjoepjmcaaGreatSliceNZ
import Derived.Deep.RegionWith
import Derived.Deep.RegionHeld3
set_option linter.unusedVariables false
namespace Go.Proofs.YtpjdcgjoepjmcaaGreat
open Go.RowKit
theorem hcells_of {w : World} {B : Nat} {h : Hdr} (hb : w.heap[B]? = some (.cells (hcs h) 76 (0, 0))) :
 w.cell? ⟨B, 0, none⟩ = some (.int .i64 (h.ihl : Nat)) ∧ w.cell? ⟨B, 1, none⟩ = some (.int .i64 (h.tos : Nat)) ∧ w.cell? ⟨B, 2, none⟩ = some (.int .i64 (h.len : Nat)) ∧ w.cell? ⟨B, 3, none⟩ = some (.int .i64 (h.id : Nat)) ∧
 w.cell? ⟨B, 4, none⟩ = some (.int .i64 (h.flags : Nat)) ∧ w.cell? ⟨B, 5, none⟩ = some (.int .i64 (h.off : Nat)) ∧ w.cell? ⟨B, 6, none⟩ = some (.int .i64 (h.ttl : Nat)) ∧ w.cell? ⟨B, 7, none⟩ = some (.int .i64 (h.proto : Nat)) ∧
 w.cell? ⟨B, 8, none⟩ = some (.int .i64 (h.sum : Nat)) ∧ w.cell? ⟨B, 9, none⟩ = some (.int .u32 (h.src : Nat)) ∧ w.cell? ⟨B, 10, none⟩ = some (.int .u32 (h.dst : Nat)) :=
 ⟨cell_of_cells hb 0, cell_of_cells hb 1, cell_of_cells hb 2, cell_of_cells hb 3, cell_of_cells hb 4, cell_of_cells hb 5, cell_of_cells hb 6, cell_of_cells hb 7, cell_of_cells hb 8, cell_of_cells hb 9, cell_of_cells hb 10⟩
theorem header_any (a : Option Addr) (len cap : Nat) (xs : List Nat) (w : World) (hr : RowB w a len cap xs) :
 Calls Tryz.prog 105 #[.slice a len cap] w fun e w' => ∃ h, (whyF xs = 0 → h = hdr xs) ∧ e = .returned (.tuple #[hv h, .int .i64 (whyF xs)]) ∧ Touch w w' (fun _ => False) := by
 by_cases hl : len < 20
 ·refine (header_short a len cap xs w hr hl).mono ?_
  rintro e w' ⟨rfl, t⟩
  have hw : whyF xs = 1 := why_short (by rw [hr.1]; exact hl)
  exact ⟨hdr0, fun h => by omega, by rw [hw]; rfl, t⟩
 ·refine (header_long a len cap xs w hr (by omega)).mono ?_
  rintro e w' ⟨rfl, t⟩
  exact ⟨hdr xs, fun _ => rfl, rfl, t⟩
set_option maxRecDepth 20000 in
set_option maxHeartbeats 4000000 in
theorem parse_bad (a : Option Addr) (len cap : Nat) (xs : List Nat) (w : World) (hr : RowB w a len cap xs) (hy : whyF xs ≠ 0) :
 Calls Tryz.prog 77 #[.slice a len cap] w fun e w' => e = .returned (.tuple #[hv hdr0, .slice none 0 0, .int .i64 (whyF xs)]) ∧ Touch w w' (fun _ => False) := by
 have HTy : RowKit.Hid ((Tryz.prog.info? 76).map (·.size) = some 11) := Lib.hid (by kernel_rfl)
 obtain ⟨W1, hW1⟩ : ∃ W1, w.alloc (.cells #[.int .i64 0, .int .i64 0, .int .i64 0, .int .i64 0, .int .i64 0, .int .i64 0, .int .i64 0, .int .i64 0, .int .i64 0, .int .u32 0, .int .u32 0] 76) = W1 := ⟨_, rfl⟩
 have t1 : Touch w W1 (fun _ => False) := hW1 ▸ (Touch.refl _ _).alloc _
 have H := Lib.hid (header_any a len cap xs W1 (hr.touch t1 (fun _ _ => .inr (fun h => h))))
 have hy' : ((whyF xs : Int) == 0) = false := beq_eq_false_iff_ne.2 (by omega)
 have hy2 : ((whyF xs : Int) != 0) = true := bne_iff_ne.2 (by omega)
 clear hr
 go_enter Tryz.func77, Tryz.ntmps77
 go_wp2_with fail
 refine H.out.mono ?_
 rintro e w2 ⟨h, -, rfl, t2⟩
 have T2 := t1.trans t2 (fun _ _ h => h)
 have HR2 := Lib.hid (t2.keeps (hW1 ▸ heap_alloc_new w _ : W1.heap[w.heap.size]? = _) (fun h => h))
 have t3 := (Touch.refl w2 (fun _ => False)).alloc (.cells (hcs h) 76)
 have HR3 := Lib.hid (t3.keeps HR2.out (fun h => h))
 have T3 := Lib.hid (T2.trans t3 (fun _ _ h => h))
 clear t3 T2 t2 hW1 t1 hy
 simp only [hv]
 go_wp2_with (refine store_row rfl 76 (.tmp 2) (.tmp 14) rfl w.heap.size _ rfl rfl _ _ HR3.out HTy.out rfl rfl ?_)
 refine ret_row2 rfl rfl w.heap.size ?t ?cs ?fr _ rfl ?hg Tryz.underlying76 rfl ?hi _ _ rfl rfl ?hR
 case hg => exact setRow_heap _ _ _ _ _ _ HR3.out
 case hi => exact HTy.out
 case hR =>
  refine ⟨?_, T3.out.setRow _ _ (fun h => absurd h (Nat.lt_irrefl _))⟩
  simp [hv, hdr0]
theorem FreshB.through {w w7 w8 w9 : World} {v : Value} {ys : List Nat} {S : Nat → Prop} (h : FreshB w7 w8 v ys) (T : Touch w w7 (fun _ => False)) (t : Touch w8 w9 S) (hS : ∀ k, S k → w.heap.size ≤ k ∧ k < w7.heap.size) : FreshB w w9 v ys := by
 obtain ⟨ho, ht⟩ := h
 have hs := T.size
 refine ⟨(ho.base (fun k hk => ?_)).touch t (fun k hk hs2 => ?_), (T.trans ht (fun _ _ h => h)).trans t (fun k hk h => by have := (hS k h).1; omega)⟩
 ·have := (ho.own.lt k hk).1; omega
 ·have := (ho.own.lt k hk).1; have := (hS k hs2).2; omega
def Parsed (w w' : World) (xs : List Nat) (e : Ending) : Prop :=
 ∃ a' cap', e = .returned (.tuple #[hv (hdr xs), .slice a' ((hdr xs).len - 4 * (hdr xs).ihl) cap', .int .i64 0]) ∧ FreshB w w' (.slice a' ((hdr xs).len - 4 * (hdr xs).ihl) cap') ((xs.take (hdr xs).len).drop (4 * (hdr xs).ihl))
set_option maxRecDepth 20000 in
set_option maxHeartbeats 8000000 in
theorem parse_ok (a : Option Addr) (len cap : Nat) (xs : List Nat) (w : World) (hr : RowB w a len cap xs) (hy : whyF xs = 0) :
 Calls Tryz.prog 77 #[.slice a len cap] w fun e w' => Parsed w w' xs e := by
 obtain ⟨z1, z2, z3, z4, z5, z6, z7⟩ := why_zero hy
 have hx := hr.1
 obtain ⟨b, off, rfl⟩ := hr.some (by omega)
 have HTy : RowKit.Hid ((Tryz.prog.info? 76).map (·.size) = some 11) := Lib.hid (by kernel_rfl)
 obtain ⟨W1, hW1⟩ : ∃ W1, w.alloc (.cells #[.int .i64 0, .int .i64 0, .int .i64 0, .int .i64 0, .int .i64 0, .int .i64 0, .int .i64 0, .int .i64 0, .int .i64 0, .int .u32 0, .int .u32 0] 76) = W1 := ⟨_, rfl⟩
 have t1 : Touch w W1 (fun _ => False) := hW1 ▸ (Touch.refl _ _).alloc _
 have hr1 := hr.touch t1 (fun _ _ => .inr (fun h => h))
 have H := Lib.hid (header_any (some ⟨b, off, none⟩) len cap xs W1 hr1)
 have hcap := hr.2.1
 have hb1 : 5 ≤ (hdr xs).ihl ∧ (hdr xs).ihl < 16 := ⟨z3, Nat.mod_lt _ (by omega)⟩
 have hb2 : 4 * (hdr xs).ihl ≤ (hdr xs).len := z6
 have hb3 : (hdr xs).len ≤ len := by rw [← hx]; exact z7
 have hb4 : (hdr xs).len < 65536 := by
  have := gb_lt xs hr.2.2.2.2.1 2
  have := gb_lt xs hr.2.2.2.2.1 3
  show gb xs 2 * 256 + gb xs 3 < 65536
  omega
 have hrb := hr1
 clear z1 z2 z3 z4 z5 z6 z7 hr
 rw [hy] at H
 generalize hH : hdr xs = h at *
 have HH := Lib.hid hH
 clear hH hy
 go_enter Tryz.func77, Tryz.ntmps77
 go_wp2_with fail
 refine H.out.mono ?_
 rintro e w2 ⟨h2, he, rfl, t2⟩
 obtain rfl := he (by simp)
 clear he H
 have T2 := t1.trans t2 (fun _ _ h => h)
 have HR2 := Lib.hid (t2.keeps (hW1 ▸ heap_alloc_new w _ : W1.heap[w.heap.size]? = _) (fun h => h))
 have hr2 := hrb.touch t2 (fun _ _ => .inr (fun h => h))
 obtain ⟨W3, hW3⟩ : ∃ W, w2.alloc (.cells (hcs h2) 76) = W := ⟨_, rfl⟩
 obtain ⟨B, hB⟩ : ∃ B, w2.heap.size = B := ⟨_, rfl⟩
 have t3 : Touch w2 W3 (fun _ => False) := hW3 ▸ (Touch.refl _ _).alloc _
 have HR3 := Lib.hid (t3.keeps HR2.out (fun h => h))
 have HB3 : RowKit.Hid (W3.heap[B]? = some (.cells (hcs h2) 76 (0, 0))) := Lib.hid (hB ▸ hW3 ▸ heap_alloc_new w2 _)
 have T3 := Lib.hid (T2.trans t3 (fun _ _ h => h))
 have hr3 := hr2.touch t3 (fun _ _ => .inr (fun h => h))
 clear t3 T2 t2 t1 hr2 HR2 hrb hr1
 simp only [hv, hcs] at hW3 ⊢
 go_wp2_with fail
 have hw1 : IntKind.i64.wrap (4 * (h2.ihl : Int)) = 4 * (h2.ihl : Int) := IntWalk.i64_in _ (by omega)
 have i1 : (0 : Int) ≤ 4 * (h2.ihl : Int) := by omega
 have i2 : 4 * (h2.ihl : Int) ≤ (h2.len : Int) := by omega
 have i3 : (h2.len : Int) ≤ (len : Int) := by omega
 have i4 : (h2.len : Int) ≤ (cap : Int) := by omega
 have e1 : (4 * (h2.ihl : Int)).toNat = 4 * h2.ihl := by omega
 have t6 := (Touch.refl W3 (fun _ => False)).drew
 obtain ⟨c0, c1, c2, c3, c4, c5, c6, c7, c8, c9, c10⟩ := hcells_of HB3.out
 have HB3 := Lib.hid (t6.keeps HB3.out (fun h => h))
 have HR3 := Lib.hid (t6.keeps HR3.out (fun h => h))
 have T3 := Lib.hid (T3.out.trans t6 (fun _ _ h => h))
 have hr3 := hr3.touch t6 (fun _ _ => .inr (fun h => h))
 clear t6
 have HX := Lib.hid hx
 clear hx hW3 hW1
 obtain ⟨A, C, hsl, hP⟩ := slice_lh (some ⟨b, off, none⟩) len cap (4 * (h2.ihl : Int)) (h2.len : Int) (4 * h2.ihl) h2.len (by omega) rfl (by omega) (by omega)
 have HP := Lib.hid hP
 clear hP
 go_region_with (first | (go_at_call 106; refine (clone_any _ _ _ _ _ (HP.out.row _ _ hr3 (by omega)) (by omega)).mono ?_; rintro e w8 ⟨a8, c8, rfl, hf8⟩; have t8 := hf8.2; have HR4 := HR3; have HB3 := Lib.hid (t8.keeps HB3.out (fun h => h)); have HR3 := Lib.hid (t8.keeps HR3.out (fun h => h)); have HF := Lib.hid hf8; obtain ⟨g0, g1, g2, g3, g4, g5, g6, g7, g8, g9, g10⟩ := hcells_of HB3.out; have f8 := free_of_cells HR3.out; obtain ⟨r0, r1, r2, r3, r4, r5, r6, r7, r8, r9, r10⟩ := hcells_of (h := hdr0) HR3.out; clear t8 hf8) | (go_at_call 107; refine (length_any _ (by omega) (by omega) _ _ _ _ _ _ _ _ _ _ _).mono ?_; rintro e w7 ⟨rfl, t7⟩; have HB3 := Lib.hid (t7.keeps HB3.out (fun h => h)); have HR3 := Lib.hid (t7.keeps HR3.out (fun h => h)); have T3 := Lib.hid (T3.out.trans t7 (fun _ _ h => h)); have hr3 := hr3.touch t7 (fun _ _ => .inr (fun h => h)); obtain ⟨d0, d1, d2, d3, d4, d5, d6, d7, d8, d9, d10⟩ := hcells_of HB3.out; clear t7))
 all_goals (
  go_wp2
  refine ret_row2 (by rfl) (by rfl) w.heap.size _ _ _ _ (by rfl) (by exact cellsH HR3.out _ _ _ _ _ _ _ _ _ _ _) Tryz.underlying76 rfl (by exact infoH) _ _ (by rfl) (by rfl) ?_
  refine ⟨a8, c8, ?_, ?_⟩
  ·rw [HH.out]; rfl
  ·rw [HH.out]
   exact HF.out.through T3.out (touchH _ _ _ _ _ _ _ _ _ _ _ _ _) (fun k hk => ⟨by omega, by have := heap_lt HR4.out; omega⟩))
end Go.Proofs.YtpjdcgjoepjmcaaGreat
