import Derived.Test.YtpjdcgjoepjmcaaGreatIpParseZ
import Derived.Test.YtpjdcgjoepjmcaaGreatGAZ
import Derived.Test.YtpjdcgjoepjmcaaGreatGBZ
import Derived.Deep.RegionHeld3
import Derived.Deep.DeepCutAuto
set_option linter.unusedVariables false
namespace Go.Proofs.YtpjdcgjoepjmcaaGreat
open Go.RowKit
theorem four_at (xs : List Nat) (h : 20 ≤ xs.length) : (xs.take 20).drop 12 = [gb xs 12, gb xs 13, gb xs 14, gb xs 15, gb xs 16, gb xs 17, gb xs 18, gb xs 19] := by
 rw [twenty xs h]; rfl
set_option maxRecDepth 20000 in
set_option maxHeartbeats 8000000 in
theorem rparse_short (a : Option Addr) (len cap : Nat) (xs : List Nat) (w : World) (hr : RowB w a len cap xs) (hl : len < 20) :
 Calls Tryz.prog 66 #[.slice a len cap] w fun e w' => e = .returned (.tuple #[hv hdr0, .slice none 0 0, .int .i64 1]) ∧ Touch w w' (fun _ => False) := by
 have hl' : (len : Int) < 20 := by omega
 have HR := Lib.hid ((Below.heap_alloc (w.alloc (.cells (hcs hdr0) 76)) (.cells (hcs hdr0) 76) w.heap.size (by simp)).trans (heap_alloc_new w (.cells (hcs hdr0) 76)))
 clear hr
 go_enter Tryz.func66, Tryz.ntmps66
 go_wp2
 refine ret_row2 (by rfl) (by rfl) w.heap.size _ _ _ _ (by rfl) (by exact HR.out) Tryz.underlying76 rfl (by exact infoH) _ _ (by rfl) (by rfl) ?_
 exact ⟨rfl, ((Touch.refl _ _).alloc _).alloc _⟩
def Begun (w : World) (xs : List Nat) (s : Value) (wx : World) : Prop :=
 ∃ B, s = .pointer (some ⟨B, 0, none⟩) ∧ wx.heap[B]? = some (.cells #[.int .i64 ((gb xs 0 : Int) % 16), .int .i64 (gb xs 1), .int .i64 ((gb xs 2 : Int) * 256 + gb xs 3), .int .i64 ((gb xs 4 : Int) * 256 + gb xs 5), .int .i64 ((gb xs 6 : Int) / 32), .int .i64 ((gb xs 6 : Int) % 32 * 256 + gb xs 7), .int .i64 (gb xs 8), .int .i64 (gb xs 9), .int .i64 ((gb xs 10 : Int) * 256 + gb xs 11), .int .u32 0, .int .u32 0] 76 (0, 0)) ∧ w.heap.size + 1 < B ∧ B < wx.heap.size ∧ Touch w wx (fun _ => False) ∧
   wx.heap[w.heap.size]? = some (.cells (hcs hdr0) 76 (0, 0)) ∧ wx.heap[w.heap.size + 1]? = some (.cells (hcs hdr0) 76 (0, 0))
theorem hcs_hdr (xs : List Nat) : hcs (hdr xs) = #[.int .i64 ((gb xs 0 : Int) % 16), .int .i64 (gb xs 1), .int .i64 ((gb xs 2 : Int) * 256 + gb xs 3), .int .i64 ((gb xs 4 : Int) * 256 + gb xs 5), .int .i64 ((gb xs 6 : Int) / 32), .int .i64 ((gb xs 6 : Int) % 32 * 256 + gb xs 7), .int .i64 (gb xs 8), .int .i64 (gb xs 9), .int .i64 ((gb xs 10 : Int) * 256 + gb xs 11), .int .u32 (beN [gb xs 12, gb xs 13, gb xs 14, gb xs 15] : Nat), .int .u32 (beN [gb xs 16, gb xs 17, gb xs 18, gb xs 19] : Nat)] := by
 simp [hcs, hdr]
theorem row12 {w : World} {b off len cap : Nat} {xs : List Nat} (h : RowB w (some ⟨b, off, none⟩) len cap xs) (hl : 20 ≤ len) : w.cell? ⟨b, off, none⟩ = some (.int .u8 (gb xs 0 : Nat)) ∧ w.cell? ⟨b, off + 1, none⟩ = some (.int .u8 (gb xs 1 : Nat)) ∧ w.cell? ⟨b, off + 2, none⟩ = some (.int .u8 (gb xs 2 : Nat)) ∧ w.cell? ⟨b, off + 3, none⟩ = some (.int .u8 (gb xs 3 : Nat)) ∧ w.cell? ⟨b, off + 4, none⟩ = some (.int .u8 (gb xs 4 : Nat)) ∧ w.cell? ⟨b, off + 5, none⟩ = some (.int .u8 (gb xs 5 : Nat)) ∧ w.cell? ⟨b, off + 6, none⟩ = some (.int .u8 (gb xs 6 : Nat)) ∧ w.cell? ⟨b, off + 7, none⟩ = some (.int .u8 (gb xs 7 : Nat)) ∧ w.cell? ⟨b, off + 8, none⟩ = some (.int .u8 (gb xs 8 : Nat)) ∧ w.cell? ⟨b, off + 9, none⟩ = some (.int .u8 (gb xs 9 : Nat)) ∧ w.cell? ⟨b, off + 10, none⟩ = some (.int .u8 (gb xs 10 : Nat)) ∧ w.cell? ⟨b, off + 11, none⟩ = some (.int .u8 (gb xs 11 : Nat)) :=
 ⟨h.gb 0 (by omega), h.gb 1 (by omega), h.gb 2 (by omega), h.gb 3 (by omega), h.gb 4 (by omega), h.gb 5 (by omega), h.gb 6 (by omega), h.gb 7 (by omega), h.gb 8 (by omega), h.gb 9 (by omega), h.gb 10 (by omega), h.gb 11 (by omega)⟩
set_option maxRecDepth 20000 in
set_option maxHeartbeats 16000000 in
theorem rparse_long (a : Option Addr) (len cap : Nat) (xs : List Nat) (w : World) (hr : RowB w a len cap xs) (hl : 20 ≤ len) (hlen : len ≤ 140737488351232) :
 Calls Tryz.prog 66 #[.slice a len cap] w fun e w' => (whyF xs ≠ 0 ∧ e = .returned (.tuple #[hv hdr0, .slice none 0 0, .int .i64 (whyF xs)]) ∧ Touch w w' (fun _ => False)) ∨ (whyF xs = 0 ∧ Parsed w w' xs e) := by
 have hx := hr.1
 have hcap := hr.2.1
 have hsm := hr.2.2.2.2.1
 have hl' : ¬ (len : Int) < 20 := by omega
 have hc20 : 20 ≤ cap := by omega
 have hc12 : ¬ cap = 12 := by omega
 obtain ⟨b, off, rfl⟩ := hr.some (by omega)
 have b0 := gb_lt xs hsm 0
 have b1 := gb_lt xs hsm 1
 have b2 := gb_lt xs hsm 2
 have b3 := gb_lt xs hsm 3
 have b4 := gb_lt xs hsm 4
 have b5 := gb_lt xs hsm 5
 have b6 := gb_lt xs hsm 6
 have b7 := gb_lt xs hsm 7
 have b8 := gb_lt xs hsm 8
 have b9 := gb_lt xs hsm 9
 have b10 := gb_lt xs hsm 10
 have b11 := gb_lt xs hsm 11
 have h15 : bits BinOp.and IntKind.u8 (gb xs 0 : Int) 15 = (gb xs 0 : Int) % 16 := mask_u8 _ 4 (by decide) 15 rfl (by omega) (by omega)
 have h31 : bits BinOp.and IntKind.u8 (gb xs 6 : Int) 31 = (gb xs 6 : Int) % 32 := mask_u8 _ 5 (by decide) 31 rfl (by omega) (by omega)
 have o23 : bits BinOp.or IntKind.i64 ((gb xs 2 : Int) * 256) (gb xs 3 : Int) = (gb xs 2 : Int) * 256 + gb xs 3 := or_i64 _ _ 8 (by omega) (by omega) (by omega) (by omega) (by omega) (by omega)
 have o45 : bits BinOp.or IntKind.i64 ((gb xs 4 : Int) * 256) (gb xs 5 : Int) = (gb xs 4 : Int) * 256 + gb xs 5 := or_i64 _ _ 8 (by omega) (by omega) (by omega) (by omega) (by omega) (by omega)
 have o67 : bits BinOp.or IntKind.i64 ((gb xs 6 : Int) % 32 * 256) (gb xs 7 : Int) = (gb xs 6 : Int) % 32 * 256 + gb xs 7 := or_i64 _ _ 8 (by omega) (by omega) (by omega) (by omega) (by omega) (by omega)
 have oab : bits BinOp.or IntKind.i64 ((gb xs 10 : Int) * 256) (gb xs 11 : Int) = (gb xs 10 : Int) * 256 + gb xs 11 := or_i64 _ _ 8 (by omega) (by omega) (by omega) (by omega) (by omega) (by omega)
 have HR := Lib.hid hr
 have HX := Lib.hid hx
 clear hr hx hsm
 go_enter Tryz.func66, Tryz.ntmps66
 go_upto_region 4 with fail
 obtain ⟨W3, hW3⟩ : ∃ W, (w.alloc (.cells (hcs hdr0) 76)).alloc (.cells (hcs hdr0) 76) = W := ⟨_, rfl⟩
 have T3 : Touch w W3 (fun _ => False) := hW3 ▸ ((Touch.refl _ _).alloc _).alloc _
 have hr3 := HR.out.touch T3 (fun _ _ => .inr (fun h => h))
 have hsz : W3.heap.size = w.heap.size + 1 + 1 := by rw [← hW3]; simp
 have HSZ := Lib.hid hsz
 have hR3 : W3.heap[w.heap.size]? = some (.cells (hcs hdr0) 76 (0, 0)) := hW3 ▸ (Below.heap_alloc (w.alloc (.cells (hcs hdr0) 76)) (.cells (hcs hdr0) 76) w.heap.size (by simp)).trans (heap_alloc_new w (.cells (hcs hdr0) 76))
 have hN3 : W3.heap[w.heap.size + 1]? = some (.cells (hcs hdr0) 76 (0, 0)) := hW3 ▸ heap_alloc2_new w _ _
 have HR3 := Lib.hid hR3
 have HN3 := Lib.hid hN3
 have HT3 := Lib.hid T3
 have HRW := Lib.hid hr3
 obtain ⟨c0, c1, c2, c3, c4, c5, c6, c7, c8, c9, c10, c11⟩ := row12 hr3 hl
 clear hr3 hsz hR3 hN3 T3
 simp only [hcs, hdr0, Int.natCast_zero] at hW3
 rw [hW3]
 go_cut [6] (fun s6 wx => Begun w xs s6 wx)
 case first =>
  go_wp2_with fail
  have w0 : IntKind.i64.wrap ((gb xs 0 : Int) % 16) = (gb xs 0 : Int) % 16 := IntWalk.i64_in _ (by omega)
  have w1 : IntKind.i64.wrap ((gb xs 1 : Int)) = (gb xs 1 : Int) := IntWalk.i64_in _ (by omega)
  have w2 : IntKind.i64.wrap ((gb xs 2 : Int)) = (gb xs 2 : Int) := IntWalk.i64_in _ (by omega)
  have w3 : IntKind.i64.wrap ((gb xs 3 : Int)) = (gb xs 3 : Int) := IntWalk.i64_in _ (by omega)
  have w4 : IntKind.i64.wrap ((gb xs 4 : Int)) = (gb xs 4 : Int) := IntWalk.i64_in _ (by omega)
  have w5 : IntKind.i64.wrap ((gb xs 5 : Int)) = (gb xs 5 : Int) := IntWalk.i64_in _ (by omega)
  have w6 : IntKind.i64.wrap ((gb xs 7 : Int)) = (gb xs 7 : Int) := IntWalk.i64_in _ (by omega)
  have w7 : IntKind.i64.wrap ((gb xs 8 : Int)) = (gb xs 8 : Int) := IntWalk.i64_in _ (by omega)
  have w8 : IntKind.i64.wrap ((gb xs 9 : Int)) = (gb xs 9 : Int) := IntWalk.i64_in _ (by omega)
  have w9 : IntKind.i64.wrap ((gb xs 10 : Int)) = (gb xs 10 : Int) := IntWalk.i64_in _ (by omega)
  have w10 : IntKind.i64.wrap ((gb xs 11 : Int)) = (gb xs 11 : Int) := IntWalk.i64_in _ (by omega)
  have w11 : IntKind.i64.wrap ((gb xs 2 : Int) * 256) = (gb xs 2 : Int) * 256 := IntWalk.i64_in _ (by omega)
  have w12 : IntKind.i64.wrap ((gb xs 4 : Int) * 256) = (gb xs 4 : Int) * 256 := IntWalk.i64_in _ (by omega)
  have w13 : IntKind.i64.wrap ((gb xs 10 : Int) * 256) = (gb xs 10 : Int) * 256 := IntWalk.i64_in _ (by omega)
  have w14 : IntKind.i64.wrap ((gb xs 6 : Int) / 32) = (gb xs 6 : Int) / 32 := IntWalk.i64_in _ (by omega)
  have w15 : IntKind.i64.wrap ((gb xs 6 : Int) % 32) = (gb xs 6 : Int) % 32 := IntWalk.i64_in _ (by omega)
  have w16 : IntKind.i64.wrap ((gb xs 6 : Int) % 32 * 256) = (gb xs 6 : Int) % 32 * 256 := IntWalk.i64_in _ (by omega)
  have i0 : 0 < len := by omega
  have i1 : (1 : Int) < (len : Int) := by omega
  have i2 : (2 : Int) < (len : Int) := by omega
  have i3 : (3 : Int) < (len : Int) := by omega
  have i4 : (4 : Int) < (len : Int) := by omega
  have i5 : (5 : Int) < (len : Int) := by omega
  have i6 : (6 : Int) < (len : Int) := by omega
  have i7 : (7 : Int) < (len : Int) := by omega
  have i8 : (8 : Int) < (len : Int) := by omega
  have i9 : (9 : Int) < (len : Int) := by omega
  have i10 : (10 : Int) < (len : Int) := by omega
  have i11 : (11 : Int) < (len : Int) := by omega
  go_region_held3 (fun w' => w'.cell? ⟨b, off, none⟩ = some (.int .u8 (gb xs 0 : Nat)) ∧ w'.cell? ⟨b, off + 1, none⟩ = some (.int .u8 (gb xs 1 : Nat)) ∧ w'.cell? ⟨b, off + 2, none⟩ = some (.int .u8 (gb xs 2 : Nat)) ∧ w'.cell? ⟨b, off + 3, none⟩ = some (.int .u8 (gb xs 3 : Nat)) ∧ w'.cell? ⟨b, off + 4, none⟩ = some (.int .u8 (gb xs 4 : Nat)) ∧ w'.cell? ⟨b, off + 5, none⟩ = some (.int .u8 (gb xs 5 : Nat)) ∧ w'.cell? ⟨b, off + 6, none⟩ = some (.int .u8 (gb xs 6 : Nat)) ∧ w'.cell? ⟨b, off + 7, none⟩ = some (.int .u8 (gb xs 7 : Nat)) ∧ w'.cell? ⟨b, off + 8, none⟩ = some (.int .u8 (gb xs 8 : Nat)) ∧ w'.cell? ⟨b, off + 9, none⟩ = some (.int .u8 (gb xs 9 : Nat)) ∧ w'.cell? ⟨b, off + 10, none⟩ = some (.int .u8 (gb xs 10 : Nat)) ∧ w'.cell? ⟨b, off + 11, none⟩ = some (.int .u8 (gb xs 11 : Nat))) (first | go_keep | exact row12 (HRW.out.touch (((Touch.refl _ (fun _ => False)).alloc _).drew) (fun _ _ => .inr (fun h => h))) hl) (first | fail)
  go_wp2_with fail
  go_meet
  have e : ∀ o : Obj, ((W3.alloc o).drew).heap[W3.heap.size]? = some o := fun o => heap_alloc_new W3 o
  have t5 := ((Touch.refl W3 (fun _ => False)).alloc (.cells #[.int .i64 ((gb xs 0 : Int) % 16), .int .i64 (gb xs 1), .int .i64 ((gb xs 2 : Int) * 256 + gb xs 3), .int .i64 ((gb xs 4 : Int) * 256 + gb xs 5), .int .i64 ((gb xs 6 : Int) / 32), .int .i64 ((gb xs 6 : Int) % 32 * 256 + gb xs 7), .int .i64 (gb xs 8), .int .i64 (gb xs 9), .int .i64 ((gb xs 10 : Int) * 256 + gb xs 11), .int .u32 0, .int .u32 0] 76)).drew
  have hs := HSZ.out
  refine ⟨W3.heap.size, rfl, e _, by omega, by simp, HT3.out.trans t5 (fun _ _ h => h), t5.keeps HR3.out (fun h => h), t5.keeps HN3.out (fun h => h)⟩
 case rest =>
  obtain ⟨B, rfl, hB, hB1, hB2, T4, hR4, hN4⟩ := hcut
  clear h15 h31 o23 o45 o67 oab b1 b4 b5 b6 b7 b8 b9 b10 b11
  have hr4 := HR.out.touch T4 (fun _ _ => .inr (fun h => h))
  have hrow8 := (hr4.take 20 hl).dropNe 12 (by omega) hc12
  rw [four_at xs (by rw [HX.out]; exact hl)] at hrow8
  have HB := Lib.hid hB
  have HR4 := Lib.hid hR4
  have HN4 := Lib.hid hN4
  have T4 := Lib.hid T4
  have HRW := Lib.hid hr4
  have HROW := Lib.hid hrow8
  clear hB hR4 hN4 hr4 hrow8
  go_wp2_with fail
  obtain ⟨M, hM⟩ : ∃ M, wc.heap.size = M := ⟨_, rfl⟩
  obtain ⟨W5, hW5⟩ : ∃ W, wc.alloc (.cells #[.slice (some ⟨b, off + 12, none⟩) 8 (cap - 12), .int .i64 0] 162) = W := ⟨_, rfl⟩
  have t5 : Touch wc W5 (fun _ => False) := hW5 ▸ (Touch.refl _ _).alloc _
  have hM5 : W5.heap[M]? = some (.cells #[.slice (some ⟨b, off + 12, none⟩) 8 (cap - 12), .int .i64 0] 162 (0, 0)) := hM ▸ hW5 ▸ heap_alloc_new wc _
  have hbM : b < wc.heap.size := by
   rcases HROW.out.lt _ rfl with h | h
   ·omega
   ·exact h
  have hrf : Rf W5 M M [gb xs 12, gb xs 13, gb xs 14, gb xs 15, gb xs 16, gb xs 17, gb xs 18, gb xs 19] 0 :=
   ⟨_, _, ⟨hM5, HROW.out.touch t5 (fun _ _ => .inr (fun h => h)), fun x hx => by cases hx; right; show b ≠ M; omega⟩, fun x hx => by cases hx; right; show b ≠ M; omega⟩
  rw [hM, hW5]
  have HB := Lib.hid (t5.keeps HB.out (fun h => h))
  have HR4 := Lib.hid (t5.keeps HR4.out (fun h => h))
  have HN4 := Lib.hid (t5.keeps HN4.out (fun h => h))
  have T4 := Lib.hid (T4.out.trans t5 (fun _ _ h => h))
  have HRW := Lib.hid (HRW.out.touch t5 (fun _ _ => .inr (fun h => h)))
  have hMB : B ≠ M := by omega
  have hMR : w.heap.size ≠ M := by omega
  have hMN : w.heap.size + 1 ≠ M := by omega
  have hMw : ∀ k, k < w.heap.size → k = M → False := fun k h1 h2 => by omega
  clear HROW hW5 hM5 t5
  refine (rf_U32 M M _ 0 _ hrf (.inl rfl) (by simp)).mono ?_
  rintro e w6 ⟨rfl, hrf6, t6⟩
  go_wp2_with fail
  refine (rf_U32 M M _ _ _ hrf6 (.inl rfl) (by simp [nxtX])).mono ?_
  rintro e w7 ⟨rfl, hrf7, t7⟩
  have e1 : valN 4 [gb xs 12, gb xs 13, gb xs 14, gb xs 15, gb xs 16, gb xs 17, gb xs 18, gb xs 19] = beN [gb xs 12, gb xs 13, gb xs 14, gb xs 15] := rfl
  have e2 : valN 4 (nxtX 4 [gb xs 12, gb xs 13, gb xs 14, gb xs 15, gb xs 16, gb xs 17, gb xs 18, gb xs 19]) = beN [gb xs 16, gb xs 17, gb xs 18, gb xs 19] := rfl
  rw [e2]
  have t67 := t6.trans t7 (fun _ _ h => h)
  have hB7 := t67.keeps HB.out hMB
  have HR4 := Lib.hid (t67.keeps HR4.out hMR)
  have HN4 := Lib.hid (t67.keeps HN4.out hMN)
  have T4 := Lib.hid (T4.out.trans t67 hMw)
  have HRW := Lib.hid (HRW.out.touch t67 (fun x hx => by cases hx; right; show b ≠ M; omega))
  have f7 := free_of_cells hB7
  have c9 := cell_of_cells hB7 9
  have c10 := cell_of_cells hB7 10
  simp at c9 c10
  obtain ⟨W8, hW8⟩ : ∃ W, (w7.setCell ⟨B, 9, none⟩ (.int .u32 (beN [gb xs 12, gb xs 13, gb xs 14, gb xs 15] : Nat))).setCell ⟨B, 10, none⟩ (.int .u32 (beN [gb xs 16, gb xs 17, gb xs 18, gb xs 19] : Nat)) = W := ⟨_, rfl⟩
  have hB8 := heap_setCell_same _ B 10 _ _ (.int .u32 (beN [gb xs 16, gb xs 17, gb xs 18, gb xs 19] : Nat)) (heap_setCell_same w7 B 9 _ _ (.int .u32 (beN [gb xs 12, gb xs 13, gb xs 14, gb xs 15] : Nat)) hB7)
  have t8 : Touch w7 W8 (fun k => k = B) := hW8 ▸ ((Touch.refl _ _).into 9 _).into 10 _
  rw [hW8] at hB8
  have hB9 : W8.heap[B]? = some (.cells (hcs (hdr xs)) 76 (0, 0)) := by rw [hcs_hdr]; simpa using hB8
  have HR4 := Lib.hid (t8.keeps HR4.out (by omega))
  have HN4 := Lib.hid (t8.keeps HN4.out (by omega))
  have T4 := Lib.hid (T4.out.trans t8 (fun k h1 h2 => by have : k = B := h2; omega))
  have hbB : b ≠ B := fun h => by
   rcases HR.out.lt _ rfl with h9 | h9
   ·omega
   ·have h9 : b < w.heap.size := h9
    omega
  have HRW := Lib.hid (HRW.out.touch t8 (fun x hx => by cases hx; right; exact hbB))
  have HB := Lib.hid hB9
  have hi1 : (hdr xs).ihl = gb xs 0 % 16 := rfl
  have hi2 : (hdr xs).len = gb xs 2 * 256 + gb xs 3 := rfl
  have HI1 := Lib.hid hi1
  have HI2 := Lib.hid hi2
  have hb1 : (hdr xs).ihl < 16 := by omega
  have hb2 : (hdr xs).len < 65536 := by omega
  clear hi1 hi2 hB8 hB9 hB7 t67 t6 t7 t8 hrf hrf6 hrf7 hbB
  generalize hH : hdr xs = h at *
  have HH := Lib.hid hH
  clear hH
  obtain ⟨cB0, -, cB2, -⟩ := hcells_of HB.out
  have c0 := HRW.out.gb 0 (by omega)
  simp only [Nat.add_zero] at c0
  have hw1 : IntKind.i64.wrap (4 * (h.ihl : Int)) = 4 * (h.ihl : Int) := IntWalk.i64_in _ (by omega)
  go_wp2_with (first
   | (go_at_call 98; refine (rnet_any _ _ _ (xs.take (4 * h.ihl)) _ (HRW.out.take _ (by omega))).mono ?_; rintro e w9 ⟨rfl, n9, rfl⟩; have t9 := (Touch.refl W8 (fun _ => False)).drewN n9; have HB := Lib.hid (t9.keeps HB.out (fun h => h)); have HR4 := Lib.hid (t9.keeps HR4.out (fun h => h)); have HN4 := Lib.hid (t9.keeps HN4.out (fun h => h)); have T4 := Lib.hid (T4.out.trans t9 (fun _ _ h => h)); have HRW := Lib.hid (HRW.out.touch t9 (fun _ _ => .inr (fun h => h))); clear t9)
   | (refine wpList_load_row rfl 76 (.tmp 5) rfl (w.heap.size + 1) rfl _ _ _ _ HN4.out Tryz.underlying76 rfl infoH ?_)
   | (refine store_row rfl 76 (.tmp 2) (.tmp 97) rfl w.heap.size _ rfl rfl _ _ HR4.out infoH rfl rfl ?_) | (refine store_row rfl 76 (.tmp 2) (.tmp 102) rfl w.heap.size _ rfl rfl _ _ HR4.out infoH rfl rfl ?_) | (refine store_row rfl 76 (.tmp 2) (.tmp 108) rfl w.heap.size _ rfl rfl _ _ HR4.out infoH rfl rfl ?_) | (refine store_row rfl 76 (.tmp 2) (.tmp 115) rfl w.heap.size _ rfl rfl _ _ HR4.out infoH rfl rfl ?_) | (refine store_row rfl 76 (.tmp 2) (.tmp 121) rfl w.heap.size _ rfl rfl _ _ HR4.out infoH rfl rfl ?_) | (refine store_row rfl 76 (.tmp 2) (.tmp 128) rfl w.heap.size _ rfl rfl _ _ HR4.out infoH rfl rfl ?_))
  all_goals (try (
   have hlx : 20 ≤ xs.length := by rw [HX.out]; exact hl
   have hx := HX.out
   have i1 := HI1.out
   have i2 := HI2.out
   refine ret_row2 (by rfl) (by rfl) w.heap.size _ _ _ _ (by rfl) (by exact setRow_heap _ _ _ _ _ _ HR4.out) Tryz.underlying76 rfl (by exact infoH) _ _ (by rfl) (by rfl) ?_
   left
   refine ⟨?_, ?_, T4.out.setRow _ _ (fun h => absurd h (Nat.lt_irrefl _))⟩
   ·first
     | (rw [why_version hlx (by assumption)]; decide)
     | (rw [why_header hlx (by assumption) _ i1 (by assumption)]; decide)
     | (rw [why_short2 hlx (by assumption) _ i1 (by assumption) (by rw [hx]; assumption)]; decide)
     | (rw [why_sum hlx (by assumption) _ i1 (by assumption) (by rw [hx]; assumption) (by assumption)]; decide)
     | (rw [why_header2 hlx (by assumption) _ _ i1 i2 (by assumption) (by rw [hx]; assumption) (by assumption) (by omega)]; decide)
     | (rw [why_length hlx (by assumption) _ _ i1 i2 (by assumption) (by rw [hx]; assumption) (by assumption) (by omega) (by omega)]; decide)
   ·first
     | (rw [why_version hlx (by assumption)]; rfl)
     | (rw [why_header hlx (by assumption) _ i1 (by assumption)]; rfl)
     | (rw [why_short2 hlx (by assumption) _ i1 (by assumption) (by rw [hx]; assumption)]; rfl)
     | (rw [why_sum hlx (by assumption) _ i1 (by assumption) (by rw [hx]; assumption) (by assumption)]; rfl)
     | (rw [why_header2 hlx (by assumption) _ _ i1 i2 (by assumption) (by rw [hx]; assumption) (by assumption) (by omega)]; rfl)
     | (rw [why_length hlx (by assumption) _ _ i1 i2 (by assumption) (by rw [hx]; assumption) (by assumption) (by omega) (by omega)]; rfl)))
  have h4v : ((gb xs 0 : Int) / 16 != 4) = false := by assumption
  have h5v : 5 ≤ (h.ihl : Int) := by assumption
  have h6v : 4 * (h.ihl : Int) ≤ (len : Int) := by assumption
  have h7v : (netF (xs.take (4 * h.ihl)) != 0) = false := by assumption
  have h8v : 4 * (h.ihl : Int) ≤ (h.len : Int) := by assumption
  have h9v : (h.len : Int) ≤ (len : Int) := by omega
  clear cB0 cB2 c0
  generalize W8.drewN n9 = W10 at *
  have hwhy := why_ok (xs := xs) (by rw [HX.out]; exact hl) h4v _ _ HI1.out HI2.out h5v (by rw [HX.out]; exact h6v) h7v h8v (by rw [HX.out]; exact h9v)
  have HWHY := Lib.hid hwhy
  have t6 := (Touch.refl W10 (fun _ => False)).drew
  obtain ⟨c0, c1, c2, c3, c4, c5, c6, c7, c8, c9, c10⟩ := hcells_of HB.out
  have HB := Lib.hid (t6.keeps HB.out (fun h => h))
  have HR4 := Lib.hid (t6.keeps HR4.out (fun h => h))
  have T4 := Lib.hid (T4.out.trans t6 (fun _ _ h => h))
  have HRW := Lib.hid (HRW.out.touch t6 (fun _ _ => .inr (fun h => h)))
  obtain ⟨A, C, hsl, hP⟩ := slice_lh (some ⟨b, off, none⟩) len cap (4 * (h.ihl : Int)) (h.len : Int) (4 * h.ihl) h.len (by omega) rfl (by omega) (by omega)
  have HP := Lib.hid hP
  have hzl : ([] ++ (xs.take h.len).drop (4 * h.ihl)).length = h.len - 4 * h.ihl := by simp [HX.out]; omega
  have HZ := Lib.hid hzl
  have hRl := heap_lt HR4.out
  clear h4v h7v t6 hP hwhy hzl
  go_region_law (refine step_appendB rfl _ _ 38 rfl 5 Tryz.underlying38 infoB w.heap.size (.slice none 0 0) [] rfl (OwnB.nil _ _ _) _ _ _ ((xs.take h.len).drop (4 * h.ihl)) rfl (HP.out.row _ _ HRW.out (by omega)) _ _ rfl HZ.out (by omega) T4.out.size ?_; intro a9 c9' w11 hown hrow hg hpl; have t11 := (Touch.refl _ (fun _ => False)).grown hg (fun k h _ => by simp [Value.ownBlock] at h); have HB := Lib.hid (t11.keeps HB.out (fun h => h)); have HR4 := Lib.hid (t11.keeps HR4.out (fun h => h)); have T5 := Lib.hid (T4.out.trans t11 (fun _ _ h => h)); have HO := Lib.hid hown; obtain ⟨g0, g1, g2, g3, g4, g5, g6, g7, g8, g9, g10⟩ := hcells_of HB.out; have f8 := free_of_cells HR4.out; obtain ⟨r0, r1, r2, r3, r4, r5, r6, r7, r8, r9, r10⟩ := hcells_of (h := hdr0) HR4.out; have HPL := Lib.hid hpl; clear hown hrow hg hpl t11)
  all_goals (
   go_wp2
   refine ret_row2 (by rfl) (by rfl) w.heap.size _ _ _ _ (by rfl) (by exact cellsH HR4.out _ _ _ _ _ _ _ _ _ _ _) Tryz.underlying76 rfl (by exact infoH) _ _ (by rfl) (by rfl) ?_
   right
   refine ⟨HWHY.out, a9, c9', ?_, ?_⟩
   ·rw [HH.out]; rfl
   ·rw [HH.out]
    have tH := touchH w11 w.heap.size (.int .i64 (h.ihl : Nat)) (.int .i64 (h.tos : Nat)) (.int .i64 (h.len : Nat)) (.int .i64 (h.id : Nat)) (.int .i64 (h.flags : Nat)) (.int .i64 (h.off : Nat)) (.int .i64 (h.ttl : Nat)) (.int .i64 (h.proto : Nat)) (.int .i64 (h.sum : Nat)) (.int .u32 (h.src : Nat)) (.int .u32 (h.dst : Nat))
    refine ⟨HO.out.touch tH (fun k hk he => ?_), T5.out.trans tH (fun k h1 h2 => by have : k = w.heap.size := h2; omega)⟩
    rcases HPL.out k hk with h0 | h0
    ·simp [Value.ownBlock] at h0
    ·have : k = w.heap.size := he
     omega)
end Go.Proofs.YtpjdcgjoepjmcaaGreat
