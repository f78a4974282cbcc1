/- What the first bytes of a header say. -/
import Derived.Test.YthjdebcjfpokoaaIpRd
import Derived.Test.YthjdebcjfpokoaaBits
set_option linter.unusedVariables false
namespace Go.Proofs.Ythjdebcjfpokoaa
open Go.RowKit

/-- A header's parts. -/
structure Hdr where
  ihl : Nat
  tos : Nat
  len : Nat
  id : Nat
  flags : Nat
  off : Nat
  ttl : Nat
  proto : Nat
  sum : Nat
  src : Nat
  dst : Nat
/-- .. as the program has them. -/
def hv (h : Hdr) : Value := .agg #[.int .i64 (h.ihl : Nat), .int .i64 (h.tos : Nat), .int .i64 (h.len : Nat), .int .i64 (h.id : Nat), .int .i64 (h.flags : Nat), .int .i64 (h.off : Nat), .int .i64 (h.ttl : Nat), .int .i64 (h.proto : Nat), .int .i64 (h.sum : Nat), .int .u32 (h.src : Nat), .int .u32 (h.dst : Nat)]
/-- A header's cells. -/
def hcs (h : Hdr) : Array Value := #[.int .i64 (h.ihl : Nat), .int .i64 (h.tos : Nat), .int .i64 (h.len : Nat), .int .i64 (h.id : Nat), .int .i64 (h.flags : Nat), .int .i64 (h.off : Nat), .int .i64 (h.ttl : Nat), .int .i64 (h.proto : Nat), .int .i64 (h.sum : Nat), .int .u32 (h.src : Nat), .int .u32 (h.dst : Nat)]
theorem infoH : (Try.prog.info? 24).map (·.size) = some 11 := by kernel_rfl
/-- A header in block B is read whole. -/
theorem loadH {w : World} {B : Nat} {h : Hdr} (hb : w.heap[B]? = some (.cells (hcs h) 24 (0, 0))) :
    (Instr.loadAt 24 (.pointer (some ⟨B, 0, none⟩))).run Try.prog w = .ok (.agg #[.int .i64 (h.ihl : Nat), .int .i64 (h.tos : Nat), .int .i64 (h.len : Nat), .int .i64 (h.id : Nat), .int .i64 (h.flags : Nat), .int .i64 (h.off : Nat), .int .i64 (h.ttl : Nat), .int .i64 (h.proto : Nat), .int .i64 (h.sum : Nat), .int .u32 (h.src : Nat), .int .u32 (h.dst : Nat)]) w :=
  load_at (cs := hcs h) hb Try.underlying24 rfl infoH
/-- .. is written whole. -/
theorem storeH {w : World} {B : Nat} {old : Array Value} (hb : w.heap[B]? = some (.cells old 24 (0, 0))) (ho : old.size = 11) (x0 x1 x2 x3 x4 x5 x6 x7 x8 x9 x10 : Int) :
    (Instr.storeAt 24 (.pointer (some ⟨B, 0, none⟩)) (.agg #[.int .i64 x0, .int .i64 x1, .int .i64 x2, .int .i64 x3, .int .i64 x4, .int .i64 x5, .int .i64 x6, .int .i64 x7, .int .i64 x8, .int .u32 x9, .int .u32 x10])).run Try.prog w =
      .ok () (w.setRow B #[.int .i64 x0, .int .i64 x1, .int .i64 x2, .int .i64 x3, .int .i64 x4, .int .i64 x5, .int .i64 x6, .int .i64 x7, .int .i64 x8, .int .u32 x9, .int .u32 x10]) :=
  store_at hb infoH ho rfl
/-- .. cell by cell. -/
theorem cellsH {w : World} {B : Nat} {o0 o1 o2 o3 o4 o5 o6 o7 o8 o9 o10 : Value} {T : TypeId} (hb : w.heap[B]? = some (.cells #[o0, o1, o2, o3, o4, o5, o6, o7, o8, o9, o10] T (0, 0))) (v0 v1 v2 v3 v4 v5 v6 v7 v8 v9 v10 : Value) :
    (((((((((((w.setCell ⟨B, 0, none⟩ v0).setCell ⟨B, 1, none⟩ v1).setCell ⟨B, 2, none⟩ v2).setCell ⟨B, 3, none⟩ v3).setCell ⟨B, 4, none⟩ v4).setCell ⟨B, 5, none⟩ v5).setCell ⟨B, 6, none⟩ v6).setCell ⟨B, 7, none⟩ v7).setCell ⟨B, 8, none⟩ v8).setCell ⟨B, 9, none⟩ v9).setCell ⟨B, 10, none⟩ v10).heap[B]? = some (.cells #[v0, v1, v2, v3, v4, v5, v6, v7, v8, v9, v10] T (0, 0)) := by
  have := (heap_setCell_same _ B 10 _ _ v10 (heap_setCell_same _ B 9 _ _ v9 (heap_setCell_same _ B 8 _ _ v8 (heap_setCell_same _ B 7 _ _ v7 (heap_setCell_same _ B 6 _ _ v6 (heap_setCell_same _ B 5 _ _ v5 (heap_setCell_same _ B 4 _ _ v4 (heap_setCell_same _ B 3 _ _ v3 (heap_setCell_same _ B 2 _ _ v2 (heap_setCell_same _ B 1 _ _ v1 (heap_setCell_same _ B 0 _ _ v0 hb)))))))))))
  simpa using this
theorem touchH (w : World) (B : Nat) (v0 v1 v2 v3 v4 v5 v6 v7 v8 v9 v10 : Value) : Touch w (((((((((((w.setCell ⟨B, 0, none⟩ v0).setCell ⟨B, 1, none⟩ v1).setCell ⟨B, 2, none⟩ v2).setCell ⟨B, 3, none⟩ v3).setCell ⟨B, 4, none⟩ v4).setCell ⟨B, 5, none⟩ v5).setCell ⟨B, 6, none⟩ v6).setCell ⟨B, 7, none⟩ v7).setCell ⟨B, 8, none⟩ v8).setCell ⟨B, 9, none⟩ v9).setCell ⟨B, 10, none⟩ v10) (fun k => k = B) := by
  have h := Touch.refl w (fun k => k = B)
  exact (((((((((((h.into 0 v0).into 1 v1).into 2 v2).into 3 v3).into 4 v4).into 5 v5).into 6 v6).into 7 v7).into 8 v8).into 9 v9).into 10 v10)
/-- The header that bytes say. -/
def hdr (xs : List Nat) : Hdr := ⟨gb xs 0 % 16, gb xs 1, gb xs 2 * 256 + gb xs 3, gb xs 4 * 256 + gb xs 5, gb xs 6 / 32, gb xs 6 % 32 * 256 + gb xs 7, gb xs 8, gb xs 9, gb xs 10 * 256 + gb xs 11, beN [gb xs 12, gb xs 13, gb xs 14, gb xs 15], beN [gb xs 16, gb xs 17, gb xs 18, gb xs 19]⟩
theorem twenty (xs : List Nat) (h : 20 ≤ xs.length) : xs.take 20 = [gb xs 0, gb xs 1, gb xs 2, gb xs 3, gb xs 4, gb xs 5, gb xs 6, gb xs 7, gb xs 8, gb xs 9, gb xs 10, gb xs 11, gb xs 12, gb xs 13, gb xs 14, gb xs 15, gb xs 16, gb xs 17, gb xs 18, gb xs 19] := take_gb xs 20 h
theorem and15 (x : Nat) : bits BinOp.and IntKind.i64 (x : Int) 15 = ((x % 16 : Nat) : Int) := by
  rw [mask_i64 _ 4 (by decide) 15 rfl]; omega
theorem and8191 (x : Nat) : bits BinOp.and IntKind.i64 (x : Int) 8191 = ((x % 8192 : Nat) : Int) := by
  rw [mask_i64 _ 13 (by decide) 8191 rfl]; omega

set_option maxHeartbeats 2000000 in
theorem fields_any (a : Option Addr) (len cap : Nat) (xs : List Nat) (w : World) (hr : RowB w a len cap xs) (hl : 20 ≤ len) :
    Calls Try.prog 53 #[.slice a len cap] w fun e w' => e = .returned (hv (hdr xs)) ∧ Touch w w' (fun _ => False) := by
  have hx := hr.1
  have hcap := hr.2.1
  have hsm := hr.2.2.2.2.1
  have b0 := gb_lt xs hsm 0
  have b7 := gb_lt xs hsm 7
  have h15 := and15 (gb xs 0)
  obtain ⟨W1, hW1⟩ : ∃ W1, w.alloc (.cells #[.int .i64 0, .int .i64 0, .int .i64 0, .int .i64 0, .int .i64 0, .int .i64 0, .int .i64 0, .int .i64 0, .int .i64 0, .int .u32 0, .int .u32 0] 24) = W1 := ⟨_, rfl⟩
  have t1 : Touch w W1 (fun _ => False) := hW1 ▸ (Touch.refl _ _).alloc _
  have hrt := (hr.take 20 hl).touch t1 (fun _ _ => .inr (fun h => h))
  rw [twenty xs (by omega)] at hrt
  have HH : RowKit.Hid (hdr xs = ⟨gb xs 0 % 16, gb xs 1, gb xs 2 * 256 + gb xs 3, gb xs 4 * 256 + gb xs 5, gb xs 6 / 32, gb xs 6 % 32 * 256 + gb xs 7, gb xs 8, gb xs 9, gb xs 10 * 256 + gb xs 11, beN [gb xs 12, gb xs 13, gb xs 14, gb xs 15], beN [gb xs 16, gb xs 17, gb xs 18, gb xs 19]⟩) := Lib.hid rfl
  have H := Lib.hid (newreader_any a 20 cap _ W1 hrt (by omega))
  clear hr hrt hx hsm
  have hc20 : 20 ≤ cap := by omega
  go_enter Try.func53, Try.ntmps53
  go_wp2_with fail
  refine H.out.mono ?_
  rintro e w2 ⟨v, rfl, hnew⟩
  obtain ⟨G, rfl, hrd2, t2, hG⟩ := hnew.rdE
  clear hnew H
  have t2' : Touch w w2 (fun _ => False) := t1.trans t2 (fun _ _ h => h)
  go_wp2_with fail
  refine (e_U8 G _ _ _ _ _ hrd2).mono ?_
  rintro e w3 ⟨rfl, hrd3, t3⟩
  go_wp2_with fail
  refine (e_U8 G _ _ _ _ _ hrd3).mono ?_
  rintro e w4 ⟨rfl, hrd4, t4⟩
  go_wp2_with fail
  refine (e_U16 G _ _ _ _ _ _ hrd4).mono ?_
  rintro e w5 ⟨rfl, hrd5, t5⟩
  go_wp2_with fail
  refine (e_U16 G _ _ _ _ _ _ hrd5).mono ?_
  rintro e w6 ⟨rfl, hrd6, t6⟩
  go_wp2_with fail
  have t6' : Touch w2 w6 (fun k => k = G) := ((t3.trans t4 (fun _ _ h => h)).trans t5 (fun _ _ h => h)).trans t6 (fun _ _ h => h)
  obtain ⟨W7, hW7⟩ : ∃ W7, w6.alloc (.cells #[.int .i64 ((gb xs 0 : Int) % 16), .int .i64 (gb xs 1), .int .i64 ((gb xs 2 : Int) * 256 + gb xs 3), .int .i64 ((gb xs 4 : Int) * 256 + gb xs 5), .int .i64 0, .int .i64 0, .int .i64 0, .int .i64 0, .int .i64 0, .int .u32 0, .int .u32 0] 24) = W7 := ⟨_, rfl⟩
  have t7 : Touch w6 W7 (fun _ => False) := hW7 ▸ (Touch.refl _ _).alloc _
  have hB7 : W7.heap[w6.heap.size]? = some (.cells #[.int .i64 ((gb xs 0 : Int) % 16), .int .i64 (gb xs 1), .int .i64 ((gb xs 2 : Int) * 256 + gb xs 3), .int .i64 ((gb xs 4 : Int) * 256 + gb xs 5), .int .i64 0, .int .i64 0, .int .i64 0, .int .i64 0, .int .i64 0, .int .u32 0, .int .u32 0] 24 (0, 0)) := hW7 ▸ heap_alloc_new w6 _
  obtain ⟨B, hBe⟩ : ∃ B, w6.heap.size = B := ⟨_, rfl⟩
  have hGB : G < B := by have := hrd6.lt; omega
  rw [hBe] at hB7
  rw [hW7, hBe]
  have HB7 := Lib.hid hB7
  clear hB7 hrd2 hrd3 hrd4 hrd5 t3 t4 t5 t6
  refine (e_U16 G _ _ _ _ _ _ (hrd6.still t7)).mono ?_
  rintro e w8 ⟨rfl, hrd8, t8⟩
  have hB8 : w8.heap[B]? = some (.cells #[.int .i64 ((gb xs 0 : Int) % 16), .int .i64 (gb xs 1), .int .i64 ((gb xs 2 : Int) * 256 + gb xs 3), .int .i64 ((gb xs 4 : Int) * 256 + gb xs 5), .int .i64 0, .int .i64 0, .int .i64 0, .int .i64 0, .int .i64 0, .int .u32 0, .int .u32 0] 24 (0, 0)) := (t8.block B (by have := (Array.getElem?_eq_some_iff.1 HB7.out).1; exact this) (by omega)).trans HB7.out
  have f8 := free_of_cells hB8
  have c4 := cell_of_cells hB8 4
  have c5 := cell_of_cells hB8 5
  simp at c4 c5
  have a8 : bits BinOp.and IntKind.i64 ((gb xs 6 : Int) * 256 + gb xs 7) 8191 = ((gb xs 6 : Int) * 256 + gb xs 7) % 8192 := mask_i64 _ 13 (by decide) 8191 rfl
  have HB8 := Lib.hid hB8
  clear hB8 HB7
  go_wp2_with fail
  obtain ⟨W9, hW9⟩ : ∃ W9, (w8.setCell ⟨B, 4, none⟩ (.int .i64 (((gb xs 6 : Int) * 256 + gb xs 7) / 8192))).setCell ⟨B, 5, none⟩ (.int .i64 (((gb xs 6 : Int) * 256 + gb xs 7) % 8192)) = W9 := ⟨_, rfl⟩
  have hB9 := heap_setCell_same _ B 5 _ _ (.int .i64 (((gb xs 6 : Int) * 256 + gb xs 7) % 8192)) (heap_setCell_same w8 B 4 _ _ (.int .i64 (((gb xs 6 : Int) * 256 + gb xs 7) / 8192)) HB8.out)
  have t9 : Touch w8 W9 (fun k => k = B) := hW9 ▸ ((Touch.refl _ _).into 4 _).into 5 _
  rw [hW9] at hB9 ⊢
  simp at hB9
  have HB9 := Lib.hid hB9
  clear hB9 HB8 f8 c4 c5 a8
  have hUB : w2.heap.size ≤ B := by have := t6'.size; omega
  have hrd9 := hrd8.touch t9 (fun k hk => by have : k = B := hk; omega)
  refine (e_U8 G _ _ _ _ _ hrd9).mono ?_
  rintro e w10 ⟨rfl, hrd10, t10⟩
  go_wp2_with fail
  refine (e_U8 G _ _ _ _ _ hrd10).mono ?_
  rintro e w11 ⟨rfl, hrd11, t11⟩
  go_wp2_with fail
  refine (e_U16 G _ _ _ _ _ _ hrd11).mono ?_
  rintro e w12 ⟨rfl, hrd12, t12⟩
  have t12' : Touch W9 w12 (fun k => k = G) := (t10.trans t11 (fun _ _ h => h)).trans t12 (fun _ _ h => h)
  have hB12 := (t12'.block B (Array.getElem?_eq_some_iff.1 HB9.out).1 (by omega)).trans HB9.out
  have f12 := free_of_cells hB12
  have c6 := cell_of_cells hB12 6
  have c7 := cell_of_cells hB12 7
  have c8 := cell_of_cells hB12 8
  simp at c6 c7 c8
  have HB12 := Lib.hid hB12
  clear hB12 HB9
  go_wp2_with fail
  obtain ⟨W13, hW13⟩ : ∃ W, ((w12.setCell ⟨B, 6, none⟩ (.int .i64 (gb xs 8))).setCell ⟨B, 7, none⟩ (.int .i64 (gb xs 9))).setCell ⟨B, 8, none⟩ (.int .i64 ((gb xs 10 : Int) * 256 + gb xs 11)) = W := ⟨_, rfl⟩
  have hB13 := heap_setCell_same _ B 8 _ _ (.int .i64 ((gb xs 10 : Int) * 256 + gb xs 11)) (heap_setCell_same _ B 7 _ _ (.int .i64 (gb xs 9)) (heap_setCell_same w12 B 6 _ _ (.int .i64 (gb xs 8)) HB12.out))
  have t13 : Touch w12 W13 (fun k => k = B) := hW13 ▸ (((Touch.refl _ _).into 6 _).into 7 _).into 8 _
  rw [hW13] at hB13 ⊢
  simp at hB13
  have HB13 := Lib.hid hB13
  clear hB13 HB12 f12 c6 c7 c8
  have hrd13 := hrd12.touch t13 (fun k hk => by have : k = B := hk; omega)
  refine (e_U32 G _ _ _ _ _ _ _ _ hrd13).mono ?_
  rintro e w14 ⟨rfl, hrd14, t14⟩
  go_wp2_with fail
  refine (e_U32 G _ _ _ _ _ _ _ _ hrd14).mono ?_
  rintro e w15 ⟨rfl, hrd15, t15⟩
  have t15' : Touch W13 w15 (fun k => k = G) := t14.trans t15 (fun _ _ h => h)
  have hB15 := (t15'.block B (Array.getElem?_eq_some_iff.1 HB13.out).1 (by omega)).trans HB13.out
  have f15 := free_of_cells hB15
  have c9 := cell_of_cells hB15 9
  have c10 := cell_of_cells hB15 10
  simp at c9 c10
  have hB16 := heap_setCell_same _ B 10 _ _ (.int .u32 (beN [gb xs 16, gb xs 17, gb xs 18, gb xs 19] : Nat)) (heap_setCell_same w15 B 9 _ _ (.int .u32 (beN [gb xs 12, gb xs 13, gb xs 14, gb xs 15] : Nat)) hB15)
  simp at hB16
  have hR15 : w15.heap[w.heap.size]? = some (.cells #[.int .i64 0, .int .i64 0, .int .i64 0, .int .i64 0, .int .i64 0, .int .i64 0, .int .i64 0, .int .i64 0, .int .i64 0, .int .u32 0, .int .u32 0] 24 (0, 0)) := by
    have h1 : W1.heap[w.heap.size]? = _ := hW1 ▸ heap_alloc_new w _
    have hs := heap_lt h1
    have hg : w.heap.size ≠ G := by omega
    have hb : w.heap.size ≠ B := by omega
    have h6 := t6'.keeps (t2.keeps h1 (fun h => h)) hg
    exact t15'.keeps (t13.keeps (t12'.keeps (t9.keeps (t8.keeps (t7.keeps h6 (fun h => h)) hg) hb) hg) hb) hg
  have T : Touch w w15 (fun _ => False) := by
    have hB1 : ∀ k, k < w.heap.size → k = B → False := fun k h e => by have := t2'.size; have := t6'.size; omega
    have hG1 : ∀ k, k < w.heap.size → k = G → False := fun k h e => by have := t1.size; omega
    exact ((((((t2'.trans t6' hG1).trans t7 (fun _ _ h => h)).trans t8 hG1).trans t9 hB1).trans t12' hG1).trans t13 hB1).trans t15' hG1
  have HB16 := Lib.hid hB16
  have HR15 := Lib.hid hR15
  have hTy : (Try.prog.info? 24).map (·.size) = some 11 := by kernel_rfl
  have HTy := Lib.hid hTy
  have hRB : w.heap.size ≠ B := by have := t2'.size; have := t6'.size; have := t1.size; have : w.heap.size < W1.heap.size := heap_lt (hW1 ▸ heap_alloc_new w _ : W1.heap[w.heap.size]? = _); have := hrd6.lt; omega
  have HRB := Lib.hid hRB
  have HR17 := Lib.hid (((Below.heap_setCell (w15.setCell ⟨B, 9, none⟩ (.int .u32 (beN [gb xs 12, gb xs 13, gb xs 14, gb xs 15] : Nat))) ⟨B, 10, none⟩ (.int .u32 (beN [gb xs 16, gb xs 17, gb xs 18, gb xs 19] : Nat)) _ hRB).trans (Below.heap_setCell w15 ⟨B, 9, none⟩ (.int .u32 (beN [gb xs 12, gb xs 13, gb xs 14, gb xs 15] : Nat)) _ hRB)).trans hR15)
  clear hB15 HB13 hB16 hR15 hTy hRB
  go_wp2_with (refine wpList_load_row rfl 24 (.tmp 4) rfl B rfl _ _ _ _ HB16.out Try.underlying24 rfl HTy.out ?_; go_must (refine store_row rfl 24 (.tmp 2) (.tmp 42) rfl w.heap.size _ rfl rfl _ _ HR17.out HTy.out rfl rfl ?_))
  refine ret_row rfl rfl w.heap.size ?t ?cs ?fr _ rfl ?hg Try.underlying24 rfl ?hi ?hR
  case hg => exact setRow_heap _ _ _ _ _ _ HR17.out
  case hi => exact HTy.out
  case hR =>
    refine ⟨?_, ?_⟩
    · rw [HH.out]; simp [hv]; omega
    · have hB1 : B < w.heap.size → False := fun h => by have := t2'.size; have := t6'.size; omega
      exact (((T.setCell ⟨B, 9, none⟩ _ hB1).setCell ⟨B, 10, none⟩ _ hB1).setRow _ _ (fun h => by omega))
end Go.Proofs.Ythjdebcjfpokoaa
