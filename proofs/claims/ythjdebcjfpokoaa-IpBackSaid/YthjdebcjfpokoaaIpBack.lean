/- IpBack answers true for any header, any bytes: what is built is parsed, with its body behind it, whatever more comes; its sum is right; with one byte of the header, but the first, changed it is none. No condition. -/
import Derived.Test.YthjdebcjfpokoaaIpMath2
import Derived.Test.YthjdebcjfpokoaaIpAwake
import Derived.Test.YthjdebcjfpokoaaIpArgs
import Derived.Test.YthjdebcjfpokoaaFrIpBack
import Derived.Laws.BitsAllLaws
set_option linter.unusedVariables false
namespace Go.Proofs.Ythjdebcjfpokoaa
open Go.RowKit

theorem back_ok (h : HArg) (ok : h.Ok) (n : Nat) (hn : n ≤ 1000000) : HArg.Ok ⟨5, h.tos % 256, 20 + (n : Int), h.id % 65536, h.flags % 8, h.off % 8192, h.ttl % 256, h.proto % 256, 0, h.src, h.dst⟩ := by
  refine ⟨?_, ?_, ?_, ?_, ?_, ?_, ?_, ?_, ?_, ok.src, ok.dst⟩ <;> (simp only [isI64]; omega)

set_option maxRecDepth 20000 in
set_option maxHeartbeats 8000000 in
theorem back_walk (h : HArg) (ok : h.Ok) (a1 : Option Addr) (l1 c1 : Nat) (xs : List Nat) (a2 : Option Addr) (l2 c2 : Nat) (ys : List Nat) (at' : Int) (x : Nat) (w : World) (hr1 : RowB w a1 l1 c1 xs) (hr2 : RowB w a2 l2 c2 ys) (hat : isI64 at') (hx8 : x < 256) :
    Calls Try.prog 4 #[.agg (acs h), .slice a1 l1 c1, .slice a2 l2 c2, .int .i64 at', .int .u8 x] w fun e w' => e = .returned (.bool true) ∧ Touch w w' (fun _ => False) := by
  by_cases hb1 : 1000 < l1
  · have hb' : (1000 : Int) < l1 := by omega
    clear hr1 hr2
    simp only [acs]
    go_enter Try.func4, Try.ntmps4
    go_wp2_with (go_at_call 13; with_reducible refine (awake20 _).mono ?_; rintro e w' ⟨rfl, ht⟩)
    go_ret
    exact ⟨rfl, ((Touch.refl _ _).alloc _).trans ht (fun _ _ h => h)⟩
  have hb1' : ¬ (1000 : Int) < l1 := by omega
  by_cases hb2 : 200 < l2
  · have hb' : (200 : Int) < l2 := by omega
    clear hr1 hr2
    simp only [acs]
    go_enter Try.func4, Try.ntmps4
    go_wp2_with (go_at_call 13; with_reducible refine (awake20 _).mono ?_; rintro e w' ⟨rfl, ht⟩)
    go_ret
    exact ⟨rfl, ((Touch.refl _ _).alloc _).trans ht (fun _ _ h => h)⟩
  have hb2' : ¬ (200 : Int) < l2 := by omega
  have m1 : bits BinOp.and IntKind.i64 h.tos 255 = h.tos % 256 := mask_i64 _ 8 (by decide) 255 rfl
  have m2 : bits BinOp.and IntKind.i64 h.id 65535 = h.id % 65536 := mask_i64 _ 16 (by decide) 65535 rfl
  have m3 : bits BinOp.and IntKind.i64 h.flags 7 = h.flags % 8 := mask_i64 _ 3 (by decide) 7 rfl
  have m4 : bits BinOp.and IntKind.i64 h.off 8191 = h.off % 8192 := mask_i64 _ 13 (by decide) 8191 rfl
  have m5 : bits BinOp.and IntKind.i64 h.ttl 255 = h.ttl % 256 := mask_i64 _ 8 (by decide) 255 rfl
  have m6 : bits BinOp.and IntKind.i64 h.proto 255 = h.proto % 256 := mask_i64 _ 8 (by decide) 255 rfl
  obtain ⟨W1, hW1⟩ : ∃ W, w.alloc (.cells #[.int .i64 5, .int .i64 (h.tos % 256), .int .i64 (20 + (l1 : Int)), .int .i64 (h.id % 65536), .int .i64 (h.flags % 8), .int .i64 (h.off % 8192), .int .i64 (h.ttl % 256), .int .i64 (h.proto % 256), .int .i64 0, .int .u32 h.src, .int .u32 h.dst] 24) = W := ⟨_, rfl⟩
  have t1 : Touch w W1 (fun _ => False) := hW1 ▸ (Touch.refl _ _).alloc _
  have HH1 : RowKit.Hid (W1.heap[w.heap.size]? = some (.cells (acs ⟨5, h.tos % 256, 20 + (l1 : Int), h.id % 65536, h.flags % 8, h.off % 8192, h.ttl % 256, h.proto % 256, 0, h.src, h.dst⟩) 24 (0, 0))) := Lib.hid (hW1 ▸ heap_alloc_new w _)
  have H := build_any ⟨5, h.tos % 256, 20 + (l1 : Int), h.id % 65536, h.flags % 8, h.off % 8192, h.ttl % 256, h.proto % 256, 0, h.src, h.dst⟩ (back_ok h ok l1 (by omega)) W1
  have hbk := hdr_back ⟨5, h.tos % 256, 20 + (l1 : Int), h.id % 65536, h.flags % 8, h.off % 8192, h.ttl % 256, h.proto % 256, 0, h.src, h.dst⟩ (20 + l1) ⟨by simp only []; omega, by simp only []; omega⟩ (by simp) (by omega) ⟨by simp only []; omega, by simp only []; omega⟩ ⟨by simp only []; omega, by simp only []; omega⟩ ⟨by simp only []; omega, by simp only []; omega⟩ ⟨by simp only []; omega, by simp only []; omega⟩ ⟨by simp only []; omega, by simp only []; omega⟩ ok.src ok.dst
  have hn0 := netF_built ⟨5, h.tos % 256, 20 + (l1 : Int), h.id % 65536, h.flags % 8, h.off % 8192, h.ttl % 256, h.proto % 256, 0, h.src, h.dst⟩
  have HX := Lib.hid hr1.1
  have HL1 := Lib.hid hr1.lt
  have HY := Lib.hid hr2.1
  have HR1 := Lib.hid (hr1.touch t1 (fun _ _ => .inr (fun h => h)))
  have HR2 := Lib.hid (hr2.touch t1 (fun _ _ => .inr (fun h => h)))
  have HT1 := Lib.hid t1
  have hF := builtF_length ⟨5, h.tos % 256, 20 + (l1 : Int), h.id % 65536, h.flags % 8, h.off % 8192, h.ttl % 256, h.proto % 256, 0, h.src, h.dst⟩
  have hsp := why_spoilt ⟨5, h.tos % 256, 20 + (l1 : Int), h.id % 65536, h.flags % 8, h.off % 8192, h.ttl % 256, h.proto % 256, 0, h.src, h.dst⟩ (xs ++ ys)
  generalize hB : builtF ⟨5, h.tos % 256, 20 + (l1 : Int), h.id % 65536, h.flags % 8, h.off % 8192, h.ttl % 256, h.proto % 256, 0, h.src, h.dst⟩ = F at *
  have HB := Lib.hid hB
  have HF := Lib.hid hF
  have HBK := Lib.hid hbk
  have HN0 := Lib.hid hn0
  have HSP := Lib.hid hsp
  have HW1 := Lib.hid hW1
  simp only [acs] at H
  have H' := Lib.hid H
  clear H hr1 hr2 t1 hF hB hbk hn0 hsp hW1
  have HOK := Lib.hid ok
  clear ok
  simp only [acs]
  go_enter Try.func4, Try.ntmps4
  go_wp2_with fail
  rw [HW1.out]
  with_reducible refine H'.out.mono ?_
  rintro e w2 ⟨a3, c3, rfl, hf2⟩
  clear m1 m2 m3 m4 m5 m6 H'
  obtain ⟨hown2, t2⟩ := hf2
  obtain ⟨b2, d2, hv2, hr3, hp3⟩ := hown2.row
  rw [HF.out] at hv2 hr3
  simp only [Value.slice.injEq, true_and] at hv2
  obtain ⟨rfl, rfl⟩ := hv2
  have HR3 := Lib.hid hr3
  have HL3 : RowKit.Hid (∀ x, a3 = some x → x.block ≠ w.heap.size) := Lib.hid (fun x hx => by
    rcases hp3 with h9 | ⟨g, h9, h8, _⟩
    · rw [hx] at h9; cases h9
    · rw [hx] at h9; cases h9; have := heap_lt HH1.out; show g ≠ _; omega)
  clear hr3 hown2 hp3
  go_wp2_with fail
  with_reducible refine (net_any _ _ _ F _ HR3.out).mono ?_
  rintro e w' ⟨rfl, n, rfl⟩
  rw [HN0.out]
  have t3 := t2.drewN n
  obtain ⟨W3, hW3⟩ : ∃ W, w2.drewN n = W := ⟨_, rfl⟩
  have HR3 := Lib.hid (HR3.out.drewN n)
  rw [hW3] at t3 HR3 ⊢
  have HR1 := Lib.hid (HR1.out.touch t3 (fun _ _ => .inr (fun h => h)))
  have HR2 := Lib.hid (HR2.out.touch t3 (fun _ _ => .inr (fun h => h)))
  have HH3 := Lib.hid (t3.keeps HH1.out (fun h => h))
  have HT3 := Lib.hid (HT1.out.trans t3 (fun _ _ h => h))
  have HFX : RowKit.Hid ((F ++ xs).length = 20 + l1) := Lib.hid (by simp [HF.out, HX.out])
  have HFY : RowKit.Hid ((F ++ xs ++ ys).length = 20 + l1 + l2) := Lib.hid (by simp [HF.out, HX.out, HY.out]; omega)
  have HS31 : RowKit.Hid (W1.heap.size ≤ W3.heap.size) := Lib.hid t3.size
  clear t2 t3 hW3
  go_wp2_with (first
    | (at_builtin; have _u := HO8; refine wpList_appendB rfl _ _ 25 rfl 5 Try.underlying25 infoB W3.heap.size (.slice a8 (20 + l1) c8) (F ++ xs) rfl HO8.out _ _ _ ys rfl HR2.out (20 + l1 + l2) (F ++ xs ++ ys) rfl HFY.out (by omega) HB8.out.size W3.heap.size W3 HB8.out (Nat.le_refl _) ?_; intro a9 c9 w9 hown9 hr9 hg9 hb9 hs9 hp9 hl9)
    | (at_builtin; have _u := HO7; refine wpList_appendB rfl _ _ 25 rfl 5 Try.underlying25 infoB W3.heap.size (.slice a7 20 c7) F rfl HO7.out _ _ _ xs rfl HR1.out (20 + l1) (F ++ xs) rfl HFX.out (by omega) HB7.out.size W3.heap.size W3 HB7.out (Nat.le_refl _) ?_; intro a8 c8 w8 hown8 hr8 hg8 hb8 hs8 hp8 hl8; have HO8 := Lib.hid hown8; have HB8 := Lib.hid hb8; have HR2 := Lib.hid (HR20.out.old hb8); clear hown8 hr8 hg8 hb8 hs8 hp8 hl8)
    | (at_builtin; go_must (refine wpList_appendB rfl _ _ 25 rfl 5 Try.underlying25 infoB W3.heap.size (.slice (some ⟨W3.heap.size, 0, none⟩) 0 0) [] rfl (OwnB.lit W3 _ rfl _ (Nat.le_refl _) _ _ _ _ rfl rfl (by decide) (by decide)) _ _ _ F rfl (HR3.out.old (Below.alloc (Below.refl _ _) (Nat.le_refl _) _)) 20 F rfl HF.out (by omega) (by simp) W3.heap.size W3 (Below.alloc (Below.refl _ _) (Nat.le_refl _) _) (Nat.le_refl _) ?_; intro a7 c7 w7 hown7 hr7 hg7 hb7 hs7 hp7 hl7; have HO7 := Lib.hid hown7; have HB7 := Lib.hid hb7; have HR20 := HR2; have HR10 := HR1; have HR1 := Lib.hid (HR1.out.old hb7); clear hown7 hr7 hg7 hb7 hs7 hp7 hl7)))
  have hF8 := hr9
  rw [List.append_assoc] at hF8
  have HP := parse_built ⟨5, h.tos % 256, 20 + (l1 : Int), h.id % 65536, h.flags % 8, h.off % 8192, h.ttl % 256, h.proto % 256, 0, h.src, h.dst⟩ xs ys a9 (20 + l1 + l2) c9 w9 (by rw [HB.out]; exact hF8) l1 HX.out (by simp) (by omega)
  rw [HB.out] at HP
  have t9 : Touch W3 w9 (fun _ => False) := Touch.ofBelow hb9 (fun k h1 h2 => by omega)
  have HH9 := Lib.hid (t9.keeps HH3.out (fun h => h))
  have HR1 := Lib.hid (RowB.touch HR10.out t9 (fun _ _ => .inr (fun h => h)))
  have HR39 := Lib.hid (HR3.out.touch t9 (fun _ _ => .inr (fun h => h)))
  have HT9 := Lib.hid (HT3.out.trans t9 (fun _ _ h => h))
  have HO9 := Lib.hid hown9
  clear hown9 hr9 hg9 hb9 hs9 hp9 hl9 hF8 t9 HO7 HB7 HO8 HB8 HR2 _u HR20 HH3 HT3
  with_reducible refine HP.mono ?_
  rintro e w10 ⟨a10, c10, rfl, hf10⟩
  clear HP
  have t10 := hf10.2
  obtain ⟨b10, d10, hv10, hr10, hp10⟩ := hf10.1.row
  rw [HX.out] at hv10 hr10
  simp only [Value.slice.injEq, true_and] at hv10
  obtain ⟨rfl, rfl⟩ := hv10
  have hvl : hv (hdr F) = .agg #[.int .i64 5, .int .i64 (h.tos % 256), .int .i64 (20 + (l1 : Int)), .int .i64 (h.id % 65536), .int .i64 (h.flags % 8), .int .i64 (h.off % 8192), .int .i64 (h.ttl % 256), .int .i64 (h.proto % 256), .int .i64 ((gb F 10 : Int) * 256 + gb F 11), .int .u32 h.src, .int .u32 h.dst] := by
    obtain ⟨k0, k1, k2, k3, k4, k5, k6, k7, k9, k10, k8⟩ := HBK.out
    simp only [hv, k0, k1, k2, k3, k4, k5, k6, k7, k8, k9, k10, Int.natCast_add, Int.natCast_mul]
    rfl
  rw [hvl]
  obtain ⟨W11, hW11⟩ : ∃ W, w10.alloc (.cells #[.int .i64 5, .int .i64 (h.tos % 256), .int .i64 (20 + (l1 : Int)), .int .i64 (h.id % 65536), .int .i64 (h.flags % 8), .int .i64 (h.off % 8192), .int .i64 (h.ttl % 256), .int .i64 (h.proto % 256), .int .i64 ((gb F 10 : Int) * 256 + gb F 11), .int .u32 h.src, .int .u32 h.dst] 24) = W := ⟨_, rfl⟩
  have t11 : Touch w10 W11 (fun _ => False) := hW11 ▸ (Touch.refl _ _).alloc _
  have HG11 : RowKit.Hid (W11.heap[w10.heap.size]? = some (.cells #[.int .i64 5, .int .i64 (h.tos % 256), .int .i64 (20 + (l1 : Int)), .int .i64 (h.id % 65536), .int .i64 (h.flags % 8), .int .i64 (h.off % 8192), .int .i64 (h.ttl % 256), .int .i64 (h.proto % 256), .int .i64 ((gb F 10 : Int) * 256 + gb F 11), .int .u32 h.src, .int .u32 h.dst] 24 (0, 0))) := Lib.hid (hW11 ▸ heap_alloc_new w10 _)
  have t1011 := t10.trans t11 (fun _ _ h => h)
  have HH11 := Lib.hid (t1011.keeps HH9.out (fun h => h))
  have f11 := free_of_cells HH11.out
  have q8 := cell_of_cells HH11.out 8
  simp [acs] at q8
  have q8' := cell_of_cells HG11.out 8
  simp at q8'
  obtain ⟨W12, hW12⟩ : ∃ W, W11.setCell ⟨w.heap.size, 8, none⟩ (.int .i64 ((gb F 10 : Int) * 256 + gb F 11)) = W := ⟨_, rfl⟩
  have t12 : Touch W11 W12 (fun k => k = w.heap.size) := hW12 ▸ (Touch.refl _ _).into 8 _
  have HH12 : W12.heap[w.heap.size]? = some (.cells #[.int .i64 5, .int .i64 (h.tos % 256), .int .i64 (20 + (l1 : Int)), .int .i64 (h.id % 65536), .int .i64 (h.flags % 8), .int .i64 (h.off % 8192), .int .i64 (h.ttl % 256), .int .i64 (h.proto % 256), .int .i64 ((gb F 10 : Int) * 256 + gb F 11), .int .u32 h.src, .int .u32 h.dst] 24 (0, 0)) := by
    have := heap_setCell_same W11 w.heap.size 8 _ _ (.int .i64 ((gb F 10 : Int) * 256 + gb F 11)) HH11.out
    rw [hW12] at this
    simpa [acs] using this
  have hne : w10.heap.size ≠ w.heap.size := by have := heap_lt HH9.out; have := t10.size; omega
  have HG12 := t12.keeps HG11.out hne
  have HL10 : RowKit.Hid (∀ x, a10 = some x → x.block ≠ w.heap.size) := Lib.hid (fun x hx => by
    have := heap_lt HH9.out
    rcases hp10 with h9 | ⟨g, h9, h8, _⟩
    · rw [hx] at h9; cases h9
    · rw [hx] at h9; cases h9; show g ≠ _; omega)
  have HR12 := (HR1.out.touch t1011 (fun _ _ => .inr (fun h => h))).touch t12 (fun x hx => by
    rcases HL1.out x hx with h9 | h9
    · exact .inl h9
    · exact .inr (by omega))
  have HF12 := (HR39.out.touch t1011 (fun _ _ => .inr (fun h => h))).touch t12 (fun x hx => .inr (HL3.out x hx))
  have HQ12 := (hr10.touch t11 (fun _ _ => .inr (fun h => h))).touch t12 (fun x hx => .inr (HL10.out x hx))
  have HO12 := Lib.hid ((HO9.out.touch t1011 (fun _ _ h => h)).touch t12 (fun k hk he => by
    have h1 := (HO9.out.own.lt k hk).1
    have h2 := heap_lt HH1.out
    have h3 := HS31.out
    have h4 : k = w.heap.size := he
    omega))
  have HT12 := Lib.hid ((HT9.out.trans t1011 (fun _ _ h => h)).trans t12 (fun k h1 h2 => by have : k = w.heap.size := h2; omega))
  obtain ⟨b3, o3, rfl⟩ := HF12.some (by omega)
  have z10 := HF12.gb 10 (by omega)
  have z11 := HF12.gb 11 (by omega)
  have b10' := gb_lt F HF12.2.2.2.2.1 10
  have b11' := gb_lt F HF12.2.2.2.2.1 11
  have oab : bits BinOp.or IntKind.i64 ((gb F 10 : Int) * 256) (gb F 11 : Int) = (gb F 10 : Int) * 256 + gb F 11 := or_i64 _ _ 8 (by omega) (by omega) (by omega) (by omega) (by omega) (by omega)
  have w0 : IntKind.i64.wrap (gb F 10 : Int) = (gb F 10 : Int) := IntWalk.i64_in _ (by omega)
  have w1 : IntKind.i64.wrap (gb F 11 : Int) = (gb F 11 : Int) := IntWalk.i64_in _ (by omega)
  have w2' : IntKind.i64.wrap ((gb F 10 : Int) * 256) = (gb F 10 : Int) * 256 := IntWalk.i64_in _ (by omega)
  have e0 := cell_of_cells HG12 0
  have e1 := cell_of_cells HG12 1
  have e2 := cell_of_cells HG12 2
  have e3 := cell_of_cells HG12 3
  have e4 := cell_of_cells HG12 4
  have e5 := cell_of_cells HG12 5
  have e6 := cell_of_cells HG12 6
  have e7 := cell_of_cells HG12 7
  have e8 := cell_of_cells HG12 8
  have e9 := cell_of_cells HG12 9
  have e10 := cell_of_cells HG12 10
  have f0 := cell_of_cells HH12 0
  have f1 := cell_of_cells HH12 1
  have f2 := cell_of_cells HH12 2
  have f3 := cell_of_cells HH12 3
  have f4 := cell_of_cells HH12 4
  have f5 := cell_of_cells HH12 5
  have f6 := cell_of_cells HH12 6
  have f7 := cell_of_cells HH12 7
  have f8 := cell_of_cells HH12 8
  have f9 := cell_of_cells HH12 9
  have f10 := cell_of_cells HH12 10
  simp at e0 e1 e2 e3 e4 e5 e6 e7 e8 e9 e10 f0 f1 f2 f3 f4 f5 f6 f7 f8 f9 f10
  have st1 : ∀ n, Sem.run Try.prog (convert 25 9 (.slice a10 l1 c10)) (W12.drewN n) = .ok (.string (strB xs)) (W12.drewN n) := fun n => run_string_of (P := Try.prog) (HQ12.drewN n) 25 9 5 Try.underlying25 Try.underlying5 Try.underlying9
  have st2 : ∀ n, Sem.run Try.prog (convert 25 9 (.slice a1 l1 c1)) (W12.drewN n) = .ok (.string (strB xs)) (W12.drewN n) := fun n => run_string_of (P := Try.prog) (HR12.drewN n) 25 9 5 Try.underlying25 Try.underlying5 Try.underlying9
  have i10 : (10 : Int) < 20 := by omega
  have i11 : (11 : Int) < 20 := by omega
  clear hf10 t10 t11 t12 t1011 hp10 hne HR12 HF12 HQ12 hr10 HG11 HH11 HH9 HH12 HG12 HR39 HR1 HT9 HR3
  by_cases hx0 : x = 0
  · subst hx0
    go_wp2_with fail
    go_quiet (fail)
    have HT13 := Lib.hid (HT12.out.drewN nq)
    go_wp2_with (go_at_call 13; with_reducible refine (awake20 _).mono ?_; rintro e w' ⟨rfl, ht⟩)
    go_ret
    exact ⟨rfl, HT13.out.trans ht (fun _ _ h => h)⟩
  · have hxb : ((x : Int) == 0) = false := beq_eq_false_iff_ne.2 (by omega)
    go_wp2_with fail
    go_quiet (fail)
    have HT13 := Lib.hid (HT12.out.drewN nq)
    have HO13 := Lib.hid (HO12.out.drewN nq)
    clear e0 e1 e2 e3 e4 e5 e6 e7 e8 e9 e10 f0 f1 f2 f3 f4 f5 f6 f7 f8 f9 f10 st1 st2 z10 z11 f11 q8 q8' hW11
    generalize W12.drewN nq = W13 at *
    obtain ⟨a13, c13, hv13, hr13, hp13⟩ := HO13.out.row
    rw [HFY.out] at hv13 hr13
    simp only [Value.slice.injEq, true_and] at hv13
    obtain ⟨rfl, rfl⟩ := hv13
    obtain ⟨b9, o9, rfl⟩ := hr13.some (by omega)
    obtain hp13 | ⟨g13, hp13, hg1, hg2⟩ := hp13
    · cases hp13
    simp only [Option.some.injEq, Addr.mk.injEq] at hp13
    obtain ⟨rfl, rfl, -⟩ := hp13
    have hu := u64N_wrap at'
    have hul := u64N_lt at'
    obtain ⟨j, hj⟩ : ∃ j, u64N at' % 19 = j := ⟨_, rfl⟩
    have hj19 : j < 19 := by omega
    have hlp := HFY.out
    have c1j := HO13.out.at HFY.out (1 + j) (by omega) (by omega)
    have f1j := HO13.out.free HFY.out (1 + j)
    rw [← gb_get _ _ (by omega)] at c1j
    have hyb : gb (F ++ xs ++ ys) (1 + j) < 256 := gb_lt _ hr13.2.2.2.2.1 _
    have hxor := u8_xor_nat (gb (F ++ xs ++ ys) (1 + j)) x hyb hx8
    have hy2 : gb (F ++ xs ++ ys) (1 + j) ^^^ x < 256 := Nat.xor_lt_two_pow (n := 8) hyb hx8
    have ho14 := HO13.out.stored HFY.out (1 + j) _ hy2
    rw [← hxor, List.append_assoc] at ho14
    have hsp : whyF ((F ++ (xs ++ ys)).set (1 + j) (gb (F ++ (xs ++ ys)) (1 + j) ^^^ x)) ≠ 0 := by
      rw [← List.append_assoc]
      have := HSP.out (1 + j) (gb (F ++ xs ++ ys) (1 + j) ^^^ x) (by omega) (by omega) hy2 (fun he => hx0 (by
        rw [List.append_assoc, gb_app _ _ _ (by rw [HF.out]; omega)] at he
        have h2 : gb F (1 + j) ^^^ (gb F (1 + j) ^^^ x) = gb F (1 + j) ^^^ gb F (1 + j) := by rw [he]
        rw [← Nat.xor_assoc, Nat.xor_self, Nat.zero_xor] at h2
        exact h2))
      rwa [← List.append_assoc] at this
    have HO14 := Lib.hid ho14
    have HSP2 := Lib.hid hsp
    have T14 := Lib.hid (HT13.out.setCell ⟨b9, 1 + j, none⟩ (.int .u8 (bits BinOp.xor IntKind.u8 (gb (F ++ (xs ++ ys)) (1 + j) : Int) (x : Int))) (fun hh => by have h1 := hg1; have h2 := heap_lt HH1.out; have h3 := HS31.out; have h4 : b9 < w.heap.size := hh; omega))
    clear hxor ho14 hsp hr13
    go_wp2_with fail
    obtain ⟨a15, c15, hv15, hr15, -⟩ := HO14.out.row
    have hl15 : ((F ++ (xs ++ ys)).set (1 + j) (gb (F ++ (xs ++ ys)) (1 + j) ^^^ x)).length = 20 + l1 + l2 := by rw [List.length_set, ← List.append_assoc]; exact HFY.out
    rw [hl15] at hv15 hr15
    simp only [Value.slice.injEq, true_and] at hv15
    obtain ⟨rfl, rfl⟩ := hv15
    have HP := parse_bad _ _ _ _ _ hr15 HSP2.out
    have hbn : ((whyF ((F ++ (xs ++ ys)).set (1 + j) (gb (F ++ (xs ++ ys)) (1 + j) ^^^ x)) : Int) != 0) = true := bne_iff_ne.2 (by have := HSP2.out; omega)
    generalize whyF ((F ++ (xs ++ ys)).set (1 + j) (gb (F ++ (xs ++ ys)) (1 + j) ^^^ x)) = WY at *
    clear hr15 hl15 c1j f1j
    with_reducible refine HP.mono ?_
    rintro e w16 ⟨rfl, t16⟩
    clear HP
    simp only [hv, hdr0]
    have T16 := Lib.hid (T14.out.trans t16 (fun _ _ h => h))
    clear t16
    go_wp2_with (go_at_call 13; with_reducible refine (awake20 _).mono ?_; rintro e w' ⟨rfl, ht⟩)
    go_ret
    exact ⟨rfl, T16.out.trans ht (fun _ _ h => h)⟩
theorem ipBack_holds : Rows.IpBackSaid := by
  refine ipBack.said fun H enc W base v0 v1 v2 v3 v4 d0 d1 d2 d3 d4 p0 p1 p2 p3 p4 h0 h1 h2 h3 h4 => ?_
  obtain ⟨h, rfl, ok⟩ := h0.header
  obtain ⟨a1, l1, c1, xs, rfl, hr1, _, _⟩ := h1.bytes Try.underlying25 Try.underlying5 (by kernel_rfl) (by kernel_rfl)
  obtain ⟨a2, l2, c2, ys, rfl, hr2, _, _⟩ := h2.bytes Try.underlying25 Try.underlying5 (by kernel_rfl) (by kernel_rfl)
  obtain ⟨at', rfl, o1, o2, _⟩ := h3.i64 Try.underlying3
  obtain ⟨x, rfl, hx⟩ := h4.u8 Try.underlying5
  exact (back_walk h ok a1 l1 c1 xs a2 l2 c2 ys at' x W hr1 hr2 ⟨o1, o2⟩ hx).mono fun e w' h => ⟨h.1, h.2.below (fun _ _ h => h.elim) (Nat.le_refl _)⟩
end Go.Proofs.Ythjdebcjfpokoaa
