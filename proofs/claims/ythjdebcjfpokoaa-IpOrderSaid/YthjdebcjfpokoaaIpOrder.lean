/- IpOrder answers true for any bytes: of bytes that are too short it is told ahead of all, of another version ahead of the sum. No condition. -/
import Derived.Test.YthjdebcjfpokoaaIpAwake
import Derived.Test.YthjdebcjfpokoaaArgs2
import Derived.Test.YthjdebcjfpokoaaFrIpOrder
set_option linter.unusedVariables false
namespace Go.Proofs.Ythjdebcjfpokoaa
open Go.RowKit

theorem why_changed (xs : List Nat) (h : 20 ≤ xs.length) (y : Nat) (hy : y / 16 ≠ 4) : whyF (xs.set 0 y) = 2 := by
  have e : gb (xs.set 0 y) 0 = y := by rw [gb_get _ _ (by simp; omega)]; simp
  unfold whyF
  rw [if_neg (by simp; omega), e, if_pos hy]
theorem why_low (xs : List Nat) (h : 20 ≤ xs.length) (y : Nat) (hy : y / 16 = 4) (hz : y % 16 < 5) : whyF (xs.set 0 y) = 3 := by
  have e : gb (xs.set 0 y) 0 = y := by rw [gb_get _ _ (by simp; omega)]; simp
  unfold whyF
  rw [if_neg (by simp; omega), e, if_neg (by omega), if_pos hz]
theorem Touch.below0 {w w' : World} (t : Touch w w' (fun _ => False)) : Below w.heap.size w w' := t.below (fun _ _ h => h.elim) (Nat.le_refl _)

set_option maxRecDepth 20000 in
set_option maxHeartbeats 4000000 in
theorem order_walk (a : Option Addr) (len cap : Nat) (xs : List Nat) (vr : Nat) (w : World) (hr : RowB w a len cap xs) (hv8 : vr < 256) :
    Calls Try.prog 5 #[.slice a len cap, .int .u8 vr] w fun e w' => e = .returned (.bool true) ∧ Touch w w' (fun _ => False) := by
  by_cases hbig : 2000 < len
  · have hb' : (2000 : Int) < len := by omega
    clear hr
    go_enter Try.func5, Try.ntmps5
    go_wp2_with (go_at_call 13; with_reducible refine (awake20 _).mono ?_; rintro e w' ⟨rfl, ht⟩)
    go_ret
    exact ⟨rfl, ht⟩
  have hb' : ¬ (2000 : Int) < len := by omega
  by_cases hy : whyF xs = 0
  · obtain ⟨hz20, -⟩ := why_zero hy
    have hs : ¬ len < 20 := by have := hr.1; omega
    have hs' : ¬ (len : Int) < 20 := by omega
    have hx := hr.1
    have hw0 : whyF (xs.set 0 68) = 3 := why_low xs (by omega) 68 rfl (by decide)
    have hsm := hr.2.2.2.2.1
    have hlt := hr.lt
    have hz : (([] : List Nat) ++ xs).length = len := by simp [hx]
    have HX := Lib.hid hx
    have HZ := Lib.hid hz
    have HR := Lib.hid hr
    have H := Lib.hid (parse_ok a len cap xs w hr hy)
    have c0 := gb_lt xs hsm 0
    have HSM := Lib.hid hsm
    have hor : bits BinOp.or IntKind.u8 ((gb xs 0 : Int) % 16) ((vr : Int) * 16 % 256) = ((gb xs 0 % 16 + vr % 16 * 16 : Nat) : Int) := by
      have := or_u8_low (gb xs 0 % 16) (vr % 16) (Nat.mod_lt _ (by omega)) (Nat.mod_lt _ (by omega))
      rw [← this]; congr 1; omega
    have HOR := Lib.hid hor
    clear hor
    have h15 : bits BinOp.and IntKind.u8 (gb xs 0 : Int) 15 = (gb xs 0 : Int) % 16 := mask_u8 _ 4 (by decide) 15 rfl (by omega) (by omega)
    clear hr hx hz hsm hy
    go_enter Try.func5, Try.ntmps5
    go_wp2_with fail
    with_reducible refine H.out.mono ?_
    rintro e w1 ⟨pa, pc, rfl, hf1⟩
    have t1 := hf1.2
    clear hf1
    generalize hdr xs = h1 at *
    simp only [hv]
    obtain ⟨W2, hW2⟩ : ∃ W, w1.alloc (.cells #[.int .i64 h1.ihl, .int .i64 h1.tos, .int .i64 h1.len, .int .i64 h1.id, .int .i64 h1.flags, .int .i64 h1.off, .int .i64 h1.ttl, .int .i64 h1.proto, .int .i64 h1.sum, .int .u32 h1.src, .int .u32 h1.dst] 24) = W := ⟨_, rfl⟩
    have t2 : Touch w W2 (fun _ => False) := hW2 ▸ t1.alloc _
    have hr2 := HR.out.touch t2 (fun _ _ => .inr (fun h => h))
    have HR2 := Lib.hid hr2
    have T2 := Lib.hid t2
    have HS2 : RowKit.Hid (w1.heap.size + 1 = W2.heap.size) := Lib.hid (by rw [← hW2]; simp)
    have HW2 := Lib.hid hW2
    clear H t1 hr2 t2 hlt hW2
    by_cases h16 : vr % 16 = 4
    · have hb16 : ((vr : Int) % 16 != 4) = false := bne_eq_false_iff_eq.2 (by omega)
      go_wp2_with (at_builtin; rw [HW2.out]; refine wpList_appendB rfl _ _ 25 rfl 5 Try.underlying25 infoB W2.heap.size (.slice (some ⟨w1.heap.size + 1, 0, none⟩) 0 0) [] rfl (OwnB.lit W2 _ HS2.out _ (Nat.le_of_eq HS2.out.symm) _ _ _ _ rfl rfl (by decide) (by decide)) _ _ _ xs rfl (HR2.out.old (Below.alloc (Below.refl _ _) (Nat.le_refl _) _)) len xs rfl HX.out (by omega) (by simp) W2.heap.size W2 (Below.alloc (Below.refl _ _) (Nat.le_refl _) _) (Nat.le_refl _) ?_; intro a3 c3 w3 hown3 hr3 hg3 hb3 hs3 hp3 hl3; obtain ⟨b3, o3, rfl⟩ := hr3.some (by omega); obtain hp3 | ⟨g3, hp3, hg31, hg32⟩ := hp3; (cases hp3); simp only [Option.some.injEq, Addr.mk.injEq] at hp3; obtain ⟨rfl, rfl, -⟩ := hp3; have f0 := hown3.free HX.out 0; have g0 := hown3.at HX.out 0 (by omega) (by rw [HX.out]; omega); have HO := Lib.hid (hown3.stored HX.out 0 68 (by decide)); have HT := Lib.hid (Touch.ofBelow (S := fun _ => False) hb3 (fun k h1 h2 => by omega)); have hle3 := hr3.2.1; have i0 : 0 < len := (by omega); clear hown3 hr3 hg3 hb3 hs3 hl3)
      obtain ⟨a4, c4, hv4, hr4, -⟩ := HO.out.row
      rw [List.length_set, HX.out] at hv4 hr4
      rw [show ((68 : Nat) : Int) = 68 from rfl] at hr4
      simp only [Value.slice.injEq, true_and] at hv4
      obtain ⟨rfl, rfl⟩ := hv4
      have hz : ∀ k, k < w.heap.size → k = b3 → False := fun k h1 h2 => by have := T2.out.size; omega
      have t5 := Lib.hid ((T2.out.trans HT.out (fun _ _ h => h)).setCell ⟨b3, 0, none⟩ (.int .u8 (68)) (fun h => hz b3 h rfl))
      clear f0 g0
      with_reducible refine (parse_bad _ _ _ _ _ hr4 (by rw [hw0]; decide)).mono ?_
      rintro e w6 ⟨rfl, t6⟩
      rw [hw0]
      have t7 := Lib.hid (t5.out.trans t6 (fun _ _ h => h))
      clear hr4 t6
      simp only [hv, hdr0]
      go_wp2_with (go_at_call 13; with_reducible refine (awake20 _).mono ?_; rintro e w' ⟨rfl, ht⟩)
      go_ret
      exact ⟨rfl, (t7.out.alloc _).trans ht (fun _ _ h => h)⟩
    · have hb16 : ((vr : Int) % 16 != 4) = true := bne_iff_ne.2 (by omega)
      go_wp2_with (at_builtin; rw [HW2.out]; refine wpList_appendB rfl _ _ 25 rfl 5 Try.underlying25 infoB W2.heap.size (.slice (some ⟨w1.heap.size + 1, 0, none⟩) 0 0) [] rfl (OwnB.lit W2 _ HS2.out _ (Nat.le_of_eq HS2.out.symm) _ _ _ _ rfl rfl (by decide) (by decide)) _ _ _ xs rfl (HR2.out.old (Below.alloc (Below.refl _ _) (Nat.le_refl _) _)) len xs rfl HX.out (by omega) (by simp) W2.heap.size W2 (Below.alloc (Below.refl _ _) (Nat.le_refl _) _) (Nat.le_refl _) ?_; intro a3 c3 w3 hown3 hr3 hg3 hb3 hs3 hp3 hl3; obtain ⟨b3, o3, rfl⟩ := hr3.some (by omega); obtain hp3 | ⟨g3, hp3, hg31, hg32⟩ := hp3; (cases hp3); simp only [Option.some.injEq, Addr.mk.injEq] at hp3; obtain ⟨rfl, rfl, -⟩ := hp3; have f0 := hown3.free HX.out 0; have g0 := hown3.at HX.out 0 (by omega) (by rw [HX.out]; omega); rw [← gb_get xs 0 (by rw [HX.out]; omega)] at g0; have HO := Lib.hid (hown3.stored HX.out 0 (gb xs 0 % 16 + vr % 16 * 16) (by omega)); have HT := Lib.hid (Touch.ofBelow (S := fun _ => False) hb3 (fun k h1 h2 => by omega)); have hle3 := hr3.2.1; have i0 : 0 < len := (by omega); clear hown3 hr3 hg3 hb3 hs3 hl3)
      have hw1 : whyF (xs.set 0 (gb xs 0 % 16 + vr % 16 * 16)) = 2 := why_changed xs (by rw [HX.out]; omega) _ (by omega)
      obtain ⟨a4, c4, hv4, hr4, -⟩ := HO.out.row
      rw [List.length_set, HX.out] at hv4 hr4
      rw [← HOR.out] at hr4
      simp only [Value.slice.injEq, true_and] at hv4
      obtain ⟨rfl, rfl⟩ := hv4
      have hz : ∀ k, k < w.heap.size → k = b3 → False := fun k h1 h2 => by have := T2.out.size; omega
      have t5 := Lib.hid ((T2.out.trans HT.out (fun _ _ h => h)).setCell ⟨b3, 0, none⟩ (.int .u8 (bits BinOp.or IntKind.u8 ((gb xs 0 : Int) % 16) ((vr : Int) * 16 % 256))) (fun h => hz b3 h rfl))
      clear f0 g0
      with_reducible refine (parse_bad _ _ _ _ _ hr4 (by rw [hw1]; decide)).mono ?_
      rintro e w6 ⟨rfl, t6⟩
      rw [hw1]
      have t7 := Lib.hid (t5.out.trans t6 (fun _ _ h => h))
      clear hr4 t6
      simp only [hv, hdr0]
      go_wp2_with (go_at_call 13; with_reducible refine (awake20 _).mono ?_; rintro e w' ⟨rfl, ht⟩)
      go_ret
      exact ⟨rfl, (t7.out.alloc _).trans ht (fun _ _ h => h)⟩
  · have hn : ((whyF xs : Int) != 0) = true := bne_iff_ne.2 (by omega)
    by_cases hs : len < 20
    · have hs' : (len : Int) < 20 := by omega
      have hw1 : whyF xs = 1 := why_short (by rw [hr.1]; exact hs)
      have H := Lib.hid (parse_bad a len cap xs w hr hy)
      rw [hw1] at H
      clear hr hw1 hn hy
      go_enter Try.func5, Try.ntmps5
      go_wp2_with fail
      with_reducible refine H.out.mono ?_
      rintro e w1 ⟨rfl, t1⟩
      simp only [hv, hdr0]
      go_wp2_with (go_at_call 13; with_reducible refine (awake20 _).mono ?_; rintro e w' ⟨rfl, ht⟩)
      go_ret
      exact ⟨rfl, (t1.alloc _).trans ht (fun _ _ h => h)⟩
    · have hs' : ¬ (len : Int) < 20 := by omega
      have hx := hr.1
      have hw0 : whyF (xs.set 0 68) = 3 := why_low xs (by omega) 68 rfl (by decide)
      have hsm := hr.2.2.2.2.1
      have hlt := hr.lt
      have hz : (([] : List Nat) ++ xs).length = len := by simp [hx]
      have HX := Lib.hid hx
      have HZ := Lib.hid hz
      have HR := Lib.hid hr
      have H := Lib.hid (parse_bad a len cap xs w hr hy)
      have c0 := gb_lt xs hsm 0
      have HSM := Lib.hid hsm
      have hor : bits BinOp.or IntKind.u8 ((gb xs 0 : Int) % 16) ((vr : Int) * 16 % 256) = ((gb xs 0 % 16 + vr % 16 * 16 : Nat) : Int) := by
        have := or_u8_low (gb xs 0 % 16) (vr % 16) (Nat.mod_lt _ (by omega)) (Nat.mod_lt _ (by omega))
        rw [← this]; congr 1; omega
      have HOR := Lib.hid hor
      clear hor
      have h15 : bits BinOp.and IntKind.u8 (gb xs 0 : Int) 15 = (gb xs 0 : Int) % 16 := mask_u8 _ 4 (by decide) 15 rfl (by omega) (by omega)
      clear hr hx hz hsm
      generalize hW : whyF xs = WY at *
      go_enter Try.func5, Try.ntmps5
      go_wp2_with fail
      with_reducible refine H.out.mono ?_
      rintro e w1 ⟨rfl, t1⟩
      simp only [hv, hdr0]
      obtain ⟨W2, hW2⟩ : ∃ W, w1.alloc (.cells #[.int .i64 0, .int .i64 0, .int .i64 0, .int .i64 0, .int .i64 0, .int .i64 0, .int .i64 0, .int .i64 0, .int .i64 0, .int .u32 0, .int .u32 0] 24) = W := ⟨_, rfl⟩
      have t2 : Touch w W2 (fun _ => False) := hW2 ▸ t1.alloc _
      have hr2 := HR.out.touch t2 (fun _ _ => .inr (fun h => h))
      have HR2 := Lib.hid hr2
      have T2 := Lib.hid t2
      have HS2 : RowKit.Hid (w1.heap.size + 1 = W2.heap.size) := Lib.hid (by rw [← hW2]; simp)
      have HW2 := Lib.hid hW2
      clear H t1 hr2 t2 hlt hW2
      by_cases h16 : vr % 16 = 4
      · have hb16 : ((vr : Int) % 16 != 4) = false := bne_eq_false_iff_eq.2 (by omega)
        go_wp2_with (at_builtin; rw [HW2.out]; refine wpList_appendB rfl _ _ 25 rfl 5 Try.underlying25 infoB W2.heap.size (.slice (some ⟨w1.heap.size + 1, 0, none⟩) 0 0) [] rfl (OwnB.lit W2 _ HS2.out _ (Nat.le_of_eq HS2.out.symm) _ _ _ _ rfl rfl (by decide) (by decide)) _ _ _ xs rfl (HR2.out.old (Below.alloc (Below.refl _ _) (Nat.le_refl _) _)) len xs rfl HX.out (by omega) (by simp) W2.heap.size W2 (Below.alloc (Below.refl _ _) (Nat.le_refl _) _) (Nat.le_refl _) ?_; intro a3 c3 w3 hown3 hr3 hg3 hb3 hs3 hp3 hl3; obtain ⟨b3, o3, rfl⟩ := hr3.some (by omega); obtain hp3 | ⟨g3, hp3, hg31, hg32⟩ := hp3; (cases hp3); simp only [Option.some.injEq, Addr.mk.injEq] at hp3; obtain ⟨rfl, rfl, -⟩ := hp3; have f0 := hown3.free HX.out 0; have g0 := hown3.at HX.out 0 (by omega) (by rw [HX.out]; omega); have HO := Lib.hid (hown3.stored HX.out 0 68 (by decide)); have HT := Lib.hid (Touch.ofBelow (S := fun _ => False) hb3 (fun k h1 h2 => by omega)); have hle3 := hr3.2.1; have i0 : 0 < len := (by omega); clear hown3 hr3 hg3 hb3 hs3 hl3)
        obtain ⟨a4, c4, hv4, hr4, -⟩ := HO.out.row
        rw [List.length_set, HX.out] at hv4 hr4
        rw [show ((68 : Nat) : Int) = 68 from rfl] at hr4
        simp only [Value.slice.injEq, true_and] at hv4
        obtain ⟨rfl, rfl⟩ := hv4
        have hz : ∀ k, k < w.heap.size → k = b3 → False := fun k h1 h2 => by have := T2.out.size; omega
        have t5 := Lib.hid ((T2.out.trans HT.out (fun _ _ h => h)).setCell ⟨b3, 0, none⟩ (.int .u8 (68)) (fun h => hz b3 h rfl))
        clear f0 g0
        with_reducible refine (parse_bad _ _ _ _ _ hr4 (by rw [hw0]; decide)).mono ?_
        rintro e w6 ⟨rfl, t6⟩
        rw [hw0]
        have t7 := Lib.hid (t5.out.trans t6 (fun _ _ h => h))
        clear hr4 t6
        simp only [hv, hdr0]
        go_wp2_with (go_at_call 13; with_reducible refine (awake20 _).mono ?_; rintro e w' ⟨rfl, ht⟩)
        go_ret
        exact ⟨rfl, (t7.out.alloc _).trans ht (fun _ _ h => h)⟩
      · have hb16 : ((vr : Int) % 16 != 4) = true := bne_iff_ne.2 (by omega)
        go_wp2_with (at_builtin; rw [HW2.out]; refine wpList_appendB rfl _ _ 25 rfl 5 Try.underlying25 infoB W2.heap.size (.slice (some ⟨w1.heap.size + 1, 0, none⟩) 0 0) [] rfl (OwnB.lit W2 _ HS2.out _ (Nat.le_of_eq HS2.out.symm) _ _ _ _ rfl rfl (by decide) (by decide)) _ _ _ xs rfl (HR2.out.old (Below.alloc (Below.refl _ _) (Nat.le_refl _) _)) len xs rfl HX.out (by omega) (by simp) W2.heap.size W2 (Below.alloc (Below.refl _ _) (Nat.le_refl _) _) (Nat.le_refl _) ?_; intro a3 c3 w3 hown3 hr3 hg3 hb3 hs3 hp3 hl3; obtain ⟨b3, o3, rfl⟩ := hr3.some (by omega); obtain hp3 | ⟨g3, hp3, hg31, hg32⟩ := hp3; (cases hp3); simp only [Option.some.injEq, Addr.mk.injEq] at hp3; obtain ⟨rfl, rfl, -⟩ := hp3; have f0 := hown3.free HX.out 0; have g0 := hown3.at HX.out 0 (by omega) (by rw [HX.out]; omega); rw [← gb_get xs 0 (by rw [HX.out]; omega)] at g0; have HO := Lib.hid (hown3.stored HX.out 0 (gb xs 0 % 16 + vr % 16 * 16) (by omega)); have HT := Lib.hid (Touch.ofBelow (S := fun _ => False) hb3 (fun k h1 h2 => by omega)); have hle3 := hr3.2.1; have i0 : 0 < len := (by omega); clear hown3 hr3 hg3 hb3 hs3 hl3)
        have hw1 : whyF (xs.set 0 (gb xs 0 % 16 + vr % 16 * 16)) = 2 := why_changed xs (by rw [HX.out]; omega) _ (by omega)
        obtain ⟨a4, c4, hv4, hr4, -⟩ := HO.out.row
        rw [List.length_set, HX.out] at hv4 hr4
        rw [← HOR.out] at hr4
        simp only [Value.slice.injEq, true_and] at hv4
        obtain ⟨rfl, rfl⟩ := hv4
        have hz : ∀ k, k < w.heap.size → k = b3 → False := fun k h1 h2 => by have := T2.out.size; omega
        have t5 := Lib.hid ((T2.out.trans HT.out (fun _ _ h => h)).setCell ⟨b3, 0, none⟩ (.int .u8 (bits BinOp.or IntKind.u8 ((gb xs 0 : Int) % 16) ((vr : Int) * 16 % 256))) (fun h => hz b3 h rfl))
        clear f0 g0
        with_reducible refine (parse_bad _ _ _ _ _ hr4 (by rw [hw1]; decide)).mono ?_
        rintro e w6 ⟨rfl, t6⟩
        rw [hw1]
        have t7 := Lib.hid (t5.out.trans t6 (fun _ _ h => h))
        clear hr4 t6
        simp only [hv, hdr0]
        go_wp2_with (go_at_call 13; with_reducible refine (awake20 _).mono ?_; rintro e w' ⟨rfl, ht⟩)
        go_ret
        exact ⟨rfl, (t7.out.alloc _).trans ht (fun _ _ h => h)⟩
theorem ipOrder_holds : Rows.IpOrderSaid := by
  refine ipOrder.said fun H enc W base v0 v1 d0 d1 p0 p1 h0 h1 => ?_
  obtain ⟨a, len, cap, xs, rfl, hr, _, _⟩ := h0.bytes Try.underlying25 Try.underlying5 (by kernel_rfl) (by kernel_rfl)
  obtain ⟨x, rfl, hx⟩ := h1.u8 Try.underlying5
  exact (order_walk a len cap xs x W hr hx).mono fun e w' h => ⟨h.1, h.2.below0⟩
end Go.Proofs.Ythjdebcjfpokoaa
