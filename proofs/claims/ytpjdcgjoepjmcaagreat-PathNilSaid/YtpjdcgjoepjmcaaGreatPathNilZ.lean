/- PathNil holds: without flows, or without a chooser, nothing comes of a packet. -/
import Derived.Test.YtpjdcgjoepjmcaaGreatPathWZ
import Derived.Test.YtpjdcgjoepjmcaaGreatFrPathNilZ
set_option linter.unusedVariables false
set_option linter.unusedSimpArgs false
namespace Go.Proofs.YtpjdcgjoepjmcaaGreat
open Go.RowKit

set_option maxRecDepth 20000 in
set_option maxHeartbeats 16000000 in
theorem nil23_walk (a : Option Addr) (len cap : Nat) (w : World) : Calls Tryz.prog 4 #[.slice a len cap] w fun e w' => e = .returned (.bool true) ∧ Touch w w' (fun _ => False) := by
  have HCFG := Lib.hid (fun W => config_any 3 W)
  have HPK1 : RowKit.Hid (∀ (W : World) (C : Nat), Calls Tryz.prog 18 #[.agg (cfg23 3), .pointer none, .pointer (some ⟨C, 0, none⟩), .int .i64 0, .int .i64 0, .slice a len cap] W fun e w' => e = .returned (.agg (planV 0 0 0 (.slice none 0 0) (.slice none 0 0))) ∧ Touch W w' (fun _ => False)) := Lib.hid (fun W C => packet_tnil _ _ _ _ _ _ _ _ _ _ W C a len cap)
  have HPK2 : RowKit.Hid (∀ (W : World) (g : Nat), Calls Tryz.prog 18 #[.agg (cfg23 3), .pointer (some ⟨g, 0, none⟩), .pointer none, .int .i64 0, .int .i64 0, .slice a len cap] W fun e w' => e = .returned (.agg (planV 0 0 0 (.slice none 0 0) (.slice none 0 0))) ∧ Touch W w' (fun _ => False)) := Lib.hid (fun W g => packet_cnil _ _ _ _ _ _ _ _ _ _ W g a len cap)
  simp only [cfg23, cfgC, planV] at HCFG HPK1 HPK2
  go_enter Tryz.func4, Tryz.ntmps4
  go_upto_region 1 with (fail)
  go_wp2_with fail
  (with_reducible refine (HCFG.out _).mono ?_)
  rintro e w1 ⟨rfl, t1⟩
  go_wp2_with fail
  refine (new_any 13 _ prm13).mono ?_
  rintro e w2 ⟨C, G0, rfl, -, -, -, t2⟩
  go_wp2_with fail
  (with_reducible refine (HPK1.out _ _).mono ?_)
  rintro e w3 ⟨rfl, t3⟩
  obtain ⟨W3, hW3⟩ : ∃ W, w3.alloc (.cells (planV 0 0 0 (.slice none 0 0) (.slice none 0 0)) 53) = W := ⟨_, rfl⟩
  obtain ⟨A, hAe⟩ : ∃ A, w3.heap.size = A := ⟨_, rfl⟩
  have g3 : W3.heap[A]? = some (.cells (planV 0 0 0 (.slice none 0 0) (.slice none 0 0)) 53 (0, 0)) := hAe ▸ hW3 ▸ heap_alloc_new ..
  have HT1 := Lib.hid (((t1.trans t2 (fun _ _ h => h)).trans t3 (fun _ _ h => h)).trans (hW3 ▸ (Touch.refl w3 _).alloc _ : Touch w3 W3 (fun _ => False)) (fun _ _ h => h))
  have HA := Lib.hid g3
  have HW3 := Lib.hid hW3
  have HAe := Lib.hid hAe
  simp only [planV] at HW3
  clear t1 t2 t3 g3 hW3 hAe
  go_upto_region 2 with (fail)
  rw [HW3.out, HAe.out]
  go_wp2_with fail
  (with_reducible refine (HCFG.out _).mono ?_)
  rintro e w4 ⟨rfl, t4⟩
  go_wp2_with fail
  refine (fnew_any _ 3 9).mono ?_
  rintro e w5 ⟨g, h, rfl, -, t5, -⟩
  go_wp2_with fail
  (with_reducible refine (HPK2.out _ _).mono ?_)
  rintro e w6 ⟨rfl, t6⟩
  obtain ⟨W6, hW6⟩ : ∃ W, w6.alloc (.cells (planV 0 0 0 (.slice none 0 0) (.slice none 0 0)) 53) = W := ⟨_, rfl⟩
  obtain ⟨B, hBe⟩ : ∃ B, w6.heap.size = B := ⟨_, rfl⟩
  have hB : W6.heap[B]? = some (.cells (planV 0 0 0 (.slice none 0 0) (.slice none 0 0)) 53 (0, 0)) := hBe ▸ hW6 ▸ heap_alloc_new ..
  have hT2 := ((t4.trans t5 (fun _ _ h => h)).trans t6 (fun _ _ h => h)).trans (hW6 ▸ (Touch.refl w6 _).alloc _ : Touch w6 W6 (fun _ => False)) (fun _ _ h => h)
  have HW6 := Lib.hid hW6
  have HBe := Lib.hid hBe
  simp only [planV] at HW6
  clear t4 t5 t6 hW6 hBe
  go_upto_region 3 with (fail)
  rw [HW6.out, HBe.out]
  have hA2 := hT2.keeps HA.out (fun h => h)
  have x0 := cell_of_cells hA2 0
  have x4 := cell_of_cells hA2 4
  have y0 := cell_of_cells hB 0
  have y4 := cell_of_cells hB 4
  simp [planV] at x0 x4 y0 y4
  have HT3 := Lib.hid (HT1.out.trans hT2 (fun _ _ h => h))
  clear hA2 hB hT2 HPK1 HPK2 HCFG
  go_wp2_with (go_at_call 25; (with_reducible refine (awake23 _).mono ?_); rintro e w9 ⟨rfl, t9⟩; have HT4 := Lib.hid (HT3.out.trans t9 (fun _ _ h => h)); clear t9)
  go_ret
  exact ⟨rfl, HT4.out⟩
theorem pathNil_holds : Rows.PathNilSaid := by
  refine pathNil.said fun H enc W base v0 d0 p0 h0 => ?_
  obtain ⟨a, len, cap, xs, rfl, hr, _, _⟩ := h0.bytes Tryz.underlying38 Tryz.underlying5 (by kernel_rfl) (by kernel_rfl)
  exact (nil23_walk a len cap W).mono fun e w' h => ⟨h.1, h.2.below (fun _ _ h => h.elim) (Nat.le_refl _)⟩
end Go.Proofs.YtpjdcgjoepjmcaaGreat
