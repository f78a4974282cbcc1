/- FrameLong answers true for any number: a body as long as may be is put and taken, a longer one is refused. No condition. -/
import Derived.Test.YtjmhfbfpndpkkaaFrmAwake
import Derived.Test.YtjmhfbfpndpkkaaFrmFact
import Derived.Test.YtjmhfbfpndpkkaaMakeB
import Derived.Test.YtjmhfbfpndpkkaaFrFrameLong
set_option linter.unusedVariables false
namespace Go.Proofs.Ytjmhfbfpndpkkaa
open Go.RowKit

set_option maxRecDepth 20000 in
set_option maxHeartbeats 4000000 in
theorem long_walk (n : Int) (w : World) (h1 : -9223372036854775808 ≤ n) (h2 : n ≤ 9223372036854775807) :
    Calls Try.prog 6 #[.int .i64 n] w fun e w' => e = .returned (.bool true) ∧ Touch w w' (fun _ => False) := by
  obtain ⟨r, hr⟩ : ∃ r, u64N n % 5 = r := ⟨_, rfl⟩
  have hr5 : r < 5 := by omega
  have hw : (IntKind.u64.wrap n).tmod 5 = (r : Nat) := by rw [u64N_wrap, Int.tmod_eq_emod_of_nonneg (by omega)]; omega
  obtain ⟨W1, hW1⟩ : ∃ W, w.alloc (.cells (zB (4094 + r)) 5) = W := ⟨_, rfl⟩
  have HT := Lib.hid (hW1 ▸ (Touch.refl _ _).alloc _ : Touch w W1 (fun _ => False))
  have HZ : RowKit.Hid (RowB W1 (some ⟨w.heap.size, 0, none⟩) (4094 + r) (4094 + r) (zL (4094 + r))) := Lib.hid (hW1 ▸ row_zB w (4094 + r) (by omega))
  have hmk : ∀ w, (Instr.makeSlice 22 (.int .i64 (4094 + (r : Int))) (.int .i64 (4094 + (r : Int)))).run Try.prog w = _ := fun w => make_bytes w _ (4094 + r) (by omega) (by omega)
  have HL := Lib.hid (zL_length (4094 + r))
  have HS := Lib.hid (zL_small (4094 + r))
  generalize zL (4094 + r) = Z at *
  clear hr
  by_cases hb : 2 < r
  case pos =>
    have hE : putE 2 1 Z.length = 4 := by rw [HL.out]; unfold putE; rw [if_neg (by omega), if_pos (by omega)]
    have hF : putF 2 1 Z = [] := by unfold putF; rw [if_neg (by omega)]
    have HE := Lib.hid hE
    have HF := Lib.hid hF
    have g1 : (4096 : Int) < 4094 + (r : Int) := by omega
    clear hE hF
    go_enter Try.func6, Try.ntmps6
    go_wp2_with fail
    (with_reducible refine (put_any _ _ _ _ _ _ _ HZ.out).mono ?_)
    rintro e w2 ⟨a2, c2, rfl, hf2⟩
    rw [HF.out, HE.out]
    have HT := Lib.hid (HT.out.trans hf2.2 (fun _ _ h => h))
    simp only [List.length_nil]
    clear hf2
    go_wp2_with (go_at_call 12; (with_reducible refine (awake4 _).mono ?_); rintro e w5 ⟨rfl, t5⟩; have HT := Lib.hid (HT.out.trans t5 (fun _ _ h => h)); clear t5)
    go_ret
    exact ⟨rfl, HT.out⟩
  case neg =>
    have hE : putE 2 1 Z.length = 0 := by rw [HL.out]; unfold putE; rw [if_neg (by omega), if_neg (by omega)]
    have hF : putF 2 1 Z = frmF 2 1 Z := by unfold putF; rw [if_pos hE]
    have HE := Lib.hid hE
    have HF := Lib.hid hF
    have hx := frmF_length 2 1 Z
    rw [HL.out] at hx
    have HX := Lib.hid hx
    have hk := take_frm 2 1 Z [] (by omega) (by omega) (by omega) (by omega) (by rw [HL.out]; omega) HS.out
    rw [List.append_nil, HL.out] at hk
    have HK := Lib.hid hk
    have g1 : ¬ (4096 : Int) < 4094 + (r : Int) := by omega
    clear hE hF hx hk
    go_enter Try.func6, Try.ntmps6
    go_wp2_with fail
    (with_reducible refine (put_any _ _ _ _ _ _ _ HZ.out).mono ?_)
    rintro e w2 ⟨a2, c2, rfl, hf2⟩
    rw [HF.out] at hf2 ⊢
    rw [HX.out] at hf2 ⊢
    rw [HE.out]
    obtain ⟨-, hr2⟩ := hf2.row'
    have HT := Lib.hid (HT.out.trans hf2.2 (fun _ _ h => h))
    have HR2 := Lib.hid hr2
    have hl : 16 + (4094 + r) ≤ 140737488355328 := by omega
    have HTK := Lib.hid (take_any a2 _ c2 _ w2 hr2 hl)
    clear hf2 hr2 hl
    generalize frmF 2 1 Z = P at *
    go_wp2_with fail
    (with_reducible refine HTK.out.mono ?_)
    rintro e w3 ⟨a3, c3, rfl, hf3⟩
    obtain ⟨k1, k2, k3, k4, k5⟩ := HK.out
    rw [k1, k2, k3, k4, k5, HL.out]
    have HT := Lib.hid (HT.out.trans hf3.2 (fun _ _ h => h))
    clear hf3 HTK k1 k2 k3 k4 k5
    simp only [fcs]
    go_wp2_with (go_at_call 12; (with_reducible refine (awake4 _).mono ?_); rintro e w5 ⟨rfl, t5⟩; have HT := Lib.hid ((HT.out.alloc _).trans t5 (fun _ _ h => h)); clear t5)
    go_ret
    exact ⟨rfl, HT.out⟩
theorem frameLong_holds : Rows.FrameLongSaid := by
  refine frameLong.said fun H enc W base v0 d0 p0 h0 => ?_
  obtain ⟨n, rfl, h1, h2, _⟩ := h0.i64 Try.underlying3
  exact (long_walk n W h1 h2).mono fun e w' h => ⟨h.1, h.2.under (Nat.le_refl _)⟩
end Go.Proofs.Ytjmhfbfpndpkkaa
