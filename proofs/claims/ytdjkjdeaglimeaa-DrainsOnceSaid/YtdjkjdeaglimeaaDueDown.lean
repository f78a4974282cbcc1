/- container/heap's down, over a queue. -/
import Derived.Test.YtdjkjdeaglimeaaDueUp
set_option linter.unusedVariables false
set_option linter.unusedSimpArgs false
namespace Go.Proofs.Ytdjkjdeaglimeaa
open Go.RowKit

theorem down_end {N i m : Nat} {l : List QR} (hu : HeapBut N m l) (hw : m = i ∨ ltQ (gq l m) (gq l (par m)) = false) (hc : ∀ k, 0 < k → k < N → par k = m → ltQ (gq l k) (gq l m) = false) (him : i ≤ m) :
    (decide (i < m) = true → HeapQ N l) ∧ (decide (i < m) = false → HeapUp N i l) := by
  refine ⟨fun hd => ?_, fun hd => ?_⟩
  · have := of_decide_eq_true hd
    exact down_done hu hc (.inr (.inr (hw.resolve_left (by omega))))
  · have := of_decide_eq_false hd
    obtain rfl : m = i := by omega
    exact but_up hu hc
set_option maxRecDepth 20000 in
set_option maxHeartbeats 8000000 in
theorem down_any (w : World) (b : Nat) (h : QH) (l : List QR) (q : QB w b h l) (N i : Nat) (hN : N ≤ l.length) (hi : i ≤ 1024) (hu : HeapBut N i l) :
    Calls Try.prog 50 #[.iface 90 (.pointer (some ⟨b, 0, none⟩)), .int .i64 i, .int .i64 N] w fun e w' => ∃ (r : Bool) (l' : List QR), e = .returned (.bool r) ∧ QStep w w' b h l' ∧ Moved N l l' ∧ (r = true → HeapQ N l') ∧ (r = false → HeapUp N i l') := by
  have hl4 := q.len
  go_enter Try.func50, Try.ntmps50
  go_wp2_with fail
  go_loopw [7] (fun s1 wr => ∃ (m : Nat) (l1 : List QR), s1 = .int .i64 m ∧ i ≤ m ∧ (m = i ∨ m < N) ∧ QStep w wr b h l1 ∧ Moved N l l1 ∧ HeapBut N m l1 ∧ (m = i ∨ ltQ (gq l1 m) (gq l1 (par m)) = false)) (fun s1 _ => N - (intOf s1).toNat)
  case atStart => exact ⟨i, l, rfl, Nat.le_refl _, .inl rfl, QStep.refl q, Moved.refl N l, hu, .inl rfl⟩
  case round =>
    obtain ⟨m, l1, rfl, him, hmN, hs, hmv, hu1, hw1⟩ := hrel
    obtain ⟨h1, q1, t1, f1⟩ := hs
    have hlen := hmv.length
    have HU := Lib.hid hu1
    have HW := Lib.hid hw1
    have HQ := Lib.hid q1
    have HM := Lib.hid hmv
    have HT := Lib.hid t1
    have HF := Lib.hid f1
    clear hu1 q1 hmv t1 f1 hu hw1
    have hm4 : m ≤ 1024 := by omega
    by_cases ha : 2 * m + 1 < N
    case neg =>
      have haI : (N : Int) ≤ 2 * (m : Int) + 1 := by omega
      have hc : ∀ k, 0 < k → k < N → par k = m → ltQ (gq l1 k) (gq l1 m) = false := fun k k0 kN kp => by unfold par at kp; omega
      have HX := Lib.hid (down_end HU.out HW.out hc him)
      clear hc
      go_wp2_with fail
      go_ret
      exact ⟨_, l1, rfl, ⟨h1, HQ.out, HT.out, HF.out⟩, HM.out, HX.out⟩
    case pos =>
    have haI : ¬ (N : Int) ≤ 2 * (m : Int) + 1 := by omega
    obtain ⟨a, ha1, ha2⟩ : ∃ a : Nat, a ≤ 2 * m + 1 ∧ 2 * m + 1 ≤ a := ⟨_, Nat.le_refl _, Nat.le_refl _⟩
    have ea : 2 * (m : Int) + 1 = (a : Int) := by omega
    by_cases hb : a + 1 < N
    case pos =>
      obtain ⟨c, hc1, hc2⟩ : ∃ c : Nat, c ≤ a + 1 ∧ a + 1 ≤ c := ⟨_, Nat.le_refl _, Nat.le_refl _⟩
      have ec : (a : Int) + 1 = (c : Int) := by omega
      have hcI : (c : Int) < N := by omega
      have HL1 := Lib.hid (kless_any wr b h1 l1 HQ.out c a (by omega) (by omega))
      cases hB1 : ltQ (gq l1 c) (gq l1 a) with
      | true =>
        rw [hB1] at HL1
        have HMN : RowKit.Hid (∀ k, 0 < k → k < N → par k = m → ltQ (gq l1 k) (gq l1 c) = false) := Lib.hid (fun k k0 kN kp => by
          have : k = a ∨ k = c := by unfold par at kp; omega
          rcases this with rfl | rfl
          · exact lt_asymm hB1
          · exact lt_irrefl _)
        have HPJ : RowKit.Hid (par c = m) := Lib.hid (by unfold par; omega)
        go_wp2_with fail
        refine HL1.out.mono ?_
        rintro e w9 ⟨rfl, t9⟩
        have HT9 := Lib.hid t9
        clear t9
        have HL2 := Lib.hid (kless_any w9 b h1 l1 (HQ.out.still HT9.out) c m (by omega) (by omega))
        cases hB2 : ltQ (gq l1 c) (gq l1 m) with
        | false =>
          rw [hB2] at HL2
          go_wp2_with fail
          refine HL2.out.mono ?_
          rintro e w8 ⟨rfl, t8⟩
          have hc : ∀ k, 0 < k → k < N → par k = m → ltQ (gq l1 k) (gq l1 m) = false := fun k k0 kN kp => nlt_trans (HMN.out k k0 kN kp) hB2
          have HX := Lib.hid (down_end HU.out HW.out hc him)
          have HE := Lib.hid (QStep.trans HT.out HF.out (QStep.still HQ.out (HT9.out.trans t8 (fun _ _ h => h))))
          clear hc
          go_wp2_with fail
          go_ret
          exact ⟨_, l1, rfl, HE.out, HM.out, HX.out⟩
        | true =>
          rw [hB2] at HL2
          go_wp2_with fail
          refine HL2.out.mono ?_
          rintro e w8 ⟨rfl, t8⟩
          have HS := Lib.hid (kswap_any w8 b h1 l1 ((HQ.out.still HT9.out).still t8) m c (by omega) (by omega))
          go_wp2_with fail
          refine HS.out.mono ?_
          rintro e w7 ⟨rfl, s7⟩
          have hd := down_step HU.out (j := c) (by omega) (by omega) HPJ.out (by omega) HMN.out hB2
          have HX : RowKit.Hid (∃ (m' : Nat) (l' : List QR), (Value.int .i64 (c : Nat)) = .int .i64 m' ∧ i ≤ m' ∧ (m' = i ∨ m' < N) ∧ QStep w w7 b h l' ∧ Moved N l l' ∧ HeapBut N m' l' ∧ (m' = i ∨ ltQ (gq l' m') (gq l' (par m')) = false)) := Lib.hid ⟨c, _, rfl, by omega, .inr (by omega), QStep.trans HT.out HF.out (QStep.trans ((HT9.out.trans t8 (fun _ _ h => h)).mono (fun _ _ h => h.elim)) (fun k hk => .inl hk) s7), HM.out.trans (Moved.swap (by omega) _ _ (by omega) (by omega)), hd.1, .inr hd.2⟩
          clear s7 hd
          go_wp2_with fail
          go_roundw
          · exact HX.out
          · simp only [intOf]; omega
      | false =>
        rw [hB1] at HL1
        have HMN : RowKit.Hid (∀ k, 0 < k → k < N → par k = m → ltQ (gq l1 k) (gq l1 a) = false) := Lib.hid (fun k k0 kN kp => by
          have : k = a ∨ k = c := by unfold par at kp; omega
          rcases this with rfl | rfl
          · exact lt_irrefl _
          · exact hB1)
        have HPJ : RowKit.Hid (par a = m) := Lib.hid (by unfold par; omega)
        go_wp2_with fail
        refine HL1.out.mono ?_
        rintro e w9 ⟨rfl, t9⟩
        have HT9 := Lib.hid t9
        clear t9
        have HL2 := Lib.hid (kless_any w9 b h1 l1 (HQ.out.still HT9.out) a m (by omega) (by omega))
        cases hB2 : ltQ (gq l1 a) (gq l1 m) with
        | false =>
          rw [hB2] at HL2
          go_wp2_with fail
          refine HL2.out.mono ?_
          rintro e w8 ⟨rfl, t8⟩
          have hc : ∀ k, 0 < k → k < N → par k = m → ltQ (gq l1 k) (gq l1 m) = false := fun k k0 kN kp => nlt_trans (HMN.out k k0 kN kp) hB2
          have HX := Lib.hid (down_end HU.out HW.out hc him)
          have HE := Lib.hid (QStep.trans HT.out HF.out (QStep.still HQ.out (HT9.out.trans t8 (fun _ _ h => h))))
          clear hc
          go_wp2_with fail
          go_ret
          exact ⟨_, l1, rfl, HE.out, HM.out, HX.out⟩
        | true =>
          rw [hB2] at HL2
          go_wp2_with fail
          refine HL2.out.mono ?_
          rintro e w8 ⟨rfl, t8⟩
          have HS := Lib.hid (kswap_any w8 b h1 l1 ((HQ.out.still HT9.out).still t8) m a (by omega) (by omega))
          go_wp2_with fail
          refine HS.out.mono ?_
          rintro e w7 ⟨rfl, s7⟩
          have hd := down_step HU.out (j := a) (by omega) (by omega) HPJ.out (by omega) HMN.out hB2
          have HX : RowKit.Hid (∃ (m' : Nat) (l' : List QR), (Value.int .i64 (a : Nat)) = .int .i64 m' ∧ i ≤ m' ∧ (m' = i ∨ m' < N) ∧ QStep w w7 b h l' ∧ Moved N l l' ∧ HeapBut N m' l' ∧ (m' = i ∨ ltQ (gq l' m') (gq l' (par m')) = false)) := Lib.hid ⟨a, _, rfl, by omega, .inr (by omega), QStep.trans HT.out HF.out (QStep.trans ((HT9.out.trans t8 (fun _ _ h => h)).mono (fun _ _ h => h.elim)) (fun k hk => .inl hk) s7), HM.out.trans (Moved.swap (by omega) _ _ (by omega) (by omega)), hd.1, .inr hd.2⟩
          clear s7 hd
          go_wp2_with fail
          go_roundw
          · exact HX.out
          · simp only [intOf]; omega
    case neg =>
      have hcI : ¬ (a : Int) + 1 < N := by omega
      have HMN : RowKit.Hid (∀ k, 0 < k → k < N → par k = m → ltQ (gq l1 k) (gq l1 a) = false) := Lib.hid (fun k k0 kN kp => by
        have : k = a := by unfold par at kp; omega
        subst this
        exact lt_irrefl _)
      have HPJ : RowKit.Hid (par a = m) := Lib.hid (by unfold par; omega)
      obtain ⟨w9, hw9⟩ : ∃ w9, w9 = wr := ⟨_, rfl⟩
      have HT9 : RowKit.Hid (Touch wr w9 (fun _ => False)) := Lib.hid (hw9 ▸ Touch.refl _ _)
      have HW9 := Lib.hid hw9
      clear hw9
      have HL2 := Lib.hid (kless_any w9 b h1 l1 (HQ.out.still HT9.out) a m (by omega) (by omega))
      cases hB2 : ltQ (gq l1 a) (gq l1 m) with
      | false =>
        rw [hB2] at HL2
        go_wp2_with fail
        rw [← HW9.out]
        refine HL2.out.mono ?_
        rintro e w8 ⟨rfl, t8⟩
        have hc : ∀ k, 0 < k → k < N → par k = m → ltQ (gq l1 k) (gq l1 m) = false := fun k k0 kN kp => nlt_trans (HMN.out k k0 kN kp) hB2
        have HX := Lib.hid (down_end HU.out HW.out hc him)
        have HE := Lib.hid (QStep.trans HT.out HF.out (QStep.still HQ.out (HT9.out.trans t8 (fun _ _ h => h))))
        clear hc
        go_wp2_with fail
        go_ret
        exact ⟨_, l1, rfl, HE.out, HM.out, HX.out⟩
      | true =>
        rw [hB2] at HL2
        go_wp2_with fail
        rw [← HW9.out]
        refine HL2.out.mono ?_
        rintro e w8 ⟨rfl, t8⟩
        have HS := Lib.hid (kswap_any w8 b h1 l1 ((HQ.out.still HT9.out).still t8) m a (by omega) (by omega))
        go_wp2_with fail
        refine HS.out.mono ?_
        rintro e w7 ⟨rfl, s7⟩
        have hd := down_step HU.out (j := a) (by omega) (by omega) HPJ.out (by omega) HMN.out hB2
        have HX : RowKit.Hid (∃ (m' : Nat) (l' : List QR), (Value.int .i64 (a : Nat)) = .int .i64 m' ∧ i ≤ m' ∧ (m' = i ∨ m' < N) ∧ QStep w w7 b h l' ∧ Moved N l l' ∧ HeapBut N m' l' ∧ (m' = i ∨ ltQ (gq l' m') (gq l' (par m')) = false)) := Lib.hid ⟨a, _, rfl, by omega, .inr (by omega), QStep.trans HT.out HF.out (QStep.trans ((HT9.out.trans t8 (fun _ _ h => h)).mono (fun _ _ h => h.elim)) (fun k hk => .inl hk) s7), HM.out.trans (Moved.swap (by omega) _ _ (by omega) (by omega)), hd.1, .inr hd.2⟩
        clear s7 hd
        go_wp2_with fail
        go_roundw
        · exact HX.out
        · simp only [intOf]; omega
end Go.Proofs.Ytdjkjdeaglimeaa
