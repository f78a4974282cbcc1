/- The reference's disk: Cut. -/
import Derived.Test.YtmokcfmlolohaaaRdkOpsZ
set_option linter.unusedVariables false
set_option linter.unusedSimpArgs false
namespace Go.Proofs.Ytmokcfmlolohaaa
open Go.RowKit

def rCutE (R : RS) (k : ByteArray) (j : Int) : Int := if R.fail = 1 then 8 else match rFind R.N k with | none => 6 | some i => if j < 0 ∨ (fcAt R i).b.length < j then 1 else 0
def rCut (R : RS) (k : ByteArray) (j : Int) : RS := if R.fail = 1 then rOp R else match rFind R.N k with | none => rOp R | some i => if j < 0 ∨ (fcAt R i).b.length < j then rOp R else { rOp R with F := R.F.set i ⟨(fcAt R i).b.take j.toNat, j.toNat⟩ }
set_option maxRecDepth 20000 in
set_option maxHeartbeats 8000000 in
theorem rcut_any (w : World) (m : Nat) (h : RH) (R : RS) (x : RM w m h R) (v : RV R) (k : ByteArray) (j : Int) :
    Calls Try.prog 41 #[.pointer (some ⟨m, 0, none⟩), .string k, .int .i64 j] w fun e w' => e = .returned (.int .i64 (rCutE R k j)) ∧ RT w w' m h (rCut R k j) := by
  have HO := Lib.hid (rop_any w m h R x v.fail)
  have HV1 := Lib.hid v.op
  obtain ⟨R1, hR1⟩ : ∃ R1, rOp R = R1 := ⟨_, rfl⟩
  have hN : R1.N = R.N := by rw [← hR1]; rfl
  have hFF : R1.F = R.F := by rw [← hR1]; rfl
  rw [hR1] at HO HV1
  clear x v
  by_cases h1 : R.fail = 1
  · have e1 : rCutE R k j = 8 := by unfold rCutE; rw [if_pos h1]
    have e2 : rCut R k j = R1 := by unfold rCut; rw [if_pos h1, hR1]
    have hd : decide (R.fail = 1) = true := decide_eq_true h1
    rw [e1, e2]
    rw [hd] at HO
    clear e1 e2 h1 hN hFF hd
    go_enter Try.func41, Try.ntmps41
    go_wp2_with fail
    (with_reducible refine HO.out.mono ?_)
    rintro e w1 ⟨rfl, m1, t1⟩
    have HR := Lib.hid (m1.same t1)
    clear m1 t1
    go_wp2_with fail
    go_ret
    exact ⟨rfl, HR.out⟩
  have hd : decide (R.fail = 1) = false := decide_eq_false h1
  rw [hd] at HO
  cases ho : rFind R.N k with
  | none =>
    have e1 : rCutE R k j = 6 := by unfold rCutE; rw [if_neg h1, ho]
    have e2 : rCut R k j = R1 := by unfold rCut; rw [if_neg h1, ho, hR1]
    rw [e1, e2]
    have HNO := Lib.hid (hN ▸ ho)
    clear e1 e2 h1 hFF hd hN hR1 ho
    go_enter Try.func41, Try.ntmps41
    go_wp2_with fail
    (with_reducible refine HO.out.mono ?_)
    rintro e w1 ⟨rfl, m1, t1⟩
    have c1 := m1.cells.2.1
    have HFN := Lib.hid (rfind_any w1 h.na R1.N.length h.nc R1.N m1.now k)
    rw [show rFind R1.N k = none from HNO.out] at HFN
    simp only [fI] at HFN
    have HM1 := Lib.hid m1
    have HT1 := Lib.hid t1
    clear m1 t1
    go_wp2_with fail
    (with_reducible refine HFN.out.mono ?_)
    rintro e w2 ⟨rfl, t2⟩
    have HR := Lib.hid ((HM1.out.still t2).same (HT1.out.trans t2 (fun _ _ h => h.elim)))
    clear t2
    go_wp2_with fail
    go_ret
    exact ⟨rfl, HR.out⟩
  | some i =>
    have HNO : RowKit.Hid (rFind R1.N k = some i) := Lib.hid (by rw [hN]; exact ho)
    have hiF : i < R1.F.length := HV1.out.find HNO.out
    have HI := Lib.hid hiF
    have hlI : ¬ (i : Int) < 0 := by omega
    by_cases hb : j < 0 ∨ (fcAt R i).b.length < j
    · have e1 : rCutE R k j = 1 := by unfold rCutE; rw [if_neg h1, ho]; simp only; rw [if_pos hb]
      have e2 : rCut R k j = R1 := by unfold rCut; rw [if_neg h1, ho]; simp only; rw [if_pos hb, hR1]
      rw [e1, e2]
      have hb : j < 0 ∨ (fcAt R1 i).b.length < j := by unfold fcAt at hb ⊢; rw [hFF]; exact hb
      clear e1 e2 h1 hd hFF ho hR1 hN
      go_enter Try.func41, Try.ntmps41
      go_wp2_with fail
      (with_reducible refine HO.out.mono ?_)
      rintro e w1 ⟨rfl, m1, t1⟩
      have c1 := m1.cells.2.1
      have HFN := Lib.hid (rfind_any w1 h.na R1.N.length h.nc R1.N m1.now k)
      rw [HNO.out] at HFN
      simp only [fI] at HFN
      have HM1 := Lib.hid m1
      have HT1 := Lib.hid t1
      clear m1 t1
      go_wp2_with fail
      (with_reducible refine HFN.out.mono ?_)
      rintro e w2 ⟨rfl, t2⟩
      have HT2 := Lib.hid (HT1.out.trans t2 (fun _ _ h => h.elim))
      have HMB := Lib.hid (HM1.out.still t2)
      clear t2 c1
      have HR := Lib.hid (HMB.out.same HT2.out)
      by_cases hj : j < 0
      · clear hb
        go_wp2_with fail
        go_ret
        exact ⟨rfl, HR.out⟩
      · have hb2 := hb.resolve_left hj
        rw [fcAt_get HI.out] at hb2
        obtain ⟨g, off, y, ef, eL, ey, hil, k0, -, -, hym⟩ := HMB.out.file HI.out
        have kc := HMB.out.cells.1
        have hfc := HMB.out.fl.hcap
        have hfm := HMB.out.fl.hmax
        rw [ef] at kc
        rw [ey] at hb2
        have hb2 : (y.b.length : Int) < j := hb2
        clear hb ey eL hym
        go_wp2_with fail
        go_ret
        exact ⟨rfl, HR.out⟩
    · have e1 : rCutE R k j = 0 := by unfold rCutE; rw [if_neg h1, ho]; simp only; rw [if_neg hb]
      have e2 : rCut R k j = { R1 with F := R1.F.set i ⟨(fcAt R1 i).b.take j.toNat, j.toNat⟩ } := by unfold rCut; rw [if_neg h1, ho]; simp only; rw [if_neg hb, ← hR1]; rfl
      rw [e1, e2]
      have hj0 : 0 ≤ j := by omega
      obtain ⟨J, rfl⟩ : ∃ J : Nat, j = J := ⟨j.toNat, by omega⟩
      have hb : ¬ ((J : Int) < 0 ∨ (fcAt R1 i).b.length < (J : Int)) := by unfold fcAt at hb ⊢; rw [hFF]; exact hb
      clear e1 e2 h1 hd hFF ho hR1 hN
      go_enter Try.func41, Try.ntmps41
      go_wp2_with fail
      (with_reducible refine HO.out.mono ?_)
      rintro e w1 ⟨rfl, m1, t1⟩
      have c1 := m1.cells.2.1
      have HFN := Lib.hid (rfind_any w1 h.na R1.N.length h.nc R1.N m1.now k)
      rw [HNO.out] at HFN
      simp only [fI] at HFN
      have HM1 := Lib.hid m1
      have HT1 := Lib.hid t1
      clear m1 t1
      go_wp2_with fail
      (with_reducible refine HFN.out.mono ?_)
      rintro e w2 ⟨rfl, t2⟩
      have HT2 := Lib.hid (HT1.out.trans t2 (fun _ _ h => h.elim))
      have HMB := Lib.hid (HM1.out.still t2)
      clear t2 c1
      obtain ⟨g, off, y, ef, eL, ey, hil, k0, -, hyr, hym⟩ := HMB.out.file HI.out
      have kc := HMB.out.cells.1
      have hfc := HMB.out.fl.hcap
      have hfm := HMB.out.fl.hmax
      rw [ef] at kc
      rw [fcAt_get HI.out, ey] at hb
      have hb : ¬ ((J : Int) < 0 ∨ (y.b.length : Int) < J) := hb
      have hJ : J ≤ y.b.length := by omega
      have hJ1 : ¬ (y.b.length : Int) < J := by omega
      have hJ0 : ¬ (J : Int) < 0 := by omega
      have hyc := hyr.2.1
      have hym2 := hyr.2.2.1
      have hJc : (J : Int) ≤ y.c := by omega
      have HYT := Lib.hid (hyr.take J hJ)
      have hJb : J ≤ 1048576 := by have := (HV1.out.bl _ (List.getElem_mem HI.out)).1; rw [ey] at this; have : y.b.length ≤ 1048576 := this; omega
      have HEY : RowKit.Hid (fcAt R1 i = y.fc) := Lib.hid (by rw [fcAt_get HI.out, ey])
      have HTK : RowKit.Hid ((y.b.take J).length = J) := Lib.hid (by rw [List.length_take]; omega)
      clear hb ey eL hym hyr
      go_wp2_with (at_builtin; refine wpList_appendB rfl _ _ 29 rfl 5 Try.underlying29 infoB w2.heap.size (.slice none 0 0) [] rfl (OwnB.nil _ _ _) _ _ _ (y.b.take J) rfl HYT.out J (y.b.take J) rfl HTK.out (by omega) (Nat.le_refl _) w2.heap.size w2 (Below.refl _ _) (Nat.le_refl _) ?_; intro a5 c5 w5 hown5 hr5 hg5 hb5 hs5 hp5 hl5; have t5 : Touch w2 w5 (fun _ => False) := (Touch.refl _ (fun _ => False)).grown hg5 (fun k hk _ => by cases hk); have HO5 := Lib.hid hown5; have HR5 := Lib.hid hr5; have HT5 := Lib.hid t5; clear hr5 hb5 hs5 hp5 hg5 hl5 t5 hown5)
      have HPT := Lib.hid (rput_any w5 m h R1 (HMB.out.still HT5.out) HV1.out.fl' i HI.out ⟨a5, c5, y.b.take J, J⟩ (by show RowB w5 a5 (y.b.take J).length c5 _; rw [HTK.out]; exact HR5.out) (fun z hz => by
        obtain ⟨ap, cp, hv, -, hw⟩ := HO5.out.row
        rw [HTK.out] at hv
        simp only [Value.slice.injEq] at hv
        obtain ⟨rfl, -, rfl⟩ := hv
        have hz : a5 = some z := hz
        rcases hw with hw | ⟨G, hG, h1, h2⟩
        · rw [hw] at hz; cases hz
        · rw [hG] at hz
          cases hz
          have := heap_lt HMB.out.head
          exact ⟨fun e => by have e : G = m := e; omega, h2⟩))
      simp only [HTK.out] at HPT
      (with_reducible refine HPT.out.mono ?_)
      rintro e w6 ⟨rfl, p6⟩
      have HR := Lib.hid (p6.rt (HT2.out.trans HT5.out (fun _ _ h => h.elim)) (fun z hz => .inr (by
        obtain ⟨ap, cp, hv, -, hw⟩ := HO5.out.row
        rw [HTK.out] at hv
        simp only [Value.slice.injEq] at hv
        obtain ⟨rfl, -, rfl⟩ := hv
        have hz : a5 = some z := hz
        rcases hw with hw | ⟨G, hG, h1, h2⟩
        · rw [hw] at hz; cases hz
        · rw [hG] at hz
          cases hz
          exact Nat.le_trans HT2.out.size h1)))
      clear p6
      go_wp2_with fail
      go_ret
      exact ⟨rfl, by rw [HEY.out]; exact HR.out⟩
end Go.Proofs.Ytmokcfmlolohaaa
