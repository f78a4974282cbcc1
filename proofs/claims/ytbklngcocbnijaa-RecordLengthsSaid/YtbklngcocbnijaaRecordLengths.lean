/- RecordLengths answers true for any record and any number: how long a body is, is said by its kind, its format and how many backends there are. No condition. -/
import Derived.Test.YtbklngcocbnijaaRecAwake
import Derived.Test.YtbklngcocbnijaaRecArgs
import Derived.Test.YtbklngcocbnijaaFrRecordLengths
import Derived.Test.YtbklngcocbnijaaLoadG
import Derived.IntWalk
set_option linter.unusedVariables false
set_option linter.unusedSimpArgs false
namespace Go.Proofs.Ytbklngcocbnijaa
open Go.RowKit

def lightB (r : RecD) : Bool := decide (r.bs.length ≤ 40)
theorem light_any (r : RecD) (a : Option Addr) (cap : Nat) (w : World) :
    Calls Try.prog 13 #[.agg (rcs r a cap)] w fun e w' => e = .returned (.bool (lightB r)) ∧ Touch w w' (fun _ => False) := by
  have HL : RowKit.Hid (lightB r = decide ((r.bs.length : Int) ≤ 40)) := Lib.hid (by unfold lightB; rw [decide_eq_decide]; omega)
  simp only [rcs]
  go_enter Try.func13, Try.ntmps13
  go_wp2
  go_ret
  exact ⟨by rw [HL.out]; rfl, (Touch.refl _ _).alloc _⟩
theorem bksF_len (v : Int) (bs : List BkD) : (bksF v bs).length = (if v < 2 then 6 else 7) * bs.length := by
  induction bs with
  | nil => simp [bksF]
  | cons b r ih =>
    have hb : (bkF v b).length = (if v < 2 then 6 else 7) := by unfold bkF; split <;> simp [beB_length]
    simp only [bksF, List.map_cons, List.flatten_cons, List.length_append, List.length_cons] at ih ⊢
    rw [ih, hb]
    split <;> omega
def kf (v : Int) : Int := if v = 1 then 15 else if v = 2 then 19 else 27
def kb (v : Int) : Int := if v = 1 then 6 else 7
/-- Encode where it goes well. -/
theorem enc_fine (r : RecD) (a : Option Addr) (cap : Nat) (v : Int) (w : World) (hr : RowK w a r.bs.length cap r.bs) (ok : RecOk r) (hv : verB v = true) (hm : mayRB r = true) :
    Calls Try.prog 24 #[.agg (rcs r a cap), .int .i64 v] w fun e w' => ∃ a' c', e = .returned (.tuple #[.agg #[.int .i64 r.kind, .int .i64 v, .slice a' (bodyF r v).length c'], .int .i64 0]) ∧ RowB w' a' (bodyF r v).length c' (bodyF r v) ∧ Touch w w' (fun _ => False) := by
  refine (enc_any r a cap v w hr ok).mono ?_
  rintro e w' ⟨a1, c1, rfl, hf⟩
  have he : encE r v = 0 := by unfold encE; rw [if_pos hv, if_pos hm]
  have k1 : encK r v = r.kind := by unfold encK; rw [if_pos he]
  have k2 : encV r v = v := by unfold encV; rw [if_pos he]
  have k3 : encB r v = bodyF r v := by unfold encB; rw [if_pos he]
  rw [he, k1, k2]
  rw [k3] at hf ⊢
  exact ⟨a1, c1, rfl, hf.row'.2, hf.2⟩
theorem idx7 (X Y : Int) (W : World) :
    (Instr.index 52 (.agg #[.int .i64 0, .int .i64 X, .int .i64 13, .int .i64 Y, .int .i64 10, .int .i64 2, .int .i64 4]) (.int .i64 1)).run Try.prog W = .ok (.int .i64 X) W ∧
    (Instr.index 52 (.agg #[.int .i64 0, .int .i64 X, .int .i64 13, .int .i64 Y, .int .i64 10, .int .i64 2, .int .i64 4]) (.int .i64 2)).run Try.prog W = .ok (.int .i64 13) W ∧
    (Instr.index 52 (.agg #[.int .i64 0, .int .i64 X, .int .i64 13, .int .i64 Y, .int .i64 10, .int .i64 2, .int .i64 4]) (.int .i64 3)).run Try.prog W = .ok (.int .i64 Y) W ∧
    (Instr.index 52 (.agg #[.int .i64 0, .int .i64 X, .int .i64 13, .int .i64 Y, .int .i64 10, .int .i64 2, .int .i64 4]) (.int .i64 4)).run Try.prog W = .ok (.int .i64 10) W ∧
    (Instr.index 52 (.agg #[.int .i64 0, .int .i64 X, .int .i64 13, .int .i64 Y, .int .i64 10, .int .i64 2, .int .i64 4]) (.int .i64 5)).run Try.prog W = .ok (.int .i64 2) W ∧
    (Instr.index 52 (.agg #[.int .i64 0, .int .i64 X, .int .i64 13, .int .i64 Y, .int .i64 10, .int .i64 2, .int .i64 4]) (.int .i64 6)).run Try.prog W = .ok (.int .i64 4) W :=
  ⟨by kernel_rfl, by kernel_rfl, by kernel_rfl, by kernel_rfl, by kernel_rfl, by kernel_rfl⟩
theorem pick7 (k X Y : Int) (L : Nat) (v : Int) (r : RecD) (hk : r.kind = 1 ∨ r.kind = 2 ∨ r.kind = 3 ∨ r.kind = 4 ∨ r.kind = 5 ∨ r.kind = 6) (hv : v = 1 ∨ v = 2 ∨ v = 3) (hX : X = kf v) (hY : Y = 5 + kb v * r.bs.length) (hL : L = (bodyF r v).length) (W : World) :
    (Instr.index 52 (.agg #[.int .i64 0, .int .i64 X, .int .i64 13, .int .i64 Y, .int .i64 10, .int .i64 2, .int .i64 4]) (.int .i64 r.kind)).run Try.prog W = .ok (.int .i64 L) W := by
  have hb := bksF_len v r.bs
  subst hX hY hL
  rcases hk with h | h | h | h | h | h <;> rw [h]
  · have e : (((bodyF r v).length : Nat) : Int) = kf v := by
      unfold bodyF flowF kf; rw [if_pos h]
      rcases hv with rfl | rfl | rfl <;> simp [beB_length, tbF_length]
    rw [e]; exact (idx7 _ _ W).1
  · have e : (((bodyF r v).length : Nat) : Int) = 13 := by unfold bodyF; rw [if_neg (by omega), if_pos h, tbF_length]; rfl
    rw [e]; exact (idx7 _ _ W).2.1
  · have e : (((bodyF r v).length : Nat) : Int) = 5 + kb v * r.bs.length := by
      unfold bodyF; rw [if_neg (by omega), if_neg (by omega), if_pos h]
      simp only [List.length_append, beB_length, hb]
      unfold kb
      rcases hv with rfl | rfl | rfl <;> simp <;> omega
    rw [e]; exact (idx7 _ _ W).2.2.1
  · have e : (((bodyF r v).length : Nat) : Int) = 10 := by unfold bodyF; rw [if_neg (by omega), if_neg (by omega), if_neg (by omega), if_pos h]; simp [beB_length]
    rw [e]; exact (idx7 _ _ W).2.2.2.1
  · have e : (((bodyF r v).length : Nat) : Int) = 2 := by unfold bodyF; rw [if_neg (by omega), if_neg (by omega), if_neg (by omega), if_neg (by omega), if_pos h]; simp [beB_length]
    rw [e]; exact (idx7 _ _ W).2.2.2.2.1
  · have e : (((bodyF r v).length : Nat) : Int) = 4 := by unfold bodyF; rw [if_neg (by omega), if_neg (by omega), if_neg (by omega), if_neg (by omega), if_neg (by omega)]; simp [beB_length]
    rw [e]; exact (idx7 _ _ W).2.2.2.2.2
theorem idx4 (v : Int) (hv : v = 1 ∨ v = 2 ∨ v = 3) (W : World) :
    (Instr.index 51 (.agg #[.int .i64 0, .int .i64 15, .int .i64 19, .int .i64 27]) (.int .i64 v)).run Try.prog W = .ok (.int .i64 (kf v)) W ∧
    (Instr.index 51 (.agg #[.int .i64 0, .int .i64 6, .int .i64 7, .int .i64 7]) (.int .i64 v)).run Try.prog W = .ok (.int .i64 (kb v)) W := by
  rcases hv with rfl | rfl | rfl <;> exact ⟨by kernel_rfl, by kernel_rfl⟩

set_option maxRecDepth 20000 in
set_option maxHeartbeats 8000000 in
theorem lengths_walk (r : RecD) (a : Option Addr) (cap : Nat) (v : Int) (w : World) (ok : RecOk r) (hr : RowK w a r.bs.length cap r.bs) (hv64 : -9223372036854775808 ≤ v ∧ v ≤ 9223372036854775807) :
    Calls Try.prog 8 #[.agg (rcs r a cap), .int .i64 v] w fun e w' => e = .returned (.bool true) ∧ Touch w w' (fun _ => False) := by
  obtain ⟨W1, hW1⟩ : ∃ W, w.alloc (.cells (rcs r a cap) 29) = W := ⟨_, rfl⟩
  have t1 : Touch w W1 (fun _ => False) := hW1 ▸ (Touch.refl _ _).alloc _
  have HB : RowKit.Hid (W1.heap[w.heap.size]? = some (.cells (rcs r a cap) 29 (0, 0))) := Lib.hid (hW1 ▸ heap_alloc_new w _)
  have HR := Lib.hid (hr.still t1)
  have HT := Lib.hid t1
  have HIR := Lib.hid infoRec
  have HOK := Lib.hid ok
  have HLL : RowKit.Hid (∀ W, Calls Try.prog 13 #[.agg (rcs r a cap)] W fun e w' => e = .returned (.bool (lightB r)) ∧ Touch W w' (fun _ => False)) := Lib.hid (fun W => light_any r a cap W)
  have HM : RowKit.Hid (∀ W, RowK W a r.bs.length cap r.bs → Calls Try.prog 18 #[.agg (rcs r a cap)] W fun e w' => e = .returned (.bool (mayRB r)) ∧ Touch W w' (fun _ => False)) := Lib.hid (fun W h => mayR_any r a cap W h)
  have hv' : ∃ v' : Int, 1 + (u64N v : Int) % 3 = v' := ⟨_, rfl⟩
  obtain ⟨v', hv'⟩ := hv'
  have hv3 : v' = 1 ∨ v' = 2 ∨ v' = 3 := by omega
  have hvb : verB v' = true := (verB_iff v').2 (by omega)
  have HQ : RowKit.Hid (mayRB r = true → ∀ W, RowK W a r.bs.length cap r.bs → Calls Try.prog 24 #[.agg (rcs r a cap), .int .i64 v'] W fun e w' => ∃ a' c', e = .returned (.tuple #[.agg #[.int .i64 r.kind, .int .i64 v', .slice a' (bodyF r v').length c'], .int .i64 0]) ∧ RowB w' a' (bodyF r v').length c' (bodyF r v') ∧ Touch W w' (fun _ => False)) := Lib.hid (fun hm W h => enc_fine r a cap v' W h HOK.out hvb hm)
  have hw := u64N_wrap v
  have HX := Lib.hid (fun W => idx4 v' hv3 W)
  obtain ⟨Y, hY⟩ : ∃ Y : Int, kb v' * (r.bs.length : Int) = Y := ⟨_, rfl⟩
  obtain ⟨L, hL⟩ : ∃ L, (bodyF r v').length = L := ⟨_, rfl⟩
  have HP : RowKit.Hid (mayRB r = true → ∀ W, (Instr.index 52 (.agg #[.int .i64 0, .int .i64 (kf v'), .int .i64 13, .int .i64 (5 + Y), .int .i64 10, .int .i64 2, .int .i64 4]) (.int .i64 r.kind)).run Try.prog W = .ok (.int .i64 L) W) :=
    Lib.hid (fun hm W => pick7 0 _ _ L v' r (kind_of hm) hv3 rfl (by rw [hY]) hL.symm W)
  have HYB : RowKit.Hid (lightB r = true → 0 ≤ Y ∧ Y ≤ 280) := Lib.hid (fun h => by
    have h40 : r.bs.length ≤ 40 := of_decide_eq_true h
    rw [← hY]; unfold kb
    rcases hv3 with rfl | rfl | rfl <;> simp <;> omega)
  rw [hL] at HQ
  generalize bodyF r v' = bd at *
  have hvl : 1 ≤ v' ∧ v' ≤ 3 := by omega
  have HV := Lib.hid hv'
  have HYE := Lib.hid hY
  have HLE := Lib.hid hL
  generalize mayRB r = M at *
  generalize lightB r = LB at *
  clear hr t1 ok hv' hvb hv3 hY hL
  simp only [rcs] at hW1
  simp only [rcs]
  cases LB with
  | false =>
    go_enter Try.func8, Try.ntmps8
    go_wp2_with (first
    | (refine load_rowG rfl 29 (.tmp 2) rfl w.heap.size rfl _ _ _ _ HB.out Try.underlying29 rfl HIR.out ?_)
    | (go_at_call 13; (refine (HLL.out _).mono ?_); rintro e w2 ⟨rfl, t2⟩; have HB := Lib.hid (t2.keeps HB.out (fun h => h)); have HR := Lib.hid (HR.out.still t2); have HT := Lib.hid (HT.out.trans t2 (fun _ _ h => h)); clear t2)
    | (go_at_call 18; (refine (HM.out _ HR.out).mono ?_); rintro e w3 ⟨rfl, t2⟩; have HB := Lib.hid (t2.keeps HB.out (fun h => h)); have HR := Lib.hid (HR.out.still t2); have HT := Lib.hid (HT.out.trans t2 (fun _ _ h => h)); clear t2)
    | (go_at_call 14; (with_reducible refine (awake8 _).mono ?_); rintro e w8 ⟨rfl, t2⟩; have HT := Lib.hid (HT.out.trans t2 (fun _ _ h => h)); clear t2))
    go_ret
    exact ⟨rfl, HT.out⟩
  | true =>
  cases M with
  | false =>
    go_enter Try.func8, Try.ntmps8
    go_wp2_with (first
    | (refine load_rowG rfl 29 (.tmp 2) rfl w.heap.size rfl _ _ _ _ HB.out Try.underlying29 rfl HIR.out ?_)
    | (go_at_call 13; (refine (HLL.out _).mono ?_); rintro e w2 ⟨rfl, t2⟩; have HB := Lib.hid (t2.keeps HB.out (fun h => h)); have HR := Lib.hid (HR.out.still t2); have HT := Lib.hid (HT.out.trans t2 (fun _ _ h => h)); clear t2)
    | (go_at_call 18; (refine (HM.out _ HR.out).mono ?_); rintro e w3 ⟨rfl, t2⟩; have HB := Lib.hid (t2.keeps HB.out (fun h => h)); have HR := Lib.hid (HR.out.still t2); have HT := Lib.hid (HT.out.trans t2 (fun _ _ h => h)); clear t2)
    | (go_at_call 14; (with_reducible refine (awake8 _).mono ?_); rintro e w8 ⟨rfl, t2⟩; have HT := Lib.hid (HT.out.trans t2 (fun _ _ h => h)); clear t2))
    go_ret
    exact ⟨rfl, HT.out⟩
  | true =>
    have HQ2 := Lib.hid (fun (W : World) (h : RowK W a r.bs.length cap r.bs) => HQ.out rfl W h)
    have HP2 := Lib.hid (fun (W : World) => HP.out rfl W)
    clear HQ HP
    obtain ⟨y1, y2⟩ := HYB.out rfl
    clear HYB
    go_enter Try.func8, Try.ntmps8
    go_wp2_with (first
    | (refine load_rowG rfl 29 (.tmp 2) rfl w.heap.size rfl _ _ _ _ HB.out Try.underlying29 rfl HIR.out ?_)
    | (go_at_call 13; (refine (HLL.out _).mono ?_); rintro e w2 ⟨rfl, t2⟩; have HB := Lib.hid (t2.keeps HB.out (fun h => h)); have HR := Lib.hid (HR.out.still t2); have HT := Lib.hid (HT.out.trans t2 (fun _ _ h => h)); clear t2)
    | (go_at_call 18; (refine (HM.out _ HR.out).mono ?_); rintro e w3 ⟨rfl, t2⟩; have HB := Lib.hid (t2.keeps HB.out (fun h => h)); have HR := Lib.hid (HR.out.still t2); have HT := Lib.hid (HT.out.trans t2 (fun _ _ h => h)); clear t2)
    | (go_at_call 14; (with_reducible refine (awake8 _).mono ?_); rintro e w8 ⟨rfl, t2⟩; have HT := Lib.hid (HT.out.trans t2 (fun _ _ h => h)); clear t2)
    | (go_at_call 24; (rw [HV.out]; refine (HQ2.out _ HR.out).mono ?_); rintro e w4 ⟨a4, c4, rfl, hr4, t2⟩; have t3 := t2.trans ((Touch.refl w4 (fun _ => False)).alloc (.cells #[.int .i64 r.kind, .int .i64 v', .slice a4 L c4] 39)) (fun _ _ h => h); have HB := Lib.hid (t3.keeps HB.out (fun h => h)); have HR := Lib.hid (HR.out.still t3); have HT := Lib.hid (HT.out.trans t3 (fun _ _ h => h)); have HR4 := Lib.hid hr4; clear t2 t3 hr4; obtain ⟨k0, k1, k2, k3, k4, k5, k6, k7, k8, k9, k10, k11, k12, k13⟩ := rcells_of HB.out))
    try rw [HV.out]
    have q1 := fun W => (HX.out W).1
    have q2 := fun W => (HX.out W).2
    have q3 := fun W => HP2.out W
    have hwr1 : IntKind.i64.wrap (kb v' * (r.bs.length : Int)) = Y := by rw [HYE.out]; exact IntWalk.i64_in _ (by omega)
    have hwr2 : IntKind.i64.wrap (5 + Y) = 5 + Y := IntWalk.i64_in _ (by omega)
    clear hw hvl
    go_quiet (fail)
    clear q1 q2 q3 hwr1 hwr2
    have HT := Lib.hid (HT.out.drewN nq)
    go_wp2_with (go_at_call 14; (with_reducible refine (awake8 _).mono ?_); rintro e w8 ⟨rfl, t2⟩; have HT := Lib.hid (HT.out.trans t2 (fun _ _ h => h)); clear t2)
    go_ret
    exact ⟨rfl, HT.out⟩
theorem recordLengths_holds : Rows.RecordLengthsSaid := by
  refine recordLengths.said fun H enc W base v0 v1 d0 d1 p0 p1 h0 h1 => ?_
  obtain ⟨r, a, cap, rfl, ok, hr⟩ := h0.recD
  obtain ⟨v, rfl, hv1, hv2, _⟩ := h1.i64 Try.underlying3
  have hv := And.intro hv1 hv2
  exact (lengths_walk r a cap v W ok hr hv).mono fun e w' h => ⟨h.1, h.2.under (Nat.le_refl _)⟩
end Go.Proofs.Ytbklngcocbnijaa
