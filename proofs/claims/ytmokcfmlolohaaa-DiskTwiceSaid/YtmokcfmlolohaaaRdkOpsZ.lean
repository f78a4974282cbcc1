/- The reference's disk: Sync, SyncDir, Rename, Remove, Cut. -/
import Derived.Test.YtmokcfmlolohaaaIBZ
set_option linter.unusedVariables false
set_option linter.unusedSimpArgs false
namespace Go.Proofs.Ytmokcfmlolohaaa
open Go.RowKit

theorem RV.op {R : RS} (v : RV R) : RV (rOp R) where
  nf := v.nf
  bl := v.bl
  nl := v.nl
  sl := v.sl
  fl := v.fl
  cl := v.cl
  fail := by
    have := v.fail
    show 0 ≤ (if R.fail = 0 then 0 else R.fail - 1) ∧ (if R.fail = 0 then 0 else R.fail - 1) ≤ 9223372036854775807
    split <;> omega
theorem RV.fl' {R : RS} (v : RV R) : R.F.length ≤ 1000000 := Nat.le_trans v.fl (by decide)
theorem rFind_mem : ∀ {l : List RN} {k : ByteArray} {i : Nat}, rFind l k = some i → ⟨k, i⟩ ∈ l
  | [], _, _, h => by cases h
  | x :: l, k, i, h => by
    unfold rFind at h
    split at h
    · rename_i e
      cases h
      cases e
      exact List.mem_cons_self
    · exact List.mem_cons_of_mem _ (rFind_mem h)
theorem RV.find {R : RS} (v : RV R) {k : ByteArray} {i : Nat} (h : rFind R.N k = some i) : i < R.F.length := v.nf _ (rFind_mem h)
theorem PutTo.touch {w w' : World} {m : Nat} {h : RH} {R : RS} {i : Nat} {y : RL} (p : PutTo w w' m h R i y) : Touch w w' (fun k => k = m) := by
  obtain ⟨_, _, t, _⟩ := p
  exact t
theorem PutTo.rt {w w2 w3 : World} {m : Nat} {h : RH} {R : RS} {i : Nat} {y : RL} (p : PutTo w2 w3 m h R i y) (t : Touch w w2 (fun k => k = m)) (hy : ∀ z, y.a = some z → footR h z.block ∨ w.heap.size ≤ z.block) : RT w w3 m h { R with F := R.F.set i y.fc } := by
  obtain ⟨h', x, t2, ne⟩ := p
  refine ⟨h', x, t.trans t2 (fun _ _ h => h), fun k hk => ?_⟩
  rcases ne k hk with h1 | ⟨z, hz, rfl⟩ | h1
  · exact .inl h1
  · exact hy z hz
  · exact .inr (Nat.le_trans t.size h1)
def fcAt (R : RS) (i : Nat) : DkFc := R.F.getD i ⟨[], 0⟩
theorem fcAt_get {R : RS} {i : Nat} (hi : i < R.F.length) : fcAt R i = R.F[i] := by unfold fcAt; simp [hi]
def rOnE (R : RS) (k : ByteArray) : Int := if R.fail = 1 then 8 else match rFind R.N k with | none => 6 | some _ => 0
def rSync (R : RS) (k : ByteArray) : RS := if R.fail = 1 then rOp R else match rFind R.N k with | none => rOp R | some i => { rOp R with F := R.F.set i ⟨(fcAt R i).b, (fcAt R i).b.length⟩ }
set_option maxRecDepth 20000 in
set_option maxHeartbeats 8000000 in
theorem rsync_any (w : World) (m : Nat) (h : RH) (R : RS) (x : RM w m h R) (v : RV R) (k : ByteArray) :
    Calls Try.prog 37 #[.pointer (some ⟨m, 0, none⟩), .string k] w fun e w' => e = .returned (.int .i64 (rOnE R k)) ∧ RT w w' m h (rSync R k) := by
  have HO := Lib.hid (rop_any w m h R x v.fail)
  have HV1 := Lib.hid v.op
  obtain ⟨R1, hR1⟩ : ∃ R1, rOp R = R1 := ⟨_, rfl⟩
  have hN : R1.N = R.N := by rw [← hR1]; rfl
  have hFF : R1.F = R.F := by rw [← hR1]; rfl
  rw [hR1] at HO HV1
  clear x v
  by_cases h1 : R.fail = 1
  · have e1 : rOnE R k = 8 := by unfold rOnE; rw [if_pos h1]
    have e2 : rSync R k = R1 := by unfold rSync; rw [if_pos h1, hR1]
    have hd : decide (R.fail = 1) = true := decide_eq_true h1
    rw [e1, e2]
    rw [hd] at HO
    clear e1 e2 h1 hN hFF hd
    go_enter Try.func37, Try.ntmps37
    go_wp2_with fail
    (with_reducible refine HO.out.mono ?_)
    rintro e w1 ⟨rfl, m1, t1⟩
    have HR := Lib.hid (m1.same t1)
    clear m1 t1
    go_wp2_with fail
    go_ret
    exact ⟨rfl, HR.out⟩
  have hd : decide (R.fail = 1) = false := decide_eq_false h1
  rw [hd] at HO
  cases ho : rFind R.N k with
  | none =>
    have e1 : rOnE R k = 6 := by unfold rOnE; rw [if_neg h1, ho]
    have e2 : rSync R k = R1 := by unfold rSync; rw [if_neg h1, ho, hR1]
    rw [e1, e2]
    have HNO := Lib.hid (hN ▸ ho)
    clear e1 e2 h1 hFF hd hN hR1 ho
    go_enter Try.func37, Try.ntmps37
    go_wp2_with fail
    (with_reducible refine HO.out.mono ?_)
    rintro e w1 ⟨rfl, m1, t1⟩
    have c1 := m1.cells.2.1
    have HFN := Lib.hid (rfind_any w1 h.na R1.N.length h.nc R1.N m1.now k)
    rw [show rFind R1.N k = none from HNO.out] at HFN
    simp only [fI] at HFN
    have HM1 := Lib.hid m1
    have HT1 := Lib.hid t1
    clear m1 t1
    go_wp2_with fail
    (with_reducible refine HFN.out.mono ?_)
    rintro e w2 ⟨rfl, t2⟩
    have HR := Lib.hid ((HM1.out.still t2).same (HT1.out.trans t2 (fun _ _ h => h.elim)))
    clear t2
    go_wp2_with fail
    go_ret
    exact ⟨rfl, HR.out⟩
  | some i =>
    have HNO : RowKit.Hid (rFind R1.N k = some i) := Lib.hid (by rw [hN]; exact ho)
    have hiF : i < R1.F.length := HV1.out.find HNO.out
    have HI := Lib.hid hiF
    have hlI : ¬ (i : Int) < 0 := by omega
    have e1 : rOnE R k = 0 := by unfold rOnE; rw [if_neg h1, ho]
    have e2 : rSync R k = { R1 with F := R1.F.set i ⟨(fcAt R1 i).b, (fcAt R1 i).b.length⟩ } := by unfold rSync; rw [if_neg h1, ho, ← hR1]; rfl
    rw [e1, e2]
    clear e1 e2 h1 hd hFF ho hR1 hN
    go_enter Try.func37, Try.ntmps37
    go_wp2_with fail
    (with_reducible refine HO.out.mono ?_)
    rintro e w1 ⟨rfl, m1, t1⟩
    have c1 := m1.cells.2.1
    have HFN := Lib.hid (rfind_any w1 h.na R1.N.length h.nc R1.N m1.now k)
    rw [HNO.out] at HFN
    simp only [fI] at HFN
    have HM1 := Lib.hid m1
    have HT1 := Lib.hid t1
    clear m1 t1
    go_wp2_with fail
    (with_reducible refine HFN.out.mono ?_)
    rintro e w2 ⟨rfl, t2⟩
    have HT2 := Lib.hid (HT1.out.trans t2 (fun _ _ h => h.elim))
    have HMB := Lib.hid (HM1.out.still t2)
    clear t2 c1
    obtain ⟨g, off, y, ef, eL, ey, hil, -, -, -, hym⟩ := HMB.out.file HI.out
    have HM2 := Lib.hid (HMB.out.still ((Touch.refl w2 (fun _ => False)).drew))
    obtain ⟨g', off', y', ef', eL', -, -, k1, -, hyr, hym'⟩ := HM2.out.file HI.out
    rw [ef] at ef'
    cases ef'
    rw [eL] at eL'
    cases eL'
    have HY := Lib.hid hyr
    have HC0 : RowKit.Hid (w2.drew.cell? ⟨m, 0, none⟩ = some (.slice (some ⟨g, off, none⟩) h.L.length h.fc)) := Lib.hid (by have := HM2.out.cells.1; rw [ef] at this; exact this)
    have HC1 := Lib.hid k1
    have hfc := HM2.out.fl.hcap
    have hfm := HM2.out.fl.hmax
    have HOFF : RowKit.Hid (∀ z, y.a = some z → z.block ≠ m ∧ z.block < w2.drew.heap.size) := Lib.hid (fun z hz => HM2.out.foot _ (.inr (.inr (.inr (.inr ⟨y, hym, z, hz, rfl⟩)))))
    have HFIN : RowKit.Hid (∀ W, PutTo w2.drew W m h R1 i ⟨y.a, y.c, y.b, y.b.length⟩ → RT w W m h { R1 with F := R1.F.set i ⟨(fcAt R1 i).b, (fcAt R1 i).b.length⟩ }) := Lib.hid (fun W p => by
      have h2 := p.rt (HT2.out.trans ((Touch.refl w2 (fun k => k = m)).drew) (fun _ _ h => h)) (fun z hz => .inl (.inr (.inr (.inr (.inr ⟨y, hym, z, hz, rfl⟩)))))
      rw [fcAt_get HI.out, ey]
      exact h2)
    have hyl := hyr.1
    clear k1 hyr hym hym' ey ef eL
    go_upto_region 6 with (fail)
    have hS := (Touch.refl w2 (fun k => k = m)).drew
    refine wp_region_tree3 (fun w' => Touch w2 w' (fun k => k = m)) (.take 0 (.take 1 (.take 2 (.take 3 (.take 4 (.take 6 (.take 10 (.take 11 (.take 12 (.take 14 (.two 5 13 (.take 7 (.take 8 (.two 9 13 (.one 13 (.take 15 (.take 16 (.one 17 (.take 18 (.take 19 (.one 20 .fin))))))) (.take 15 (.take 16 (.two 9 17 (.one 17 (.take 18 (.take 19 (.one 20 .fin)))) (.take 18 (.one 9 (.take 19 (.one 20 .fin)))))))))) (.take 15 (.take 16 (.two 5 17 (.take 7 (.take 8 (.two 9 17 (.one 17 (.take 18 (.take 19 (.one 20 .fin)))) (.take 18 (.one 9 (.take 19 (.one 20 .fin))))))) (.take 18 (.one 5 (.take 7 (.take 8 (.one 9 (.take 19 (.one 20 .fin))))))))))))))))))))) (by kernel_rfl) (by kernel_rfl) (by kernel_rfl) (by kernel_rfl) hS ?_
    refine walk3_take ?_
    (refine takeN_take (v := ?_) (some 16) rfl rfl (fun _ _ _ h => h) (by rfl) ?_ ?_; rotate_left; (focus (intro w' hw'; have k0 := HC0.out; have k1 := HC1.out; go_simp; (try with_reducible rfl))); (try simp only [Act.put, List.setIfInBounds_toArray, List.set_cons_zero, List.set_cons_succ]))
    refine walk3_take ?_
    (refine takeN_take (v := ?_) (some 17) rfl rfl (fun _ _ _ h => h) (by rfl) ?_ ?_; rotate_left; (focus (intro w' hw'; have k0 := HC0.out; have k1 := HC1.out; go_simp; (try with_reducible rfl))); (try simp only [Act.put, List.setIfInBounds_toArray, List.set_cons_zero, List.set_cons_succ]))
    refine walk3_take ?_
    (refine takeN_take (v := ?_) (some 18) rfl rfl (fun _ _ _ h => h) (by rfl) ?_ ?_; rotate_left; (focus (intro w' hw'; have k0 := HC0.out; have k1 := HC1.out; go_simp; (try with_reducible rfl))); (try simp only [Act.put, List.setIfInBounds_toArray, List.set_cons_zero, List.set_cons_succ]))
    refine walk3_take ?_
    (refine takeN_take (v := ?_) (some 19) rfl rfl (fun _ _ _ h => h) (by rfl) ?_ ?_; rotate_left; (focus (intro w' hw'; have k0 := HC0.out; have k1 := HC1.out; go_simp; (try with_reducible rfl))); (try simp only [Act.put, List.setIfInBounds_toArray, List.set_cons_zero, List.set_cons_succ]))
    refine walk3_take ?_
    (refine takeN_take (v := ?_) (some 20) rfl rfl (fun _ _ _ h => h) (by rfl) ?_ ?_; rotate_left; (focus (intro w' hw'; have k0 := HC0.out; have k1 := HC1.out; go_simp; (try with_reducible rfl))); (try simp only [Act.put, List.setIfInBounds_toArray, List.set_cons_zero, List.set_cons_succ]))
    refine walk3_take ?_
    (refine takeN_take (v := ?_) (some 22) rfl rfl (fun _ _ _ h => h) (by rfl) ?_ ?_; rotate_left; (focus (intro w' hw'; have k0 := HC0.out; have k1 := HC1.out; go_simp; (try with_reducible rfl))); (try simp only [Act.put, List.setIfInBounds_toArray, List.set_cons_zero, List.set_cons_succ]))
    refine walk3_take ?_
    (refine takeN_take (v := ?_) (some 26) rfl rfl (fun _ _ _ h => h) (by rfl) ?_ ?_; rotate_left; (focus (intro w' hw'; have k0 := HC0.out; have k1 := HC1.out; go_simp; (try with_reducible rfl))); (try simp only [Act.put, List.setIfInBounds_toArray, List.set_cons_zero, List.set_cons_succ]))
    refine walk3_take ?_
    (refine takeN_take (v := ?_) (some 27) rfl rfl (fun _ _ _ h => h) (by rfl) ?_ ?_; rotate_left; (focus (intro w' hw'; have k0 := HC0.out; have k1 := HC1.out; go_simp; (try with_reducible rfl))); (try simp only [Act.put, List.setIfInBounds_toArray, List.set_cons_zero, List.set_cons_succ]))
    refine walk3_take ?_
    (refine takeN_take (v := ?_) (some 28) rfl rfl (fun _ _ _ h => h) (by rfl) ?_ ?_; rotate_left; (focus (intro w' hw'; have k0 := HC0.out; have k1 := HC1.out; go_simp; (try with_reducible rfl))); (try simp only [Act.put, List.setIfInBounds_toArray, List.set_cons_zero, List.set_cons_succ]))
    refine walk3_take ?_
    (refine takeN_take (v := ?_) (some 30) rfl rfl (fun _ _ _ h => h) (by rfl) ?_ ?_; rotate_left; (focus (intro w' hw'; have k0 := HC0.out; have k1 := HC1.out; go_simp; (try with_reducible rfl))); (try simp only [Act.put, List.setIfInBounds_toArray, List.set_cons_zero, List.set_cons_succ]))
    refine walk3_two ?_ ?_
    · (have cc := HC0.out; refine runN_do (v := .slice (some ⟨g, off, none⟩) h.L.length h.fc) (w' := _) (some 21) rfl rfl (by rfl) (by go_simp; (try with_reducible rfl)) hS (fun hS => ?_); clear cc; (try simp only [Act.put, List.setIfInBounds_toArray, List.set_cons_zero, List.set_cons_succ]))
      refine walk3_take ?_
      (refine takeN_take (v := ?_) (some 23) rfl rfl (fun _ _ _ h => h) (by rfl) ?_ ?_; rotate_left; (focus (intro w' hw'; have k0 := HC0.out; have k1 := HC1.out; go_simp; (try with_reducible rfl))); (try simp only [Act.put, List.setIfInBounds_toArray, List.set_cons_zero, List.set_cons_succ]))
      refine walk3_take ?_
      (refine takeN_take (v := ?_) (some 24) rfl rfl (fun _ _ _ h => h) (by rfl) ?_ ?_; rotate_left; (focus (intro w' hw'; have k0 := HC0.out; have k1 := HC1.out; go_simp; (try with_reducible rfl))); (try simp only [Act.put, List.setIfInBounds_toArray, List.set_cons_zero, List.set_cons_succ]))
      refine walk3_two ?_ ?_
      · (have cc := HC1.out; refine runN_do (v := .slice y.a y.b.length y.c) (w' := _) (some 25) rfl rfl (by rfl) (by go_simp; (try with_reducible rfl)) hS (fun hS => ?_); clear cc; (try simp only [Act.put, List.setIfInBounds_toArray, List.set_cons_zero, List.set_cons_succ]))
        refine walk3_one ?_
        (have cc := HC0.out; refine runN_do (v := .slice (some ⟨g, off, none⟩) h.L.length h.fc) (w' := _) (some 29) rfl rfl (by rfl) (by go_simp; (try with_reducible rfl)) hS (fun hS => ?_); clear cc; (try simp only [Act.put, List.setIfInBounds_toArray, List.set_cons_zero, List.set_cons_succ]))
        refine walk3_take ?_
        (refine takeN_take (v := ?_) (some 31) rfl rfl (fun _ _ _ h => h) (by rfl) ?_ ?_; rotate_left; (focus (intro w' hw'; have k0 := HC0.out; have k1 := HC1.out; go_simp; (try with_reducible rfl))); (try simp only [Act.put, List.setIfInBounds_toArray, List.set_cons_zero, List.set_cons_succ]))
        refine walk3_take ?_
        (refine takeN_take (v := ?_) (some 32) rfl rfl (fun _ _ _ h => h) (by rfl) ?_ ?_; rotate_left; (focus (intro w' hw'; have k0 := HC0.out; have k1 := HC1.out; go_simp; (try with_reducible rfl))); (try simp only [Act.put, List.setIfInBounds_toArray, List.set_cons_zero, List.set_cons_succ]))
        refine walk3_one ?_
        (have cc := HC1.out; refine runN_do (v := .slice y.a y.b.length y.c) (w' := _) (some 33) rfl rfl (by rfl) (by go_simp; (try with_reducible rfl)) hS (fun hS => ?_); clear cc; (try simp only [Act.put, List.setIfInBounds_toArray, List.set_cons_zero, List.set_cons_succ]))
        refine walk3_take ?_
        (refine takeN_take (v := ?_) (some 34) rfl rfl (fun _ _ _ h => h) (by rfl) ?_ ?_; rotate_left; (focus (intro w' hw'; have k0 := HC0.out; have k1 := HC1.out; go_simp; (try with_reducible rfl))); (try simp only [Act.put, List.setIfInBounds_toArray, List.set_cons_zero, List.set_cons_succ]))
        refine walk3_take ?_
        (refine takeN_take (v := ?_) (some 35) rfl rfl (fun _ _ _ h => h) (by rfl) ?_ ?_; rotate_left; (focus (intro w' hw'; have k0 := HC0.out; have k1 := HC1.out; go_simp; (try with_reducible rfl))); (try simp only [Act.put, List.setIfInBounds_toArray, List.set_cons_zero, List.set_cons_succ]))
        refine walk3_one ?_
        (refine runN_call 36 _ _ _ _ (rput_any _ m h R1 HM2.out HV1.out.fl' i HI.out ⟨y.a, y.c, y.b, y.b.length⟩ HY.out HOFF.out) rfl rfl rfl (by rfl) rfl (enter_rput _ _ _ _) ?_; rintro e w3 ⟨rfl, p3⟩; have HP := Lib.hid p3; have hS := hS.trans p3.touch (fun _ _ h => h); refine ⟨_, rfl, hS, fun hS => ?_⟩; clear p3; (try simp only [Act.put, List.setIfInBounds_toArray, List.set_cons_zero, List.set_cons_succ]))
        refine walk3_fin ?_
        go_wp2_with fail
        go_ret
        exact ⟨rfl, HFIN.out _ HP.out⟩
      · (have cc := HC0.out; refine runN_do (v := .slice (some ⟨g, off, none⟩) h.L.length h.fc) (w' := _) (some 29) rfl rfl (by rfl) (by go_simp; (try with_reducible rfl)) hS (fun hS => ?_); clear cc; (try simp only [Act.put, List.setIfInBounds_toArray, List.set_cons_zero, List.set_cons_succ]))
        refine walk3_take ?_
        (refine takeN_take (v := ?_) (some 31) rfl rfl (fun _ _ _ h => h) (by rfl) ?_ ?_; rotate_left; (focus (intro w' hw'; have k0 := HC0.out; have k1 := HC1.out; go_simp; (try with_reducible rfl))); (try simp only [Act.put, List.setIfInBounds_toArray, List.set_cons_zero, List.set_cons_succ]))
        refine walk3_take ?_
        (refine takeN_take (v := ?_) (some 32) rfl rfl (fun _ _ _ h => h) (by rfl) ?_ ?_; rotate_left; (focus (intro w' hw'; have k0 := HC0.out; have k1 := HC1.out; go_simp; (try with_reducible rfl))); (try simp only [Act.put, List.setIfInBounds_toArray, List.set_cons_zero, List.set_cons_succ]))
        refine walk3_two ?_ ?_
        · (have cc := HC1.out; refine runN_do (v := .slice y.a y.b.length y.c) (w' := _) (some 25) rfl rfl (by rfl) (by go_simp; (try with_reducible rfl)) hS (fun hS => ?_); clear cc; (try simp only [Act.put, List.setIfInBounds_toArray, List.set_cons_zero, List.set_cons_succ]))
          refine walk3_one ?_
          (have cc := HC1.out; refine runN_do (v := .slice y.a y.b.length y.c) (w' := _) (some 33) rfl rfl (by rfl) (by go_simp; (try with_reducible rfl)) hS (fun hS => ?_); clear cc; (try simp only [Act.put, List.setIfInBounds_toArray, List.set_cons_zero, List.set_cons_succ]))
          refine walk3_take ?_
          (refine takeN_take (v := ?_) (some 34) rfl rfl (fun _ _ _ h => h) (by rfl) ?_ ?_; rotate_left; (focus (intro w' hw'; have k0 := HC0.out; have k1 := HC1.out; go_simp; (try with_reducible rfl))); (try simp only [Act.put, List.setIfInBounds_toArray, List.set_cons_zero, List.set_cons_succ]))
          refine walk3_take ?_
          (refine takeN_take (v := ?_) (some 35) rfl rfl (fun _ _ _ h => h) (by rfl) ?_ ?_; rotate_left; (focus (intro w' hw'; have k0 := HC0.out; have k1 := HC1.out; go_simp; (try with_reducible rfl))); (try simp only [Act.put, List.setIfInBounds_toArray, List.set_cons_zero, List.set_cons_succ]))
          refine walk3_one ?_
          (refine runN_call 36 _ _ _ _ (rput_any _ m h R1 HM2.out HV1.out.fl' i HI.out ⟨y.a, y.c, y.b, y.b.length⟩ HY.out HOFF.out) rfl rfl rfl (by rfl) rfl (enter_rput _ _ _ _) ?_; rintro e w3 ⟨rfl, p3⟩; have HP := Lib.hid p3; have hS := hS.trans p3.touch (fun _ _ h => h); refine ⟨_, rfl, hS, fun hS => ?_⟩; clear p3; (try simp only [Act.put, List.setIfInBounds_toArray, List.set_cons_zero, List.set_cons_succ]))
          refine walk3_fin ?_
          go_wp2_with fail
          go_ret
          exact ⟨rfl, HFIN.out _ HP.out⟩
        · (have cc := HC1.out; refine runN_do (v := .slice y.a y.b.length y.c) (w' := _) (some 33) rfl rfl (by rfl) (by go_simp; (try with_reducible rfl)) hS (fun hS => ?_); clear cc; (try simp only [Act.put, List.setIfInBounds_toArray, List.set_cons_zero, List.set_cons_succ]))
          refine walk3_take ?_
          (refine takeN_take (v := ?_) (some 34) rfl rfl (fun _ _ _ h => h) (by rfl) ?_ ?_; rotate_left; (focus (intro w' hw'; have k0 := HC0.out; have k1 := HC1.out; go_simp; (try with_reducible rfl))); (try simp only [Act.put, List.setIfInBounds_toArray, List.set_cons_zero, List.set_cons_succ]))
          refine walk3_one ?_
          (have cc := HC1.out; refine runN_do (v := .slice y.a y.b.length y.c) (w' := _) (some 25) rfl rfl (by rfl) (by go_simp; (try with_reducible rfl)) hS (fun hS => ?_); clear cc; (try simp only [Act.put, List.setIfInBounds_toArray, List.set_cons_zero, List.set_cons_succ]))
          refine walk3_take ?_
          (refine takeN_take (v := ?_) (some 35) rfl rfl (fun _ _ _ h => h) (by rfl) ?_ ?_; rotate_left; (focus (intro w' hw'; have k0 := HC0.out; have k1 := HC1.out; go_simp; (try with_reducible rfl))); (try simp only [Act.put, List.setIfInBounds_toArray, List.set_cons_zero, List.set_cons_succ]))
          refine walk3_one ?_
          (refine runN_call 36 _ _ _ _ (rput_any _ m h R1 HM2.out HV1.out.fl' i HI.out ⟨y.a, y.c, y.b, y.b.length⟩ HY.out HOFF.out) rfl rfl rfl (by rfl) rfl (enter_rput _ _ _ _) ?_; rintro e w3 ⟨rfl, p3⟩; have HP := Lib.hid p3; have hS := hS.trans p3.touch (fun _ _ h => h); refine ⟨_, rfl, hS, fun hS => ?_⟩; clear p3; (try simp only [Act.put, List.setIfInBounds_toArray, List.set_cons_zero, List.set_cons_succ]))
          refine walk3_fin ?_
          go_wp2_with fail
          go_ret
          exact ⟨rfl, HFIN.out _ HP.out⟩
    · (have cc := HC0.out; refine runN_do (v := .slice (some ⟨g, off, none⟩) h.L.length h.fc) (w' := _) (some 29) rfl rfl (by rfl) (by go_simp; (try with_reducible rfl)) hS (fun hS => ?_); clear cc; (try simp only [Act.put, List.setIfInBounds_toArray, List.set_cons_zero, List.set_cons_succ]))
      refine walk3_take ?_
      (refine takeN_take (v := ?_) (some 31) rfl rfl (fun _ _ _ h => h) (by rfl) ?_ ?_; rotate_left; (focus (intro w' hw'; have k0 := HC0.out; have k1 := HC1.out; go_simp; (try with_reducible rfl))); (try simp only [Act.put, List.setIfInBounds_toArray, List.set_cons_zero, List.set_cons_succ]))
      refine walk3_take ?_
      (refine takeN_take (v := ?_) (some 32) rfl rfl (fun _ _ _ h => h) (by rfl) ?_ ?_; rotate_left; (focus (intro w' hw'; have k0 := HC0.out; have k1 := HC1.out; go_simp; (try with_reducible rfl))); (try simp only [Act.put, List.setIfInBounds_toArray, List.set_cons_zero, List.set_cons_succ]))
      refine walk3_two ?_ ?_
      · (have cc := HC0.out; refine runN_do (v := .slice (some ⟨g, off, none⟩) h.L.length h.fc) (w' := _) (some 21) rfl rfl (by rfl) (by go_simp; (try with_reducible rfl)) hS (fun hS => ?_); clear cc; (try simp only [Act.put, List.setIfInBounds_toArray, List.set_cons_zero, List.set_cons_succ]))
        refine walk3_take ?_
        (refine takeN_take (v := ?_) (some 23) rfl rfl (fun _ _ _ h => h) (by rfl) ?_ ?_; rotate_left; (focus (intro w' hw'; have k0 := HC0.out; have k1 := HC1.out; go_simp; (try with_reducible rfl))); (try simp only [Act.put, List.setIfInBounds_toArray, List.set_cons_zero, List.set_cons_succ]))
        refine walk3_take ?_
        (refine takeN_take (v := ?_) (some 24) rfl rfl (fun _ _ _ h => h) (by rfl) ?_ ?_; rotate_left; (focus (intro w' hw'; have k0 := HC0.out; have k1 := HC1.out; go_simp; (try with_reducible rfl))); (try simp only [Act.put, List.setIfInBounds_toArray, List.set_cons_zero, List.set_cons_succ]))
        refine walk3_two ?_ ?_
        · (have cc := HC1.out; refine runN_do (v := .slice y.a y.b.length y.c) (w' := _) (some 25) rfl rfl (by rfl) (by go_simp; (try with_reducible rfl)) hS (fun hS => ?_); clear cc; (try simp only [Act.put, List.setIfInBounds_toArray, List.set_cons_zero, List.set_cons_succ]))
          refine walk3_one ?_
          (have cc := HC1.out; refine runN_do (v := .slice y.a y.b.length y.c) (w' := _) (some 33) rfl rfl (by rfl) (by go_simp; (try with_reducible rfl)) hS (fun hS => ?_); clear cc; (try simp only [Act.put, List.setIfInBounds_toArray, List.set_cons_zero, List.set_cons_succ]))
          refine walk3_take ?_
          (refine takeN_take (v := ?_) (some 34) rfl rfl (fun _ _ _ h => h) (by rfl) ?_ ?_; rotate_left; (focus (intro w' hw'; have k0 := HC0.out; have k1 := HC1.out; go_simp; (try with_reducible rfl))); (try simp only [Act.put, List.setIfInBounds_toArray, List.set_cons_zero, List.set_cons_succ]))
          refine walk3_take ?_
          (refine takeN_take (v := ?_) (some 35) rfl rfl (fun _ _ _ h => h) (by rfl) ?_ ?_; rotate_left; (focus (intro w' hw'; have k0 := HC0.out; have k1 := HC1.out; go_simp; (try with_reducible rfl))); (try simp only [Act.put, List.setIfInBounds_toArray, List.set_cons_zero, List.set_cons_succ]))
          refine walk3_one ?_
          (refine runN_call 36 _ _ _ _ (rput_any _ m h R1 HM2.out HV1.out.fl' i HI.out ⟨y.a, y.c, y.b, y.b.length⟩ HY.out HOFF.out) rfl rfl rfl (by rfl) rfl (enter_rput _ _ _ _) ?_; rintro e w3 ⟨rfl, p3⟩; have HP := Lib.hid p3; have hS := hS.trans p3.touch (fun _ _ h => h); refine ⟨_, rfl, hS, fun hS => ?_⟩; clear p3; (try simp only [Act.put, List.setIfInBounds_toArray, List.set_cons_zero, List.set_cons_succ]))
          refine walk3_fin ?_
          go_wp2_with fail
          go_ret
          exact ⟨rfl, HFIN.out _ HP.out⟩
        · (have cc := HC1.out; refine runN_do (v := .slice y.a y.b.length y.c) (w' := _) (some 33) rfl rfl (by rfl) (by go_simp; (try with_reducible rfl)) hS (fun hS => ?_); clear cc; (try simp only [Act.put, List.setIfInBounds_toArray, List.set_cons_zero, List.set_cons_succ]))
          refine walk3_take ?_
          (refine takeN_take (v := ?_) (some 34) rfl rfl (fun _ _ _ h => h) (by rfl) ?_ ?_; rotate_left; (focus (intro w' hw'; have k0 := HC0.out; have k1 := HC1.out; go_simp; (try with_reducible rfl))); (try simp only [Act.put, List.setIfInBounds_toArray, List.set_cons_zero, List.set_cons_succ]))
          refine walk3_one ?_
          (have cc := HC1.out; refine runN_do (v := .slice y.a y.b.length y.c) (w' := _) (some 25) rfl rfl (by rfl) (by go_simp; (try with_reducible rfl)) hS (fun hS => ?_); clear cc; (try simp only [Act.put, List.setIfInBounds_toArray, List.set_cons_zero, List.set_cons_succ]))
          refine walk3_take ?_
          (refine takeN_take (v := ?_) (some 35) rfl rfl (fun _ _ _ h => h) (by rfl) ?_ ?_; rotate_left; (focus (intro w' hw'; have k0 := HC0.out; have k1 := HC1.out; go_simp; (try with_reducible rfl))); (try simp only [Act.put, List.setIfInBounds_toArray, List.set_cons_zero, List.set_cons_succ]))
          refine walk3_one ?_
          (refine runN_call 36 _ _ _ _ (rput_any _ m h R1 HM2.out HV1.out.fl' i HI.out ⟨y.a, y.c, y.b, y.b.length⟩ HY.out HOFF.out) rfl rfl rfl (by rfl) rfl (enter_rput _ _ _ _) ?_; rintro e w3 ⟨rfl, p3⟩; have HP := Lib.hid p3; have hS := hS.trans p3.touch (fun _ _ h => h); refine ⟨_, rfl, hS, fun hS => ?_⟩; clear p3; (try simp only [Act.put, List.setIfInBounds_toArray, List.set_cons_zero, List.set_cons_succ]))
          refine walk3_fin ?_
          go_wp2_with fail
          go_ret
          exact ⟨rfl, HFIN.out _ HP.out⟩
      · (have cc := HC1.out; refine runN_do (v := .slice y.a y.b.length y.c) (w' := _) (some 33) rfl rfl (by rfl) (by go_simp; (try with_reducible rfl)) hS (fun hS => ?_); clear cc; (try simp only [Act.put, List.setIfInBounds_toArray, List.set_cons_zero, List.set_cons_succ]))
        refine walk3_take ?_
        (refine takeN_take (v := ?_) (some 34) rfl rfl (fun _ _ _ h => h) (by rfl) ?_ ?_; rotate_left; (focus (intro w' hw'; have k0 := HC0.out; have k1 := HC1.out; go_simp; (try with_reducible rfl))); (try simp only [Act.put, List.setIfInBounds_toArray, List.set_cons_zero, List.set_cons_succ]))
        refine walk3_one ?_
        (have cc := HC0.out; refine runN_do (v := .slice (some ⟨g, off, none⟩) h.L.length h.fc) (w' := _) (some 21) rfl rfl (by rfl) (by go_simp; (try with_reducible rfl)) hS (fun hS => ?_); clear cc; (try simp only [Act.put, List.setIfInBounds_toArray, List.set_cons_zero, List.set_cons_succ]))
        refine walk3_take ?_
        (refine takeN_take (v := ?_) (some 23) rfl rfl (fun _ _ _ h => h) (by rfl) ?_ ?_; rotate_left; (focus (intro w' hw'; have k0 := HC0.out; have k1 := HC1.out; go_simp; (try with_reducible rfl))); (try simp only [Act.put, List.setIfInBounds_toArray, List.set_cons_zero, List.set_cons_succ]))
        refine walk3_take ?_
        (refine takeN_take (v := ?_) (some 24) rfl rfl (fun _ _ _ h => h) (by rfl) ?_ ?_; rotate_left; (focus (intro w' hw'; have k0 := HC0.out; have k1 := HC1.out; go_simp; (try with_reducible rfl))); (try simp only [Act.put, List.setIfInBounds_toArray, List.set_cons_zero, List.set_cons_succ]))
        refine walk3_one ?_
        (have cc := HC1.out; refine runN_do (v := .slice y.a y.b.length y.c) (w' := _) (some 25) rfl rfl (by rfl) (by go_simp; (try with_reducible rfl)) hS (fun hS => ?_); clear cc; (try simp only [Act.put, List.setIfInBounds_toArray, List.set_cons_zero, List.set_cons_succ]))
        refine walk3_take ?_
        (refine takeN_take (v := ?_) (some 35) rfl rfl (fun _ _ _ h => h) (by rfl) ?_ ?_; rotate_left; (focus (intro w' hw'; have k0 := HC0.out; have k1 := HC1.out; go_simp; (try with_reducible rfl))); (try simp only [Act.put, List.setIfInBounds_toArray, List.set_cons_zero, List.set_cons_succ]))
        refine walk3_one ?_
        (refine runN_call 36 _ _ _ _ (rput_any _ m h R1 HM2.out HV1.out.fl' i HI.out ⟨y.a, y.c, y.b, y.b.length⟩ HY.out HOFF.out) rfl rfl rfl (by rfl) rfl (enter_rput _ _ _ _) ?_; rintro e w3 ⟨rfl, p3⟩; have HP := Lib.hid p3; have hS := hS.trans p3.touch (fun _ _ h => h); refine ⟨_, rfl, hS, fun hS => ?_⟩; clear p3; (try simp only [Act.put, List.setIfInBounds_toArray, List.set_cons_zero, List.set_cons_succ]))
        refine walk3_fin ?_
        go_wp2_with fail
        go_ret
        exact ⟨rfl, HFIN.out _ HP.out⟩
def rRem (R : RS) (k : ByteArray) : RS := if R.fail = 1 then rOp R else match rFind R.N k with | none => rOp R | some i => { rOp R with N := rTurn R.N ⟨k, ⟨#[]⟩, i⟩, C := R.C ++ [⟨k, ⟨#[]⟩, i⟩] }
set_option maxRecDepth 20000 in
set_option maxHeartbeats 8000000 in
theorem rrem_any (w : World) (m : Nat) (h : RH) (R : RS) (x : RM w m h R) (v : RV R) (k : ByteArray) (hk : rFind R.N k ≠ none → k ≠ ⟨#[]⟩) :
    Calls Try.prog 40 #[.pointer (some ⟨m, 0, none⟩), .string k] w fun e w' => e = .returned (.int .i64 (rOnE R k)) ∧ RT w w' m h (rRem R k) := by
  have HK := Lib.hid hk
  have HO := Lib.hid (rop_any w m h R x v.fail)
  have HV1 := Lib.hid v.op
  obtain ⟨R1, hR1⟩ : ∃ R1, rOp R = R1 := ⟨_, rfl⟩
  have hN : R1.N = R.N := by rw [← hR1]; rfl
  have hFF : R1.F = R.F := by rw [← hR1]; rfl
  rw [hR1] at HO HV1
  clear x v
  by_cases h1 : R.fail = 1
  · have e1 : rOnE R k = 8 := by unfold rOnE; rw [if_pos h1]
    have e2 : rRem R k = R1 := by unfold rRem; rw [if_pos h1, hR1]
    have hd : decide (R.fail = 1) = true := decide_eq_true h1
    rw [e1, e2]
    rw [hd] at HO
    clear e1 e2 h1 hN hFF hd
    go_enter Try.func40, Try.ntmps40
    go_wp2_with fail
    (with_reducible refine HO.out.mono ?_)
    rintro e w1 ⟨rfl, m1, t1⟩
    have HR := Lib.hid (m1.same t1)
    clear m1 t1
    go_wp2_with fail
    go_ret
    exact ⟨rfl, HR.out⟩
  have hd : decide (R.fail = 1) = false := decide_eq_false h1
  rw [hd] at HO
  cases ho : rFind R.N k with
  | none =>
    have e1 : rOnE R k = 6 := by unfold rOnE; rw [if_neg h1, ho]
    have e2 : rRem R k = R1 := by unfold rRem; rw [if_neg h1, ho, hR1]
    rw [e1, e2]
    have HNO := Lib.hid (hN ▸ ho)
    clear e1 e2 h1 hFF hd hN hR1 ho
    go_enter Try.func40, Try.ntmps40
    go_wp2_with fail
    (with_reducible refine HO.out.mono ?_)
    rintro e w1 ⟨rfl, m1, t1⟩
    have c1 := m1.cells.2.1
    have HFN := Lib.hid (rfind_any w1 h.na R1.N.length h.nc R1.N m1.now k)
    rw [show rFind R1.N k = none from HNO.out] at HFN
    simp only [fI] at HFN
    have HM1 := Lib.hid m1
    have HT1 := Lib.hid t1
    clear m1 t1
    go_wp2_with fail
    (with_reducible refine HFN.out.mono ?_)
    rintro e w2 ⟨rfl, t2⟩
    have HR := Lib.hid ((HM1.out.still t2).same (HT1.out.trans t2 (fun _ _ h => h.elim)))
    clear t2
    go_wp2_with fail
    go_ret
    exact ⟨rfl, HR.out⟩
  | some i =>
    have HNO : RowKit.Hid (rFind R1.N k = some i) := Lib.hid (by rw [hN]; exact ho)
    have hiF : i < R1.F.length := HV1.out.find HNO.out
    have HI := Lib.hid hiF
    have hlI : ¬ (i : Int) < 0 := by omega
    have hkn := hk (by rw [ho]; simp)
    have e1 : rOnE R k = 0 := by unfold rOnE; rw [if_neg h1, ho]
    have e2 : rRem R k = { R1 with N := rTurn R1.N ⟨k, ⟨#[]⟩, i⟩, C := R1.C ++ [⟨k, ⟨#[]⟩, i⟩] } := by unfold rRem; rw [if_neg h1, ho, ← hR1]; rfl
    rw [e1, e2]
    clear e1 e2 h1 hd hFF ho hR1 hN
    go_enter Try.func40, Try.ntmps40
    go_wp2_with fail
    (with_reducible refine HO.out.mono ?_)
    rintro e w1 ⟨rfl, m1, t1⟩
    have c1 := m1.cells.2.1
    have HFN := Lib.hid (rfind_any w1 h.na R1.N.length h.nc R1.N m1.now k)
    rw [HNO.out] at HFN
    simp only [fI] at HFN
    have HM1 := Lib.hid m1
    have HT1 := Lib.hid t1
    clear m1 t1
    go_wp2_with fail
    (with_reducible refine HFN.out.mono ?_)
    rintro e w2 ⟨rfl, t2⟩
    have HT2 := Lib.hid (HT1.out.trans t2 (fun _ _ h => h.elim))
    have HMB := Lib.hid (HM1.out.still t2)
    clear t2 c1
    have HCG := Lib.hid (rchange_any w2 m h R1 HMB.out HV1.out.nl (Nat.le_trans HV1.out.cl (by decide)) ⟨k, ⟨#[]⟩, i⟩ (.inl hkn))
    unfold rcv at HCG
    simp only at HCG
    clear hkn
    go_wp2_with fail
    (with_reducible refine HCG.out.mono ?_)
    rintro e w3 ⟨rfl, p3⟩
    have HR := Lib.hid (RT.trans HT2.out (fun k hk => .inl hk) p3)
    clear p3
    go_wp2_with fail
    go_ret
    exact ⟨rfl, HR.out⟩
def rRenE (R : RS) (k t : ByteArray) : Int := if R.fail = 1 then 8 else match rFind R.N k with | none => 6 | some _ => if 1 ≤ t.size ∧ t.size ≤ 16 then 0 else 1
def rRen (R : RS) (k t : ByteArray) : RS := if R.fail = 1 then rOp R else match rFind R.N k with | none => rOp R | some i => if 1 ≤ t.size ∧ t.size ≤ 16 then (if k = t then rOp R else { rOp R with N := rTurn R.N ⟨k, t, i⟩, C := R.C ++ [⟨k, t, i⟩] }) else rOp R
theorem enter_rmay (a : Value) (w : World) : (callFunc 61 #[a]).run Try.prog w = .ok (.enter 61 #[a]) w := by kernel_rfl
set_option maxRecDepth 20000 in
set_option maxHeartbeats 8000000 in
theorem rren_any (w : World) (m : Nat) (h : RH) (R : RS) (x : RM w m h R) (v : RV R) (k t : ByteArray) (hts : szN t) :
    Calls Try.prog 39 #[.pointer (some ⟨m, 0, none⟩), .string k, .string t] w fun e w' => e = .returned (.int .i64 (rRenE R k t)) ∧ RT w w' m h (rRen R k t) := by
  have HO := Lib.hid (rop_any w m h R x v.fail)
  have HV1 := Lib.hid v.op
  obtain ⟨R1, hR1⟩ : ∃ R1, rOp R = R1 := ⟨_, rfl⟩
  have hN : R1.N = R.N := by rw [← hR1]; rfl
  have hFF : R1.F = R.F := by rw [← hR1]; rfl
  rw [hR1] at HO HV1
  clear x v
  by_cases h1 : R.fail = 1
  · have e1 : rRenE R k t = 8 := by unfold rRenE; rw [if_pos h1]
    have e2 : rRen R k t = R1 := by unfold rRen; rw [if_pos h1, hR1]
    have hd : decide (R.fail = 1) = true := decide_eq_true h1
    rw [e1, e2]
    rw [hd] at HO
    clear e1 e2 h1 hN hFF hd
    go_enter Try.func39, Try.ntmps39
    go_wp2_with fail
    (with_reducible refine HO.out.mono ?_)
    rintro e w1 ⟨rfl, m1, t1⟩
    have HR := Lib.hid (m1.same t1)
    clear m1 t1
    go_wp2_with fail
    go_ret
    exact ⟨rfl, HR.out⟩
  have hd : decide (R.fail = 1) = false := decide_eq_false h1
  rw [hd] at HO
  cases ho : rFind R.N k with
  | none =>
    have e1 : rRenE R k t = 6 := by unfold rRenE; rw [if_neg h1, ho]
    have e2 : rRen R k t = R1 := by unfold rRen; rw [if_neg h1, ho, hR1]
    rw [e1, e2]
    have HNO := Lib.hid (hN ▸ ho)
    clear e1 e2 h1 hFF hd hN hR1 ho
    go_enter Try.func39, Try.ntmps39
    go_wp2_with fail
    (with_reducible refine HO.out.mono ?_)
    rintro e w1 ⟨rfl, m1, t1⟩
    have c1 := m1.cells.2.1
    have HFN := Lib.hid (rfind_any w1 h.na R1.N.length h.nc R1.N m1.now k)
    rw [show rFind R1.N k = none from HNO.out] at HFN
    simp only [fI] at HFN
    have HM1 := Lib.hid m1
    have HT1 := Lib.hid t1
    clear m1 t1
    go_wp2_with fail
    (with_reducible refine HFN.out.mono ?_)
    rintro e w2 ⟨rfl, t2⟩
    have HR := Lib.hid ((HM1.out.still t2).same (HT1.out.trans t2 (fun _ _ h => h.elim)))
    clear t2
    go_wp2_with fail
    go_ret
    exact ⟨rfl, HR.out⟩
  | some i =>
    have HNO : RowKit.Hid (rFind R1.N k = some i) := Lib.hid (by rw [hN]; exact ho)
    have hiF : i < R1.F.length := HV1.out.find HNO.out
    have HI := Lib.hid hiF
    have hlI : ¬ (i : Int) < 0 := by omega
    have HMY := Lib.hid (fun W => rmay_any W t hts)
    by_cases hm : 1 ≤ t.size ∧ t.size ≤ 16
    · have htn : t ≠ ⟨#[]⟩ := fun e => by rw [e] at hm; exact absurd hm.1 (by decide)
      have e1 : rRenE R k t = 0 := by unfold rRenE; rw [if_neg h1, ho]; simp only; rw [if_pos hm]
      rw [decide_eq_true hm] at HMY
      by_cases hkt : k = t
      · have e2 : rRen R k t = R1 := by unfold rRen; rw [if_neg h1, ho]; simp only; rw [if_pos hm, if_pos hkt, hR1]
        rw [e1, e2]
        subst hkt
        clear e1 e2 h1 hd hFF ho hR1 hN hm htn hts
        go_enter Try.func39, Try.ntmps39
        go_wp2_with fail
        (with_reducible refine HO.out.mono ?_)
        rintro e w1 ⟨rfl, m1, t1⟩
        have c1 := m1.cells.2.1
        have HFN := Lib.hid (rfind_any w1 h.na R1.N.length h.nc R1.N m1.now k)
        rw [HNO.out] at HFN
        simp only [fI] at HFN
        have HM1 := Lib.hid m1
        have HT1 := Lib.hid t1
        clear m1 t1
        go_wp2_with fail
        (with_reducible refine HFN.out.mono ?_)
        rintro e w2 ⟨rfl, t2⟩
        have HT2 := Lib.hid (HT1.out.trans t2 (fun _ _ h => h.elim))
        have HMB := Lib.hid (HM1.out.still t2)
        clear t2 c1
        have HR := Lib.hid (HMB.out.same HT2.out)
        go_wp2_with fail
        (with_reducible refine (HMY.out w2).mono ?_)
        rintro e w3 ⟨rfl, rfl⟩
        go_wp2_with fail
        go_ret
        exact ⟨rfl, HR.out⟩
      · have e2 : rRen R k t = { R1 with N := rTurn R1.N ⟨k, t, i⟩, C := R1.C ++ [⟨k, t, i⟩] } := by unfold rRen; rw [if_neg h1, ho]; simp only; rw [if_pos hm, if_neg hkt, ← hR1]; rfl
        have hne2 : (k.toList == t.toList) = false := by rw [beq_eq_false_iff_ne]; intro e; exact hkt (toList_inj e)
        rw [e1, e2]
        clear e1 e2 h1 hd hFF ho hR1 hN hm hkt hts
        go_enter Try.func39, Try.ntmps39
        go_wp2_with fail
        (with_reducible refine HO.out.mono ?_)
        rintro e w1 ⟨rfl, m1, t1⟩
        have c1 := m1.cells.2.1
        have HFN := Lib.hid (rfind_any w1 h.na R1.N.length h.nc R1.N m1.now k)
        rw [HNO.out] at HFN
        simp only [fI] at HFN
        have HM1 := Lib.hid m1
        have HT1 := Lib.hid t1
        clear m1 t1
        go_wp2_with fail
        (with_reducible refine HFN.out.mono ?_)
        rintro e w2 ⟨rfl, t2⟩
        have HT2 := Lib.hid (HT1.out.trans t2 (fun _ _ h => h.elim))
        have HMB := Lib.hid (HM1.out.still t2)
        clear t2 c1
        have HCG := Lib.hid (rchange_any w2 m h R1 HMB.out HV1.out.nl (Nat.le_trans HV1.out.cl (by decide)) ⟨k, t, i⟩ (.inr htn))
        unfold rcv at HCG
        simp only at HCG
        clear htn
        go_wp2_with fail
        (with_reducible refine (HMY.out w2).mono ?_)
        rintro e w3 ⟨rfl, rfl⟩
        go_wp2_with fail
        (with_reducible refine HCG.out.mono ?_)
        rintro e w3 ⟨rfl, p3⟩
        have HR := Lib.hid (RT.trans HT2.out (fun k hk => .inl hk) p3)
        clear p3
        go_wp2_with fail
        go_ret
        exact ⟨rfl, HR.out⟩
    · have e1 : rRenE R k t = 1 := by unfold rRenE; rw [if_neg h1, ho]; simp only; rw [if_neg hm]
      have e2 : rRen R k t = R1 := by unfold rRen; rw [if_neg h1, ho]; simp only; rw [if_neg hm, hR1]
      rw [decide_eq_false hm] at HMY
      rw [e1, e2]
      clear e1 e2 h1 hd hFF ho hR1 hN hm hts
      go_enter Try.func39, Try.ntmps39
      go_wp2_with fail
      (with_reducible refine HO.out.mono ?_)
      rintro e w1 ⟨rfl, m1, t1⟩
      have c1 := m1.cells.2.1
      have HFN := Lib.hid (rfind_any w1 h.na R1.N.length h.nc R1.N m1.now k)
      rw [HNO.out] at HFN
      simp only [fI] at HFN
      have HM1 := Lib.hid m1
      have HT1 := Lib.hid t1
      clear m1 t1
      go_wp2_with fail
      (with_reducible refine HFN.out.mono ?_)
      rintro e w2 ⟨rfl, t2⟩
      have HT2 := Lib.hid (HT1.out.trans t2 (fun _ _ h => h.elim))
      have HMB := Lib.hid (HM1.out.still t2)
      clear t2 c1
      have HR := Lib.hid (HMB.out.same HT2.out)
      go_wp2_with fail
      (with_reducible refine (HMY.out w2).mono ?_)
      rintro e w3 ⟨rfl, rfl⟩
      go_wp2_with fail
      go_ret
      exact ⟨rfl, HR.out⟩
def rBeg (R : RS) : Int := if R.fail = 1 then 8 else 0
def rDir (R : RS) : RS := if R.fail = 1 then rOp R else { rOp R with S := R.N, C := [] }
set_option maxRecDepth 20000 in
set_option maxHeartbeats 8000000 in
theorem rdir_any (w : World) (m : Nat) (h : RH) (R : RS) (x : RM w m h R) (v : RV R) :
    Calls Try.prog 38 #[.pointer (some ⟨m, 0, none⟩)] w fun e w' => e = .returned (.int .i64 (rBeg R)) ∧ RT w w' m h (rDir R) := by
  have HO := Lib.hid (rop_any w m h R x v.fail)
  have HV1 := Lib.hid v.op
  obtain ⟨R1, hR1⟩ : ∃ R1, rOp R = R1 := ⟨_, rfl⟩
  have hN : R1.N = R.N := by rw [← hR1]; rfl
  have hFF : R1.F = R.F := by rw [← hR1]; rfl
  rw [hR1] at HO HV1
  clear x v
  by_cases h1 : R.fail = 1
  · have e1 : rBeg R = 8 := by unfold rBeg; rw [if_pos h1]
    have e2 : rDir R = R1 := by unfold rDir; rw [if_pos h1, hR1]
    have hd : decide (R.fail = 1) = true := decide_eq_true h1
    rw [e1, e2]
    rw [hd] at HO
    clear e1 e2 h1 hN hFF hd
    go_enter Try.func38, Try.ntmps38
    go_wp2_with fail
    (with_reducible refine HO.out.mono ?_)
    rintro e w1 ⟨rfl, m1, t1⟩
    have HR := Lib.hid (m1.same t1)
    clear m1 t1
    go_wp2_with fail
    go_ret
    exact ⟨rfl, HR.out⟩
  have hd : decide (R.fail = 1) = false := decide_eq_false h1
  rw [hd] at HO
  have e1 : rBeg R = 0 := by unfold rBeg; rw [if_neg h1]
  have e2 : rDir R = { R1 with S := R1.N, C := [] } := by unfold rDir; rw [if_neg h1, ← hR1]; rfl
  rw [e1, e2]
  clear e1 e2 h1 hd hFF hR1 hN
  go_enter Try.func38, Try.ntmps38
  go_wp2_with fail
  (with_reducible refine HO.out.mono ?_)
  rintro e w1 ⟨rfl, m1, t1⟩
  have c1 := m1.cells.2.1
  have c2 := m1.cells.2.2.1
  have c3 := m1.cells.2.2.2.1
  have f2 := free_of_cells m1.head 2
  obtain ⟨W2, hW2⟩ : ∃ W, w1.setCell ⟨m, 2, none⟩ (.slice h.na R1.N.length h.nc) = W := ⟨_, rfl⟩
  have g2 := heap_setCell_same w1 m 2 _ _ (.slice h.na R1.N.length h.nc) m1.head
  rw [hW2] at g2
  have f3 := free_of_cells g2 3
  have d3 := cell_of_cells g2 3
  obtain ⟨W3, hW3⟩ : ∃ W, W2.setCell ⟨m, 3, none⟩ (.slice none 0 0) = W := ⟨_, rfl⟩
  have g3 := heap_setCell_same W2 m 3 _ _ (.slice none 0 0) g2
  rw [hW3] at g3
  have t2 : Touch w1 W2 (fun k => k = m) := hW2 ▸ (Touch.refl w1 _).into 2 _
  have t3 : Touch w1 W3 (fun k => k = m) := hW3 ▸ t2.into 3 _
  have HR : RowKit.Hid (RT w W3 m h { R1 with S := R1.N, C := [] }) := Lib.hid (by
    refine ⟨{ h with sa := h.na, sc := h.nc, ca := none, cc := 0 }, ⟨g3, m1.fl.touch t3 (fun z hz => .inr (m1.foot _ (.inl ⟨z, hz, rfl⟩)).1), m1.fF, m1.now.touch t3 (fun z hz => .inr (m1.foot _ (.inr (.inl ⟨z, hz, rfl⟩))).1), m1.now.touch t3 (fun z hz => .inr (m1.foot _ (.inr (.inl ⟨z, hz, rfl⟩))).1), RowS.nil _ _ _ _ (Nat.zero_le _), fun z hz => (m1.fb z hz).touch t3 (fun u hu => .inr (m1.foot _ (.inr (.inr (.inr (.inr ⟨z, hz, u, hu, rfl⟩))))).1), fun k hk => ?_⟩, t1.trans t3 (fun _ _ h => h), fun k hk => .inl ?_⟩
    · have h2 : footR h k := by
        rcases hk with h1 | h1 | h1 | ⟨u, hu, -⟩ | h1
        · exact .inl h1
        · exact .inr (.inl h1)
        · exact .inr (.inl h1)
        · cases hu
        · exact .inr (.inr (.inr (.inr h1)))
      exact ⟨(m1.foot k h2).1, Nat.lt_of_lt_of_le (m1.foot k h2).2 t3.size⟩
    · rcases hk with h1 | h1 | h1 | ⟨u, hu, -⟩ | h1
      · exact .inl h1
      · exact .inr (.inl h1)
      · exact .inr (.inl h1)
      · cases hu
      · exact .inr (.inr (.inr (.inr h1))))
  clear m1 t1 t2 t3 g2 g3
  go_wp2_with fail
  go_ret
  exact ⟨rfl, HR.out⟩
end Go.Proofs.Ytmokcfmlolohaaa
