/- FlowsPlay holds: any calls tell the same as the reference's table tells; all flows, those of any backend. No condition. -/
import Derived.Test.YtgmimdnebgncoaaGreatJEZ
import Derived.Test.YtgmimdnebgncoaaGreatFlowCallsZ
import Derived.Test.YtgmimdnebgncoaaGreatFrFlowsPlayZ
import Derived.Deep.DeepCutAuto
import Derived.Deep.CutBlock
set_option linter.unusedVariables false
set_option linter.unusedSimpArgs false
namespace Go.Proofs.YtgmimdnebgncoaaGreat
open Go.RowKit

theorem enter_ftouchP (a b c : Value) (w : World) : (callFunc 9 #[a, b, c]).run Tryz.prog w = .ok (.enter 9 #[a, b, c]) w := by kernel_rfl
theorem enter_rtouchP (a b c : Value) (w : World) : (callFunc 10 #[a, b, c]).run Tryz.prog w = .ok (.enter 10 #[a, b, c]) w := by kernel_rfl
theorem enter_fdropP (a b : Value) (w : World) : (callFunc 11 #[a, b]).run Tryz.prog w = .ok (.enter 11 #[a, b]) w := by kernel_rfl
theorem enter_rdropP (a b : Value) (w : World) : (callFunc 12 #[a, b]).run Tryz.prog w = .ok (.enter 12 #[a, b]) w := by kernel_rfl
theorem enter_fidleP (a b : Value) (w : World) : (callFunc 14 #[a, b]).run Tryz.prog w = .ok (.enter 14 #[a, b]) w := by kernel_rfl
theorem enter_ridleP (a b : Value) (w : World) : (callFunc 15 #[a, b]).run Tryz.prog w = .ok (.enter 15 #[a, b]) w := by kernel_rfl
theorem enter_sameFP (a b : Value) (w : World) : (callFunc 13 #[a, b]).run Tryz.prog w = .ok (.enter 13 #[a, b]) w := by kernel_rfl
theorem enter_fmostP (a : Value) (w : World) : (callFunc 6 #[a]).run Tryz.prog w = .ok (.enter 6 #[a]) w := by kernel_rfl
theorem enter_flenP (a : Value) (w : World) : (callFunc 18 #[a]).run Tryz.prog w = .ok (.enter 18 #[a]) w := by kernel_rfl
theorem enter_fallP (a : Value) (w : World) : (callFunc 19 #[a]).run Tryz.prog w = .ok (.enter 19 #[a]) w := by kernel_rfl
theorem enter_fofP (a b : Value) (w : World) : (callFunc 20 #[a, b]).run Tryz.prog w = .ok (.enter 20 #[a, b]) w := by kernel_rfl
theorem enter_rofP (a b : Value) (w : World) : (callFunc 21 #[a, b]).run Tryz.prog w = .ok (.enter 21 #[a, b]) w := by kernel_rfl
theorem enter_awakeP (w : World) : (callFunc 22 #[]).run Tryz.prog w = .ok (.enter 22 #[]) w := by kernel_rfl
theorem eqBP_run (n : Bool) (x y : Operand) (W : World) :
    (do eqGuard BinOp.eql 4 x y (.bool n) (.bool n); binOp BinOp.eql 4 (.bool n) (.bool n) : Sem Value).run Tryz.prog W = .ok (.bool true) W := by
  go_simp
theorem neqBP_run (n : Bool) (x y : Operand) (W : World) :
    (do eqGuard BinOp.neq 4 x y (.bool n) (.bool n); binOp BinOp.neq 4 (.bool n) (.bool n) : Sem Value).run Tryz.prog W = .ok (.bool false) W := by
  go_simp
theorem neqIP_run (n : Int) (x y : Operand) (W : World) :
    (do eqGuard BinOp.neq 3 x y (.int .i64 n) (.int .i64 n); binOp BinOp.neq 3 (.int .i64 n) (.int .i64 n) : Sem Value).run Tryz.prog W = .ok (.bool false) W := by
  go_simp
theorem neqFP_run (f : FlD) (x y : Operand) (W : World) :
    (do eqGuard BinOp.neq 35 x y (.agg (fca f)) (.agg (fca f)); binOp BinOp.neq 35 (.agg (fca f)) (.agg (fca f)) : Sem Value).run Tryz.prog W = .ok (.bool false) W := by
  simp only [fca]
  go_simp
theorem FStep.touch {w w' : World} {g : Nat} {h : FH} {most idle : Int} {M' : List FlD} (s : FStep w w' g h most idle M') : Touch w w' (footF g h) := by
  obtain ⟨h', M1, p, q, t, f⟩ := s; exact t
theorem RFStep.touch {w w' : World} {b : Nat} {a0 : Option Addr} {most wait : Int} {L' : List FlD} (s : RFStep w w' b a0 most wait L') : Touch w w' (fun k => k = b) := by
  obtain ⟨a, c, q, t, f⟩ := s; exact t
theorem FIdle.touch {w w' : World} {g : Nat} {h : FH} {most idle : Int} {A R : List FlD} {v : Value} (s : FIdle w w' g h most idle A R v) : Touch w w' (footF g h) := by
  obtain ⟨a, c, h', e, o, q, t, f⟩ := s; exact t
theorem LikeF.of {most : Int} {M L K : List FlD} {be : Int} (k : LikeF most M L) (hp : K.Perm (M.filter (isOf be))) (hs : StrictF K) : K = L.filter (isOf be) :=
  strict_ext (hp.trans (k.p.filter _).symm) hs (List.Pairwise.sublist List.filter_sublist k.s)
set_option maxRecDepth 20000 in
set_option maxHeartbeats 16000000 in
theorem fplay_in (w : World) (most idle be : Int) (a0 : Option Addr) (cap : Nat) (l : List CallF) (hr : RowS w a0 l.length cap 10 (l.map CallF.cells)) (hok : ∀ c ∈ l, CallFOk c) :
    Calls Tryz.prog 3 #[.int .i64 most, .int .i64 idle, .slice a0 l.length cap, .int .i64 be] w fun e w' => e = .returned (.bool true) ∧ Below w.heap.size w w' := by
  obtain ⟨n, hn⟩ : ∃ n, l.length = n := ⟨_, rfl⟩
  rw [hn] at hr ⊢
  have hcap := hr.hcap
  have hmax := hr.hmax
  have HR := Lib.hid hr
  have HOK := Lib.hid hok
  have HN := Lib.hid hn
  clear hr hok hn
  go_enter Tryz.func3, Tryz.ntmps3
  go_wp2_with fail
  refine (fnew_any w most idle).mono ?_
  rintro e w1 ⟨g, h0, rfl, q0, t0, f0⟩
  have N0 := Lib.hid (FN.mk q0 t0 f0)
  clear q0 t0 f0
  go_wp2_with fail
  refine (rfnew_any w1 most idle).mono ?_
  rintro e w2 ⟨b, rfl, q1, t1, f1⟩
  have HF2 := Lib.hid (FR.mk (N0.out.still t1) q1 (fun e => by have := N0.out.q.footlt _ e; omega) (Nat.le_trans N0.out.t.size f1) (fun x hx => by cases hx) (fun x hx => by cases hx))
  have hmo0 : 0 ≤ min (max most 0) 256 := by omega
  have hid0 : 1 ≤ min (max idle 1) 1099511627776 ∧ min (max idle 1) 1099511627776 ≤ 1099511627776 := by omega
  generalize min (max most 0) 256 = mo at *
  generalize min (max idle 1) 1099511627776 = id at *
  have HL2 := Lib.hid (LikeF.nil mo hmo0)
  have HID := Lib.hid hid0
  have HMO := Lib.hid (fmost_any w2.drew g h0 mo id [] (HF2.out.f.q.still (Touch.refl w2 _).drew))
  have HM0 : RowKit.Hid (∀ W, Touch w2 W (fun _ => False) → W.cell? ⟨b, 1, none⟩ = some (.int .i64 mo)) := Lib.hid (fun W t => cell_of_cells (t.keeps HF2.out.r.head (fun h => h)) 1)
  clear q1 t1 f1 N0 hmo0 hid0
  go_upto_region 2 with (fail)
  have hS := (Touch.refl w2 (fun _ => False)).drew
  refine wp_region_sched (fun w' => Touch w2 w' (fun _ => False)) [(0, true), (1, true), (2, true), (3, true), (5, true), (6, true), (7, true), (8, true), (4, false), (9, true), (10, true)] (by kernel_rfl) (by kernel_rfl) rfl (by kernel_rfl) hS ?_
  (refine walkS_take (v := ?_) (some 28) rfl rfl (fun _ _ _ h => h) (by rfl) ?_ ?_; rotate_left; (focus (intro w' hw'; go_simp; (try with_reducible rfl))); (try simp only [Act.put, List.setIfInBounds_toArray, List.set_cons_zero, List.set_cons_succ]))
  (refine walkS_take (v := ?_) (some 29) rfl rfl (fun _ _ _ h => h) (by rfl) ?_ ?_; rotate_left; (focus (intro w' hw'; go_simp; (try with_reducible rfl))); (try simp only [Act.put, List.setIfInBounds_toArray, List.set_cons_zero, List.set_cons_succ]))
  (refine walkS_take (v := ?_) (some 30) rfl rfl (fun _ _ _ h => h) (by rfl) ?_ ?_; rotate_left; (focus (intro w' hw'; go_simp; (try with_reducible rfl))); (try simp only [Act.put, List.setIfInBounds_toArray, List.set_cons_zero, List.set_cons_succ]))
  (refine walkS_take (v := ?_) (some 31) rfl rfl (fun _ _ _ h => h) (by rfl) ?_ ?_; rotate_left; (focus (intro w' hw'; go_simp; (try with_reducible rfl))); (try simp only [Act.put, List.setIfInBounds_toArray, List.set_cons_zero, List.set_cons_succ]))
  (refine walkS_take (v := ?_) (some 33) rfl rfl (fun _ _ _ h => h) (by rfl) ?_ ?_; rotate_left; (focus (intro w' hw'; go_simp; (try with_reducible rfl))); (try simp only [Act.put, List.setIfInBounds_toArray, List.set_cons_zero, List.set_cons_succ]))
  (refine walkS_take (v := ?_) (some 34) rfl rfl (fun _ _ _ h => h) (by rfl) ?_ ?_; rotate_left; (focus (intro w' hw'; go_simp; (try with_reducible rfl))); (try simp only [Act.put, List.setIfInBounds_toArray, List.set_cons_zero, List.set_cons_succ]))
  (refine walkS_take (v := ?_) (some 35) rfl rfl (fun _ _ _ h => h) (by rfl) ?_ ?_; rotate_left; (focus (intro w' hw'; go_simp; (try with_reducible rfl))); (try simp only [Act.put, List.setIfInBounds_toArray, List.set_cons_zero, List.set_cons_succ]))
  (refine walkS_take (v := ?_) (some 36) rfl rfl (fun _ _ _ h => h) (by rfl) ?_ ?_; rotate_left; (focus (intro w' hw'; have y0 := HM0.out w' hw'; go_simp; (try with_reducible rfl))); (try simp only [Act.put, List.setIfInBounds_toArray, List.set_cons_zero, List.set_cons_succ]))
  (refine walkS_call 32 _ _ _ _ (HMO.out) rfl rfl rfl (by rfl) rfl (enter_fmostP _ _) ?_; rintro e w' ⟨rfl, rfl⟩; refine ⟨_, rfl, hS, fun hS => ?_⟩; (try simp only [Act.put, List.setIfInBounds_toArray, List.set_cons_zero, List.set_cons_succ]))
  (refine walkS_bin (some 37) _ _ _ _ _ _ _ _ (neqIP_run _) rfl rfl rfl rfl rfl (fun _ _ _ h => h) (by rfl) ?_; (try simp only [Act.put, List.setIfInBounds_toArray, List.set_cons_zero, List.set_cons_succ]))
  (refine walkS_take (v := ?_) (some 38) rfl rfl (fun _ _ _ h => h) (by rfl) ?_ ?_; rotate_left; (focus (intro w' hw'; go_simp; (try with_reducible rfl))); (try simp only [Act.put, List.setIfInBounds_toArray, List.set_cons_zero, List.set_cons_succ]))
  refine walkS_done ?_
  have HF3 := Lib.hid (HF2.out.still (Touch.refl w2 _).drew)
  clear hS HM0 HMO
  generalize w2.drew = w3 at *
  go_wp2_with fail
  go_loopw [11] (fun s11 wr => ∃ (k : Nat) (M L : List FlD) (h : FH) (a : Option Addr) (c : Nat), k ≤ n ∧ s11 = .int .i64 k ∧ FR w wr g h b a c mo id M L ∧ LikeF mo M L) (fun s11 _ => n - (RowKit.intOf s11).toNat)
  case atStart => exact ⟨0, [], [], _, _, _, Nat.zero_le _, rfl, HF3.out, HL2.out⟩
  case round =>
    obtain ⟨k, M, L, h, a, c, hkn, rfl, hfr, hlk⟩ := hrel
    have HFR := Lib.hid hfr
    have HLK := Lib.hid hlk
    have hll := hlk.p.length_eq
    have hml := hfr.f.q.small
    have HLL : RowKit.Hid (L.length ≤ 100000) := Lib.hid (by omega)
    have HLL2 : RowKit.Hid (L.length ≤ 1000) := Lib.hid (by omega)
    clear hfr hlk HF3 HF2 HL2 hll hml
    by_cases hgo : k < n ∧ k < 150
    case neg =>
      have HALL := Lib.hid (fall_any wr.drew g h mo id M (HFR.out.f.q.still (Touch.refl wr _).drew))
      have HOF : RowKit.Hid (∀ W, Touch wr W (fun _ => False) → Calls Tryz.prog 20 #[.pointer (some ⟨g, 0, none⟩), .int .i64 be] W fun e w' => ∃ a c L, e = .returned (.slice a L.length c) ∧ L.Perm (M.filter (isOf be)) ∧ StrictF L ∧ OwnS w' W.heap.size 35 8 (.slice a L.length c) (L.map fcl) ∧ Touch W w' (fun _ => False)) := Lib.hid (fun W t => fof_any W g h mo id M (HFR.out.f.q.still t) be)
      have HML : RowKit.Hid (∀ W, Touch wr W (fun _ => False) → W.cell? ⟨b, 0, none⟩ = some (.slice a L.length c)) := Lib.hid (fun W t => cell_of_cells (t.keeps HFR.out.r.head (fun h => h)) 0)
      have HT := Lib.hid HFR.out.f.t
      have hkI : ¬ ((k : Int) < n ∧ (k : Int) < 150) := by omega
      by_cases hkn2 : k < n
      · have h1 : (k : Int) < n := by omega
        have h2 : ¬ (k : Int) < 150 := by omega
        clear hkI hgo
        go_upto_region 23 with (fail)
        have hS := (Touch.refl wr (fun _ => False)).drew
        refine wp_region_sched (fun w' => Touch wr w' (fun _ => False)) [(0, true), (2, true), (3, true), (4, true), (5, true), (1, false), (6, false), (7, true), (8, true), (9, true), (11, true), (12, true), (10, false), (13, false), (14, false), (15, true), (16, true), (17, false), (18, true), (19, true)] (by kernel_rfl) (by kernel_rfl) rfl (by kernel_rfl) hS ?_
        (refine walkS_take (v := ?_) (some 156) rfl rfl (fun _ _ _ h => h) (by rfl) ?_ ?_; rotate_left; (focus (intro w' hw'; go_simp; (try with_reducible rfl))); (try simp only [Act.put, List.setIfInBounds_toArray, List.set_cons_zero, List.set_cons_succ]))
        (refine walkS_take (v := ?_) (some 158) rfl rfl (fun _ _ _ h => h) (by rfl) ?_ ?_; rotate_left; (focus (intro w' hw'; go_simp; (try with_reducible rfl))); (try simp only [Act.put, List.setIfInBounds_toArray, List.set_cons_zero, List.set_cons_succ]))
        (refine walkS_take (v := ?_) (some 159) rfl rfl (fun _ _ _ h => h) (by rfl) ?_ ?_; rotate_left; (focus (intro w' hw'; go_simp; (try with_reducible rfl))); (try simp only [Act.put, List.setIfInBounds_toArray, List.set_cons_zero, List.set_cons_succ]))
        (refine walkS_take (v := ?_) (some 160) rfl rfl (fun _ _ _ h => h) (by rfl) ?_ ?_; rotate_left; (focus (intro w' hw'; go_simp; (try with_reducible rfl))); (try simp only [Act.put, List.setIfInBounds_toArray, List.set_cons_zero, List.set_cons_succ]))
        (refine walkS_take (v := ?_) (some 161) rfl rfl (fun _ _ _ h => h) (by rfl) ?_ ?_; rotate_left; (focus (intro w' hw'; have y0 := HML.out w' hw'; go_simp; (try with_reducible rfl))); (try simp only [Act.put, List.setIfInBounds_toArray, List.set_cons_zero, List.set_cons_succ]))
        (refine walkS_call 157 _ _ _ _ (HALL.out) rfl rfl rfl (by rfl) rfl (enter_fallP _ _) ?_; rintro e x1 ⟨a1, c1, K1, rfl, p1, s1, o1, t1⟩; have e1 := HLK.out.all p1 s1; subst e1; have HO1 := Lib.hid o1.row'.2.1; have HS1 := Lib.hid (samefl_any x1 a1 a _ c1 c _ o1.row'.2.1 (HFR.out.r.still (hS.trans t1 (fun _ _ h => h))).row HLL.out); refine ⟨_, rfl, hS.trans t1 (fun _ _ h => h), fun hS => ?_⟩; clear o1 t1 p1 s1; (try simp only [Act.put, List.setIfInBounds_toArray, List.set_cons_zero, List.set_cons_succ]))
        (refine walkS_call 162 _ _ _ _ (HS1.out) rfl rfl rfl (by rfl) rfl (enter_sameFP _ _ _) ?_; rintro e x2 ⟨rfl, t2⟩; refine ⟨_, rfl, hS.trans t2 (fun _ _ h => h), fun hS => ?_⟩; clear t2; (try simp only [Act.put, List.setIfInBounds_toArray, List.set_cons_zero, List.set_cons_succ]))
        (refine walkS_take (v := ?_) (some 163) rfl rfl (fun _ _ _ h => h) (by rfl) ?_ ?_; rotate_left; (focus (intro w' hw'; go_simp; (try with_reducible rfl))); (try simp only [Act.put, List.setIfInBounds_toArray, List.set_cons_zero, List.set_cons_succ]))
        (refine walkS_take (v := ?_) (some 164) rfl rfl (fun _ _ _ h => h) (by rfl) ?_ ?_; rotate_left; (focus (intro w' hw'; go_simp; (try with_reducible rfl))); (try simp only [Act.put, List.setIfInBounds_toArray, List.set_cons_zero, List.set_cons_succ]))
        (refine walkS_take (v := ?_) (some 165) rfl rfl (fun _ _ _ h => h) (by rfl) ?_ ?_; rotate_left; (focus (intro w' hw'; go_simp; (try with_reducible rfl))); (try simp only [Act.put, List.setIfInBounds_toArray, List.set_cons_zero, List.set_cons_succ]))
        (refine walkS_take (v := ?_) (some 167) rfl rfl (fun _ _ _ h => h) (by rfl) ?_ ?_; rotate_left; (focus (intro w' hw'; go_simp; (try with_reducible rfl))); (try simp only [Act.put, List.setIfInBounds_toArray, List.set_cons_zero, List.set_cons_succ]))
        (refine walkS_take (v := ?_) (some 168) rfl rfl (fun _ _ _ h => h) (by rfl) ?_ ?_; rotate_left; (focus (intro w' hw'; go_simp; (try with_reducible rfl))); (try simp only [Act.put, List.setIfInBounds_toArray, List.set_cons_zero, List.set_cons_succ]))
        (refine walkS_call 166 _ _ _ _ (HOF.out _ hS) rfl rfl rfl (by rfl) rfl (enter_fofP _ _ _) ?_; rintro e x3 ⟨a3, c3, K3, rfl, p3, s3, o3, t3⟩; have e3 := HLK.out.of p3 s3; subst e3; have HO3 := Lib.hid o3.row'.2.1; have HRO := Lib.hid (rfof_any x3 b a c mo id _ (HFR.out.r.still (hS.trans t3 (fun _ _ h => h))) HLL2.out be); refine ⟨_, rfl, hS.trans t3 (fun _ _ h => h), fun hS => ?_⟩; clear o3 t3 p3 s3; (try simp only [Act.put, List.setIfInBounds_toArray, List.set_cons_zero, List.set_cons_succ]))
        (refine walkS_call 169 _ _ _ _ (HRO.out) rfl rfl rfl (by rfl) rfl (enter_rofP _ _ _) ?_; rintro e x4 ⟨a4, c4, rfl, o4, t4⟩; have HS4 := Lib.hid (samefl_any x4 a3 a4 _ c3 c4 _ (HO3.out.still t4) o4.row'.2.1 (Nat.le_trans (List.length_filter_le ..) HLL.out)); refine ⟨_, rfl, hS.trans t4 (fun _ _ h => h), fun hS => ?_⟩; clear o4 t4; (try simp only [Act.put, List.setIfInBounds_toArray, List.set_cons_zero, List.set_cons_succ]))
        (refine walkS_call 170 _ _ _ _ (HS4.out) rfl rfl rfl (by rfl) rfl (enter_sameFP _ _ _) ?_; rintro e x2 ⟨rfl, t2⟩; refine ⟨_, rfl, hS.trans t2 (fun _ _ h => h), fun hS => ?_⟩; clear t2; (try simp only [Act.put, List.setIfInBounds_toArray, List.set_cons_zero, List.set_cons_succ]))
        (refine walkS_take (v := ?_) (some 171) rfl rfl (fun _ _ _ h => h) (by rfl) ?_ ?_; rotate_left; (focus (intro w' hw'; go_simp; (try with_reducible rfl))); (try simp only [Act.put, List.setIfInBounds_toArray, List.set_cons_zero, List.set_cons_succ]))
        (refine walkS_take (v := ?_) (some 172) rfl rfl (fun _ _ _ h => h) (by rfl) ?_ ?_; rotate_left; (focus (intro w' hw'; go_simp; (try with_reducible rfl))); (try simp only [Act.put, List.setIfInBounds_toArray, List.set_cons_zero, List.set_cons_succ]))
        (refine walkS_call 173 _ _ _ _ (awake11 _) rfl rfl rfl (by rfl) rfl (enter_awakeP _) ?_; rintro e x2 ⟨rfl, t2⟩; refine ⟨_, rfl, hS.trans t2 (fun _ _ h => h), fun hS => ?_⟩; clear t2; (try simp only [Act.put, List.setIfInBounds_toArray, List.set_cons_zero, List.set_cons_succ]))
        (refine walkS_take (v := ?_) (some 174) rfl rfl (fun _ _ _ h => h) (by rfl) ?_ ?_; rotate_left; (focus (intro w' hw'; go_simp; (try with_reducible rfl))); (try simp only [Act.put, List.setIfInBounds_toArray, List.set_cons_zero, List.set_cons_succ]))
        (refine walkS_take (v := ?_) (some 8) rfl rfl (fun _ _ _ h => h) (by rfl) ?_ ?_; rotate_left; (focus (intro w' hw'; go_simp; (try with_reducible rfl))); (try simp only [Act.put, List.setIfInBounds_toArray, List.set_cons_zero, List.set_cons_succ]))
        refine walkS_done ?_
        have HT8 := Lib.hid (HT.out.trans hS (fun _ _ h => h))
        clear hS
        go_wp2_with fail
        go_ret
        exact ⟨rfl, HT8.out.below (fun _ _ h => h.elim) (Nat.le_refl _)⟩
      · have h1 : ¬ (k : Int) < n := by omega
        clear hkI hgo
        go_upto_region 23 with (fail)
        have hS := (Touch.refl wr (fun _ => False)).drew
        refine wp_region_sched (fun w' => Touch wr w' (fun _ => False)) [(0, true), (2, true), (3, true), (4, true), (5, true), (1, false), (6, false), (7, true), (8, true), (9, true), (11, true), (12, true), (10, false), (13, false), (14, false), (15, true), (16, true), (17, false), (18, true), (19, true)] (by kernel_rfl) (by kernel_rfl) rfl (by kernel_rfl) hS ?_
        (refine walkS_take (v := ?_) (some 156) rfl rfl (fun _ _ _ h => h) (by rfl) ?_ ?_; rotate_left; (focus (intro w' hw'; go_simp; (try with_reducible rfl))); (try simp only [Act.put, List.setIfInBounds_toArray, List.set_cons_zero, List.set_cons_succ]))
        (refine walkS_take (v := ?_) (some 158) rfl rfl (fun _ _ _ h => h) (by rfl) ?_ ?_; rotate_left; (focus (intro w' hw'; go_simp; (try with_reducible rfl))); (try simp only [Act.put, List.setIfInBounds_toArray, List.set_cons_zero, List.set_cons_succ]))
        (refine walkS_take (v := ?_) (some 159) rfl rfl (fun _ _ _ h => h) (by rfl) ?_ ?_; rotate_left; (focus (intro w' hw'; go_simp; (try with_reducible rfl))); (try simp only [Act.put, List.setIfInBounds_toArray, List.set_cons_zero, List.set_cons_succ]))
        (refine walkS_take (v := ?_) (some 160) rfl rfl (fun _ _ _ h => h) (by rfl) ?_ ?_; rotate_left; (focus (intro w' hw'; go_simp; (try with_reducible rfl))); (try simp only [Act.put, List.setIfInBounds_toArray, List.set_cons_zero, List.set_cons_succ]))
        (refine walkS_take (v := ?_) (some 161) rfl rfl (fun _ _ _ h => h) (by rfl) ?_ ?_; rotate_left; (focus (intro w' hw'; have y0 := HML.out w' hw'; go_simp; (try with_reducible rfl))); (try simp only [Act.put, List.setIfInBounds_toArray, List.set_cons_zero, List.set_cons_succ]))
        (refine walkS_call 157 _ _ _ _ (HALL.out) rfl rfl rfl (by rfl) rfl (enter_fallP _ _) ?_; rintro e x1 ⟨a1, c1, K1, rfl, p1, s1, o1, t1⟩; have e1 := HLK.out.all p1 s1; subst e1; have HO1 := Lib.hid o1.row'.2.1; have HS1 := Lib.hid (samefl_any x1 a1 a _ c1 c _ o1.row'.2.1 (HFR.out.r.still (hS.trans t1 (fun _ _ h => h))).row HLL.out); refine ⟨_, rfl, hS.trans t1 (fun _ _ h => h), fun hS => ?_⟩; clear o1 t1 p1 s1; (try simp only [Act.put, List.setIfInBounds_toArray, List.set_cons_zero, List.set_cons_succ]))
        (refine walkS_call 162 _ _ _ _ (HS1.out) rfl rfl rfl (by rfl) rfl (enter_sameFP _ _ _) ?_; rintro e x2 ⟨rfl, t2⟩; refine ⟨_, rfl, hS.trans t2 (fun _ _ h => h), fun hS => ?_⟩; clear t2; (try simp only [Act.put, List.setIfInBounds_toArray, List.set_cons_zero, List.set_cons_succ]))
        (refine walkS_take (v := ?_) (some 163) rfl rfl (fun _ _ _ h => h) (by rfl) ?_ ?_; rotate_left; (focus (intro w' hw'; go_simp; (try with_reducible rfl))); (try simp only [Act.put, List.setIfInBounds_toArray, List.set_cons_zero, List.set_cons_succ]))
        (refine walkS_take (v := ?_) (some 164) rfl rfl (fun _ _ _ h => h) (by rfl) ?_ ?_; rotate_left; (focus (intro w' hw'; go_simp; (try with_reducible rfl))); (try simp only [Act.put, List.setIfInBounds_toArray, List.set_cons_zero, List.set_cons_succ]))
        (refine walkS_take (v := ?_) (some 165) rfl rfl (fun _ _ _ h => h) (by rfl) ?_ ?_; rotate_left; (focus (intro w' hw'; go_simp; (try with_reducible rfl))); (try simp only [Act.put, List.setIfInBounds_toArray, List.set_cons_zero, List.set_cons_succ]))
        (refine walkS_take (v := ?_) (some 167) rfl rfl (fun _ _ _ h => h) (by rfl) ?_ ?_; rotate_left; (focus (intro w' hw'; go_simp; (try with_reducible rfl))); (try simp only [Act.put, List.setIfInBounds_toArray, List.set_cons_zero, List.set_cons_succ]))
        (refine walkS_take (v := ?_) (some 168) rfl rfl (fun _ _ _ h => h) (by rfl) ?_ ?_; rotate_left; (focus (intro w' hw'; go_simp; (try with_reducible rfl))); (try simp only [Act.put, List.setIfInBounds_toArray, List.set_cons_zero, List.set_cons_succ]))
        (refine walkS_call 166 _ _ _ _ (HOF.out _ hS) rfl rfl rfl (by rfl) rfl (enter_fofP _ _ _) ?_; rintro e x3 ⟨a3, c3, K3, rfl, p3, s3, o3, t3⟩; have e3 := HLK.out.of p3 s3; subst e3; have HO3 := Lib.hid o3.row'.2.1; have HRO := Lib.hid (rfof_any x3 b a c mo id _ (HFR.out.r.still (hS.trans t3 (fun _ _ h => h))) HLL2.out be); refine ⟨_, rfl, hS.trans t3 (fun _ _ h => h), fun hS => ?_⟩; clear o3 t3 p3 s3; (try simp only [Act.put, List.setIfInBounds_toArray, List.set_cons_zero, List.set_cons_succ]))
        (refine walkS_call 169 _ _ _ _ (HRO.out) rfl rfl rfl (by rfl) rfl (enter_rofP _ _ _) ?_; rintro e x4 ⟨a4, c4, rfl, o4, t4⟩; have HS4 := Lib.hid (samefl_any x4 a3 a4 _ c3 c4 _ (HO3.out.still t4) o4.row'.2.1 (Nat.le_trans (List.length_filter_le ..) HLL.out)); refine ⟨_, rfl, hS.trans t4 (fun _ _ h => h), fun hS => ?_⟩; clear o4 t4; (try simp only [Act.put, List.setIfInBounds_toArray, List.set_cons_zero, List.set_cons_succ]))
        (refine walkS_call 170 _ _ _ _ (HS4.out) rfl rfl rfl (by rfl) rfl (enter_sameFP _ _ _) ?_; rintro e x2 ⟨rfl, t2⟩; refine ⟨_, rfl, hS.trans t2 (fun _ _ h => h), fun hS => ?_⟩; clear t2; (try simp only [Act.put, List.setIfInBounds_toArray, List.set_cons_zero, List.set_cons_succ]))
        (refine walkS_take (v := ?_) (some 171) rfl rfl (fun _ _ _ h => h) (by rfl) ?_ ?_; rotate_left; (focus (intro w' hw'; go_simp; (try with_reducible rfl))); (try simp only [Act.put, List.setIfInBounds_toArray, List.set_cons_zero, List.set_cons_succ]))
        (refine walkS_take (v := ?_) (some 172) rfl rfl (fun _ _ _ h => h) (by rfl) ?_ ?_; rotate_left; (focus (intro w' hw'; go_simp; (try with_reducible rfl))); (try simp only [Act.put, List.setIfInBounds_toArray, List.set_cons_zero, List.set_cons_succ]))
        (refine walkS_call 173 _ _ _ _ (awake11 _) rfl rfl rfl (by rfl) rfl (enter_awakeP _) ?_; rintro e x2 ⟨rfl, t2⟩; refine ⟨_, rfl, hS.trans t2 (fun _ _ h => h), fun hS => ?_⟩; clear t2; (try simp only [Act.put, List.setIfInBounds_toArray, List.set_cons_zero, List.set_cons_succ]))
        (refine walkS_take (v := ?_) (some 174) rfl rfl (fun _ _ _ h => h) (by rfl) ?_ ?_; rotate_left; (focus (intro w' hw'; go_simp; (try with_reducible rfl))); (try simp only [Act.put, List.setIfInBounds_toArray, List.set_cons_zero, List.set_cons_succ]))
        (refine walkS_take (v := ?_) (some 8) rfl rfl (fun _ _ _ h => h) (by rfl) ?_ ?_; rotate_left; (focus (intro w' hw'; go_simp; (try with_reducible rfl))); (try simp only [Act.put, List.setIfInBounds_toArray, List.set_cons_zero, List.set_cons_succ]))
        refine walkS_done ?_
        have HT8 := Lib.hid (HT.out.trans hS (fun _ _ h => h))
        clear hS
        go_wp2_with fail
        go_ret
        exact ⟨rfl, HT8.out.below (fun _ _ h => h.elim) (Nat.le_refl _)⟩
    case pos =>
      have hI1 : (k : Int) < n := by omega
      have hI2 : (k : Int) < 150 := by omega
      have HRX := Lib.hid (HR.out.still HFR.out.f.t)
      obtain ⟨g0, off, rfl⟩ := HRX.out.some (by omega)
      have hkl : k < l.length := by rw [HN.out]; omega
      have dd := callF_cells HRX.out k hkl
      obtain ⟨ok0, ok1, ok2⟩ := HOK.out _ (gcF_mem l k hkl)
      generalize gcF l k = cc at *
      have d0 := dd 0 _ rfl
      have d1 := dd 1 _ rfl
      have d2 := dd 2 _ rfl
      have d3 := dd 3 _ rfl
      have d4 := dd 4 _ rfl
      have d5 := dd 5 _ rfl
      have d6 := dd 6 _ rfl
      have d7 := dd 7 _ rfl
      have d8 := dd 8 _ rfl
      have d9 := dd 9 _ rfl
      rw [Nat.add_zero] at d0
      clear dd hkl
      have HOT := Lib.hid ok1.t
      have HON := Lib.hid ok2
      obtain ⟨W2, hW2⟩ : ∃ W, wr.alloc (.cells cc.arr 37) = W := ⟨_, rfl⟩
      have t2 : Touch wr W2 (fun _ => False) := hW2 ▸ (Touch.refl wr _).alloc _
      have g2 : W2.heap[wr.heap.size]? = some (.cells cc.arr 37 (0, 0)) := hW2 ▸ heap_alloc_new ..
      have HFE := Lib.hid (HFR.out.still t2)
      have HFD := Lib.hid (HFR.out.still (t2.trans ((Touch.refl W2 (fun _ => False)).drew) (fun _ _ h => h)))
      obtain ⟨blk, hblk⟩ : ∃ blk, wr.heap.size = blk := ⟨_, rfl⟩
      have hnbk : ¬ (footF g h blk ∨ blk = b) := fun hf => by
        rcases hf with hf | hf
        · have := HFR.out.f.q.footlt _ hf; omega
        · have := heap_lt HFR.out.r.head; omega
      have HNB := Lib.hid hnbk
      rw [hblk] at g2
      have HBK := Lib.hid hblk
      have HG2 := Lib.hid g2
      have HCC : RowKit.Hid (∀ W, Touch W2 W (fun k => footF g h k ∨ k = b) → W.cell? ⟨blk, 1, none⟩ = some (.int .u32 cc.f.t.src) ∧ W.cell? ⟨blk, 2, none⟩ = some (.int .u32 cc.f.t.dst) ∧ W.cell? ⟨blk, 3, none⟩ = some (.int .i64 cc.f.t.proto) ∧ W.cell? ⟨blk, 4, none⟩ = some (.int .i64 cc.f.t.sport) ∧ W.cell? ⟨blk, 5, none⟩ = some (.int .i64 cc.f.t.dport) ∧ W.cell? ⟨blk, 9, none⟩ = some (.int .i64 cc.now)) := Lib.hid (fun W t => by
        have h := t.keeps HG2.out HNB.out
        exact ⟨cell_of_cells h 1, cell_of_cells h 2, cell_of_cells h 3, cell_of_cells h 4, cell_of_cells h 5, cell_of_cells h 9⟩)
      have c0 : W2.cell? ⟨blk, 0, none⟩ = some (.int .i64 cc.do_) := cell_of_cells g2 0
      have HW2 := Lib.hid hW2
      simp only [CallF.arr] at HW2
      clear t2 g2 hW2 hblk ok0 ok1 ok2 hnbk
      go_upto_region 8 with (fail)
      rw [HW2.out, HBK.out]
      clear d0 d1 d2 d3 d4 d5 d6 d7 d8 d9
      go_upto_block 2 with (fail)
      go_cut [13, 54] (fun s7 s35 wx => s7 = .bool true ∧ ∃ (M' L' : List FlD) (h' : FH) (a' : Option Addr) (c' : Nat), FR w wx g h' b a' c' mo id M' L' ∧ LikeF mo M' L' ∧ wx.heap[blk]? = some (.cells cc.arr 37 (0, 0)))
      case first =>
        by_cases hd0 : cc.do_ = 0
        · obtain ⟨hpe, hpl⟩ := HLK.out.puts cc.f HOT.out
          have HPL := Lib.hid hpl
          have HPUT := Lib.hid (fput_any W2 g h mo id M HFE.out.f.q cc.f HOT.out)
          rw [hpe] at HPUT
          have HRP : RowKit.Hid (∀ (x1 : World) (h1 : FH) (M1 : List FlD), FR w x1 g h1 b a c mo id M1 L → Calls Tryz.prog 8 #[.pointer (some ⟨b, 0, none⟩), .agg (fca cc.f)] x1 fun e w' => e = .returned (.tuple #[.bool (rpB L mo cc.f), .int .i64 (rpE L mo cc.f)]) ∧ RFStep x1 w' b a mo id (rpL L mo cc.f)) := Lib.hid (fun x1 h1 M1 q => rfput_any x1 b a c mo id L q.r HLL2.out cc.f)
          generalize rpB L mo cc.f = pb at *
          generalize rpE L mo cc.f = pe at *
          simp only [fca] at HPUT HRP
          have y1 := cell_of_cells HG2.out 1
          have y2 := cell_of_cells HG2.out 2
          have y3 := cell_of_cells HG2.out 3
          have y4 := cell_of_cells HG2.out 4
          have y5 := cell_of_cells HG2.out 5
          have y6 := cell_of_cells HG2.out 6
          have y7 := cell_of_cells HG2.out 7
          have y8 := cell_of_cells HG2.out 8
          simp only [CallF.arr] at y1 y2 y3 y4 y5 y6 y7 y8
          clear hpe hpl
          go_wp2_with fail
          (with_reducible refine HPUT.out.mono ?_)
          rintro e x1 ⟨rfl, s1⟩
          have T1 := Lib.hid (FStep.touch s1)
          obtain ⟨h1, M1, p1, n1⟩ := HFE.out.prog s1
          have HN1 := Lib.hid n1
          have HP1 := Lib.hid p1
          have HG3 := Lib.hid (T1.out.keeps HG2.out (fun e => HNB.out (.inl e)))
          clear s1 n1 p1 y1 y2 y3 y4 y5 y6 y7 y8 c0
          have y1 := cell_of_cells HG3.out 1
          have y2 := cell_of_cells HG3.out 2
          have y3 := cell_of_cells HG3.out 3
          have y4 := cell_of_cells HG3.out 4
          have y5 := cell_of_cells HG3.out 5
          have y6 := cell_of_cells HG3.out 6
          have y7 := cell_of_cells HG3.out 7
          have y8 := cell_of_cells HG3.out 8
          simp only [CallF.arr] at y1 y2 y3 y4 y5 y6 y7 y8
          go_wp2_with fail
          (with_reducible refine (HRP.out _ _ _ HN1.out).mono ?_)
          rintro e x2 ⟨rfl, s2⟩
          have T2 := Lib.hid (RFStep.touch s2)
          obtain ⟨a2, c2, n2⟩ := HN1.out.ref s2
          have HX : RowKit.Hid (∃ (M' L' : List FlD) (h' : FH) (a' : Option Addr) (c' : Nat), FR w x2 g h' b a' c' mo id M' L' ∧ LikeF mo M' L' ∧ x2.heap[blk]? = some (.cells cc.arr 37 (0, 0))) := Lib.hid ⟨_, _, _, _, _, n2, HPL.out.perm HP1.out, T2.out.keeps HG3.out (fun e => HNB.out (.inr e))⟩
          clear s2 n2 y1 y2 y3 y4 y5 y6 y7 y8
          have hbq : (pb == pb) = true := by simp
          have heq : (pe == pe) = true := by simp
          go_wp2_with fail
          go_meet
          exact ⟨rfl, HX.out⟩
        · by_cases hd1 : cc.do_ = 1
          · have HTCH := Lib.hid (ftouch_any W2.drew g h mo id M HFD.out.f.q cc.f.t HOT.out cc.now)
            have HRT : RowKit.Hid (∀ (x1 : World) (h1 : FH) (M1 : List FlD), FR w x1 g h1 b a c mo id M1 L → Calls Tryz.prog 10 #[.pointer (some ⟨b, 0, none⟩), .agg (tcs cc.f.t), .int .i64 cc.now] x1 fun e w' => e = .returned (.bool (hasF L cc.f.t)) ∧ RFStep x1 w' b a mo id (rtouF L cc.f.t cc.now)) := Lib.hid (fun x1 h1 M1 q => rftouch_any x1 b a c mo id L q.r HLK.out.s.nd HLL2.out cc.f.t cc.now)
            have HPL := Lib.hid (HLK.out.touched cc.f.t HOT.out cc.now)
            rw [← HLK.out.has] at HTCH
            generalize hasF L cc.f.t = pb at *
            simp only [tcs] at HTCH HRT
            go_upto_region 16 with (fail)
            have hS := (Touch.refl W2 (fun k => footF g h k ∨ k = b)).drew
            refine wp_region_sched (fun w' => Touch W2 w' (fun k => footF g h k ∨ k = b)) [(0, true), (1, true), (2, true), (3, true), (4, true), (5, true), (7, true), (8, true), (9, true), (10, true), (11, true), (12, true), (6, false), (13, false), (14, true), (15, true)] (by kernel_rfl) (by kernel_rfl) rfl (by kernel_rfl) hS ?_
            (refine walkS_take (v := ?_) (some 90) rfl rfl (fun _ _ _ h => h) (by rfl) ?_ ?_; rotate_left; (focus (intro w' hw'; obtain ⟨y0, y1, y2, y3, y4, y5⟩ := HCC.out w' hw'; go_simp; (try with_reducible rfl))); (try simp only [Act.put, List.setIfInBounds_toArray, List.set_cons_zero, List.set_cons_succ]))
            (refine walkS_take (v := ?_) (some 91) rfl rfl (fun _ _ _ h => h) (by rfl) ?_ ?_; rotate_left; (focus (intro w' hw'; obtain ⟨y0, y1, y2, y3, y4, y5⟩ := HCC.out w' hw'; go_simp; (try with_reducible rfl))); (try simp only [Act.put, List.setIfInBounds_toArray, List.set_cons_zero, List.set_cons_succ]))
            (refine walkS_take (v := ?_) (some 92) rfl rfl (fun _ _ _ h => h) (by rfl) ?_ ?_; rotate_left; (focus (intro w' hw'; obtain ⟨y0, y1, y2, y3, y4, y5⟩ := HCC.out w' hw'; go_simp; (try with_reducible rfl))); (try simp only [Act.put, List.setIfInBounds_toArray, List.set_cons_zero, List.set_cons_succ]))
            (refine walkS_take (v := ?_) (some 93) rfl rfl (fun _ _ _ h => h) (by rfl) ?_ ?_; rotate_left; (focus (intro w' hw'; obtain ⟨y0, y1, y2, y3, y4, y5⟩ := HCC.out w' hw'; go_simp; (try with_reducible rfl))); (try simp only [Act.put, List.setIfInBounds_toArray, List.set_cons_zero, List.set_cons_succ]))
            (refine walkS_take (v := ?_) (some 94) rfl rfl (fun _ _ _ h => h) (by rfl) ?_ ?_; rotate_left; (focus (intro w' hw'; obtain ⟨y0, y1, y2, y3, y4, y5⟩ := HCC.out w' hw'; go_simp; (try with_reducible rfl))); (try simp only [Act.put, List.setIfInBounds_toArray, List.set_cons_zero, List.set_cons_succ]))
            (refine walkS_take (v := ?_) (some 95) rfl rfl (fun _ _ _ h => h) (by rfl) ?_ ?_; rotate_left; (focus (intro w' hw'; obtain ⟨y0, y1, y2, y3, y4, y5⟩ := HCC.out w' hw'; go_simp; (try with_reducible rfl))); (try simp only [Act.put, List.setIfInBounds_toArray, List.set_cons_zero, List.set_cons_succ]))
            (refine walkS_take (v := ?_) (some 97) rfl rfl (fun _ _ _ h => h) (by rfl) ?_ ?_; rotate_left; (focus (intro w' hw'; obtain ⟨y0, y1, y2, y3, y4, y5⟩ := HCC.out w' hw'; go_simp; (try with_reducible rfl))); (try simp only [Act.put, List.setIfInBounds_toArray, List.set_cons_zero, List.set_cons_succ]))
            (refine walkS_take (v := ?_) (some 98) rfl rfl (fun _ _ _ h => h) (by rfl) ?_ ?_; rotate_left; (focus (intro w' hw'; obtain ⟨y0, y1, y2, y3, y4, y5⟩ := HCC.out w' hw'; go_simp; (try with_reducible rfl))); (try simp only [Act.put, List.setIfInBounds_toArray, List.set_cons_zero, List.set_cons_succ]))
            (refine walkS_take (v := ?_) (some 99) rfl rfl (fun _ _ _ h => h) (by rfl) ?_ ?_; rotate_left; (focus (intro w' hw'; obtain ⟨y0, y1, y2, y3, y4, y5⟩ := HCC.out w' hw'; go_simp; (try with_reducible rfl))); (try simp only [Act.put, List.setIfInBounds_toArray, List.set_cons_zero, List.set_cons_succ]))
            (refine walkS_take (v := ?_) (some 100) rfl rfl (fun _ _ _ h => h) (by rfl) ?_ ?_; rotate_left; (focus (intro w' hw'; obtain ⟨y0, y1, y2, y3, y4, y5⟩ := HCC.out w' hw'; go_simp; (try with_reducible rfl))); (try simp only [Act.put, List.setIfInBounds_toArray, List.set_cons_zero, List.set_cons_succ]))
            (refine walkS_take (v := ?_) (some 101) rfl rfl (fun _ _ _ h => h) (by rfl) ?_ ?_; rotate_left; (focus (intro w' hw'; obtain ⟨y0, y1, y2, y3, y4, y5⟩ := HCC.out w' hw'; go_simp; (try with_reducible rfl))); (try simp only [Act.put, List.setIfInBounds_toArray, List.set_cons_zero, List.set_cons_succ]))
            (refine walkS_take (v := ?_) (some 102) rfl rfl (fun _ _ _ h => h) (by rfl) ?_ ?_; rotate_left; (focus (intro w' hw'; obtain ⟨y0, y1, y2, y3, y4, y5⟩ := HCC.out w' hw'; go_simp; (try with_reducible rfl))); (try simp only [Act.put, List.setIfInBounds_toArray, List.set_cons_zero, List.set_cons_succ]))
            (refine walkS_call 96 _ _ _ _ (HTCH.out) rfl rfl rfl (by rfl) rfl (enter_ftouchP _ _ _ _) ?_; rintro e x1 ⟨rfl, s1⟩; have t1 := FStep.touch s1; obtain ⟨h1, M1, p1, n1⟩ := HFD.out.prog s1; have HN1 := Lib.hid n1; have HP1 := Lib.hid p1; refine ⟨_, rfl, hS.trans t1 (fun _ _ h => .inl h), fun hS => ?_⟩; clear s1 n1 t1 p1; (try simp only [Act.put, List.setIfInBounds_toArray, List.set_cons_zero, List.set_cons_succ]))
            (refine walkS_call 103 _ _ _ _ (HRT.out _ _ _ HN1.out) rfl rfl rfl (by rfl) rfl (enter_rtouchP _ _ _ _) ?_; rintro e x2 ⟨rfl, s2⟩; have t2 := RFStep.touch s2; obtain ⟨a2, c2, n2⟩ := HN1.out.ref s2; have HN2 := Lib.hid n2; refine ⟨_, rfl, hS.trans t2 (fun _ _ h => .inr h), fun hS => ?_⟩; clear s2 n2 t2; (try simp only [Act.put, List.setIfInBounds_toArray, List.set_cons_zero, List.set_cons_succ]))
            (refine walkS_bin (some 104) _ _ _ _ _ _ _ _ (eqBP_run _) rfl rfl rfl rfl rfl (fun _ _ _ h => h) (by rfl) ?_; (try simp only [Act.put, List.setIfInBounds_toArray, List.set_cons_zero, List.set_cons_succ]))
            (refine walkS_take (v := ?_) (some 13) rfl rfl (fun _ _ _ h => h) (by rfl) ?_ ?_; rotate_left; (focus (intro w' hw'; obtain ⟨y0, y1, y2, y3, y4, y5⟩ := HCC.out w' hw'; go_simp; (try with_reducible rfl))); (try simp only [Act.put, List.setIfInBounds_toArray, List.set_cons_zero, List.set_cons_succ]))
            refine walkS_done ?_
            have HG9 := Lib.hid (hS.keeps HG2.out HNB.out)
            clear hS
            go_wp2_with fail
            go_meet
            exact ⟨rfl, _, _, _, _, _, HN2.out, HPL.out.perm HP1.out, HG9.out⟩
          · by_cases hd2 : cc.do_ = 2
            · have HDRP := Lib.hid (fdrop_any W2.drew g h mo id M HFD.out.f.q cc.f.t HOT.out)
              have HRT : RowKit.Hid (∀ (x1 : World) (h1 : FH) (M1 : List FlD), FR w x1 g h1 b a c mo id M1 L → Calls Tryz.prog 12 #[.pointer (some ⟨b, 0, none⟩), .agg (tcs cc.f.t)] x1 fun e w' => e = .returned (.bool (hasF L cc.f.t)) ∧ RFStep x1 w' b a mo id (delF L cc.f.t)) := Lib.hid (fun x1 h1 M1 q => rfdrop_any x1 b a c mo id L q.r HLK.out.s.nd HLL2.out cc.f.t)
              have HPL := Lib.hid (del_like HLK.out cc.f.t)
              rw [← HLK.out.has] at HDRP
              generalize hasF L cc.f.t = pb at *
              simp only [tcs] at HDRP HRT
              go_upto_region 18 with (fail)
              have hS := (Touch.refl W2 (fun k => footF g h k ∨ k = b)).drew
              refine wp_region_sched (fun w' => Touch W2 w' (fun k => footF g h k ∨ k = b)) [(0, true), (1, true), (2, true), (3, true), (5, true), (6, true), (7, true), (8, true), (4, false), (9, false), (10, true), (11, true)] (by kernel_rfl) (by kernel_rfl) rfl (by kernel_rfl) hS ?_
              (refine walkS_take (v := ?_) (some 107) rfl rfl (fun _ _ _ h => h) (by rfl) ?_ ?_; rotate_left; (focus (intro w' hw'; obtain ⟨y0, y1, y2, y3, y4, y5⟩ := HCC.out w' hw'; go_simp; (try with_reducible rfl))); (try simp only [Act.put, List.setIfInBounds_toArray, List.set_cons_zero, List.set_cons_succ]))
              (refine walkS_take (v := ?_) (some 108) rfl rfl (fun _ _ _ h => h) (by rfl) ?_ ?_; rotate_left; (focus (intro w' hw'; obtain ⟨y0, y1, y2, y3, y4, y5⟩ := HCC.out w' hw'; go_simp; (try with_reducible rfl))); (try simp only [Act.put, List.setIfInBounds_toArray, List.set_cons_zero, List.set_cons_succ]))
              (refine walkS_take (v := ?_) (some 109) rfl rfl (fun _ _ _ h => h) (by rfl) ?_ ?_; rotate_left; (focus (intro w' hw'; obtain ⟨y0, y1, y2, y3, y4, y5⟩ := HCC.out w' hw'; go_simp; (try with_reducible rfl))); (try simp only [Act.put, List.setIfInBounds_toArray, List.set_cons_zero, List.set_cons_succ]))
              (refine walkS_take (v := ?_) (some 110) rfl rfl (fun _ _ _ h => h) (by rfl) ?_ ?_; rotate_left; (focus (intro w' hw'; obtain ⟨y0, y1, y2, y3, y4, y5⟩ := HCC.out w' hw'; go_simp; (try with_reducible rfl))); (try simp only [Act.put, List.setIfInBounds_toArray, List.set_cons_zero, List.set_cons_succ]))
              (refine walkS_take (v := ?_) (some 112) rfl rfl (fun _ _ _ h => h) (by rfl) ?_ ?_; rotate_left; (focus (intro w' hw'; obtain ⟨y0, y1, y2, y3, y4, y5⟩ := HCC.out w' hw'; go_simp; (try with_reducible rfl))); (try simp only [Act.put, List.setIfInBounds_toArray, List.set_cons_zero, List.set_cons_succ]))
              (refine walkS_take (v := ?_) (some 113) rfl rfl (fun _ _ _ h => h) (by rfl) ?_ ?_; rotate_left; (focus (intro w' hw'; obtain ⟨y0, y1, y2, y3, y4, y5⟩ := HCC.out w' hw'; go_simp; (try with_reducible rfl))); (try simp only [Act.put, List.setIfInBounds_toArray, List.set_cons_zero, List.set_cons_succ]))
              (refine walkS_take (v := ?_) (some 114) rfl rfl (fun _ _ _ h => h) (by rfl) ?_ ?_; rotate_left; (focus (intro w' hw'; obtain ⟨y0, y1, y2, y3, y4, y5⟩ := HCC.out w' hw'; go_simp; (try with_reducible rfl))); (try simp only [Act.put, List.setIfInBounds_toArray, List.set_cons_zero, List.set_cons_succ]))
              (refine walkS_take (v := ?_) (some 115) rfl rfl (fun _ _ _ h => h) (by rfl) ?_ ?_; rotate_left; (focus (intro w' hw'; obtain ⟨y0, y1, y2, y3, y4, y5⟩ := HCC.out w' hw'; go_simp; (try with_reducible rfl))); (try simp only [Act.put, List.setIfInBounds_toArray, List.set_cons_zero, List.set_cons_succ]))
              (refine walkS_call 111 _ _ _ _ (HDRP.out) rfl rfl rfl (by rfl) rfl (enter_fdropP _ _ _) ?_; rintro e x1 ⟨rfl, s1⟩; have t1 := FStep.touch s1; obtain ⟨h1, M1, p1, n1⟩ := HFD.out.prog s1; have HN1 := Lib.hid n1; have HP1 := Lib.hid p1; refine ⟨_, rfl, hS.trans t1 (fun _ _ h => .inl h), fun hS => ?_⟩; clear s1 n1 t1 p1; (try simp only [Act.put, List.setIfInBounds_toArray, List.set_cons_zero, List.set_cons_succ]))
              (refine walkS_call 116 _ _ _ _ (HRT.out _ _ _ HN1.out) rfl rfl rfl (by rfl) rfl (enter_rdropP _ _ _) ?_; rintro e x2 ⟨rfl, s2⟩; have t2 := RFStep.touch s2; obtain ⟨a2, c2, n2⟩ := HN1.out.ref s2; have HN2 := Lib.hid n2; refine ⟨_, rfl, hS.trans t2 (fun _ _ h => .inr h), fun hS => ?_⟩; clear s2 n2 t2; (try simp only [Act.put, List.setIfInBounds_toArray, List.set_cons_zero, List.set_cons_succ]))
              (refine walkS_bin (some 117) _ _ _ _ _ _ _ _ (eqBP_run _) rfl rfl rfl rfl rfl (fun _ _ _ h => h) (by rfl) ?_; (try simp only [Act.put, List.setIfInBounds_toArray, List.set_cons_zero, List.set_cons_succ]))
              (refine walkS_take (v := ?_) (some 13) rfl rfl (fun _ _ _ h => h) (by rfl) ?_ ?_; rotate_left; (focus (intro w' hw'; obtain ⟨y0, y1, y2, y3, y4, y5⟩ := HCC.out w' hw'; go_simp; (try with_reducible rfl))); (try simp only [Act.put, List.setIfInBounds_toArray, List.set_cons_zero, List.set_cons_succ]))
              refine walkS_done ?_
              have HG9 := Lib.hid (hS.keeps HG2.out HNB.out)
              clear hS
              go_wp2_with fail
              go_meet
              exact ⟨rfl, _, _, _, _, _, HN2.out, HPL.out.perm HP1.out, HG9.out⟩
            · have HIDL := Lib.hid (fidle_any W2.drew g h mo id M HFD.out.f.q cc.now HON.out)
              obtain ⟨ha1, ha2, -⟩ := idle_both HLK.out.ok HFD.out.f.q.q.1 HLK.out.p HID.out.1 cc.now
              have hal : (idleA M id cc.now).length ≤ 100000 := by
                rw [ha1.length_eq]; exact Nat.le_trans (List.length_filter_le ..) HLL.out
              have HPL := Lib.hid (HLK.out.idle HFD.out.f.q.q.1 HID.out.1 cc.now)
              obtain ⟨A, hA⟩ : ∃ A, idleA M id cc.now = A := ⟨_, rfl⟩
              rw [hA] at HIDL ha1 ha2 hal
              have HAL := Lib.hid hal
              have HRI : RowKit.Hid (∀ (x1 : World) (h1 : FH) (M1 : List FlD), FR w x1 g h1 b a c mo id M1 L → Calls Tryz.prog 15 #[.pointer (some ⟨b, 0, none⟩), .int .i64 cc.now] x1 fun e w' => ∃ a1 c1, e = .returned (.slice a1 A.length c1) ∧ OwnS w' x1.heap.size 35 8 (.slice a1 A.length c1) (A.map fcl) ∧ RFStep x1 w' b a mo id (L.filter (fun d => !goP id cc.now d))) := Lib.hid (fun x1 h1 M1 q => rfidle_any x1 b a c mo id L q.r HLL2.out HLK.out.s HID.out cc.now HON.out A ha1 ha2)
              clear ha1 ha2 hal hA
              go_upto_region 10 with (fail)
              have hS := (Touch.refl W2 (fun k => footF g h k ∨ k = b)).drew
              refine wp_region_sched (fun w' => Touch W2 w' (fun k => footF g h k ∨ k = b)) [(0, true), (1, true), (2, true), (4, true), (5, true), (6, true), (3, false), (7, false), (8, false), (9, true)] (by kernel_rfl) (by kernel_rfl) rfl (by kernel_rfl) hS ?_
              (refine walkS_take (v := ?_) (some 55) rfl rfl (fun _ _ _ h => h) (by rfl) ?_ ?_; rotate_left; (focus (intro w' hw'; have y5 := (HCC.out w' hw').2.2.2.2.2; go_simp; (try with_reducible rfl))); (try simp only [Act.put, List.setIfInBounds_toArray, List.set_cons_zero, List.set_cons_succ]))
              (refine walkS_take (v := ?_) (some 56) rfl rfl (fun _ _ _ h => h) (by rfl) ?_ ?_; rotate_left; (focus (intro w' hw'; have y5 := (HCC.out w' hw').2.2.2.2.2; go_simp; (try with_reducible rfl))); (try simp only [Act.put, List.setIfInBounds_toArray, List.set_cons_zero, List.set_cons_succ]))
              (refine walkS_take (v := ?_) (some 57) rfl rfl (fun _ _ _ h => h) (by rfl) ?_ ?_; rotate_left; (focus (intro w' hw'; have y5 := (HCC.out w' hw').2.2.2.2.2; go_simp; (try with_reducible rfl))); (try simp only [Act.put, List.setIfInBounds_toArray, List.set_cons_zero, List.set_cons_succ]))
              (refine walkS_take (v := ?_) (some 59) rfl rfl (fun _ _ _ h => h) (by rfl) ?_ ?_; rotate_left; (focus (intro w' hw'; have y5 := (HCC.out w' hw').2.2.2.2.2; go_simp; (try with_reducible rfl))); (try simp only [Act.put, List.setIfInBounds_toArray, List.set_cons_zero, List.set_cons_succ]))
              (refine walkS_take (v := ?_) (some 60) rfl rfl (fun _ _ _ h => h) (by rfl) ?_ ?_; rotate_left; (focus (intro w' hw'; have y5 := (HCC.out w' hw').2.2.2.2.2; go_simp; (try with_reducible rfl))); (try simp only [Act.put, List.setIfInBounds_toArray, List.set_cons_zero, List.set_cons_succ]))
              (refine walkS_take (v := ?_) (some 61) rfl rfl (fun _ _ _ h => h) (by rfl) ?_ ?_; rotate_left; (focus (intro w' hw'; have y5 := (HCC.out w' hw').2.2.2.2.2; go_simp; (try with_reducible rfl))); (try simp only [Act.put, List.setIfInBounds_toArray, List.set_cons_zero, List.set_cons_succ]))
              (refine walkS_call 58 _ _ _ _ (HIDL.out) rfl rfl rfl (by rfl) rfl (enter_fidleP _ _ _) ?_; rintro e x1 ⟨v1, rfl, s1⟩; have t1 := FIdle.touch s1; obtain ⟨a1, c1, h1, rfl, ho1, n1, hb1⟩ := HFD.out.idle s1; have HN1 := Lib.hid n1; have HO1 := Lib.hid ho1; have HB1 := Lib.hid hb1; refine ⟨_, rfl, hS.trans t1 (fun _ _ h => .inl h), fun hS => ?_⟩; clear s1 n1 t1 ho1 hb1; (try simp only [Act.put, List.setIfInBounds_toArray, List.set_cons_zero, List.set_cons_succ]))
              (refine walkS_call 62 _ _ _ _ (HRI.out _ _ _ HN1.out) rfl rfl rfl (by rfl) rfl (enter_ridleP _ _ _) ?_; rintro e x2 ⟨a3, c3, rfl, o3, s2⟩; have t2 := RFStep.touch s2; obtain ⟨a2, c2, n2⟩ := HN1.out.ref s2; have HN2 := Lib.hid n2; have HR2 := Lib.hid o3.row'.2.1; have HR1 := Lib.hid (HO1.out.row'.2.1.touch t2 (fun y hy => .inr (fun e => HB1.out y hy e))); have HSF := Lib.hid (samefl_any x2 a1 a3 _ c1 c3 _ HR1.out HR2.out HAL.out); refine ⟨_, rfl, hS.trans t2 (fun _ _ h => .inr h), fun hS => ?_⟩; clear s2 n2 t2 o3; (try simp only [Act.put, List.setIfInBounds_toArray, List.set_cons_zero, List.set_cons_succ]))
              (refine walkS_call 63 _ _ _ _ (HSF.out) rfl rfl rfl (by rfl) rfl (enter_sameFP _ _ _) ?_; rintro e x3 ⟨rfl, t3⟩; have HN3 := Lib.hid (HN2.out.still t3); refine ⟨_, rfl, hS.trans t3 (fun _ _ h => h.elim), fun hS => ?_⟩; clear t3; (try simp only [Act.put, List.setIfInBounds_toArray, List.set_cons_zero, List.set_cons_succ]))
              (refine walkS_take (v := ?_) (some 13) rfl rfl (fun _ _ _ h => h) (by rfl) ?_ ?_; rotate_left; (focus (intro w' hw'; have y5 := (HCC.out w' hw').2.2.2.2.2; go_simp; (try with_reducible rfl))); (try simp only [Act.put, List.setIfInBounds_toArray, List.set_cons_zero, List.set_cons_succ]))
              refine walkS_done ?_
              have HG9 := Lib.hid (hS.keeps HG2.out HNB.out)
              clear hS
              go_wp2_with fail
              go_meet
              exact ⟨rfl, _, _, _, _, _, HN3.out, HPL.out, HG9.out⟩
      case rest =>
        obtain ⟨rfl, M5, L5, h5, a5, c5, hn5, hl5, hg5⟩ := hcut
        have HN5 := Lib.hid hn5
        have HL5 := Lib.hid hl5
        have HG5 := Lib.hid hg5
        have hlm : M5.length = L5.length := hl5.p.length_eq.symm
        have HLM := Lib.hid hlm
        have HGT := Lib.hid (fget_any wc g h5 mo id M5 hn5.f.q cc.f.t HOT.out)
        rw [← hl5.has, ← hl5.get] at HGT
        obtain ⟨fl, hfl⟩ : ∃ fl, getF L5 cc.f.t = fl := ⟨_, rfl⟩
        obtain ⟨hb, hhb⟩ : ∃ x, hasF L5 cc.f.t = x := ⟨_, rfl⟩
        have HRG : RowKit.Hid (∀ W, Touch wc W (fun _ => False) → Calls Tryz.prog 17 #[.pointer (some ⟨b, 0, none⟩), .agg (tcs cc.f.t)] W fun e w' => e = .returned (.tuple #[.agg (fca fl), .bool hb]) ∧ Touch W w' (fun _ => False)) := Lib.hid (fun W t => hfl ▸ hhb ▸ rfget_any W b a5 c5 mo id L5 (HN5.out.r.still t) HL5.out.s.nd cc.f.t)
        rw [hfl, hhb] at HGT
        simp only [fca, tcs] at HGT HRG
        have y1 := cell_of_cells HG5.out 1
        have y2 := cell_of_cells HG5.out 2
        have y3 := cell_of_cells HG5.out 3
        have y4 := cell_of_cells HG5.out 4
        have y5 := cell_of_cells HG5.out 5
        simp only [CallF.arr] at y1 y2 y3 y4 y5
        clear hn5 hl5 hg5 hlm hfl hhb
        go_wp2_with fail
        (with_reducible refine HGT.out.mono ?_)
        rintro e x4 ⟨rfl, t4⟩
        obtain ⟨W5, hW5⟩ : ∃ W, x4.alloc (.cells (fca fl) 35) = W := ⟨_, rfl⟩
        obtain ⟨KA, hKA⟩ : ∃ K, x4.heap.size = K := ⟨_, rfl⟩
        have t5 : Touch x4 W5 (fun _ => False) := hW5 ▸ (Touch.refl x4 _).alloc _
        have g5 : W5.heap[KA]? = some (.cells (fca fl) 35 (0, 0)) := hKA ▸ hW5 ▸ heap_alloc_new ..
        have T5 := Lib.hid (t4.trans t5 (fun _ _ h => h))
        have HGA5 := Lib.hid g5
        have HG6 := Lib.hid (T5.out.keeps HG5.out (fun h => h))
        have HW5 := Lib.hid (And.intro hW5 hKA)
        simp only [fca] at HW5
        clear t4 t5 g5 hW5 hKA y1 y2 y3 y4 y5
        go_upto_region 20 with (fail)
        rw [HW5.out.1, HW5.out.2]
        have y1 := cell_of_cells HG6.out 1
        have y2 := cell_of_cells HG6.out 2
        have y3 := cell_of_cells HG6.out 3
        have y4 := cell_of_cells HG6.out 4
        have y5 := cell_of_cells HG6.out 5
        simp only [CallF.arr] at y1 y2 y3 y4 y5
        go_wp2_with fail
        (with_reducible refine (HRG.out _ T5.out).mono ?_)
        rintro e x6 ⟨rfl, t6⟩
        obtain ⟨W7, hW7⟩ : ∃ W, x6.alloc (.cells (fca fl) 35) = W := ⟨_, rfl⟩
        obtain ⟨KB, hKB⟩ : ∃ K, x6.heap.size = K := ⟨_, rfl⟩
        have t7 : Touch x6 W7 (fun _ => False) := hW7 ▸ (Touch.refl x6 _).alloc _
        have g7 : W7.heap[KB]? = some (.cells (fca fl) 35 (0, 0)) := hKB ▸ hW7 ▸ heap_alloc_new ..
        have T7 := Lib.hid ((T5.out.trans t6 (fun _ _ h => h)).trans t7 (fun _ _ h => h))
        have HGA : RowKit.Hid (∀ W, Touch W7 W (fun _ => False) → W.heap[KA]? = some (.cells (fca fl) 35 (0, 0))) := Lib.hid (fun W t => ((t6.trans t7 (fun _ _ h => h)).trans t (fun _ _ h => h)).keeps HGA5.out (fun h => h))
        have HGB : RowKit.Hid (∀ W, Touch W7 W (fun _ => False) → W.heap[KB]? = some (.cells (fca fl) 35 (0, 0))) := Lib.hid (fun W t => t.keeps g7 (fun h => h))
        have HN7 := Lib.hid (HN5.out.still T7.out)
        have HML : RowKit.Hid (∀ W, Touch W7 W (fun _ => False) → W.cell? ⟨b, 0, none⟩ = some (.slice a5 L5.length c5)) := Lib.hid (fun W t => cell_of_cells (t.keeps HN7.out.r.head (fun h => h)) 0)
        have HLE := Lib.hid (flen_any W7.drew g h5 mo id M5 (HN7.out.f.q.still (Touch.refl W7 _).drew))
        rw [HLM.out] at HLE
        have HW7 := Lib.hid (And.intro hW7 hKB)
        simp only [fca] at HW7
        clear t6 t7 g7 hW7 hKB y1 y2 y3 y4 y5
        go_upto_region 21 with (fail)
        rw [HW7.out.1, HW7.out.2]
        have hS := (Touch.refl W7 (fun _ => False)).drew
        refine wp_region_sched (fun w' => Touch W7 w' (fun _ => False)) [(0, true), (1, true), (2, true), (3, true), (4, true), (5, true), (6, true), (7, true), (8, true), (9, true), (10, true), (11, true), (12, true), (13, true), (15, true), (16, true), (17, true), (18, true), (19, true), (14, false), (20, true), (21, true)] (by kernel_rfl) (by kernel_rfl) rfl (by kernel_rfl) hS ?_
        (refine walkS_take (v := ?_) (some 134) rfl rfl (fun _ _ _ h => h) (by rfl) ?_ ?_; rotate_left; (focus (intro w' hw'; go_simp; (try with_reducible rfl))); (try simp only [Act.put, List.setIfInBounds_toArray, List.set_cons_zero, List.set_cons_succ]))
        (refine walkS_take (v := ?_) (some 135) rfl rfl (fun _ _ _ h => h) (by rfl) ?_ ?_; rotate_left; (focus (intro w' hw'; go_simp; (try with_reducible rfl))); (try simp only [Act.put, List.setIfInBounds_toArray, List.set_cons_zero, List.set_cons_succ]))
        (refine walkS_take (v := ?_) (some 136) rfl rfl (fun _ _ _ h => h) (by rfl) ?_ ?_; rotate_left; (focus (intro w' hw'; go_simp; (try with_reducible rfl))); (try simp only [Act.put, List.setIfInBounds_toArray, List.set_cons_zero, List.set_cons_succ]))
        (refine walkS_row (some 137) rfl rfl 35 (.tmp 18) rfl (KA) rfl _ _ _ _ (fun w' h => HGA.out w' h) Tryz.underlying35 rfl infoFlG (fun _ _ _ h => h) (by rfl) ?_; (try simp only [Act.put, List.setIfInBounds_toArray, List.set_cons_zero, List.set_cons_succ]))
        (refine walkS_row (some 138) rfl rfl 35 (.tmp 20) rfl (KB) rfl _ _ _ _ (fun w' h => HGB.out w' h) Tryz.underlying35 rfl infoFlG (fun _ _ _ h => h) (by rfl) ?_; (try simp only [Act.put, List.setIfInBounds_toArray, List.set_cons_zero, List.set_cons_succ]))
        (refine walkS_bin (some 139) _ _ _ _ _ _ _ _ (neqFP_run _) rfl rfl rfl rfl rfl (fun _ _ _ h => h) (by rfl) ?_; (try simp only [Act.put, List.setIfInBounds_toArray, List.set_cons_zero, List.set_cons_succ]))
        (refine walkS_take (v := ?_) (some 140) rfl rfl (fun _ _ _ h => h) (by rfl) ?_ ?_; rotate_left; (focus (intro w' hw'; go_simp; (try with_reducible rfl))); (try simp only [Act.put, List.setIfInBounds_toArray, List.set_cons_zero, List.set_cons_succ]))
        (refine walkS_take (v := ?_) (some 141) rfl rfl (fun _ _ _ h => h) (by rfl) ?_ ?_; rotate_left; (focus (intro w' hw'; go_simp; (try with_reducible rfl))); (try simp only [Act.put, List.setIfInBounds_toArray, List.set_cons_zero, List.set_cons_succ]))
        (refine walkS_take (v := ?_) (some 142) rfl rfl (fun _ _ _ h => h) (by rfl) ?_ ?_; rotate_left; (focus (intro w' hw'; go_simp; (try with_reducible rfl))); (try simp only [Act.put, List.setIfInBounds_toArray, List.set_cons_zero, List.set_cons_succ]))
        (refine walkS_take (v := ?_) (some 143) rfl rfl (fun _ _ _ h => h) (by rfl) ?_ ?_; rotate_left; (focus (intro w' hw'; go_simp; (try with_reducible rfl))); (try simp only [Act.put, List.setIfInBounds_toArray, List.set_cons_zero, List.set_cons_succ]))
        (refine walkS_bin (some 144) _ _ _ _ _ _ _ _ (neqBP_run _) rfl rfl rfl rfl rfl (fun _ _ _ h => h) (by rfl) ?_; (try simp only [Act.put, List.setIfInBounds_toArray, List.set_cons_zero, List.set_cons_succ]))
        (refine walkS_take (v := ?_) (some 145) rfl rfl (fun _ _ _ h => h) (by rfl) ?_ ?_; rotate_left; (focus (intro w' hw'; go_simp; (try with_reducible rfl))); (try simp only [Act.put, List.setIfInBounds_toArray, List.set_cons_zero, List.set_cons_succ]))
        (refine walkS_take (v := ?_) (some 146) rfl rfl (fun _ _ _ h => h) (by rfl) ?_ ?_; rotate_left; (focus (intro w' hw'; go_simp; (try with_reducible rfl))); (try simp only [Act.put, List.setIfInBounds_toArray, List.set_cons_zero, List.set_cons_succ]))
        (refine walkS_take (v := ?_) (some 147) rfl rfl (fun _ _ _ h => h) (by rfl) ?_ ?_; rotate_left; (focus (intro w' hw'; go_simp; (try with_reducible rfl))); (try simp only [Act.put, List.setIfInBounds_toArray, List.set_cons_zero, List.set_cons_succ]))
        (refine walkS_take (v := ?_) (some 149) rfl rfl (fun _ _ _ h => h) (by rfl) ?_ ?_; rotate_left; (focus (intro w' hw'; go_simp; (try with_reducible rfl))); (try simp only [Act.put, List.setIfInBounds_toArray, List.set_cons_zero, List.set_cons_succ]))
        (refine walkS_take (v := ?_) (some 150) rfl rfl (fun _ _ _ h => h) (by rfl) ?_ ?_; rotate_left; (focus (intro w' hw'; go_simp; (try with_reducible rfl))); (try simp only [Act.put, List.setIfInBounds_toArray, List.set_cons_zero, List.set_cons_succ]))
        (refine walkS_take (v := ?_) (some 151) rfl rfl (fun _ _ _ h => h) (by rfl) ?_ ?_; rotate_left; (focus (intro w' hw'; go_simp; (try with_reducible rfl))); (try simp only [Act.put, List.setIfInBounds_toArray, List.set_cons_zero, List.set_cons_succ]))
        (refine walkS_take (v := ?_) (some 152) rfl rfl (fun _ _ _ h => h) (by rfl) ?_ ?_; rotate_left; (focus (intro w' hw'; have y0 := HML.out w' hw'; go_simp; (try with_reducible rfl))); (try simp only [Act.put, List.setIfInBounds_toArray, List.set_cons_zero, List.set_cons_succ]))
        (refine walkS_take (v := ?_) (some 153) rfl rfl (fun _ _ _ h => h) (by rfl) ?_ ?_; rotate_left; (focus (intro w' hw'; go_simp; (try with_reducible rfl))); (try simp only [Act.put, List.setIfInBounds_toArray, List.set_cons_zero, List.set_cons_succ]))
        (refine walkS_call 148 _ _ _ _ (HLE.out) rfl rfl rfl (by rfl) rfl (enter_flenP _ _) ?_; rintro e w' ⟨rfl, rfl⟩; refine ⟨_, rfl, hS, fun hS => ?_⟩; (try simp only [Act.put, List.setIfInBounds_toArray, List.set_cons_zero, List.set_cons_succ]))
        (refine walkS_bin (some 154) _ _ _ _ _ _ _ _ (neqIP_run _) rfl rfl rfl rfl rfl (fun _ _ _ h => h) (by rfl) ?_; (try simp only [Act.put, List.setIfInBounds_toArray, List.set_cons_zero, List.set_cons_succ]))
        (refine walkS_take (v := ?_) (some 155) rfl rfl (fun _ _ _ h => h) (by rfl) ?_ ?_; rotate_left; (focus (intro w' hw'; go_simp; (try with_reducible rfl))); (try simp only [Act.put, List.setIfInBounds_toArray, List.set_cons_zero, List.set_cons_succ]))
        refine walkS_done ?_
        have HN8 := Lib.hid (HN7.out.still hS)
        clear hS
        go_wp2_with fail
        go_roundw
        · exact ⟨k + 1, M5, L5, h5, a5, c5, by omega, by go_num, HN8.out, HL5.out⟩
        · simp only [RowKit.intOf]; omega
theorem flowsPlay_holds : Rows.FlowsPlaySaid := by
  refine flowsPlay.said fun H enc W base v0 v1 v2 v3 d0 d1 d2 d3 p0 p1 p2 p3 h0 h1 h2 h3 => ?_
  obtain ⟨most, rfl, _⟩ := h0.i64 Tryz.underlying3
  obtain ⟨idle, rfl, _⟩ := h1.i64 Tryz.underlying2
  obtain ⟨a, cap, l, rfl, hr, hok⟩ := h2.callsF
  obtain ⟨be, rfl, _⟩ := h3.i64 Tryz.underlying3
  exact fplay_in W most idle be a cap l hr hok
end Go.Proofs.YtgmimdnebgncoaaGreat
