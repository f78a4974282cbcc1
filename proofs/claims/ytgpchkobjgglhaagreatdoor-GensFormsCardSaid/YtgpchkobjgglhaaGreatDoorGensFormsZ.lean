/- GensForms holds: any backends, any text: they may be, are sorted, found, told as a text, read, as the document says. No condition. -/
import Derived.Test.YtgpchkobjgglhaaGreatDoorGnPbZ
import Derived.Test.YtgpchkobjgglhaaGreatDoorGnWiZ
import Derived.Test.YtgpchkobjgglhaaGreatDoorGnRsoZ
import Derived.Test.YtgpchkobjgglhaaGreatDoorGnRwZ
import Derived.Test.YtgpchkobjgglhaaGreatDoorGnAwakeZ
import Derived.Test.YtgpchkobjgglhaaGreatDoorHFZ
import Derived.Test.YtgpchkobjgglhaaGreatDoorFrGensFormsZ
import Derived.Test.YtgpchkobjgglhaaGreatDoorGCZ
import Derived.Test.YtgpchkobjgglhaaGreatDoorHDZ
import Derived.Test.YtgpchkobjgglhaaGreatDoorHAZ
import Derived.Deep.DeepCutAuto
set_option linter.unusedVariables false
set_option linter.unusedSimpArgs false
namespace Go.Proofs.YtgpchkobjgglhaaGreatDoor
open Go.ChangeShapes Go.WideShapes Go.ChangeAt Go.RowKit

theorem enter_gmayG (a : Value) (w : World) : (callFunc 11 #[a]).run Tryz.prog w = .ok (.enter 11 #[a]) w := by kernel_rfl
theorem enter_rmayG (a : Value) (w : World) : (callFunc 12 #[a]).run Tryz.prog w = .ok (.enter 12 #[a]) w := by kernel_rfl
theorem enter_gsortG (a : Value) (w : World) : (callFunc 13 #[a]).run Tryz.prog w = .ok (.enter 13 #[a]) w := by kernel_rfl
theorem enter_rsortG (a : Value) (w : World) : (callFunc 14 #[a]).run Tryz.prog w = .ok (.enter 14 #[a]) w := by kernel_rfl
theorem enter_sameG (a b : Value) (w : World) : (callFunc 9 #[a, b]).run Tryz.prog w = .ok (.enter 9 #[a, b]) w := by kernel_rfl
theorem enter_withG (a b : Value) (w : World) : (callFunc 15 #[a, b]).run Tryz.prog w = .ok (.enter 15 #[a, b]) w := by kernel_rfl
theorem enter_rwithG (a b : Value) (w : World) : (callFunc 16 #[a, b]).run Tryz.prog w = .ok (.enter 16 #[a, b]) w := by kernel_rfl
theorem enter_gsameG (a b : Value) (w : World) : (callFunc 17 #[a, b]).run Tryz.prog w = .ok (.enter 17 #[a, b]) w := by kernel_rfl
theorem enter_gweightG (a : Value) (w : World) : (callFunc 18 #[a]).run Tryz.prog w = .ok (.enter 18 #[a]) w := by kernel_rfl
theorem enter_rweightG (a : Value) (w : World) : (callFunc 19 #[a]).run Tryz.prog w = .ok (.enter 19 #[a]) w := by kernel_rfl
theorem enter_gtextG (a : Value) (w : World) : (callFunc 20 #[a]).run Tryz.prog w = .ok (.enter 20 #[a]) w := by kernel_rfl
theorem enter_rtextG (a : Value) (w : World) : (callFunc 21 #[a]).run Tryz.prog w = .ok (.enter 21 #[a]) w := by kernel_rfl
theorem enter_awakeG (w : World) : (callFunc 4 #[]).run Tryz.prog w = .ok (.enter 4 #[]) w := by kernel_rfl
theorem eqBG_run (n : Bool) (x y : Operand) (W : World) :
    (do eqGuard BinOp.eql 4 x y (.bool n) (.bool n); binOp BinOp.eql 4 (.bool n) (.bool n) : Sem Value).run Tryz.prog W = .ok (.bool true) W := by
  go_simp
theorem eqIG_run (n : Int) (x y : Operand) (W : World) :
    (do eqGuard BinOp.eql 3 x y (.int .i64 n) (.int .i64 n); binOp BinOp.eql 3 (.int .i64 n) (.int .i64 n) : Sem Value).run Tryz.prog W = .ok (.bool true) W := by
  go_simp
theorem eqSG_run (n : ByteArray) (x y : Operand) (W : World) :
    (do eqGuard BinOp.eql 9 x y (.string n) (.string n); binOp BinOp.eql 9 (.string n) (.string n) : Sem Value).run Tryz.prog W = .ok (.bool true) W := by
  go_simp
theorem rsameK_t (a : Option Addr) (len cap : Nat) (bs : List BkD) (a2 : Option Addr) (cap2 : Nat) (w : World) (hr : RowK w a len cap bs) (hr2 : RowK w a2 len cap2 bs) :
    Calls Tryz.prog 9 #[.slice a len cap, .slice a2 len cap2] w fun e w' => e = .returned (.bool true) ∧ ∃ n, w' = w.drewN n := by
  have h := rsameK_any a len cap bs a2 len cap2 bs w hr hr2
  rwa [(sameK_eq bs bs).2 rfl] at h
def parX (l : List UInt8) : List BkD := if gparB l = true then gparL l else []
theorem ParIs.row {w w' : World} {l : List UInt8} {e : Ending} (h : ParIs w w' l e) : ∃ a c, e = .returned (.tuple #[.slice a (parX l).length c, .bool (gparB l)]) ∧ RowK w' a (parX l).length c (parX l) := by
  unfold parX
  rcases h with ⟨h1, a, c, rfl, ho⟩ | ⟨h1, rfl⟩
  · rw [h1, if_pos rfl]; exact ⟨a, c, rfl, (OwnK.row ho).2.1⟩
  · rw [h1, if_neg (by decide)]; exact ⟨none, 0, rfl, RowS.nil _ _ _ _ (by omega)⟩
theorem findV_is (bs : List BkD) (id : Int) : ∃ (f : BkD) (b : Bool), findV bs id = .tuple #[bkV' f, .bool b] := by
  unfold findV; split <;> exact ⟨_, _, rfl⟩
set_option maxRecDepth 20000 in
set_option maxHeartbeats 16000000 in
theorem gforms_walk (a a2 ax : Option Addr) (cap cap2 lx cx : Nat) (bs bs2 : List BkD) (id : Int) (xs : List Int) (q : List UInt8) (w : World) (hr : RowK w a bs.length cap bs) (hr2 : RowK w a2 bs2.length cap2 bs2) (hx : RowI w ax lx cx xs) (hok : ∀ b ∈ bs, BkOk b) (hok2 : ∀ b ∈ bs2, BkOk b) (hT : TabW w) (hE : ErrW w) (hM : MaxW w) :
    Calls Tryz.prog 3 #[.slice a bs.length cap, .slice a2 bs2.length cap2, .int .i64 id, .slice ax lx cx, .string (mkS q)] w fun e w' => e = .returned (.bool true) ∧ Touch w w' (fun _ => False) := by
  have HAW0 : RowKit.Hid (∀ W, Touch w W (fun _ => False) → Calls Tryz.prog 4 #[] W fun e w' => e = .returned (.bool true) ∧ Touch W w' (fun _ => False)) := Lib.hid (fun W t => awake13 W (hT.touch t) (hE.touch t) (hM.touch t))
  have HTE := Lib.hid (And.intro hT (And.intro hE hM))
  have hcap1 := hr.hcap
  have hmax1 := hr.hmax
  have hcap2 := hr2.hcap
  have hmax2 := hr2.hmax
  have hcapx := hx.2.1
  have hmaxx := hx.2.2.1
  have HR := Lib.hid hr
  have HR2 := Lib.hid hr2
  have HX := Lib.hid hx
  have HOK := Lib.hid hok
  have hqs : (mkS q).size = q.length := mkS_size q
  obtain ⟨W1, hW1⟩ : ∃ W, w.alloc (.cells #[.slice ax lx cx] 23) = W := ⟨_, rfl⟩
  obtain ⟨KO, hKO⟩ : ∃ b, w.heap.size = b := ⟨_, rfl⟩
  have t1 : Touch w W1 (fun _ => False) := hW1 ▸ (Touch.refl w _).alloc _
  have HCO : RowKit.Hid (∀ W, Touch W1 W (fun _ => False) → W.cell? ⟨KO, 0, none⟩ = some (.slice ax lx cx)) := Lib.hid (fun W t => cell_of_cells (t.keeps (hKO ▸ hW1 ▸ heap_alloc_new w (.cells #[.slice ax lx cx] 23)) (fun h => h)) 0)
  have HT1 := Lib.hid t1
  have HW1 := Lib.hid (And.intro hW1 hKO)
  have c0 := HCO.out W1 (Touch.refl _ _)
  clear t1 hW1 hKO hT hE hM hr hr2 hx hok hok2
  obtain ⟨n1, hn1⟩ : ∃ n, bs.length = n := ⟨_, rfl⟩
  obtain ⟨n2, hn2⟩ : ∃ n, bs2.length = n := ⟨_, rfl⟩
  have HN1 := Lib.hid hn1
  rw [hn1] at HR hcap1 ⊢
  rw [hn2] at HR2 hcap2 ⊢
  clear hn1 hn2
  by_cases hlt : n1 ≤ 60 ∧ n2 ≤ 60 ∧ lx ≤ 20 ∧ q.length ≤ 2000
  case neg =>
    have hcs : (n1 : Int) > 60 ∨ (¬ (n1 : Int) > 60 ∧ (n2 : Int) > 60) ∨ (¬ (n1 : Int) > 60 ∧ ¬ (n2 : Int) > 60 ∧ (lx : Int) > 20) ∨ (¬ (n1 : Int) > 60 ∧ ¬ (n2 : Int) > 60 ∧ ¬ (lx : Int) > 20 ∧ ((mkS q).size : Int) > 2000) := by rw [hqs]; omega
    clear hlt hqs HR HR2 HX
    generalize mkS q = sq at *
    rcases hcs with h1 | ⟨h1, h2⟩ | ⟨h1, h2, h3⟩ | ⟨h1, h2, h3, h4⟩
    · go_enter Tryz.func3, Tryz.ntmps3
      go_upto_region 1 with (fail)
      rw [HW1.out.1, HW1.out.2]
      go_wp2_with fail
      (with_reducible refine (HAW0.out _ HT1.out).mono ?_)
      rintro e w9 ⟨rfl, t9⟩
      have T9 := Lib.hid (HT1.out.trans t9 (fun _ _ h => h))
      clear t9
      go_wp2_with fail
      go_ret
      exact ⟨rfl, T9.out⟩
    · go_enter Tryz.func3, Tryz.ntmps3
      go_upto_region 1 with (fail)
      rw [HW1.out.1, HW1.out.2]
      go_wp2_with fail
      (with_reducible refine (HAW0.out _ HT1.out).mono ?_)
      rintro e w9 ⟨rfl, t9⟩
      have T9 := Lib.hid (HT1.out.trans t9 (fun _ _ h => h))
      clear t9
      go_wp2_with fail
      go_ret
      exact ⟨rfl, T9.out⟩
    · go_enter Tryz.func3, Tryz.ntmps3
      go_upto_region 1 with (fail)
      rw [HW1.out.1, HW1.out.2]
      go_wp2_with fail
      (with_reducible refine (HAW0.out _ HT1.out).mono ?_)
      rintro e w9 ⟨rfl, t9⟩
      have T9 := Lib.hid (HT1.out.trans t9 (fun _ _ h => h))
      clear t9
      go_wp2_with fail
      go_ret
      exact ⟨rfl, T9.out⟩
    · go_enter Tryz.func3, Tryz.ntmps3
      go_upto_region 1 with (fail)
      rw [HW1.out.1, HW1.out.2]
      go_wp2_with fail
      (with_reducible refine (HAW0.out _ HT1.out).mono ?_)
      rintro e w9 ⟨rfl, t9⟩
      have T9 := Lib.hid (HT1.out.trans t9 (fun _ _ h => h))
      clear t9
      go_wp2_with fail
      go_ret
      exact ⟨rfl, T9.out⟩
  case pos =>
  have hg1 : ¬ (n1 : Int) > 60 := by omega
  have hg2 : ¬ (n2 : Int) > 60 := by omega
  have hg3 : ¬ (lx : Int) > 20 := by omega
  have hg4 : ¬ ((mkS q).size : Int) > 2000 := by rw [hqs]; omega
  obtain ⟨hl1, hl2, hl3, hl4⟩ := hlt
  have HQ := Lib.hid hl4
  obtain ⟨f, fb, hfv⟩ := findV_is bs id
  have HF1 := Lib.hid (find_any a n1 cap bs id W1 (RowK.still HR.out HT1.out))
  have HF2 : RowKit.Hid (∀ W, Touch W1 W (fun _ => False) → Calls Tryz.prog 6 #[.slice a n1 cap, .int .i64 id] W fun e w' => e = .returned (.tuple #[bkV' f, .bool fb]) ∧ Touch W w' (fun _ => False)) := Lib.hid (fun W t => hfv ▸ rfind_any a n1 cap bs id W (RowK.still HR.out (HT1.out.trans t (fun _ _ h => h))))
  rw [hfv] at HF1
  simp only [bkV'] at HF1 HF2
  have HP1 : RowKit.Hid (∀ W, Touch w W (fun _ => False) → Calls Tryz.prog 7 #[.string (mkS q)] W fun e w' => ParIs W w' q e ∧ Touch W w' (fun _ => False)) := Lib.hid (fun W t => gparse_any q W (by have := HQ.out; omega) (HTE.out.1.touch t) (HTE.out.2.1.touch t) (HTE.out.2.2.touch t))
  have HP2 : RowKit.Hid (∀ W, Touch w W (fun _ => False) → Calls Tryz.prog 8 #[.string (mkS q)] W fun e w' => ParIs W w' q e ∧ Touch W w' (fun _ => False)) := Lib.hid (fun W t => rparse_any q W (by have := HQ.out; omega) (HTE.out.1.touch t))
  generalize mkS q = sq at *
  clear hfv hqs hl4
  go_enter Tryz.func3, Tryz.ntmps3
  go_upto_region 1 with (fail)
  rw [HW1.out.1, HW1.out.2]
  go_wp2_with fail
  (with_reducible refine HF1.out.mono ?_)
  rintro e w2 ⟨rfl, t2⟩
  obtain ⟨W3, hW3⟩ : ∃ W, w2.alloc (.cells #[.int .i64 f.id, .int .u32 f.addr, .int .i64 f.weight] 27) = W := ⟨_, rfl⟩
  obtain ⟨KA, hKA⟩ : ∃ b, w2.heap.size = b := ⟨_, rfl⟩
  have t3 : Touch w2 W3 (fun _ => False) := hW3 ▸ (Touch.refl w2 _).alloc _
  have g3 : W3.heap[KA]? = some (.cells #[.int .i64 f.id, .int .u32 f.addr, .int .i64 f.weight] 27 (0, 0)) := hKA ▸ hW3 ▸ heap_alloc_new ..
  have T3 := Lib.hid (t2.trans t3 (fun _ _ h => h))
  have HG3 := Lib.hid g3
  have HW3 := Lib.hid (And.intro hW3 hKA)
  clear t2 t3 g3 hW3 hKA c0
  go_upto_region 4 with (fail)
  rw [HW3.out.1, HW3.out.2]
  go_wp2_with fail
  (with_reducible refine (HF2.out _ T3.out).mono ?_)
  rintro e w4 ⟨rfl, t4⟩
  obtain ⟨W5, hW5⟩ : ∃ W, w4.alloc (.cells #[.int .i64 f.id, .int .u32 f.addr, .int .i64 f.weight] 27) = W := ⟨_, rfl⟩
  obtain ⟨KB, hKB⟩ : ∃ b, w4.heap.size = b := ⟨_, rfl⟩
  have t5 : Touch w4 W5 (fun _ => False) := hW5 ▸ (Touch.refl w4 _).alloc _
  have g5 : W5.heap[KB]? = some (.cells #[.int .i64 f.id, .int .u32 f.addr, .int .i64 f.weight] 27 (0, 0)) := hKB ▸ hW5 ▸ heap_alloc_new ..
  have t45 := t4.trans t5 (fun _ _ h => h)
  have T5 := Lib.hid (T3.out.trans t45 (fun _ _ h => h))
  have HG5 := Lib.hid g5
  have HG35 := Lib.hid (t45.keeps HG3.out (fun h => h))
  have HW5 := Lib.hid (And.intro hW5 hKB)
  clear t4 t5 g5 hW5 hKB t45
  go_upto_region 5 with (fail)
  rw [HW5.out.1, HW5.out.2]
  go_wp2_with fail
  (with_reducible refine (HP1.out _ (HT1.out.trans T5.out (fun _ _ h => h))).mono ?_)
  rintro e w6 ⟨hp, t6⟩
  obtain ⟨pa, pc, rfl, hpr⟩ := hp.row
  have HPR := Lib.hid hpr
  have T6 := Lib.hid (T5.out.trans t6 (fun _ _ h => h))
  have U6 := Lib.hid t6
  clear hp hpr t6
  go_wp2_with fail
  (with_reducible refine (HP2.out _ (HT1.out.trans T6.out (fun _ _ h => h))).mono ?_)
  rintro e w7 ⟨hp, t7⟩
  obtain ⟨ra, rc, rfl, hrr⟩ := hp.row
  have HSM := Lib.hid (rsameK_t pa _ pc (parX q) ra rc w7 (RowK.still HPR.out t7) hrr)
  have T7 := Lib.hid (T6.out.trans t7 (fun _ _ h => h))
  have u67 := U6.out.trans t7 (fun _ _ h => h)
  have gA := u67.keeps HG35.out (fun h => h)
  have gB := u67.keeps HG5.out (fun h => h)
  have a0 : w7.cell? ⟨KA, 0, none⟩ = some (.int .i64 f.id) := cell_of_cells gA 0
  have a1 : w7.cell? ⟨KA, 1, none⟩ = some (.int .u32 f.addr) := cell_of_cells gA 1
  have a3 : w7.cell? ⟨KA, 2, none⟩ = some (.int .i64 f.weight) := cell_of_cells gA 2
  have b0 : w7.cell? ⟨KB, 0, none⟩ = some (.int .i64 f.id) := cell_of_cells gB 0
  have b1 : w7.cell? ⟨KB, 1, none⟩ = some (.int .u32 f.addr) := cell_of_cells gB 1
  have b3 : w7.cell? ⟨KB, 2, none⟩ = some (.int .i64 f.weight) := cell_of_cells gB 2
  generalize parX q = X at *
  generalize gparB q = pb at *
  clear hp hrr t7 u67 gA gB
  have hfq : (fb != fb) = false := by simp
  have hpq : (pb != pb) = false := by simp
  go_wp2_with fail
  (with_reducible refine HSM.out.mono ?_)
  rintro e W7 ⟨rfl, nn, rfl⟩
  obtain ⟨W7, hW7⟩ : ∃ W, w7.drewN nn = W := ⟨_, rfl⟩
  have T8 : RowKit.Hid (Touch w W7 (fun _ => False)) := Lib.hid (hW7 ▸ (HT1.out.trans T7.out (fun _ _ h => h)).drewN nn)
  have HCO7 : RowKit.Hid (∀ W, Touch W7 W (fun _ => False) → W.cell? ⟨KO, 0, none⟩ = some (.slice ax lx cx)) := Lib.hid (fun W t => HCO.out W ((hW7 ▸ T7.out.drewN nn : Touch W1 W7 (fun _ => False)).trans t (fun _ _ h => h)))
  rw [hW7]
  clear a0 a1 a3 b0 b1 b3 hfq hpq hW7
  have HRL : RowKit.Hid (∀ W, Touch W7 W (fun _ => False) → RowK W a n1 cap bs) := Lib.hid (fun W t => RowK.still HR.out (T8.out.trans t (fun _ _ h => h)))
  have HRL2 : RowKit.Hid (∀ W, Touch W7 W (fun _ => False) → RowK W a2 n2 cap2 bs2) := Lib.hid (fun W t => RowK.still HR2.out (T8.out.trans t (fun _ _ h => h)))
  have HRX : RowKit.Hid (∀ W, Touch W7 W (fun _ => False) → RowI W ax lx cx xs) := Lib.hid (fun W t => HX.out.still (T8.out.trans t (fun _ _ h => h)))
  have HTW : RowKit.Hid (∀ W, Touch W7 W (fun _ => False) → TabW W) := Lib.hid (fun W t => HTE.out.1.touch (T8.out.trans t (fun _ _ h => h)))
  have HMY := Lib.hid (fun W (t : Touch W7 W (fun _ => False)) => gmay_any a n1 cap bs W (HRL.out W t))
  have HRM := Lib.hid (fun W (t : Touch W7 W (fun _ => False)) => rgmay_any a n1 cap bs W (HRL.out W t))
  have HST := Lib.hid (fun W (t : Touch W7 W (fun _ => False)) => gsort_any a n1 cap bs W (HRL.out W t) (fun b hb => (HOK.out b hb).id))
  have HRS := Lib.hid (fun W (t : Touch W7 W (fun _ => False)) => rsort_any a n1 cap bs W (HRL.out W t))
  have HWI := Lib.hid (fun W (t : Touch W7 W (fun _ => False)) => without_says 10 #[] #[.pointer (some ⟨KO, 0, none⟩)] (outB xs) a n1 cap bs W (HRL.out W t) (by omega) (fun W2 id t2 => says_gforms KO ax lx cx xs id W2 (HCO7.out W2 (t.trans t2 (fun _ _ h => h))) (HRX.out W2 (t.trans t2 (fun _ _ h => h)))))
  have HRW := Lib.hid (fun W (t : Touch W7 W (fun _ => False)) => rwithout_any a ax n1 cap lx cx bs xs W (HRL.out W t) (by omega) (HRX.out W t))
  have HWN : RowKit.Hid (∀ W, Touch W7 W (fun _ => False) → Calls Tryz.prog 15 #[.slice a n1 cap, .nilFunc] W fun e w' => ∃ a' c', e = .returned (.slice a' n1 c') ∧ OwnK w' W.heap.size (.slice a' n1 c') bs ∧ Touch W w' (fun _ => False)) := Lib.hid (fun W t => by
    have h := without_nilF (fun _ => false) a n1 cap bs W (HRL.out W t) (by omega) (fun W2 id t2 => says_nilF id W2)
    have e : keepF (fun _ => false) bs = bs := by unfold keepF; simp
    rw [e, HN1.out] at h
    exact h)
  have HSL := Lib.hid (fun W (t : Touch W7 W (fun _ => False)) => gsame_any a n1 cap bs a2 n2 cap2 bs2 W (HRL.out W t) (HRL2.out W t))
  have HRSL : RowKit.Hid (∀ W, Touch W7 W (fun _ => False) → Calls Tryz.prog 9 #[.slice a n1 cap, .slice a2 n2 cap2] W fun e w' => e = .returned (.bool (sameK bs bs2)) ∧ Touch W w' (fun _ => False)) := Lib.hid (fun W t => (rsameK_any a n1 cap bs a2 n2 cap2 bs2 W (HRL.out W t) (HRL2.out W t)).mono fun e w' ⟨h1, n, h2⟩ => ⟨h1, h2 ▸ (Touch.refl W _).drewN n⟩)
  have HWG := Lib.hid (fun W (t : Touch W7 W (fun _ => False)) => gweight_any a n1 cap bs W (HRL.out W t) (by omega))
  have HRWG := Lib.hid (fun W (t : Touch W7 W (fun _ => False)) => rweight_any a n1 cap bs W (HRL.out W t) (by omega))
  have HTX := Lib.hid (fun W (t : Touch W7 W (fun _ => False)) => gtext_any a n1 cap bs W (HRL.out W t) HOK.out (by omega) (HTW.out W t))
  have HRTX := Lib.hid (fun W (t : Touch W7 W (fun _ => False)) => rbtext_any a n1 cap bs W (HRL.out W t) HOK.out (by omega) (HTW.out W t))
  have HAW := Lib.hid (fun W (t : Touch W7 W (fun _ => False)) => HAW0.out W (T8.out.trans t (fun _ _ h => h)))
  generalize gmay bs = vm at *
  generalize sameK bs bs2 = vs at *
  generalize weightF bs = vw at *
  generalize mkS (bksL bs) = vt at *
  generalize gsortF bs = Y at *
  generalize keepF (outB xs) bs = Z at *
  clear HF1 HF2 HP1 HP2 HSM
  go_upto_region 10 with (fail)
  have hS := (Touch.refl W7 (fun _ => False)).drew
  refine wp_region_sched (fun w' => Touch W7 w' (fun _ => False)) [(0, true), (2, true), (1, false), (3, false), (4, true), (5, true), (6, true), (8, true), (7, false), (9, false), (10, false), (11, true), (12, true), (13, true), (14, true), (16, true), (17, true), (15, false), (18, false), (19, false), (20, true), (21, true), (22, true), (24, true), (23, false), (25, false), (26, true), (27, true), (28, true), (29, true), (31, true), (32, true), (30, false), (33, false), (34, true), (35, true), (36, true), (37, true), (39, true), (38, false), (40, false), (41, true), (42, true), (43, true), (44, true), (46, true), (45, false), (47, false), (48, true), (49, true), (50, true), (51, false), (52, true), (53, true)] (by kernel_rfl) (by kernel_rfl) rfl (by kernel_rfl) hS ?_
  (refine walkS_take (v := ?_) (some 81) rfl rfl (fun _ _ _ h => h) (by rfl) ?_ ?_; rotate_left; (focus (intro w' hw'; go_simp; (try with_reducible rfl))); (try simp only [Act.put, List.setIfInBounds_toArray, List.set_cons_zero, List.set_cons_succ]))
  (refine walkS_take (v := ?_) (some 83) rfl rfl (fun _ _ _ h => h) (by rfl) ?_ ?_; rotate_left; (focus (intro w' hw'; go_simp; (try with_reducible rfl))); (try simp only [Act.put, List.setIfInBounds_toArray, List.set_cons_zero, List.set_cons_succ]))
  (refine walkS_call 82 _ _ _ _ (HMY.out _ hS) rfl rfl rfl (by rfl) rfl (enter_gmayG _ _) ?_; rintro e x9 ⟨rfl, t9⟩; have hS := hS.trans t9 (fun _ _ h => h); clear t9; refine ⟨_, rfl, hS, fun hS => ?_⟩; (try simp only [Act.put, List.setIfInBounds_toArray, List.set_cons_zero, List.set_cons_succ]))
  (refine walkS_call 84 _ _ _ _ (HRM.out _ hS) rfl rfl rfl (by rfl) rfl (enter_rmayG _ _) ?_; rintro e x9 ⟨rfl, t9⟩; have hS := hS.trans t9 (fun _ _ h => h); clear t9; refine ⟨_, rfl, hS, fun hS => ?_⟩; (try simp only [Act.put, List.setIfInBounds_toArray, List.set_cons_zero, List.set_cons_succ]))
  (refine walkS_bin (some 85) _ _ _ _ _ _ _ _ (eqBG_run _) rfl rfl rfl rfl rfl (fun _ _ _ h => h) (by rfl) ?_; (try simp only [Act.put, List.setIfInBounds_toArray, List.set_cons_zero, List.set_cons_succ]))
  (refine walkS_take (v := ?_) (some 86) rfl rfl (fun _ _ _ h => h) (by rfl) ?_ ?_; rotate_left; (focus (intro w' hw'; go_simp; (try with_reducible rfl))); (try simp only [Act.put, List.setIfInBounds_toArray, List.set_cons_zero, List.set_cons_succ]))
  (refine walkS_take (v := ?_) (some 87) rfl rfl (fun _ _ _ h => h) (by rfl) ?_ ?_; rotate_left; (focus (intro w' hw'; go_simp; (try with_reducible rfl))); (try simp only [Act.put, List.setIfInBounds_toArray, List.set_cons_zero, List.set_cons_succ]))
  (refine walkS_take (v := ?_) (some 89) rfl rfl (fun _ _ _ h => h) (by rfl) ?_ ?_; rotate_left; (focus (intro w' hw'; go_simp; (try with_reducible rfl))); (try simp only [Act.put, List.setIfInBounds_toArray, List.set_cons_zero, List.set_cons_succ]))
  (refine walkS_call 88 _ _ _ _ (HST.out _ hS) rfl rfl rfl (by rfl) rfl (enter_gsortG _ _) ?_; rintro e x9 ⟨ap, cp, rfl, o9, t9⟩; have HRp := Lib.hid (OwnK.row o9).2.1; have hS := hS.trans t9 (fun _ _ h => h); clear o9 t9; refine ⟨_, rfl, hS, fun hS => ?_⟩; (try simp only [Act.put, List.setIfInBounds_toArray, List.set_cons_zero, List.set_cons_succ]))
  (refine walkS_call 90 _ _ _ _ (HRS.out _ hS) rfl rfl rfl (by rfl) rfl (enter_rsortG _ _) ?_; rintro e x9 ⟨aq, cq, rfl, o9, t9⟩; have HRq := Lib.hid (OwnK.row o9).2.1; have HRp := Lib.hid (RowK.still HRp.out t9); have hS := hS.trans t9 (fun _ _ h => h); clear o9 t9; refine ⟨_, rfl, hS, fun hS => ?_⟩; (try simp only [Act.put, List.setIfInBounds_toArray, List.set_cons_zero, List.set_cons_succ]))
  (refine walkS_call 91 _ _ _ _ (rsameK_t _ _ _ _ _ _ _ HRp.out HRq.out) rfl rfl rfl (by rfl) rfl (enter_sameG _ _ _) ?_; rintro e x9 ⟨rfl, n9, rfl⟩; have hS := hS.drewN n9; refine ⟨_, rfl, hS, fun hS => ?_⟩; (try simp only [Act.put, List.setIfInBounds_toArray, List.set_cons_zero, List.set_cons_succ]))
  (refine walkS_take (v := ?_) (some 92) rfl rfl (fun _ _ _ h => h) (by rfl) ?_ ?_; rotate_left; (focus (intro w' hw'; go_simp; (try with_reducible rfl))); (try simp only [Act.put, List.setIfInBounds_toArray, List.set_cons_zero, List.set_cons_succ]))
  (refine walkS_take (v := ?_) (some 93) rfl rfl (fun _ _ _ h => h) (by rfl) ?_ ?_; rotate_left; (focus (intro w' hw'; go_simp; (try with_reducible rfl))); (try simp only [Act.put, List.setIfInBounds_toArray, List.set_cons_zero, List.set_cons_succ]))
  (refine walkS_take (v := ?_) (some 94) rfl rfl (fun _ _ _ h => h) (by rfl) ?_ ?_; rotate_left; (focus (intro w' hw'; go_simp; (try with_reducible rfl))); (try simp only [Act.put, List.setIfInBounds_toArray, List.set_cons_zero, List.set_cons_succ]))
  (refine walkS_take (v := ?_) (some 95) rfl rfl (fun _ _ _ h => h) (by rfl) ?_ ?_; rotate_left; (focus (intro w' hw'; go_simp; (try with_reducible rfl))); (try simp only [Act.put, List.setIfInBounds_toArray, List.set_cons_zero, List.set_cons_succ]))
  (refine walkS_take (v := ?_) (some 97) rfl rfl (fun _ _ _ h => h) (by rfl) ?_ ?_; rotate_left; (focus (intro w' hw'; go_simp; (try with_reducible rfl))); (try simp only [Act.put, List.setIfInBounds_toArray, List.set_cons_zero, List.set_cons_succ]))
  (refine walkS_take (v := ?_) (some 98) rfl rfl (fun _ _ _ h => h) (by rfl) ?_ ?_; rotate_left; (focus (intro w' hw'; have y0 := HCO7.out w' hw'; go_simp; (try with_reducible rfl))); (try simp only [Act.put, List.setIfInBounds_toArray, List.set_cons_zero, List.set_cons_succ]))
  (refine walkS_call 96 _ _ _ _ (HWI.out _ hS) rfl rfl rfl (by rfl) rfl (enter_withG _ _ _) ?_; rintro e x9 ⟨ap, cp, rfl, o9, t9⟩; have HRp := Lib.hid (OwnK.row o9).2.1; have hS := hS.trans t9 (fun _ _ h => h); clear o9 t9; refine ⟨_, rfl, hS, fun hS => ?_⟩; (try simp only [Act.put, List.setIfInBounds_toArray, List.set_cons_zero, List.set_cons_succ]))
  (refine walkS_call 99 _ _ _ _ (HRW.out _ hS) rfl rfl rfl (by rfl) rfl (enter_rwithG _ _ _) ?_; rintro e x9 ⟨aq, cq, rfl, o9, t9⟩; have HRq := Lib.hid (OwnK.row o9).2.1; have HRp := Lib.hid (RowK.still HRp.out t9); have hS := hS.trans t9 (fun _ _ h => h); clear o9 t9; refine ⟨_, rfl, hS, fun hS => ?_⟩; (try simp only [Act.put, List.setIfInBounds_toArray, List.set_cons_zero, List.set_cons_succ]))
  (refine walkS_call 100 _ _ _ _ (rsameK_t _ _ _ _ _ _ _ HRp.out HRq.out) rfl rfl rfl (by rfl) rfl (enter_sameG _ _ _) ?_; rintro e x9 ⟨rfl, n9, rfl⟩; have hS := hS.drewN n9; refine ⟨_, rfl, hS, fun hS => ?_⟩; (try simp only [Act.put, List.setIfInBounds_toArray, List.set_cons_zero, List.set_cons_succ]))
  (refine walkS_take (v := ?_) (some 101) rfl rfl (fun _ _ _ h => h) (by rfl) ?_ ?_; rotate_left; (focus (intro w' hw'; go_simp; (try with_reducible rfl))); (try simp only [Act.put, List.setIfInBounds_toArray, List.set_cons_zero, List.set_cons_succ]))
  (refine walkS_take (v := ?_) (some 102) rfl rfl (fun _ _ _ h => h) (by rfl) ?_ ?_; rotate_left; (focus (intro w' hw'; go_simp; (try with_reducible rfl))); (try simp only [Act.put, List.setIfInBounds_toArray, List.set_cons_zero, List.set_cons_succ]))
  (refine walkS_take (v := ?_) (some 103) rfl rfl (fun _ _ _ h => h) (by rfl) ?_ ?_; rotate_left; (focus (intro w' hw'; go_simp; (try with_reducible rfl))); (try simp only [Act.put, List.setIfInBounds_toArray, List.set_cons_zero, List.set_cons_succ]))
  (refine walkS_take (v := ?_) (some 105) rfl rfl (fun _ _ _ h => h) (by rfl) ?_ ?_; rotate_left; (focus (intro w' hw'; go_simp; (try with_reducible rfl))); (try simp only [Act.put, List.setIfInBounds_toArray, List.set_cons_zero, List.set_cons_succ]))
  (refine walkS_call 104 _ _ _ _ (HWN.out _ hS) rfl rfl rfl (by rfl) rfl (enter_withG _ _ _) ?_; rintro e x9 ⟨ap, cp, rfl, o9, t9⟩; have HRp := Lib.hid (OwnK.row o9).2.1; have hS := hS.trans t9 (fun _ _ h => h); clear o9 t9; refine ⟨_, rfl, hS, fun hS => ?_⟩; (try simp only [Act.put, List.setIfInBounds_toArray, List.set_cons_zero, List.set_cons_succ]))
  (refine walkS_call 106 _ _ _ _ (rsameK_t _ _ _ _ _ _ _ HRp.out (HRL.out _ hS)) rfl rfl rfl (by rfl) rfl (enter_sameG _ _ _) ?_; rintro e x9 ⟨rfl, n9, rfl⟩; have hS := hS.drewN n9; refine ⟨_, rfl, hS, fun hS => ?_⟩; (try simp only [Act.put, List.setIfInBounds_toArray, List.set_cons_zero, List.set_cons_succ]))
  (refine walkS_take (v := ?_) (some 107) rfl rfl (fun _ _ _ h => h) (by rfl) ?_ ?_; rotate_left; (focus (intro w' hw'; go_simp; (try with_reducible rfl))); (try simp only [Act.put, List.setIfInBounds_toArray, List.set_cons_zero, List.set_cons_succ]))
  (refine walkS_take (v := ?_) (some 108) rfl rfl (fun _ _ _ h => h) (by rfl) ?_ ?_; rotate_left; (focus (intro w' hw'; go_simp; (try with_reducible rfl))); (try simp only [Act.put, List.setIfInBounds_toArray, List.set_cons_zero, List.set_cons_succ]))
  (refine walkS_take (v := ?_) (some 109) rfl rfl (fun _ _ _ h => h) (by rfl) ?_ ?_; rotate_left; (focus (intro w' hw'; go_simp; (try with_reducible rfl))); (try simp only [Act.put, List.setIfInBounds_toArray, List.set_cons_zero, List.set_cons_succ]))
  (refine walkS_take (v := ?_) (some 110) rfl rfl (fun _ _ _ h => h) (by rfl) ?_ ?_; rotate_left; (focus (intro w' hw'; go_simp; (try with_reducible rfl))); (try simp only [Act.put, List.setIfInBounds_toArray, List.set_cons_zero, List.set_cons_succ]))
  (refine walkS_take (v := ?_) (some 112) rfl rfl (fun _ _ _ h => h) (by rfl) ?_ ?_; rotate_left; (focus (intro w' hw'; go_simp; (try with_reducible rfl))); (try simp only [Act.put, List.setIfInBounds_toArray, List.set_cons_zero, List.set_cons_succ]))
  (refine walkS_take (v := ?_) (some 113) rfl rfl (fun _ _ _ h => h) (by rfl) ?_ ?_; rotate_left; (focus (intro w' hw'; go_simp; (try with_reducible rfl))); (try simp only [Act.put, List.setIfInBounds_toArray, List.set_cons_zero, List.set_cons_succ]))
  (refine walkS_call 111 _ _ _ _ (HSL.out _ hS) rfl rfl rfl (by rfl) rfl (enter_gsameG _ _ _) ?_; rintro e x9 ⟨rfl, t9⟩; have hS := hS.trans t9 (fun _ _ h => h); clear t9; refine ⟨_, rfl, hS, fun hS => ?_⟩; (try simp only [Act.put, List.setIfInBounds_toArray, List.set_cons_zero, List.set_cons_succ]))
  (refine walkS_call 114 _ _ _ _ (HRSL.out _ hS) rfl rfl rfl (by rfl) rfl (enter_sameG _ _ _) ?_; rintro e x9 ⟨rfl, t9⟩; have hS := hS.trans t9 (fun _ _ h => h); clear t9; refine ⟨_, rfl, hS, fun hS => ?_⟩; (try simp only [Act.put, List.setIfInBounds_toArray, List.set_cons_zero, List.set_cons_succ]))
  (refine walkS_bin (some 115) _ _ _ _ _ _ _ _ (eqBG_run _) rfl rfl rfl rfl rfl (fun _ _ _ h => h) (by rfl) ?_; (try simp only [Act.put, List.setIfInBounds_toArray, List.set_cons_zero, List.set_cons_succ]))
  (refine walkS_take (v := ?_) (some 116) rfl rfl (fun _ _ _ h => h) (by rfl) ?_ ?_; rotate_left; (focus (intro w' hw'; go_simp; (try with_reducible rfl))); (try simp only [Act.put, List.setIfInBounds_toArray, List.set_cons_zero, List.set_cons_succ]))
  (refine walkS_take (v := ?_) (some 117) rfl rfl (fun _ _ _ h => h) (by rfl) ?_ ?_; rotate_left; (focus (intro w' hw'; go_simp; (try with_reducible rfl))); (try simp only [Act.put, List.setIfInBounds_toArray, List.set_cons_zero, List.set_cons_succ]))
  (refine walkS_take (v := ?_) (some 118) rfl rfl (fun _ _ _ h => h) (by rfl) ?_ ?_; rotate_left; (focus (intro w' hw'; go_simp; (try with_reducible rfl))); (try simp only [Act.put, List.setIfInBounds_toArray, List.set_cons_zero, List.set_cons_succ]))
  (refine walkS_take (v := ?_) (some 120) rfl rfl (fun _ _ _ h => h) (by rfl) ?_ ?_; rotate_left; (focus (intro w' hw'; go_simp; (try with_reducible rfl))); (try simp only [Act.put, List.setIfInBounds_toArray, List.set_cons_zero, List.set_cons_succ]))
  (refine walkS_call 119 _ _ _ _ (HWG.out _ hS) rfl rfl rfl (by rfl) rfl (enter_gweightG _ _) ?_; rintro e x9 ⟨rfl, t9⟩; have hS := hS.trans t9 (fun _ _ h => h); clear t9; refine ⟨_, rfl, hS, fun hS => ?_⟩; (try simp only [Act.put, List.setIfInBounds_toArray, List.set_cons_zero, List.set_cons_succ]))
  (refine walkS_call 121 _ _ _ _ (HRWG.out _ hS) rfl rfl rfl (by rfl) rfl (enter_rweightG _ _) ?_; rintro e x9 ⟨rfl, t9⟩; have hS := hS.trans t9 (fun _ _ h => h); clear t9; refine ⟨_, rfl, hS, fun hS => ?_⟩; (try simp only [Act.put, List.setIfInBounds_toArray, List.set_cons_zero, List.set_cons_succ]))
  (refine walkS_bin (some 122) _ _ _ _ _ _ _ _ (eqIG_run _) rfl rfl rfl rfl rfl (fun _ _ _ h => h) (by rfl) ?_; (try simp only [Act.put, List.setIfInBounds_toArray, List.set_cons_zero, List.set_cons_succ]))
  (refine walkS_take (v := ?_) (some 123) rfl rfl (fun _ _ _ h => h) (by rfl) ?_ ?_; rotate_left; (focus (intro w' hw'; go_simp; (try with_reducible rfl))); (try simp only [Act.put, List.setIfInBounds_toArray, List.set_cons_zero, List.set_cons_succ]))
  (refine walkS_take (v := ?_) (some 124) rfl rfl (fun _ _ _ h => h) (by rfl) ?_ ?_; rotate_left; (focus (intro w' hw'; go_simp; (try with_reducible rfl))); (try simp only [Act.put, List.setIfInBounds_toArray, List.set_cons_zero, List.set_cons_succ]))
  (refine walkS_take (v := ?_) (some 125) rfl rfl (fun _ _ _ h => h) (by rfl) ?_ ?_; rotate_left; (focus (intro w' hw'; go_simp; (try with_reducible rfl))); (try simp only [Act.put, List.setIfInBounds_toArray, List.set_cons_zero, List.set_cons_succ]))
  (refine walkS_take (v := ?_) (some 127) rfl rfl (fun _ _ _ h => h) (by rfl) ?_ ?_; rotate_left; (focus (intro w' hw'; go_simp; (try with_reducible rfl))); (try simp only [Act.put, List.setIfInBounds_toArray, List.set_cons_zero, List.set_cons_succ]))
  (refine walkS_call 126 _ _ _ _ (HTX.out _ hS) rfl rfl rfl (by rfl) rfl (enter_gtextG _ _) ?_; rintro e x9 ⟨rfl, t9⟩; have hS := hS.trans t9 (fun _ _ h => h); clear t9; refine ⟨_, rfl, hS, fun hS => ?_⟩; (try simp only [Act.put, List.setIfInBounds_toArray, List.set_cons_zero, List.set_cons_succ]))
  (refine walkS_call 128 _ _ _ _ (HRTX.out _ hS) rfl rfl rfl (by rfl) rfl (enter_rtextG _ _) ?_; rintro e x9 ⟨rfl, t9⟩; have hS := hS.trans t9 (fun _ _ h => h); clear t9; refine ⟨_, rfl, hS, fun hS => ?_⟩; (try simp only [Act.put, List.setIfInBounds_toArray, List.set_cons_zero, List.set_cons_succ]))
  (refine walkS_bin (some 129) _ _ _ _ _ _ _ _ (eqSG_run _) rfl rfl rfl rfl rfl (fun _ _ _ h => h) (by rfl) ?_; (try simp only [Act.put, List.setIfInBounds_toArray, List.set_cons_zero, List.set_cons_succ]))
  (refine walkS_take (v := ?_) (some 130) rfl rfl (fun _ _ _ h => h) (by rfl) ?_ ?_; rotate_left; (focus (intro w' hw'; go_simp; (try with_reducible rfl))); (try simp only [Act.put, List.setIfInBounds_toArray, List.set_cons_zero, List.set_cons_succ]))
  (refine walkS_take (v := ?_) (some 131) rfl rfl (fun _ _ _ h => h) (by rfl) ?_ ?_; rotate_left; (focus (intro w' hw'; go_simp; (try with_reducible rfl))); (try simp only [Act.put, List.setIfInBounds_toArray, List.set_cons_zero, List.set_cons_succ]))
  (refine walkS_call 132 _ _ _ _ (HAW.out _ hS) rfl rfl rfl (by rfl) rfl (enter_awakeG _) ?_; rintro e x9 ⟨rfl, t9⟩; have hS := hS.trans t9 (fun _ _ h => h); clear t9; refine ⟨_, rfl, hS, fun hS => ?_⟩; (try simp only [Act.put, List.setIfInBounds_toArray, List.set_cons_zero, List.set_cons_succ]))
  (refine walkS_take (v := ?_) (some 133) rfl rfl (fun _ _ _ h => h) (by rfl) ?_ ?_; rotate_left; (focus (intro w' hw'; go_simp; (try with_reducible rfl))); (try simp only [Act.put, List.setIfInBounds_toArray, List.set_cons_zero, List.set_cons_succ]))
  (refine walkS_take (v := ?_) (some 10) rfl rfl (fun _ _ _ h => h) (by rfl) ?_ ?_; rotate_left; (focus (intro w' hw'; go_simp; (try with_reducible rfl))); (try simp only [Act.put, List.setIfInBounds_toArray, List.set_cons_zero, List.set_cons_succ]))
  refine walkS_done ?_
  have HT9 := Lib.hid (T8.out.trans hS (fun _ _ h => h))
  clear hS
  go_wp2_with fail
  go_ret
  exact ⟨rfl, HT9.out⟩
set_option maxRecDepth 20000 in
theorem gensForms_holds : Rows.GensFormsCardSaid := by
  refine gensForms.said fun H enc W base v0 v1 v2 v3 v4 d0 d1 d2 d3 d4 p0 p1 p2 p3 p4 h0 h1 h2 h3 h4 hT hE hM => ?_
  obtain ⟨a, cap, bs, hv, hr, hok⟩ := h0.tr.backs
  obtain ⟨a', len', cap', rfl⟩ := okWide_slice Tryz.underlying22 h0.ok
  simp only [Value.cells, List.cons.injEq, Value.slice.injEq, and_true] at hv
  obtain ⟨rfl, rfl, rfl⟩ := hv
  obtain ⟨b, cab, cs, hv, hr2, hok2⟩ := h1.tr.backs
  obtain ⟨b', len2', cap2', rfl⟩ := okWide_slice Tryz.underlying22 h1.ok
  simp only [Value.cells, List.cons.injEq, Value.slice.injEq, and_true] at hv
  obtain ⟨rfl, rfl, rfl⟩ := hv
  obtain ⟨y, rfl, _⟩ := h2.i64 Tryz.underlying3
  obtain ⟨ax, lx, cx, xs, rfl, hx⟩ := h3.ints Tryz.underlying23 Tryz.underlying3 (by kernel_rfl)
  obtain ⟨s, rfl, _⟩ := h4.text Tryz.underlying9
  obtain ⟨q, rfl⟩ : ∃ q, s = mkS q := ⟨s.data.toList, (mkS_of s).symm⟩
  exact (gforms_walk a' b' ax cap' cap2' lx cx bs cs y xs q W hr hr2 hx hok hok2 hT hE hM).mono fun e w' h => ⟨h.1, h.2.below (fun _ _ h => h.elim) (Nat.le_refl _)⟩
end Go.Proofs.YtgpchkobjgglhaaGreatDoor
