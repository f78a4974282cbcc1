import Derived.Test.YtpjdcgjoepjmcaaGreatJAZ
import Derived.Test.YtpjdcgjoepjmcaaGreatGFZ
import Derived.Test.YtpjdcgjoepjmcaaGreatGIZ
import Derived.Test.YtpjdcgjoepjmcaaGreatGHZ
import Derived.Test.YtpjdcgjoepjmcaaGreatHAZ
import Derived.Test.YtpjdcgjoepjmcaaGreatGMZ
set_option linter.unusedVariables false
set_option linter.unusedSimpArgs false
section
namespace Go.Proofs.YtpjdcgjoepjmcaaGreat
open Go.RowKit
def lexN : List Nat → List Nat → Bool
 | _, [] => false
 | [], _ :: _ => true
 | x :: a, y :: b => decide (x < y) || (decide (x = y) && lexN a b)
def ltS (a b : FlD) : Prop := a.fs < b.fs ∨ (a.fs = b.fs ∧ lessT a.t b.t = true)
def SortS (A : List FlD) : Prop := A.Pairwise ltS
def goP (wait now : Int) (d : FlD) : Bool := !(decide (now < 0) || decide (now - wait < d.fs))
end Go.Proofs.YtpjdcgjoepjmcaaGreat
end
section
namespace Go.Proofs.YtpjdcgjoepjmcaaGreat
open Go.RowKit
theorem min_runT (T : TypeId) (hT : Tryz.prog.underlying T = some (.int .i64)) (a b : Int) (W : World) : (Builtin.min_ #[T, T] T #[.int .i64 a, .int .i64 b]).run Tryz.prog W = .ok (.int .i64 (min a b)) W := by
 by_cases h : b < a
 ·have e : min a b = b := by omega
  rw [e]
  go_simp
 ·have e : min a b = a := by omega
  rw [e]
  go_simp
theorem max_runT (T : TypeId) (hT : Tryz.prog.underlying T = some (.int .i64)) (a b : Int) (W : World) : (Builtin.max_ #[T, T] T #[.int .i64 a, .int .i64 b]).run Tryz.prog W = .ok (.int .i64 (max a b)) W := by
 by_cases h : a < b
 ·have e : max a b = b := by omega
  rw [e]
  go_simp
 ·have e : max a b = a := by omega
  rw [e]
  go_simp
set_option maxRecDepth 20000 in
set_option maxHeartbeats 4000000 in
theorem rfnew_any (w : World) (most idle : Int) :
 Calls Tryz.prog 11 #[.int .i64 most, .int .i64 idle] w fun e w' => ∃ b, e = .returned (.pointer (some ⟨b, 0, none⟩)) ∧ RF w' b none 0 (min (max most 0) 256) (min (max idle 1) 1099511627776) [] ∧ Touch w w' (fun _ => False) ∧ w.heap.size ≤ b := by
 have m1 := fun W => min_runT 3 Tryz.underlying3 most 256 W
 have m2 := fun W => max_runT 3 Tryz.underlying3 0 (min most 256) W
 have m3 := fun W => min_runT 2 Tryz.underlying2 idle 1099511627776 W
 have m4 := fun W => max_runT 2 Tryz.underlying2 1 (min idle 1099511627776) W
 rw [show max 0 (min most 256) = min (max most 0) 256 by omega] at m2
 rw [show max 1 (min idle 1099511627776) = min (max idle 1) 1099511627776 by omega] at m4
 generalize min most 256 = z1 at *
 generalize min idle 1099511627776 = z2 at *
 generalize min (max most 0) 256 = z3 at *
 generalize min (max idle 1) 1099511627776 = z4 at *
 obtain ⟨W3, hW3⟩ : ∃ W, w.alloc (.cells #[.slice none 0 0, .int .i64 z3, .int .i64 z4] 64) = W := ⟨_, rfl⟩
 have t3 : Touch w W3 (fun _ => False) := hW3 ▸ (Touch.refl w _).alloc _
 have h3 : W3.heap[w.heap.size]? = some (.cells #[.slice none 0 0, .int .i64 z3, .int .i64 z4] 64 (0, 0)) := hW3 ▸ heap_alloc_new ..
 have HX : RowKit.Hid (RF W3 w.heap.size none 0 z3 z4 [] ∧ Touch w W3 (fun _ => False)) := Lib.hid ⟨⟨h3, RowS.nil _ _ _ _ (by omega), fun x hx => (by cases hx), .inl rfl⟩, t3⟩
 have HW3 := Lib.hid hW3
 clear t3 h3 hW3
 go_enter Tryz.func11, Tryz.ntmps11
 go_wp2_with fail
 rw [HW3.out]
 go_ret
 exact ⟨_, rfl, HX.out.1, HX.out.2, Nat.le_refl _⟩
def rtouF (L : List FlD) (t : TupD) (now : Int) : List FlD := if touchB L t now = true then putL L ⟨t, (getF L t).fb, (getF L t).fg, now⟩ else L
set_option maxRecDepth 20000 in
set_option maxHeartbeats 8000000 in
theorem rftouch_any (w : World) (b : Nat) (a : Option Addr) (c : Nat) (most wait : Int) (L : List FlD) (q : RF w b a c most wait L) (hnd : (L.map FlD.t).Nodup) (hl : L.length ≤ 1000) (t : TupD) (now : Int) :
 Calls Tryz.prog 59 #[.pointer (some ⟨b, 0, none⟩), .agg (tcs t), .int .i64 now] w fun e w' => e = .returned (.bool (hasF L t)) ∧ RFStep w w' b a most wait (rtouF L t now) := by
 have hb := heap_lt q.head
 obtain ⟨W1, hW1⟩ : ∃ W, w.alloc (.cells (tcs t) 37) = W := ⟨_, rfl⟩
 obtain ⟨KT, hKT⟩ : ∃ k, w.heap.size = k := ⟨_, rfl⟩
 have t1 : Touch w W1 (fun _ => False) := hW1 ▸ (Touch.refl w _).alloc _
 have g1 : W1.heap[KT]? = some (.cells (tcs t) 37 (0, 0)) := hKT ▸ hW1 ▸ heap_alloc_new ..
 have HAT := Lib.hid (rfat_any W1 b a c most wait L (q.still t1) t)
 have HG1 := Lib.hid g1
 have HT1 := Lib.hid t1
 have HQ := Lib.hid (q.still t1)
 have HB := Lib.hid hb
 have HW1 := Lib.hid (And.intro hW1 hKT)
 have HRT : RowKit.Hid (rtouF L t now = if touchB L t now = true then putL L ⟨t, (getF L t).fb, (getF L t).fg, now⟩ else L) := Lib.hid rfl
 simp only [tcs] at HW1 HAT ⊢
 clear t1 g1 hW1 hKT hb
 go_enter Tryz.func59, Tryz.ntmps59
 go_upto_region 1 with (fail)
 rw [HW1.out.1, HW1.out.2]
 have y0 : W1.cell? ⟨KT, 0, none⟩ = some (.int .u32 t.src) := cell_of_cells HG1.out 0
 have y1 : W1.cell? ⟨KT, 1, none⟩ = some (.int .u32 t.dst) := cell_of_cells HG1.out 1
 have y2 : W1.cell? ⟨KT, 2, none⟩ = some (.int .i64 t.proto) := cell_of_cells HG1.out 2
 have y3 : W1.cell? ⟨KT, 3, none⟩ = some (.int .i64 t.sport) := cell_of_cells HG1.out 3
 have y4 : W1.cell? ⟨KT, 4, none⟩ = some (.int .i64 t.dport) := cell_of_cells HG1.out 4
 go_wp2_with fail
 (with_reducible refine HAT.out.mono ?_)
 rintro e wz ⟨rfl, t2⟩
 have HTZ := Lib.hid (HT1.out.trans t2 (fun _ _ h => h))
 have HQZ := Lib.hid (HQ.out.still t2)
 clear t2 y0 y1 y2 y3 y4
 cases hh : hasF L t with
 | false =>
   rw [idxL_neg hh]
   have HX : RowKit.Hid (RFStep w wz b a most wait (rtouF L t now)) := Lib.hid (by
    rw [HRT.out, if_neg (by unfold touchB; rw [hh]; simp)]
    exact ⟨a, c, HQZ.out, HTZ.out.mono (fun _ _ h => h.elim), fun y hy => .inr ⟨y, hy, rfl⟩⟩)
   have HH := Lib.hid hh
   clear hh
   go_wp2_with fail
   go_ret
   exact ⟨by rw [HH.out]; rfl, HX.out⟩
 | true =>
   obtain ⟨hk, hg, ht, hd⟩ := posL_get hnd hh
   obtain ⟨i, hi⟩ : ∃ i, posL L t = i := ⟨_, rfl⟩
   rw [show idxL L t = (i : Int) by unfold idxL; rw [if_pos hh, hi]]
   obtain ⟨n, hn⟩ : ∃ n, L.length = n := ⟨_, rfl⟩
   have hcap := HQZ.out.row.hcap
   have hmax := HQZ.out.row.hmax
   have hin : i < n := by rw [← hi, ← hn]; exact hk
   rw [hn] at hcap hl
   obtain ⟨g, off, hga⟩ := HQZ.out.row.some (by omega)
   subst hga
   have hgt : (getF L t).t = t := by rw [← hg]; exact ht
   have HCD : RowKit.Hid (∀ W, Touch wz W (fun _ => False) → W.cell? ⟨b, 0, none⟩ = some (.slice (some ⟨g, off, none⟩) n c) ∧ W.cell? ⟨g, off + i * 8 + 7, none⟩ = some (.int .i64 (getF L t).fs)) := Lib.hid (fun W x => by
    have h := x.keeps HQZ.out.head (fun h => h)
    rw [hn] at h
    have h2 := (row_flc (HQZ.out.row.still x) (posL L t) hk).2.2.2.2.2.2.2
    rw [hg, hi] at h2
    exact ⟨cell_of_cells h 0, h2⟩)
   have HCF : RowKit.Hid (∀ W, Touch wz W (fun _ => False) → W.cell? ⟨g, off + i * 8, none⟩ = some (.int .u32 (getF L t).t.src) ∧ W.cell? ⟨g, off + i * 8 + 1, none⟩ = some (.int .u32 (getF L t).t.dst) ∧ W.cell? ⟨g, off + i * 8 + 2, none⟩ = some (.int .i64 (getF L t).t.proto) ∧ W.cell? ⟨g, off + i * 8 + 3, none⟩ = some (.int .i64 (getF L t).t.sport) ∧ W.cell? ⟨g, off + i * 8 + 4, none⟩ = some (.int .i64 (getF L t).t.dport) ∧ W.cell? ⟨g, off + i * 8 + 5, none⟩ = some (.int .i64 (getF L t).fb) ∧ W.cell? ⟨g, off + i * 8 + 6, none⟩ = some (.int .i64 (getF L t).fg) ∧ W.cell? ⟨g, off + i * 8 + 7, none⟩ = some (.int .i64 (getF L t).fs)) := Lib.hid (fun W x => by
    have h2 := row_flc (HQZ.out.row.still x) (posL L t) hk
    rw [hg, hi] at h2
    exact h2)
   have HTB : RowKit.Hid (touchB L t now = (timB now && decide ((getF L t).fs ≤ now))) := Lib.hid (by unfold touchB; rw [hh]; rfl)
   have hi0 : ¬ (i : Int) < 0 := by omega
   have hinI : (i : Int) < n := by omega
   have hcc : 0 ≤ (i : Int) ∧ (i : Int) < n := by omega
   have HTI := Lib.hid (fun W => rtimeD_any W now)
   have HH := Lib.hid hh
   have HGT := Lib.hid hgt
   have HN := Lib.hid hn
   have hbz : b < wz.heap.size := heap_lt HQZ.out.head
   have htm : decide (0 ≤ now ∧ now ≤ 1099511627776) = timB now := rfl
   rw [htm] at HTI
   clear hh hg ht hd hi HAT hk hgt htm hn
   obtain ⟨f, hf⟩ : ∃ f, getF L t = f := ⟨_, rfl⟩
   rw [hf] at HCD HCF HTB HGT HRT
   clear hf
   obtain ⟨tb, htb⟩ : ∃ x, timB now = x := ⟨_, rfl⟩
   rw [htb] at HTI HTB
   clear htb
   have HSAME : RowKit.Hid (touchB L t now = false → ∀ w5, Touch wz w5 (fun _ => False) → RFStep w w5 b (some ⟨g, off, none⟩) most wait (rtouF L t now)) := Lib.hid (fun h w5 t5 => by
    rw [HRT.out, if_neg (by rw [h]; decide)]
    exact ⟨_, c, HQZ.out.still t5, (HTZ.out.trans t5 (fun _ _ h => h)).mono (fun _ _ h => h.elim), fun y hy => .inr ⟨y, hy, rfl⟩⟩)
   obtain ⟨c0, c1, c2, c3, c4, c5, c6, c7⟩ := HCF.out _ (Touch.refl wz _)
   have z0 := (HCD.out _ (Touch.refl wz _)).1
   cases tb with
   | false =>
     have HX := Lib.hid (HSAME.out (by rw [HTB.out]; rfl) wz (Touch.refl wz _))
     clear HSAME
     go_wp2_with fail
     refine (HTI.out _).mono ?_
     rintro e w' ⟨rfl, rfl⟩
     go_wp2_with fail
     go_ret
     exact ⟨by rw [HH.out]; rfl, HX.out⟩
   | true =>
     by_cases hge : f.fs ≤ now
     case neg =>
      have hge2 : ¬ now ≥ f.fs := hge
      have HX := Lib.hid (HSAME.out (by rw [HTB.out, decide_eq_false hge]; rfl) wz (Touch.refl wz _))
      clear HSAME hge
      go_wp2_with fail
      refine (HTI.out _).mono ?_
      rintro e w' ⟨rfl, rfl⟩
      go_wp2_with fail
      go_ret
      exact ⟨by rw [HH.out]; rfl, HX.out⟩
     case pos =>
     have hge2 : now ≥ f.fs := hge
     have HRX : RowKit.Hid (rtouF L t now = putL L ⟨t, f.fb, f.fg, now⟩) := Lib.hid (by rw [HRT.out, if_pos (by rw [HTB.out, decide_eq_true hge]; rfl)])
     have T0 : RowKit.Hid (Touch wz wz (fun _ => False)) := Lib.hid (Touch.refl _ _)
     clear HSAME hge HRT HTB
     go_wp2_with fail
     refine (HTI.out _).mono ?_
     rintro e w' ⟨rfl, rfl⟩
     obtain ⟨W4, hW4⟩ : ∃ W, wz.alloc (.cells (fca f) 83) = W := ⟨_, rfl⟩
     obtain ⟨KF, hKF⟩ : ∃ k, wz.heap.size = k := ⟨_, rfl⟩
     have t4 : Touch wz W4 (fun _ => False) := hW4 ▸ (Touch.refl wz _).alloc _
     have g4 : W4.heap[KF]? = some (.cells (fca f) 83 (0, 0)) := hKF ▸ hW4 ▸ heap_alloc_new ..
     have HW4 := Lib.hid (And.intro hW4 hKF)
     have HG4 := Lib.hid g4
     have T4 := Lib.hid (T0.out.trans t4 (fun _ _ h => h))
     have HKB : RowKit.Hid (KF ≠ b) := Lib.hid (by have := T0.out.size; omega)
     have HKW : RowKit.Hid (wz.heap.size ≤ KF) := Lib.hid (by have := T0.out.size; omega)
     simp only [fca] at HW4
     clear t4 g4 hW4 hKF
     go_upto_region 6 with (fail)
     rw [HW4.out.1, HW4.out.2]
     clear c0 c1 c2 c3 c4 c5 c6 c7 z0
     have b0 := cell_of_cells HG4.out 7
     have ff := free_of_cells HG4.out 7
     obtain ⟨f9, hf9⟩ : ∃ f9 : FlD, f9 = ⟨t, f.fb, f.fg, now⟩ := ⟨_, rfl⟩
     have g5 := heap_setCell_same W4 KF 7 _ _ (.int .i64 now) HG4.out
     have g6 : (W4.setCell ⟨KF, 7, none⟩ (.int .i64 now)).heap[KF]? = some (.cells (fca f9) 83 (0, 0)) := by
      rw [g5, hf9, ← HGT.out]; rfl
     have t5 : Touch W4 (W4.setCell ⟨KF, 7, none⟩ (.int .i64 now)) (fun k => k = KF) := (Touch.refl W4 (fun k => k = KF)).setCell ⟨KF, 7, none⟩ (.int .i64 now) (fun _ => rfl)
     obtain ⟨wy, hwy⟩ : ∃ W, W4.setCell ⟨KF, 7, none⟩ (.int .i64 now) = W := ⟨_, rfl⟩
     rw [hwy] at g6 t5
     have T5 := Lib.hid (T4.out.trans t5 (fun k h1 h2 => by have h2 : k = KF := h2; have := HKW.out; omega))
     have HGY := Lib.hid g6
     have HQY := Lib.hid (HQZ.out.still T5.out)
     have HWY := Lib.hid hwy
     rw [← hf9] at HRX
     clear g5 g6 t5 hwy hf9
     go_upto_region 7 with (fail)
     rw [HWY.out]
     clear b0 ff
     have HHD : RowKit.Hid (wy.drew.heap[b]? = some (.cells #[.slice (some ⟨g, off, none⟩) n c, .int .i64 most, .int .i64 wait] 64 (0, 0))) := Lib.hid (by have h := HQY.out.head; rw [HN.out] at h; exact h)
     have HCK : RowKit.Hid (∀ W, Touch wy W (fun k => k = b) → W.heap[KF]? = some (.cells (fca f9) 83 (0, 0))) := Lib.hid (fun W t => t.keeps HGY.out (fun e => HKB.out e))
     have HPF : RowKit.Hid (∀ W, Touch wy W (fun k => k = b) → Calls Tryz.prog 91 #[.slice (some ⟨g, off, none⟩) n c, .agg (fca f9)] W fun e w' => ∃ a' c', PutIsF W w' L f9 e a' c') := Lib.hid (fun W t => by
      have h := HQY.out.row.touch t (fun y hy => (HQY.out.ne y hy).imp (fun h => h) (fun h e => h e))
      have h2 := rputflow_any W _ c L f9 h (by have := HN.out; omega) HQY.out.pl
      rwa [HN.out] at h2)
     have HBW : RowKit.Hid (b < w.heap.size) := HB
     have HEND : RowKit.Hid (∀ (a9 : Option Addr) (c9 : Nat) (w9 : World), Touch wy w9 (fun k => k = b) → w9.heap[b]? = some (.cells #[.slice (some ⟨g, off, none⟩) n c, .int .i64 most, .int .i64 wait] 64 (0, 0)) → OwnS w9 wy.heap.size 83 8 (.slice a9 (putL L f9).length c9) ((putL L f9).map fcl) → RFStep w (w9.setCell ⟨b, 0, none⟩ (.slice a9 (putL L f9).length c9)) b (some ⟨g, off, none⟩) most wait (rtouF L t now)) := Lib.hid (fun a9 c9 w9 x h o => by
      have h8 := rf_end (a0 := some ⟨g, off, none⟩) (HTZ.out.trans T5.out (fun _ _ h => h)) HBW.out x h o
      rw [HRX.out]
      exact h8)
     simp only [PutIsF] at HPF
     simp only [fca] at HCK HPF
     have hS := (Touch.refl wy (fun k => k = b)).drew
     refine wp_region_tree3 (fun w' => Touch wy w' (fun k => k = b)) (.take 0 (.take 1 (.take 2 (.take 3 (.take 5 (.one 4 (.one 6 (.take 7 (.take 8 (.one 9 .fin)))))))))) (by kernel_rfl) (by kernel_rfl) (by kernel_rfl) (by kernel_rfl) hS ?_
     repeat' (first
      | (with_reducible refine walk3_take ?_)
      | (with_reducible refine walk3_one ?_)
      | (with_reducible refine walk3_two ?_ ?_)
      | (with_reducible refine walk3_fin ?_)
      | ((with_reducible show TakeN _ _ _ _ 5 _ _ _); ((refine takeN_row (some 42) rfl rfl 83 (.tmp 8) rfl (KF) rfl _ _ _ _ (fun w' h => HCK.out w' h) Tryz.underlying83 rfl infoFlG (fun _ _ _ h => h) (by rfl) ?_; (try simp only [Act.put, List.setIfInBounds_toArray, List.set_cons_zero, List.set_cons_succ]))))
      | ((with_reducible show TakeN _ _ _ _ _ _ _ _); ((refine takeN_take (v := ?_) (some _) rfl rfl (fun _ _ _ h => h) (by rfl) ?_ ?_; rotate_left; (focus (intro w' hw'; go_simp; (try with_reducible rfl))); (try simp only [Act.put, List.setIfInBounds_toArray, List.set_cons_zero, List.set_cons_succ]))))
      | ((with_reducible show RunN _ _ _ _ 4 _ _ _); ((have cc := cell_of_cells HHD.out 0; refine runN_do (v := .slice (some ⟨g, off, none⟩) n c) (w' := _) (some 41) rfl rfl (by rfl) (by go_simp; (try with_reducible rfl)) hS (fun hS => ?_); clear cc; (try simp only [Act.put, List.setIfInBounds_toArray, List.set_cons_zero, List.set_cons_succ]))))
      | ((with_reducible show RunN _ _ _ _ 6 _ _ _); ((refine runN_call 43 91 _ _ _ (HPF.out _ hS) rfl rfl rfl (by rfl) rfl (enter_rputO _ _ _) ?_; rintro e x9 ⟨a9, c9, rfl, o9, t9⟩; have HO9 := Lib.hid (OwnS.rebase (base' := wy.heap.size) o9 (fun x hx => Nat.le_trans hS.size (o9.own.lt x hx).1)); have HHD := Lib.hid (t9.keeps HHD.out (fun h => h)); have hS := hS.trans t9 (fun _ _ h => h.elim); refine ⟨_, rfl, hS, fun hS => ?_⟩; clear t9 o9; (try simp only [Act.put, List.setIfInBounds_toArray, List.set_cons_zero, List.set_cons_succ]))))
      | ((with_reducible show RunN _ _ _ _ 9 _ _ _); ((have cc := cell_of_cells HHD.out 0; have ff := free_of_cells HHD.out 0; refine runN_skip0 none rfl rfl (by rfl) (w' := World.setCell x9 ⟨b, 0, none⟩ (.slice a9 ((putL L f9).length) c9)) (by go_simp; (try with_reducible rfl)) ?_ ?_; (exact hS.setCell _ _ (fun _ => rfl)); clear cc ff; intro hS9; (try simp only [Act.put, List.setIfInBounds_toArray, List.set_cons_zero, List.set_cons_succ])))))
     all_goals
      go_wp2_with fail
      go_ret
      exact ⟨by rw [HH.out]; rfl, HEND.out _ _ _ hS HHD.out HO9.out⟩
end Go.Proofs.YtpjdcgjoepjmcaaGreat
end
section
namespace Go.Proofs.YtpjdcgjoepjmcaaGreat
open Go.RowKit
end Go.Proofs.YtpjdcgjoepjmcaaGreat
end
section
namespace Go.Proofs.YtpjdcgjoepjmcaaGreat
open Go.RowKit
structure FR (w0 w : World) (g : Nat) (h : FH) (b : Nat) (a : Option Addr) (c : Nat) (most idle : Int) (M L : List FlD) : Prop where
 f : FN w0 w g h most idle M
 r : RF w b a c most idle L
 bn : ¬ footF g h b
 bw : w0.heap.size ≤ b
 an : ∀ x, a = some x → ¬ footF g h x.block
 al : ∀ x, a = some x → x.block < w.heap.size
theorem RF.touch {w w' : World} {b : Nat} {a : Option Addr} {c : Nat} {most wait : Int} {L : List FlD} {S : Nat → Prop} (q : RF w b a c most wait L) (t : Touch w w' S) (h1 : ¬ S b) (h2 : ∀ x, a = some x → ¬ S x.block) : RF w' b a c most wait L :=
 ⟨t.keeps q.head h1, q.row.touch t (fun x hx => .inr (h2 x hx)), q.ne, q.pl⟩
structure LikeF (most : Int) (M L : List FlD) : Prop where
 s : SortL L
 p : L.Perm M
 ok : MayF M
 nd : (M.map FlD.t).Nodup
 len : (M.length : Int) ≤ most
theorem LikeF.has {most : Int} {M L : List FlD} (k : LikeF most M L) (t : TupD) : hasF L t = hasF M t := hasF_perm k.p t
theorem LikeF.get {most : Int} {M L : List FlD} (k : LikeF most M L) (t : TupD) : getF L t = getF M t := by
 cases h : hasF M t with
 | false => rw [getF_no h, getF_no (by rw [k.has]; exact h)]
 | true =>
   obtain ⟨x, hx, rfl⟩ := List.mem_map.1 ((hasF_iff _ _).1 h)
   rw [getF_of k.nd hx, getF_of (((k.p.map FlD.t).nodup_iff).2 k.nd) (k.p.mem_iff.2 hx)]
theorem LikeF.perm {most : Int} {M M1 L : List FlD} (k : LikeF most M L) (h : M1.Perm M) : LikeF most M1 L :=
 ⟨k.s, k.p.trans h.symm, fun f hf => k.ok f (h.mem_iff.1 hf), ((h.map FlD.t).nodup_iff).2 k.nd, by rw [h.length_eq]; exact k.len⟩
theorem LikeF.nil (most : Int) (h : 0 ≤ most) : LikeF most [] [] := ⟨List.Pairwise.nil, .refl _, (fun f hf => by cases hf), List.nodup_nil, h⟩
theorem delF_perm2 {M L : List FlD} (h : L.Perm M) (t : TupD) : (delF L t).Perm (delF M t) := h.filter _
theorem keep_nd {M : List FlD} (hn : (M.map FlD.t).Nodup) (f : FlD) : ((f :: delF M f.t).map FlD.t).Nodup := by
 rw [List.map_cons, List.nodup_cons]
 refine ⟨fun hm => ?_, hn.sublist (List.filter_sublist.map _)⟩
 obtain ⟨y, hy, e⟩ := List.mem_map.1 hm
 have := (List.mem_filter.1 hy).2
 simp [e] at this
theorem LikeF.put {most : Int} {M L : List FlD} (k : LikeF most M L) (f : FlD) (of : TupOk f.t) (hm : mayFB f = true) (hr : hasF M f.t = true ∨ (M.length : Int) < most) : LikeF most (f :: delF M f.t) (putL L f) :=
 ⟨putL_sort f k.s, (putL_perm f k.s).trans ((delF_perm2 k.p f.t).cons f), keep_ok k.ok of hm, keep_nd k.nd f, keep_len k.nd hr k.len⟩
theorem LikeF.puts {most : Int} {M L : List FlD} (k : LikeF most M L) (f : FlD) (of : TupOk f.t) : putE M most f = .tuple #[.bool (rpB L most f), .int .i64 (rpE L most f)] ∧ LikeF most (putF M most f) (rpL L most f) := by
 have hl : L.length = M.length := k.p.length_eq
 have hh := k.has f.t
 cases hm : mayFB f with
 | false =>
   have e1 : rpE L most f = 1 := by unfold rpE; rw [if_pos hm]
   have e2 : rpB L most f = false := by unfold rpB; rw [hm]; rfl
   refine ⟨by unfold putE; rw [if_pos hm, e1, e2], ?_⟩
   unfold putF rpL putB
   rw [hm, e1]; exact k
 | true =>
   by_cases hr : hasF M f.t = true ∨ (M.length : Int) < most
   ·have hb : putB M most f = true := by
     unfold putB; rw [hm]
     rcases hr with hr | hr
     ·rw [hr]; rfl
     ·rw [decide_eq_true hr]; simp
    have e1 : rpE L most f = 0 := by
     unfold rpE
     rw [if_neg (by rw [hm]; decide), if_neg]
     rintro ⟨h1, h2⟩
     rw [hh] at h1
     rcases hr with hr | hr
     ·rw [hr] at h1; cases h1
     ·rw [hl] at h2; omega
    have e2 : rpB L most f = !hasF M f.t := by
     unfold rpB; rw [hm, hh, hl]
     cases h3 : hasF M f.t with
     | true => rfl
     | false =>
       rcases hr with hr | hr
       ·rw [hr] at h3; cases h3
       ·rw [decide_eq_false (by omega)]; rfl
    refine ⟨?_, ?_⟩
    ·unfold putE; rw [if_neg (by rw [hm]; decide), if_neg (by rw [hb]; decide), e1, e2]
    ·unfold putF rpL; rw [if_pos hb, if_pos e1]; exact k.put f of hm hr
   ·have h1 : hasF M f.t = false := by cases h : hasF M f.t with
     | false => rfl
     | true => exact absurd (.inl h) hr
    have h2 : ¬ (M.length : Int) < most := fun h => hr (.inr h)
    have hb : putB M most f = false := by unfold putB; rw [hm, h1, decide_eq_false h2]; rfl
    have e1 : rpE L most f = 9 := by
     unfold rpE
     rw [if_neg (by rw [hm]; decide), if_pos ⟨by rw [hh]; exact h1, by rw [hl]; omega⟩]
    have e2 : rpB L most f = false := by
     unfold rpB; rw [hm, hh, hl, h1, decide_eq_true (by omega)]; rfl
    refine ⟨?_, ?_⟩
    ·unfold putE; rw [if_neg (by rw [hm]; decide), if_pos hb, e1, e2]
    ·unfold putF rpL; rw [if_neg (by rw [hb]; decide), if_neg (by rw [e1]; decide)]; exact k
theorem del_like {most : Int} {M L : List FlD} (k : LikeF most M L) (t : TupD) : LikeF most (delF M t) (delF L t) :=
 ⟨delF_sort k.s t, delF_perm2 k.p t, fun f hf => k.ok f (List.mem_filter.1 hf).1, k.nd.sublist (List.filter_sublist.map _), by have h1 := List.length_filter_le (fun f : FlD => !decide (f.t = t)) M; have h2 := k.len; unfold delF; omega⟩
theorem LikeF.touched {most : Int} {M L : List FlD} (k : LikeF most M L) (t : TupD) (ot : TupOk t) (now : Int) : LikeF most (touchF M t now) (rtouF L t now) := by
 have hb : touchB L t now = touchB M t now := by unfold touchB; rw [k.has, k.get]
 unfold touchF rtouF
 rw [hb, k.get]
 by_cases h : touchB M t now = true
 ·rw [if_pos h, if_pos h]
  have h' := h
  unfold touchB at h'
  simp only [Bool.and_eq_true] at h'
  obtain ⟨h1, h2, h3⟩ := h'
  obtain ⟨gm, gt⟩ := getF_mem k.nd h1
  have hm := may_ok (k.ok _ gm).2
  rw [gt] at hm
  have hn : 0 ≤ now ∧ now ≤ 1099511627776 := by unfold timB at h2; exact of_decide_eq_true h2
  refine k.put ⟨t, (getF M t).fb, (getF M t).fg, now⟩ ot ?_ (.inl h1)
  unfold mayFB rngF
  rw [hm.1, decide_eq_true ⟨hm.2.1, hm.2.2.1, hn⟩]; rfl
 ·rw [if_neg h, if_neg h]; exact k
theorem LikeF.all {most : Int} {M L K : List FlD} (k : LikeF most M L) (hp : K.Perm M) (hs : StrictF K) : K = L := strict_ext (hp.trans k.p.symm) hs k.s
end Go.Proofs.YtpjdcgjoepjmcaaGreat
end
