/- ManifestEncodes: any manifest: may it be, its bytes, is it another one: the program's answers and the page's are the same. -/
import Derived.Test.YtibpnlhdpdfhiaaDoorFrManifestEncodesZ
import Derived.Test.YtibpnlhdpdfhiaaDoorManAwakeZ
import Derived.Test.YtibpnlhdpdfhiaaDoorManREncZ
import Derived.Test.YtibpnlhdpdfhiaaDoorManArgsZ
import Derived.Test.YtibpnlhdpdfhiaaDoorCalmZ
set_option linter.unusedVariables false
set_option linter.unusedSimpArgs false
namespace Go.Proofs.YtibpnlhdpdfhiaaDoor
open Go.ChangeShapes Go.WideShapes Go.ChangeAt Go.RowKit

set_option maxRecDepth 20000 in
theorem enter_mmay (u : Value) (w : World) : (callFunc 13 #[u]).run Tryd.prog w = .ok (.enter 13 #[u]) w := by kernel_rfl
set_option maxRecDepth 20000 in
theorem enter_rmmay (u : Value) (w : World) : (callFunc 14 #[u]).run Tryd.prog w = .ok (.enter 14 #[u]) w := by kernel_rfl
set_option maxRecDepth 20000 in
theorem enter_msame (u v : Value) (w : World) : (callFunc 15 #[u, v]).run Tryd.prog w = .ok (.enter 15 #[u, v]) w := by kernel_rfl
set_option maxRecDepth 20000 in
theorem enter_rmsame (u v : Value) (w : World) : (callFunc 16 #[u, v]).run Tryd.prog w = .ok (.enter 16 #[u, v]) w := by kernel_rfl
set_option maxRecDepth 20000 in
theorem enter_awake5 (w : World) : (callFunc 17 #[]).run Tryd.prog w = .ok (.enter 17 #[]) w := by kernel_rfl
theorem string_runM {w : World} {a : Option Addr} {len cap : Nat} {xs : List Nat} (h : RowB w a len cap xs) : Sem.run Tryd.prog (convert 25 9 (.slice a len cap)) w = .ok (.string (strB xs)) w :=
  run_string_of (P := Tryd.prog) h 25 9 5 Tryd.underlying25 Tryd.underlying5 Tryd.underlying9

set_option maxRecDepth 20000 in
set_option maxHeartbeats 4000000 in
theorem mencs_walk (v n : Int) (a : Option Addr) (len cap : Nat) (zs : List Int) (v2 n2 : Int) (a2 : Option Addr) (len2 cap2 : Nat) (zs2 : List Int) (w : World) (hr : RowI w a len cap zs) (hr2 : RowI w a2 len2 cap2 zs2) (hT : TabW w) :
    Calls Tryd.prog 3 #[.agg #[.int .i64 v, .int .i64 n, .slice a len cap], .agg #[.int .i64 v2, .int .i64 n2, .slice a2 len2 cap2]] w fun e w' => e = .returned (.bool true) ∧ Touch w w' (fun _ => False) := by
  obtain ⟨W1, hW1⟩ : ∃ W, w.alloc (.cells #[.int .i64 v, .int .i64 n, .slice a len cap] 24) = W := ⟨_, rfl⟩
  have t1 : Touch w W1 (fun _ => False) := hW1 ▸ (Touch.refl _ _).alloc _
  obtain ⟨W2, hW2⟩ : ∃ W, W1.alloc (.cells #[.int .i64 v2, .int .i64 n2, .slice a2 len2 cap2] 24) = W := ⟨_, rfl⟩
  have t2 : Touch W1 W2 (fun _ => False) := hW2 ▸ (Touch.refl _ _).alloc _
  have hg : W2.heap[w.heap.size]? = some (.cells #[.int .i64 v, .int .i64 n, .slice a len cap] 24 (0, 0)) := t2.keeps (hW1 ▸ heap_alloc_new w _) (fun h => h)
  have hg2 : W2.heap[w.heap.size + 1]? = some (.cells #[.int .i64 v2, .int .i64 n2, .slice a2 len2 cap2] 24 (0, 0)) := by
    have h1 : W1.heap.size = w.heap.size + 1 := by rw [← hW1]; simp
    rw [← h1]; exact hW2 ▸ heap_alloc_new W1 _
  have HT2 := Lib.hid (t1.trans t2 (fun _ _ h => h))
  have HR := Lib.hid (hr.keep HT2.out)
  have HR2 := Lib.hid (hr2.keep HT2.out)
  have HTB := Lib.hid (hT.touch HT2.out)
  have HIM := Lib.hid infoMan
  have HE := Lib.hid (menc_any v n a len cap zs W2 HR.out)
  have HRE : RowKit.Hid (∀ W, Touch W2 W (fun _ => False) → Calls Tryd.prog 12 #[.agg #[.int .i64 v, .int .i64 n, .slice a len cap]] W fun e w' => EncMIs W w' v n zs e) := Lib.hid (fun W h => rmenc_any v n a len cap zs W (HR.out.keep h))
  have HG0 : RowKit.Hid (∀ W, Touch W2 W (fun _ => False) → W.heap[w.heap.size]? = some (.cells #[.int .i64 v, .int .i64 n, .slice a len cap] 24 (0, 0))) := Lib.hid (fun W t => t.keeps hg (fun h => h))
  have HG20 : RowKit.Hid (∀ W, Touch W2 W (fun _ => False) → W.heap[w.heap.size + 1]? = some (.cells #[.int .i64 v2, .int .i64 n2, .slice a2 len2 cap2] 24 (0, 0))) := Lib.hid (fun W t => t.keeps hg2 (fun h => h))
  have HW1 := Lib.hid hW1
  have HW2 := Lib.hid hW2
  clear hr hr2 t1 t2 hg hg2 hT hW1 hW2
  obtain ⟨E, hE⟩ : ∃ E, encE v n zs = E := ⟨_, rfl⟩
  obtain ⟨Y, hY⟩ : ∃ Y, encM v n zs = Y := ⟨_, rfl⟩
  obtain ⟨L, hL⟩ : ∃ L, Y.length = L := ⟨_, rfl⟩
  unfold EncMIs at HE HRE
  rw [hE, hY, hL] at HE HRE
  clear hE hY
  go_enter Tryd.func3, Tryd.ntmps3
  go_upto_region 1 with (fail)
  rw [HW1.out, HW2.out]
  have HGA := Lib.hid (HG0.out _ (Touch.refl _ _))
  go_wp2_with (first
    | (refine wpList_load_row rfl 24 (.tmp 2) rfl w.heap.size rfl _ _ _ _ HGA.out Tryd.underlying24 rfl HIM.out ?_)
    | (go_at_call 11; (with_reducible refine HE.out.mono ?_); rintro e w3 ⟨a3, c3, rfl, hf3⟩; have T3 := Lib.hid hf3.2; have HR3 := Lib.hid hf3.row'.2; clear hf3; have HGA := Lib.hid (HG0.out _ T3.out))
    | (go_at_call 12; (with_reducible refine (HRE.out _ T3.out).mono ?_); rintro e w4 ⟨a4, c4, rfl, hf4⟩; have T4 := Lib.hid (T3.out.trans hf4.2 (fun _ _ h => h)); have HR3 := Lib.hid (HR3.out.touch hf4.2 (fun _ _ => .inr (fun h => h))); have HR4 := Lib.hid hf4.row'.2; clear hf4))
  have HG : RowKit.Hid (∀ W, Touch w4 W (fun _ => False) → W.heap[w.heap.size]? = some (.cells #[.int .i64 v, .int .i64 n, .slice a len cap] 24 (0, 0))) := Lib.hid (fun W t => HG0.out _ (T4.out.trans t (fun _ _ h => h)))
  have HG2 : RowKit.Hid (∀ W, Touch w4 W (fun _ => False) → W.heap[w.heap.size + 1]? = some (.cells #[.int .i64 v2, .int .i64 n2, .slice a2 len2 cap2] 24 (0, 0))) := Lib.hid (fun W t => HG20.out _ (T4.out.trans t (fun _ _ h => h)))
  obtain ⟨m, hm⟩ : ∃ m, mayM v n zs = m := ⟨_, rfl⟩
  obtain ⟨q, hq⟩ : ∃ q, sameM v n zs v2 n2 zs2 = q := ⟨_, rfl⟩
  have HMA : RowKit.Hid (∀ W, Touch w4 W (fun _ => False) → Calls Tryd.prog 13 #[.agg #[.int .i64 v, .int .i64 n, .slice a len cap]] W fun e w' => e = .returned (.bool m) ∧ Touch w4 w' (fun _ => False)) := Lib.hid (fun W h => hm ▸ (mmay_any v n a len cap zs W (HR.out.keep (T4.out.trans h (fun _ _ h => h)))).mono fun e w' k => ⟨k.1, h.trans k.2 (fun _ _ h => h)⟩)
  have HRMA : RowKit.Hid (∀ W, Touch w4 W (fun _ => False) → Calls Tryd.prog 14 #[.agg #[.int .i64 v, .int .i64 n, .slice a len cap]] W fun e w' => e = .returned (.bool m) ∧ Touch w4 w' (fun _ => False)) := Lib.hid (fun W h => hm ▸ (rmmay_any v n a len cap zs W (HR.out.keep (T4.out.trans h (fun _ _ h => h)))).mono fun e w' k => ⟨k.1, h.trans k.2 (fun _ _ h => h)⟩)
  have HSA : RowKit.Hid (∀ W, Touch w4 W (fun _ => False) → Calls Tryd.prog 15 #[.agg #[.int .i64 v, .int .i64 n, .slice a len cap], .agg #[.int .i64 v2, .int .i64 n2, .slice a2 len2 cap2]] W fun e w' => e = .returned (.bool q) ∧ Touch w4 w' (fun _ => False)) := Lib.hid (fun W h => hq ▸ (msame_any v n a len cap zs v2 n2 a2 len2 cap2 zs2 W (HR.out.keep (T4.out.trans h (fun _ _ h => h))) (HR2.out.keep (T4.out.trans h (fun _ _ h => h)))).mono fun e w' k => ⟨k.1, h.trans k.2 (fun _ _ h => h)⟩)
  have HRSA : RowKit.Hid (∀ W, Touch w4 W (fun _ => False) → Calls Tryd.prog 16 #[.agg #[.int .i64 v, .int .i64 n, .slice a len cap], .agg #[.int .i64 v2, .int .i64 n2, .slice a2 len2 cap2]] W fun e w' => e = .returned (.bool q) ∧ Touch w4 w' (fun _ => False)) := Lib.hid (fun W h => hq ▸ (rmsame_any v n a len cap zs v2 n2 a2 len2 cap2 zs2 W (HR.out.keep (T4.out.trans h (fun _ _ h => h))) (HR2.out.keep (T4.out.trans h (fun _ _ h => h)))).mono fun e w' k => ⟨k.1, h.trans k.2 (fun _ _ h => h)⟩)
  have HAW : RowKit.Hid (∀ W, Touch w4 W (fun _ => False) → Calls Tryd.prog 17 #[] W fun e w' => e = .returned (.bool true) ∧ Touch w4 w' (fun _ => False)) := Lib.hid (fun W h => (awake5 W (HTB.out.touch (T4.out.trans h (fun _ _ h => h)))).mono fun e w' k => ⟨k.1, h.trans k.2 (fun _ _ h => h)⟩)
  have HS3 : RowKit.Hid (∀ W, Touch w4 W (fun _ => False) → Sem.run Tryd.prog (convert 25 9 (.slice a3 L c3)) W = .ok (.string (strB Y)) W) := Lib.hid (fun W h => string_runM (HR3.out.touch h (fun _ _ => .inr (fun h => h))))
  have HS4 : RowKit.Hid (∀ W, Touch w4 W (fun _ => False) → Sem.run Tryd.prog (convert 25 9 (.slice a4 L c4)) W = .ok (.string (strB Y)) W) := Lib.hid (fun W h => string_runM (HR4.out.touch h (fun _ _ => .inr (fun h => h))))
  generalize strB Y = st at *
  clear hm hq hL
  have hb1 : (m == m) = true := beq_self_eq_true m
  have hb2 : (q == q) = true := beq_self_eq_true q
  have hb3 : (st.toList == st.toList) = true := beq_self_eq_true _
  have hb4 : ((E : Int) == E) = true := beq_self_eq_true _
  go_wp2_with fail
  have hS := (Touch.refl w4 (fun _ => False)).drew
  refine wp_region_sched (fun w' => Touch w4 w' (fun _ => False)) [(0, true), (2, true), (1, false), (3, false), (4, true), (5, true), (6, true), (7, true), (8, true), (9, true), (10, true), (11, true), (12, true), (13, true), (14, true), (15, true), (16, true), (17, true), (18, true), (19, true), (21, true), (22, true), (20, false), (23, false), (24, true), (25, true), (26, true), (27, false), (28, true), (29, true)] (by kernel_rfl) (by kernel_rfl) rfl (by kernel_rfl) hS ?_
  (refine walkS_row (some 19) rfl rfl 24 (.tmp 2) rfl (w.heap.size) rfl _ _ _ _ (fun w' h => HG.out w' h) Tryd.underlying24 rfl HIM.out (fun _ _ _ h => h) (by rfl) ?_; (try simp only [Act.put, List.setIfInBounds_toArray, List.set_cons_zero, List.set_cons_succ]))
  (refine walkS_row (some 21) rfl rfl 24 (.tmp 2) rfl (w.heap.size) rfl _ _ _ _ (fun w' h => HG.out w' h) Tryd.underlying24 rfl HIM.out (fun _ _ _ h => h) (by rfl) ?_; (try simp only [Act.put, List.setIfInBounds_toArray, List.set_cons_zero, List.set_cons_succ]))
  first | (refine walkS_call 20 _ _ _ _ (HMA.out _ hS) rfl rfl rfl (by rfl) rfl (enter_mmay _ _) ?_; clear hS; rintro e w9 ⟨rfl, hS⟩; refine ⟨_, rfl, hS, fun hS => ?_⟩; (try simp only [Act.put, List.setIfInBounds_toArray, List.set_cons_zero, List.set_cons_succ])) | (refine walkS_call 20 _ _ _ _ (HRMA.out _ hS) rfl rfl rfl (by rfl) rfl (enter_rmmay _ _) ?_; clear hS; rintro e w9 ⟨rfl, hS⟩; refine ⟨_, rfl, hS, fun hS => ?_⟩; (try simp only [Act.put, List.setIfInBounds_toArray, List.set_cons_zero, List.set_cons_succ])) | (refine walkS_call 20 _ _ _ _ (HSA.out _ hS) rfl rfl rfl (by rfl) rfl (enter_msame _ _ _) ?_; clear hS; rintro e w9 ⟨rfl, hS⟩; refine ⟨_, rfl, hS, fun hS => ?_⟩; (try simp only [Act.put, List.setIfInBounds_toArray, List.set_cons_zero, List.set_cons_succ])) | (refine walkS_call 20 _ _ _ _ (HRSA.out _ hS) rfl rfl rfl (by rfl) rfl (enter_rmsame _ _ _) ?_; clear hS; rintro e w9 ⟨rfl, hS⟩; refine ⟨_, rfl, hS, fun hS => ?_⟩; (try simp only [Act.put, List.setIfInBounds_toArray, List.set_cons_zero, List.set_cons_succ])) | (refine walkS_call 20 _ _ _ _ (HAW.out _ hS) rfl rfl rfl (by rfl) rfl (enter_awake5 _) ?_; clear hS; rintro e w9 ⟨rfl, hS⟩; refine ⟨_, rfl, hS, fun hS => ?_⟩; (try simp only [Act.put, List.setIfInBounds_toArray, List.set_cons_zero, List.set_cons_succ]))
  first | (refine walkS_call 22 _ _ _ _ (HMA.out _ hS) rfl rfl rfl (by rfl) rfl (enter_mmay _ _) ?_; clear hS; rintro e w9 ⟨rfl, hS⟩; refine ⟨_, rfl, hS, fun hS => ?_⟩; (try simp only [Act.put, List.setIfInBounds_toArray, List.set_cons_zero, List.set_cons_succ])) | (refine walkS_call 22 _ _ _ _ (HRMA.out _ hS) rfl rfl rfl (by rfl) rfl (enter_rmmay _ _) ?_; clear hS; rintro e w9 ⟨rfl, hS⟩; refine ⟨_, rfl, hS, fun hS => ?_⟩; (try simp only [Act.put, List.setIfInBounds_toArray, List.set_cons_zero, List.set_cons_succ])) | (refine walkS_call 22 _ _ _ _ (HSA.out _ hS) rfl rfl rfl (by rfl) rfl (enter_msame _ _ _) ?_; clear hS; rintro e w9 ⟨rfl, hS⟩; refine ⟨_, rfl, hS, fun hS => ?_⟩; (try simp only [Act.put, List.setIfInBounds_toArray, List.set_cons_zero, List.set_cons_succ])) | (refine walkS_call 22 _ _ _ _ (HRSA.out _ hS) rfl rfl rfl (by rfl) rfl (enter_rmsame _ _ _) ?_; clear hS; rintro e w9 ⟨rfl, hS⟩; refine ⟨_, rfl, hS, fun hS => ?_⟩; (try simp only [Act.put, List.setIfInBounds_toArray, List.set_cons_zero, List.set_cons_succ])) | (refine walkS_call 22 _ _ _ _ (HAW.out _ hS) rfl rfl rfl (by rfl) rfl (enter_awake5 _) ?_; clear hS; rintro e w9 ⟨rfl, hS⟩; refine ⟨_, rfl, hS, fun hS => ?_⟩; (try simp only [Act.put, List.setIfInBounds_toArray, List.set_cons_zero, List.set_cons_succ]))
  (refine walkS_take (v := ?_) (some 23) rfl rfl (fun _ _ _ h => h) (by rfl) ?_ ?_; rotate_left; (focus (intro w' hw'; go_simp; (try with_reducible rfl))); (try simp only [Act.put, List.setIfInBounds_toArray, List.set_cons_zero, List.set_cons_succ]))
  (refine walkS_take (v := ?_) (some 24) rfl rfl (fun _ _ _ h => h) (by rfl) ?_ ?_; rotate_left; (focus (intro w' hw'; go_simp; (try with_reducible rfl))); (try simp only [Act.put, List.setIfInBounds_toArray, List.set_cons_zero, List.set_cons_succ]))
  (refine walkS_take (v := ?_) (some 25) rfl rfl (fun _ _ _ h => h) (by rfl) ?_ ?_; rotate_left; (focus (intro w' hw'; go_simp; (try with_reducible rfl))); (try simp only [Act.put, List.setIfInBounds_toArray, List.set_cons_zero, List.set_cons_succ]))
  (refine walkS_take (v := ?_) (some 26) rfl rfl (fun _ _ _ h => h) (by rfl) ?_ ?_; rotate_left; (focus (intro w' hw'; have q := HS3.out w' hw'; go_simp; (try with_reducible rfl))); (try simp only [Act.put, List.setIfInBounds_toArray, List.set_cons_zero, List.set_cons_succ]))
  (refine walkS_take (v := ?_) (some 27) rfl rfl (fun _ _ _ h => h) (by rfl) ?_ ?_; rotate_left; (focus (intro w' hw'; go_simp; (try with_reducible rfl))); (try simp only [Act.put, List.setIfInBounds_toArray, List.set_cons_zero, List.set_cons_succ]))
  (refine walkS_take (v := ?_) (some 28) rfl rfl (fun _ _ _ h => h) (by rfl) ?_ ?_; rotate_left; (focus (intro w' hw'; have q := HS4.out w' hw'; go_simp; (try with_reducible rfl))); (try simp only [Act.put, List.setIfInBounds_toArray, List.set_cons_zero, List.set_cons_succ]))
  (refine walkS_take (v := ?_) (some 29) rfl rfl (fun _ _ _ h => h) (by rfl) ?_ ?_; rotate_left; (focus (intro w' hw'; go_simp; (try with_reducible rfl))); (try simp only [Act.put, List.setIfInBounds_toArray, List.set_cons_zero, List.set_cons_succ]))
  (refine walkS_take (v := ?_) (some 30) rfl rfl (fun _ _ _ h => h) (by rfl) ?_ ?_; rotate_left; (focus (intro w' hw'; go_simp; (try with_reducible rfl))); (try simp only [Act.put, List.setIfInBounds_toArray, List.set_cons_zero, List.set_cons_succ]))
  (refine walkS_take (v := ?_) (some 31) rfl rfl (fun _ _ _ h => h) (by rfl) ?_ ?_; rotate_left; (focus (intro w' hw'; go_simp; (try with_reducible rfl))); (try simp only [Act.put, List.setIfInBounds_toArray, List.set_cons_zero, List.set_cons_succ]))
  (refine walkS_take (v := ?_) (some 32) rfl rfl (fun _ _ _ h => h) (by rfl) ?_ ?_; rotate_left; (focus (intro w' hw'; go_simp; (try with_reducible rfl))); (try simp only [Act.put, List.setIfInBounds_toArray, List.set_cons_zero, List.set_cons_succ]))
  (refine walkS_take (v := ?_) (some 33) rfl rfl (fun _ _ _ h => h) (by rfl) ?_ ?_; rotate_left; (focus (intro w' hw'; go_simp; (try with_reducible rfl))); (try simp only [Act.put, List.setIfInBounds_toArray, List.set_cons_zero, List.set_cons_succ]))
  (refine walkS_take (v := ?_) (some 34) rfl rfl (fun _ _ _ h => h) (by rfl) ?_ ?_; rotate_left; (focus (intro w' hw'; go_simp; (try with_reducible rfl))); (try simp only [Act.put, List.setIfInBounds_toArray, List.set_cons_zero, List.set_cons_succ]))
  (refine walkS_take (v := ?_) (some 35) rfl rfl (fun _ _ _ h => h) (by rfl) ?_ ?_; rotate_left; (focus (intro w' hw'; go_simp; (try with_reducible rfl))); (try simp only [Act.put, List.setIfInBounds_toArray, List.set_cons_zero, List.set_cons_succ]))
  (refine walkS_take (v := ?_) (some 36) rfl rfl (fun _ _ _ h => h) (by rfl) ?_ ?_; rotate_left; (focus (intro w' hw'; go_simp; (try with_reducible rfl))); (try simp only [Act.put, List.setIfInBounds_toArray, List.set_cons_zero, List.set_cons_succ]))
  (refine walkS_row (some 37) rfl rfl 24 (.tmp 2) rfl (w.heap.size) rfl _ _ _ _ (fun w' h => HG.out w' h) Tryd.underlying24 rfl HIM.out (fun _ _ _ h => h) (by rfl) ?_; (try simp only [Act.put, List.setIfInBounds_toArray, List.set_cons_zero, List.set_cons_succ]))
  (refine walkS_row (some 38) rfl rfl 24 (.tmp 3) rfl (w.heap.size + 1) rfl _ _ _ _ (fun w' h => HG2.out w' h) Tryd.underlying24 rfl HIM.out (fun _ _ _ h => h) (by rfl) ?_; (try simp only [Act.put, List.setIfInBounds_toArray, List.set_cons_zero, List.set_cons_succ]))
  (refine walkS_row (some 40) rfl rfl 24 (.tmp 2) rfl (w.heap.size) rfl _ _ _ _ (fun w' h => HG.out w' h) Tryd.underlying24 rfl HIM.out (fun _ _ _ h => h) (by rfl) ?_; (try simp only [Act.put, List.setIfInBounds_toArray, List.set_cons_zero, List.set_cons_succ]))
  (refine walkS_row (some 41) rfl rfl 24 (.tmp 3) rfl (w.heap.size + 1) rfl _ _ _ _ (fun w' h => HG2.out w' h) Tryd.underlying24 rfl HIM.out (fun _ _ _ h => h) (by rfl) ?_; (try simp only [Act.put, List.setIfInBounds_toArray, List.set_cons_zero, List.set_cons_succ]))
  first | (refine walkS_call 39 _ _ _ _ (HMA.out _ hS) rfl rfl rfl (by rfl) rfl (enter_mmay _ _) ?_; clear hS; rintro e w9 ⟨rfl, hS⟩; refine ⟨_, rfl, hS, fun hS => ?_⟩; (try simp only [Act.put, List.setIfInBounds_toArray, List.set_cons_zero, List.set_cons_succ])) | (refine walkS_call 39 _ _ _ _ (HRMA.out _ hS) rfl rfl rfl (by rfl) rfl (enter_rmmay _ _) ?_; clear hS; rintro e w9 ⟨rfl, hS⟩; refine ⟨_, rfl, hS, fun hS => ?_⟩; (try simp only [Act.put, List.setIfInBounds_toArray, List.set_cons_zero, List.set_cons_succ])) | (refine walkS_call 39 _ _ _ _ (HSA.out _ hS) rfl rfl rfl (by rfl) rfl (enter_msame _ _ _) ?_; clear hS; rintro e w9 ⟨rfl, hS⟩; refine ⟨_, rfl, hS, fun hS => ?_⟩; (try simp only [Act.put, List.setIfInBounds_toArray, List.set_cons_zero, List.set_cons_succ])) | (refine walkS_call 39 _ _ _ _ (HRSA.out _ hS) rfl rfl rfl (by rfl) rfl (enter_rmsame _ _ _) ?_; clear hS; rintro e w9 ⟨rfl, hS⟩; refine ⟨_, rfl, hS, fun hS => ?_⟩; (try simp only [Act.put, List.setIfInBounds_toArray, List.set_cons_zero, List.set_cons_succ])) | (refine walkS_call 39 _ _ _ _ (HAW.out _ hS) rfl rfl rfl (by rfl) rfl (enter_awake5 _) ?_; clear hS; rintro e w9 ⟨rfl, hS⟩; refine ⟨_, rfl, hS, fun hS => ?_⟩; (try simp only [Act.put, List.setIfInBounds_toArray, List.set_cons_zero, List.set_cons_succ]))
  first | (refine walkS_call 42 _ _ _ _ (HMA.out _ hS) rfl rfl rfl (by rfl) rfl (enter_mmay _ _) ?_; clear hS; rintro e w9 ⟨rfl, hS⟩; refine ⟨_, rfl, hS, fun hS => ?_⟩; (try simp only [Act.put, List.setIfInBounds_toArray, List.set_cons_zero, List.set_cons_succ])) | (refine walkS_call 42 _ _ _ _ (HRMA.out _ hS) rfl rfl rfl (by rfl) rfl (enter_rmmay _ _) ?_; clear hS; rintro e w9 ⟨rfl, hS⟩; refine ⟨_, rfl, hS, fun hS => ?_⟩; (try simp only [Act.put, List.setIfInBounds_toArray, List.set_cons_zero, List.set_cons_succ])) | (refine walkS_call 42 _ _ _ _ (HSA.out _ hS) rfl rfl rfl (by rfl) rfl (enter_msame _ _ _) ?_; clear hS; rintro e w9 ⟨rfl, hS⟩; refine ⟨_, rfl, hS, fun hS => ?_⟩; (try simp only [Act.put, List.setIfInBounds_toArray, List.set_cons_zero, List.set_cons_succ])) | (refine walkS_call 42 _ _ _ _ (HRSA.out _ hS) rfl rfl rfl (by rfl) rfl (enter_rmsame _ _ _) ?_; clear hS; rintro e w9 ⟨rfl, hS⟩; refine ⟨_, rfl, hS, fun hS => ?_⟩; (try simp only [Act.put, List.setIfInBounds_toArray, List.set_cons_zero, List.set_cons_succ])) | (refine walkS_call 42 _ _ _ _ (HAW.out _ hS) rfl rfl rfl (by rfl) rfl (enter_awake5 _) ?_; clear hS; rintro e w9 ⟨rfl, hS⟩; refine ⟨_, rfl, hS, fun hS => ?_⟩; (try simp only [Act.put, List.setIfInBounds_toArray, List.set_cons_zero, List.set_cons_succ]))
  (refine walkS_take (v := ?_) (some 43) rfl rfl (fun _ _ _ h => h) (by rfl) ?_ ?_; rotate_left; (focus (intro w' hw'; go_simp; (try with_reducible rfl))); (try simp only [Act.put, List.setIfInBounds_toArray, List.set_cons_zero, List.set_cons_succ]))
  (refine walkS_take (v := ?_) (some 44) rfl rfl (fun _ _ _ h => h) (by rfl) ?_ ?_; rotate_left; (focus (intro w' hw'; go_simp; (try with_reducible rfl))); (try simp only [Act.put, List.setIfInBounds_toArray, List.set_cons_zero, List.set_cons_succ]))
  (refine walkS_take (v := ?_) (some 45) rfl rfl (fun _ _ _ h => h) (by rfl) ?_ ?_; rotate_left; (focus (intro w' hw'; go_simp; (try with_reducible rfl))); (try simp only [Act.put, List.setIfInBounds_toArray, List.set_cons_zero, List.set_cons_succ]))
  first | (refine walkS_call 46 _ _ _ _ (HMA.out _ hS) rfl rfl rfl (by rfl) rfl (enter_mmay _ _) ?_; clear hS; rintro e w9 ⟨rfl, hS⟩; refine ⟨_, rfl, hS, fun hS => ?_⟩; (try simp only [Act.put, List.setIfInBounds_toArray, List.set_cons_zero, List.set_cons_succ])) | (refine walkS_call 46 _ _ _ _ (HRMA.out _ hS) rfl rfl rfl (by rfl) rfl (enter_rmmay _ _) ?_; clear hS; rintro e w9 ⟨rfl, hS⟩; refine ⟨_, rfl, hS, fun hS => ?_⟩; (try simp only [Act.put, List.setIfInBounds_toArray, List.set_cons_zero, List.set_cons_succ])) | (refine walkS_call 46 _ _ _ _ (HSA.out _ hS) rfl rfl rfl (by rfl) rfl (enter_msame _ _ _) ?_; clear hS; rintro e w9 ⟨rfl, hS⟩; refine ⟨_, rfl, hS, fun hS => ?_⟩; (try simp only [Act.put, List.setIfInBounds_toArray, List.set_cons_zero, List.set_cons_succ])) | (refine walkS_call 46 _ _ _ _ (HRSA.out _ hS) rfl rfl rfl (by rfl) rfl (enter_rmsame _ _ _) ?_; clear hS; rintro e w9 ⟨rfl, hS⟩; refine ⟨_, rfl, hS, fun hS => ?_⟩; (try simp only [Act.put, List.setIfInBounds_toArray, List.set_cons_zero, List.set_cons_succ])) | (refine walkS_call 46 _ _ _ _ (HAW.out _ hS) rfl rfl rfl (by rfl) rfl (enter_awake5 _) ?_; clear hS; rintro e w9 ⟨rfl, hS⟩; refine ⟨_, rfl, hS, fun hS => ?_⟩; (try simp only [Act.put, List.setIfInBounds_toArray, List.set_cons_zero, List.set_cons_succ]))
  (refine walkS_take (v := ?_) (some 47) rfl rfl (fun _ _ _ h => h) (by rfl) ?_ ?_; rotate_left; (focus (intro w' hw'; go_simp; (try with_reducible rfl))); (try simp only [Act.put, List.setIfInBounds_toArray, List.set_cons_zero, List.set_cons_succ]))
  (refine walkS_take (v := ?_) (some 4) rfl rfl (fun _ _ _ h => h) (by rfl) ?_ ?_; rotate_left; (focus (intro w' hw'; go_simp; (try with_reducible rfl))); (try simp only [Act.put, List.setIfInBounds_toArray, List.set_cons_zero, List.set_cons_succ]))
  refine walkS_done ?_
  go_wp2_with fail
  go_ret
  exact ⟨rfl, (HT2.out.trans T4.out (fun _ _ h => h)).trans hS (fun _ _ h => h)⟩
theorem manifestEncodes_holds : Rows.ManifestEncodesCardSaid := by
  refine manifestEncodes.said fun H enc W base v0 v1 d0 d1 p0 p1 h0 h1 hT hM => ?_
  obtain ⟨v, n, a, len, cap, zs, rfl, hr, _⟩ := h0.manD
  obtain ⟨v2, n2, a2, len2, cap2, zs2, rfl, hr2, _⟩ := h1.manD
  exact (mencs_walk v n a len cap zs v2 n2 a2 len2 cap2 zs2 W hr hr2 hT).mono fun e w' h => ⟨h.1, h.2.under (Nat.le_refl _)⟩
end Go.Proofs.YtibpnlhdpdfhiaaDoor
