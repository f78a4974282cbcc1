import Derived.Test.YtpjdcgjoepjmcaaGreatPathSZ
import Derived.Test.YtpjdcgjoepjmcaaGreatKAZ
import Derived.Deep.DeepCutAuto
set_option linter.unusedVariables false
set_option linter.unusedSimpArgs false
namespace Go.Proofs.YtpjdcgjoepjmcaaGreat
open Go.RowKit

def keepFn (M : List FlD) (f : FlD) (ends : Bool) : Nat :=
  if ends then (if hasF M f.t then 84 else 85) else if hasF M f.t && decide ((getF M f.t).fb = f.fb) then 86 else 87
theorem keep_any (w : World) (s g : Nat) (h : FH) (most idle : Int) (M : List FlD) (d : FS w g h most idle M) (f : FlD) (hs : w.heap[s]? = some (.cells (sgC g f) 113 (0, 0))) (hn : ¬ footF g h s) (ok : TupOk f.t) (ends : Bool) :
    Calls Tryz.prog (keepFn M f ends) #[.pointer (some ⟨s, 0, none⟩)] w fun e w' => ∃ v, e = .returned v ∧ RecsIs w w' v (keepR M most f ends) ∧ FStep w w' g h most idle (keepM M most f ends) := by
  unfold keepFn keepR keepM
  cases ends with
  | true =>
    simp only [if_true]
    cases hh : hasF M f.t with
    | true => simp only [if_true]; exact sdrop_any w s g h most idle M d f hs hn ok
    | false =>
      simp only [Bool.false_eq_true, if_false]
      rw [delF_none (fun h => by rw [← hasF_iff, hh] at h; cases h)]
      refine (spass_any w _).mono ?_
      rintro e w' ⟨rfl, rfl⟩
      exact ⟨_, rfl, recs_nil _ _, FStep.none d (Touch.refl _ _)⟩
  | false =>
    simp only [Bool.false_eq_true, if_false]
    cases hh : (hasF M f.t && decide ((getF M f.t).fb = f.fb)) with
    | true => simp only [if_true]; exact stouch_any w s g h most idle M d f hs hn ok
    | false => simp only [Bool.false_eq_true, if_false]; exact spin_any w s g h most idle M d f hs hn ok
theorem enter_keep (M : List FlD) (f : FlD) (ends : Bool) (a : Value) (w : World) : (callFunc (keepFn M f ends) #[a]).run Tryz.prog w = .ok (.enter (keepFn M f ends) #[a]) w := by
  unfold keepFn
  split
  · split
    · kernel_rfl
    · kernel_rfl
  · split
    · kernel_rfl
    · kernel_rfl
set_option maxRecDepth 20000 in
set_option maxHeartbeats 12000000 in
theorem rule_any (w : World) (s g : Nat) (h : FH) (most idle : Int) (M : List FlD) (d : FS w g h most idle M) (f : FlD) (hs : w.heap[s]? = some (.cells (sgC g f) 113 (0, 0))) (ok : TupOk f.t) (ends : Bool) :
    Calls Tryz.prog 50 #[.pointer (some ⟨s, 0, none⟩), .bool ends] w fun e w' => e = .returned (.func (.func (keepFn M f ends)) #[] #[]) ∧ Touch w w' (fun _ => False) := by
  have HC : RowKit.Hid (∀ W', Touch w W' (fun _ => False) → W'.cell? ⟨s, 0, none⟩ = some (.pointer (some ⟨g, 0, none⟩)) ∧ W'.cell? ⟨s, 1, none⟩ = some (.int .u32 f.t.src) ∧ W'.cell? ⟨s, 2, none⟩ = some (.int .u32 f.t.dst) ∧ W'.cell? ⟨s, 3, none⟩ = some (.int .i64 f.t.proto) ∧ W'.cell? ⟨s, 4, none⟩ = some (.int .i64 f.t.sport) ∧ W'.cell? ⟨s, 5, none⟩ = some (.int .i64 f.t.dport) ∧ W'.cell? ⟨s, 6, none⟩ = some (.int .i64 f.fb) ∧ W'.cell? ⟨s, 7, none⟩ = some (.int .i64 f.fg) ∧ W'.cell? ⟨s, 8, none⟩ = some (.int .i64 f.fs)) := Lib.hid (fun W' t => by
    have k := t.keeps hs (fun h => h)
    exact ⟨cell_of_cells k 0, cell_of_cells k 1, cell_of_cells k 2, cell_of_cells k 3, cell_of_cells k 4, cell_of_cells k 5, cell_of_cells k 6, cell_of_cells k 7, cell_of_cells k 8⟩)
  have hget : ∀ W', Touch w W' (fun _ => False) → Calls Tryz.prog 33 #[.pointer (some ⟨g, 0, none⟩), .agg (tcs f.t)] W' fun e w' => e = .returned (.tuple #[.agg (fca (getF M f.t)), .bool (hasF M f.t)]) ∧ Touch W' w' (fun _ => False) := fun W' t => fget_any W' g h most idle M (d.still t) f.t ok
  have hfn : ∀ e k : Bool, hasF M f.t = k → e = ends → keepFn M f ends = (if e then (if k then 84 else 85) else if k && decide ((getF M f.t).fb = f.fb) then 86 else 87) := fun e k h1 h2 => by subst h1 h2; rfl
  obtain ⟨y, hy⟩ : ∃ y, getF M f.t = y := ⟨_, rfl⟩
  obtain ⟨kn, hkn⟩ : ∃ kn, hasF M f.t = kn := ⟨_, rfl⟩
  have hfn := hfn ends kn hkn rfl
  rw [hy, hkn] at hget
  rw [hy] at hfn
  obtain ⟨F, hF⟩ : ∃ F, keepFn M f ends = F := ⟨_, rfl⟩
  rw [hF] at hfn ⊢
  have HFN := Lib.hid hfn
  have HGET := Lib.hid hget
  simp only [tcs, fca] at HGET
  clear hget hfn hy hkn d hs hF
  go_enter Tryz.func50, Tryz.ntmps50
  go_wp2_with fail
  go_cut [5, 6] (fun s5 s6 wx => ∃ B, s5 = .pointer (some ⟨B, 0, none⟩) ∧ s6 = .bool kn ∧ wx.heap[B]? = some (.cells (fca y) 83 (0, 0)) ∧ Touch w wx (fun _ => False))
  case first =>
    go_wp2_with fail
    have hS := (Touch.refl w (fun _ => False)).drew
    refine wp_region_tree (fun w' => Touch w w' (fun _ => False)) (.take 0 (.take 1 (.take 2 (.take 3 (.take 4 (.take 5 (.take 6 (.take 7 (.take 8 (.two 9 13 (.take 10 (.take 11 (.take 12 (.one 13 (.one 14 (.take 15 .fin)))))) (.one 9 (.take 10 (.take 11 (.take 12 (.one 14 (.take 15 .fin)))))))))))))))) (by kernel_rfl) (by kernel_rfl) (by kernel_rfl) (by kernel_rfl) hS ?_
    refine walkT_take ?_
    (refine takeN_take (v := ?_) (some 8) rfl rfl (fun _ _ _ h => h) (by rfl) ?_ ?_; rotate_left; (focus (intro w' hw'; obtain ⟨c0, c1, c2, c3, c4, c5, c6, c7, c8⟩ := HC.out w' hw'; go_simp; (try with_reducible rfl))); (try simp only [Act.put, List.setIfInBounds_toArray, List.set_cons_zero, List.set_cons_succ]))
    refine walkT_take ?_
    (refine takeN_take (v := ?_) (some 9) rfl rfl (fun _ _ _ h => h) (by rfl) ?_ ?_; rotate_left; (focus (intro w' hw'; obtain ⟨c0, c1, c2, c3, c4, c5, c6, c7, c8⟩ := HC.out w' hw'; go_simp; (try with_reducible rfl))); (try simp only [Act.put, List.setIfInBounds_toArray, List.set_cons_zero, List.set_cons_succ]))
    refine walkT_take ?_
    (refine takeN_take (v := ?_) (some 10) rfl rfl (fun _ _ _ h => h) (by rfl) ?_ ?_; rotate_left; (focus (intro w' hw'; obtain ⟨c0, c1, c2, c3, c4, c5, c6, c7, c8⟩ := HC.out w' hw'; go_simp; (try with_reducible rfl))); (try simp only [Act.put, List.setIfInBounds_toArray, List.set_cons_zero, List.set_cons_succ]))
    refine walkT_take ?_
    (refine takeN_take (v := ?_) (some 11) rfl rfl (fun _ _ _ h => h) (by rfl) ?_ ?_; rotate_left; (focus (intro w' hw'; obtain ⟨c0, c1, c2, c3, c4, c5, c6, c7, c8⟩ := HC.out w' hw'; go_simp; (try with_reducible rfl))); (try simp only [Act.put, List.setIfInBounds_toArray, List.set_cons_zero, List.set_cons_succ]))
    refine walkT_take ?_
    (refine takeN_take (v := ?_) (some 12) rfl rfl (fun _ _ _ h => h) (by rfl) ?_ ?_; rotate_left; (focus (intro w' hw'; obtain ⟨c0, c1, c2, c3, c4, c5, c6, c7, c8⟩ := HC.out w' hw'; go_simp; (try with_reducible rfl))); (try simp only [Act.put, List.setIfInBounds_toArray, List.set_cons_zero, List.set_cons_succ]))
    refine walkT_take ?_
    (refine takeN_take (v := ?_) (some 13) rfl rfl (fun _ _ _ h => h) (by rfl) ?_ ?_; rotate_left; (focus (intro w' hw'; obtain ⟨c0, c1, c2, c3, c4, c5, c6, c7, c8⟩ := HC.out w' hw'; go_simp; (try with_reducible rfl))); (try simp only [Act.put, List.setIfInBounds_toArray, List.set_cons_zero, List.set_cons_succ]))
    refine walkT_take ?_
    (refine takeN_take (v := ?_) (some 14) rfl rfl (fun _ _ _ h => h) (by rfl) ?_ ?_; rotate_left; (focus (intro w' hw'; obtain ⟨c0, c1, c2, c3, c4, c5, c6, c7, c8⟩ := HC.out w' hw'; go_simp; (try with_reducible rfl))); (try simp only [Act.put, List.setIfInBounds_toArray, List.set_cons_zero, List.set_cons_succ]))
    refine walkT_take ?_
    (refine takeN_take (v := ?_) (some 15) rfl rfl (fun _ _ _ h => h) (by rfl) ?_ ?_; rotate_left; (focus (intro w' hw'; obtain ⟨c0, c1, c2, c3, c4, c5, c6, c7, c8⟩ := HC.out w' hw'; go_simp; (try with_reducible rfl))); (try simp only [Act.put, List.setIfInBounds_toArray, List.set_cons_zero, List.set_cons_succ]))
    refine walkT_take ?_
    (refine takeN_take (v := ?_) (some 16) rfl rfl (fun _ _ _ h => h) (by rfl) ?_ ?_; rotate_left; (focus (intro w' hw'; obtain ⟨c0, c1, c2, c3, c4, c5, c6, c7, c8⟩ := HC.out w' hw'; go_simp; (try with_reducible rfl))); (try simp only [Act.put, List.setIfInBounds_toArray, List.set_cons_zero, List.set_cons_succ]))
    refine walkT_two ?_ ?_
    · (refine runN_call 17 33 _ _ _ (HGET.out _ hS) rfl rfl rfl (by rfl) rfl (enter_fget _ _ _) ?_; rintro e w6 ⟨rfl, t6⟩; have hS := hS.trans t6 (fun _ _ h => h); (try have HA := Lib.hid (t6.keeps HA.out (fun h => h))); refine ⟨_, rfl, hS, fun hS => ?_⟩; clear t6; (try simp only [Act.put, List.setIfInBounds_toArray, List.set_cons_zero, List.set_cons_succ]))
      refine walkT_take ?_
      (refine takeN_take (v := ?_) (some 7) rfl rfl (fun _ _ _ h => h) (by rfl) ?_ ?_; rotate_left; (focus (intro w' hw'; obtain ⟨c0, c1, c2, c3, c4, c5, c6, c7, c8⟩ := HC.out w' hw'; go_simp; (try with_reducible rfl))); (try simp only [Act.put, List.setIfInBounds_toArray, List.set_cons_zero, List.set_cons_succ]))
      refine walkT_take ?_
      (refine takeN_take (v := ?_) (some 18) rfl rfl (fun _ _ _ h => h) (by rfl) ?_ ?_; rotate_left; (focus (intro w' hw'; obtain ⟨c0, c1, c2, c3, c4, c5, c6, c7, c8⟩ := HC.out w' hw'; go_simp; (try with_reducible rfl))); (try simp only [Act.put, List.setIfInBounds_toArray, List.set_cons_zero, List.set_cons_succ]))
      refine walkT_take ?_
      (refine takeN_take (v := ?_) (some 19) rfl rfl (fun _ _ _ h => h) (by rfl) ?_ ?_; rotate_left; (focus (intro w' hw'; obtain ⟨c0, c1, c2, c3, c4, c5, c6, c7, c8⟩ := HC.out w' hw'; go_simp; (try with_reducible rfl))); (try simp only [Act.put, List.setIfInBounds_toArray, List.set_cons_zero, List.set_cons_succ]))
      refine walkT_one ?_
      (have HAL := Lib.hid hS.size; refine runN_new 5 (fun W => .pointer (some ⟨W.heap.size, 0, none⟩)) (fca noF) 83 rfl rfl (by rfl) (by intro W; go_simp <;> first | with_reducible rfl | rfl | exact ⟨rfl, rfl⟩) ?_; intro w7 hw7 hM7 hs7 t7; have hS := hS.trans t7 (fun _ _ h => h.elim); have HA := Lib.hid hM7; refine ⟨hS, fun _ => ?_⟩; clear hw7 hs7 hM7 t7; (try simp only [Act.put, List.setIfInBounds_toArray, List.set_cons_zero, List.set_cons_succ]))
      refine walkT_one ?_
      (refine runN_store rfl rfl (by rfl) 83 _ _ rfl _ (fca y) rfl rfl _ _ HA.out infoFlow rfl rfl ?_; intro w8 hM8 t8; have HA := Lib.hid hM8; refine ⟨hS.trans t8 (fun k hk e => by have e : k = _ := e; have := HAL.out; omega), fun hS => ?_⟩; clear hM8 t8; (try simp only [Act.put, List.setIfInBounds_toArray, List.set_cons_zero, List.set_cons_succ]))
      refine walkT_take ?_
      (refine takeN_take (v := ?_) (some 6) rfl rfl (fun _ _ _ h => h) (by rfl) ?_ ?_; rotate_left; (focus (intro w' hw'; obtain ⟨c0, c1, c2, c3, c4, c5, c6, c7, c8⟩ := HC.out w' hw'; go_simp; (try with_reducible rfl))); (try simp only [Act.put, List.setIfInBounds_toArray, List.set_cons_zero, List.set_cons_succ]))
      refine walkT_fin ?_
      go_wp2_with fail
      go_meet
      exact ⟨_, rfl, rfl, HA.out, hS⟩
    · (have HAL := Lib.hid hS.size; refine runN_new 5 (fun W => .pointer (some ⟨W.heap.size, 0, none⟩)) (fca noF) 83 rfl rfl (by rfl) (by intro W; go_simp <;> first | with_reducible rfl | rfl | exact ⟨rfl, rfl⟩) ?_; intro w7 hw7 hM7 hs7 t7; have hS := hS.trans t7 (fun _ _ h => h.elim); have HA := Lib.hid hM7; refine ⟨hS, fun _ => ?_⟩; clear hw7 hs7 hM7 t7; (try simp only [Act.put, List.setIfInBounds_toArray, List.set_cons_zero, List.set_cons_succ]))
      refine walkT_one ?_
      (refine runN_call 17 33 _ _ _ (HGET.out _ hS) rfl rfl rfl (by rfl) rfl (enter_fget _ _ _) ?_; rintro e w6 ⟨rfl, t6⟩; have hS := hS.trans t6 (fun _ _ h => h); (try have HA := Lib.hid (t6.keeps HA.out (fun h => h))); refine ⟨_, rfl, hS, fun hS => ?_⟩; clear t6; (try simp only [Act.put, List.setIfInBounds_toArray, List.set_cons_zero, List.set_cons_succ]))
      refine walkT_take ?_
      (refine takeN_take (v := ?_) (some 7) rfl rfl (fun _ _ _ h => h) (by rfl) ?_ ?_; rotate_left; (focus (intro w' hw'; obtain ⟨c0, c1, c2, c3, c4, c5, c6, c7, c8⟩ := HC.out w' hw'; go_simp; (try with_reducible rfl))); (try simp only [Act.put, List.setIfInBounds_toArray, List.set_cons_zero, List.set_cons_succ]))
      refine walkT_take ?_
      (refine takeN_take (v := ?_) (some 18) rfl rfl (fun _ _ _ h => h) (by rfl) ?_ ?_; rotate_left; (focus (intro w' hw'; obtain ⟨c0, c1, c2, c3, c4, c5, c6, c7, c8⟩ := HC.out w' hw'; go_simp; (try with_reducible rfl))); (try simp only [Act.put, List.setIfInBounds_toArray, List.set_cons_zero, List.set_cons_succ]))
      refine walkT_take ?_
      (refine takeN_take (v := ?_) (some 19) rfl rfl (fun _ _ _ h => h) (by rfl) ?_ ?_; rotate_left; (focus (intro w' hw'; obtain ⟨c0, c1, c2, c3, c4, c5, c6, c7, c8⟩ := HC.out w' hw'; go_simp; (try with_reducible rfl))); (try simp only [Act.put, List.setIfInBounds_toArray, List.set_cons_zero, List.set_cons_succ]))
      refine walkT_one ?_
      (refine runN_store rfl rfl (by rfl) 83 _ _ rfl _ (fca y) rfl rfl _ _ HA.out infoFlow rfl rfl ?_; intro w8 hM8 t8; have HA := Lib.hid hM8; refine ⟨hS.trans t8 (fun k hk e => by have e : k = _ := e; have := HAL.out; omega), fun hS => ?_⟩; clear hM8 t8; (try simp only [Act.put, List.setIfInBounds_toArray, List.set_cons_zero, List.set_cons_succ]))
      refine walkT_take ?_
      (refine takeN_take (v := ?_) (some 6) rfl rfl (fun _ _ _ h => h) (by rfl) ?_ ?_; rotate_left; (focus (intro w' hw'; obtain ⟨c0, c1, c2, c3, c4, c5, c6, c7, c8⟩ := HC.out w' hw'; go_simp; (try with_reducible rfl))); (try simp only [Act.put, List.setIfInBounds_toArray, List.set_cons_zero, List.set_cons_succ]))
      refine walkT_fin ?_
      go_wp2_with fail
      go_meet
      exact ⟨_, rfl, rfl, HA.out, hS⟩
  case rest =>
    obtain ⟨B, rfl, rfl, hA, hT⟩ := hcut
    have HA5 := Lib.hid hA
    have HT5 := Lib.hid hT
    clear hA hT
    cases ends with
    | true =>
      cases kn with
      | true =>
        go_wp2_with fail
        go_ret
        exact ⟨by rw [HFN.out]; rfl, HT5.out⟩
      | false =>
        go_wp2_with fail
        go_ret
        exact ⟨by rw [HFN.out]; rfl, HT5.out⟩
    | false =>
      cases kn with
      | false =>
        go_wp2_with fail
        have hS := (Touch.refl wc (fun _ => False)).drew
        refine wp_region_sched (fun w' => Touch wc w' (fun _ => False)) [(0, true), (1, true), (2, true), (3, true), (4, true), (5, true), (6, true), (7, true), (8, true), (9, true), (10, true), (11, true)] (by kernel_rfl) (by kernel_rfl) rfl (by kernel_rfl) hS ?_
        (refine walkS_take (v := ?_) (some 28) rfl rfl (fun _ _ _ h => h) (by rfl) ?_ ?_; rotate_left; (focus (intro w' hw'; obtain ⟨c0, c1, c2, c3, c4, c5, c6, c7, c8⟩ := HC.out w' (HT5.out.trans hw' (fun _ _ h => h)); have y5 : w'.cell? ⟨B, 5, none⟩ = some (.int .i64 y.fb) := cell_of_cells (hw'.keeps HA5.out (fun h => h)) 5; go_simp; (try with_reducible rfl))); (try simp only [Act.put, List.setIfInBounds_toArray, List.set_cons_zero, List.set_cons_succ]))
        (refine walkS_take (v := ?_) (some 29) rfl rfl (fun _ _ _ h => h) (by rfl) ?_ ?_; rotate_left; (focus (intro w' hw'; obtain ⟨c0, c1, c2, c3, c4, c5, c6, c7, c8⟩ := HC.out w' (HT5.out.trans hw' (fun _ _ h => h)); have y5 : w'.cell? ⟨B, 5, none⟩ = some (.int .i64 y.fb) := cell_of_cells (hw'.keeps HA5.out (fun h => h)) 5; go_simp; (try with_reducible rfl))); (try simp only [Act.put, List.setIfInBounds_toArray, List.set_cons_zero, List.set_cons_succ]))
        first | (refine walkS_skip (some 30) rfl rfl (by rfl) (fun _ _ _ h => h) hS ?_; (try simp only [Act.put, List.setIfInBounds_toArray, List.set_cons_zero, List.set_cons_succ])) | (refine walkS_take (v := ?_) (some 30) rfl rfl (fun _ _ _ h => h) (by rfl) ?_ ?_; rotate_left; (focus (intro w' hw'; obtain ⟨c0, c1, c2, c3, c4, c5, c6, c7, c8⟩ := HC.out w' (HT5.out.trans hw' (fun _ _ h => h)); have y5 : w'.cell? ⟨B, 5, none⟩ = some (.int .i64 y.fb) := cell_of_cells (hw'.keeps HA5.out (fun h => h)) 5; go_simp; (try with_reducible rfl))); (try simp only [Act.put, List.setIfInBounds_toArray, List.set_cons_zero, List.set_cons_succ]))
        first | (refine walkS_skip (some 31) rfl rfl (by rfl) (fun _ _ _ h => h) hS ?_; (try simp only [Act.put, List.setIfInBounds_toArray, List.set_cons_zero, List.set_cons_succ])) | (refine walkS_take (v := ?_) (some 31) rfl rfl (fun _ _ _ h => h) (by rfl) ?_ ?_; rotate_left; (focus (intro w' hw'; obtain ⟨c0, c1, c2, c3, c4, c5, c6, c7, c8⟩ := HC.out w' (HT5.out.trans hw' (fun _ _ h => h)); have y5 : w'.cell? ⟨B, 5, none⟩ = some (.int .i64 y.fb) := cell_of_cells (hw'.keeps HA5.out (fun h => h)) 5; go_simp; (try with_reducible rfl))); (try simp only [Act.put, List.setIfInBounds_toArray, List.set_cons_zero, List.set_cons_succ]))
        first | (refine walkS_skip (some 32) rfl rfl (by rfl) (fun _ _ _ h => h) hS ?_; (try simp only [Act.put, List.setIfInBounds_toArray, List.set_cons_zero, List.set_cons_succ])) | (refine walkS_take (v := ?_) (some 32) rfl rfl (fun _ _ _ h => h) (by rfl) ?_ ?_; rotate_left; (focus (intro w' hw'; obtain ⟨c0, c1, c2, c3, c4, c5, c6, c7, c8⟩ := HC.out w' (HT5.out.trans hw' (fun _ _ h => h)); have y5 : w'.cell? ⟨B, 5, none⟩ = some (.int .i64 y.fb) := cell_of_cells (hw'.keeps HA5.out (fun h => h)) 5; go_simp; (try with_reducible rfl))); (try simp only [Act.put, List.setIfInBounds_toArray, List.set_cons_zero, List.set_cons_succ]))
        first | (refine walkS_skip (some 33) rfl rfl (by rfl) (fun _ _ _ h => h) hS ?_; (try simp only [Act.put, List.setIfInBounds_toArray, List.set_cons_zero, List.set_cons_succ])) | (refine walkS_take (v := ?_) (some 33) rfl rfl (fun _ _ _ h => h) (by rfl) ?_ ?_; rotate_left; (focus (intro w' hw'; obtain ⟨c0, c1, c2, c3, c4, c5, c6, c7, c8⟩ := HC.out w' (HT5.out.trans hw' (fun _ _ h => h)); have y5 : w'.cell? ⟨B, 5, none⟩ = some (.int .i64 y.fb) := cell_of_cells (hw'.keeps HA5.out (fun h => h)) 5; go_simp; (try with_reducible rfl))); (try simp only [Act.put, List.setIfInBounds_toArray, List.set_cons_zero, List.set_cons_succ]))
        first | (refine walkS_skip (some 34) rfl rfl (by rfl) (fun _ _ _ h => h) hS ?_; (try simp only [Act.put, List.setIfInBounds_toArray, List.set_cons_zero, List.set_cons_succ])) | (refine walkS_take (v := ?_) (some 34) rfl rfl (fun _ _ _ h => h) (by rfl) ?_ ?_; rotate_left; (focus (intro w' hw'; obtain ⟨c0, c1, c2, c3, c4, c5, c6, c7, c8⟩ := HC.out w' (HT5.out.trans hw' (fun _ _ h => h)); have y5 : w'.cell? ⟨B, 5, none⟩ = some (.int .i64 y.fb) := cell_of_cells (hw'.keeps HA5.out (fun h => h)) 5; go_simp; (try with_reducible rfl))); (try simp only [Act.put, List.setIfInBounds_toArray, List.set_cons_zero, List.set_cons_succ]))
        first | (refine walkS_skip (some 35) rfl rfl (by rfl) (fun _ _ _ h => h) hS ?_; (try simp only [Act.put, List.setIfInBounds_toArray, List.set_cons_zero, List.set_cons_succ])) | (refine walkS_take (v := ?_) (some 35) rfl rfl (fun _ _ _ h => h) (by rfl) ?_ ?_; rotate_left; (focus (intro w' hw'; obtain ⟨c0, c1, c2, c3, c4, c5, c6, c7, c8⟩ := HC.out w' (HT5.out.trans hw' (fun _ _ h => h)); have y5 : w'.cell? ⟨B, 5, none⟩ = some (.int .i64 y.fb) := cell_of_cells (hw'.keeps HA5.out (fun h => h)) 5; go_simp; (try with_reducible rfl))); (try simp only [Act.put, List.setIfInBounds_toArray, List.set_cons_zero, List.set_cons_succ]))
        first | (refine walkS_skip (some 36) rfl rfl (by rfl) (fun _ _ _ h => h) hS ?_; (try simp only [Act.put, List.setIfInBounds_toArray, List.set_cons_zero, List.set_cons_succ])) | (refine walkS_take (v := ?_) (some 36) rfl rfl (fun _ _ _ h => h) (by rfl) ?_ ?_; rotate_left; (focus (intro w' hw'; obtain ⟨c0, c1, c2, c3, c4, c5, c6, c7, c8⟩ := HC.out w' (HT5.out.trans hw' (fun _ _ h => h)); have y5 : w'.cell? ⟨B, 5, none⟩ = some (.int .i64 y.fb) := cell_of_cells (hw'.keeps HA5.out (fun h => h)) 5; go_simp; (try with_reducible rfl))); (try simp only [Act.put, List.setIfInBounds_toArray, List.set_cons_zero, List.set_cons_succ]))
        first | (refine walkS_skip (some 37) rfl rfl (by rfl) (fun _ _ _ h => h) hS ?_; (try simp only [Act.put, List.setIfInBounds_toArray, List.set_cons_zero, List.set_cons_succ])) | (refine walkS_take (v := ?_) (some 37) rfl rfl (fun _ _ _ h => h) (by rfl) ?_ ?_; rotate_left; (focus (intro w' hw'; obtain ⟨c0, c1, c2, c3, c4, c5, c6, c7, c8⟩ := HC.out w' (HT5.out.trans hw' (fun _ _ h => h)); have y5 : w'.cell? ⟨B, 5, none⟩ = some (.int .i64 y.fb) := cell_of_cells (hw'.keeps HA5.out (fun h => h)) 5; go_simp; (try with_reducible rfl))); (try simp only [Act.put, List.setIfInBounds_toArray, List.set_cons_zero, List.set_cons_succ]))
        (refine walkS_take (v := ?_) (some 38) rfl rfl (fun _ _ _ h => h) (by rfl) ?_ ?_; rotate_left; (focus (intro w' hw'; obtain ⟨c0, c1, c2, c3, c4, c5, c6, c7, c8⟩ := HC.out w' (HT5.out.trans hw' (fun _ _ h => h)); have y5 : w'.cell? ⟨B, 5, none⟩ = some (.int .i64 y.fb) := cell_of_cells (hw'.keeps HA5.out (fun h => h)) 5; go_simp; (try with_reducible rfl))); (try simp only [Act.put, List.setIfInBounds_toArray, List.set_cons_zero, List.set_cons_succ]))
        (refine walkS_take (v := ?_) (some 27) rfl rfl (fun _ _ _ h => h) (by rfl) ?_ ?_; rotate_left; (focus (intro w' hw'; obtain ⟨c0, c1, c2, c3, c4, c5, c6, c7, c8⟩ := HC.out w' (HT5.out.trans hw' (fun _ _ h => h)); have y5 : w'.cell? ⟨B, 5, none⟩ = some (.int .i64 y.fb) := cell_of_cells (hw'.keeps HA5.out (fun h => h)) 5; go_simp; (try with_reducible rfl))); (try simp only [Act.put, List.setIfInBounds_toArray, List.set_cons_zero, List.set_cons_succ]))
        refine walkS_done ?_
        go_wp2_with fail
        go_ret
        exact ⟨by rw [HFN.out]; rfl, HT5.out.trans hS (fun _ _ h => h)⟩
      | true =>
        by_cases hb : y.fb = f.fb
        case pos =>
          have hbb : (y.fb == f.fb) = true := beq_iff_eq.2 hb
          have HB := Lib.hid hb
          clear hb
          go_wp2_with fail
          have hS := (Touch.refl wc (fun _ => False)).drew
          refine wp_region_sched (fun w' => Touch wc w' (fun _ => False)) [(0, true), (1, true), (2, true), (3, true), (4, true), (5, true), (6, true), (7, true), (8, true), (9, true), (10, true), (11, true)] (by kernel_rfl) (by kernel_rfl) rfl (by kernel_rfl) hS ?_
          (refine walkS_take (v := ?_) (some 28) rfl rfl (fun _ _ _ h => h) (by rfl) ?_ ?_; rotate_left; (focus (intro w' hw'; obtain ⟨c0, c1, c2, c3, c4, c5, c6, c7, c8⟩ := HC.out w' (HT5.out.trans hw' (fun _ _ h => h)); have y5 : w'.cell? ⟨B, 5, none⟩ = some (.int .i64 y.fb) := cell_of_cells (hw'.keeps HA5.out (fun h => h)) 5; go_simp; (try with_reducible rfl))); (try simp only [Act.put, List.setIfInBounds_toArray, List.set_cons_zero, List.set_cons_succ]))
          (refine walkS_take (v := ?_) (some 29) rfl rfl (fun _ _ _ h => h) (by rfl) ?_ ?_; rotate_left; (focus (intro w' hw'; obtain ⟨c0, c1, c2, c3, c4, c5, c6, c7, c8⟩ := HC.out w' (HT5.out.trans hw' (fun _ _ h => h)); have y5 : w'.cell? ⟨B, 5, none⟩ = some (.int .i64 y.fb) := cell_of_cells (hw'.keeps HA5.out (fun h => h)) 5; go_simp; (try with_reducible rfl))); (try simp only [Act.put, List.setIfInBounds_toArray, List.set_cons_zero, List.set_cons_succ]))
          first | (refine walkS_skip (some 30) rfl rfl (by rfl) (fun _ _ _ h => h) hS ?_; (try simp only [Act.put, List.setIfInBounds_toArray, List.set_cons_zero, List.set_cons_succ])) | (refine walkS_take (v := ?_) (some 30) rfl rfl (fun _ _ _ h => h) (by rfl) ?_ ?_; rotate_left; (focus (intro w' hw'; obtain ⟨c0, c1, c2, c3, c4, c5, c6, c7, c8⟩ := HC.out w' (HT5.out.trans hw' (fun _ _ h => h)); have y5 : w'.cell? ⟨B, 5, none⟩ = some (.int .i64 y.fb) := cell_of_cells (hw'.keeps HA5.out (fun h => h)) 5; go_simp; (try with_reducible rfl))); (try simp only [Act.put, List.setIfInBounds_toArray, List.set_cons_zero, List.set_cons_succ]))
          first | (refine walkS_skip (some 31) rfl rfl (by rfl) (fun _ _ _ h => h) hS ?_; (try simp only [Act.put, List.setIfInBounds_toArray, List.set_cons_zero, List.set_cons_succ])) | (refine walkS_take (v := ?_) (some 31) rfl rfl (fun _ _ _ h => h) (by rfl) ?_ ?_; rotate_left; (focus (intro w' hw'; obtain ⟨c0, c1, c2, c3, c4, c5, c6, c7, c8⟩ := HC.out w' (HT5.out.trans hw' (fun _ _ h => h)); have y5 : w'.cell? ⟨B, 5, none⟩ = some (.int .i64 y.fb) := cell_of_cells (hw'.keeps HA5.out (fun h => h)) 5; go_simp; (try with_reducible rfl))); (try simp only [Act.put, List.setIfInBounds_toArray, List.set_cons_zero, List.set_cons_succ]))
          first | (refine walkS_skip (some 32) rfl rfl (by rfl) (fun _ _ _ h => h) hS ?_; (try simp only [Act.put, List.setIfInBounds_toArray, List.set_cons_zero, List.set_cons_succ])) | (refine walkS_take (v := ?_) (some 32) rfl rfl (fun _ _ _ h => h) (by rfl) ?_ ?_; rotate_left; (focus (intro w' hw'; obtain ⟨c0, c1, c2, c3, c4, c5, c6, c7, c8⟩ := HC.out w' (HT5.out.trans hw' (fun _ _ h => h)); have y5 : w'.cell? ⟨B, 5, none⟩ = some (.int .i64 y.fb) := cell_of_cells (hw'.keeps HA5.out (fun h => h)) 5; go_simp; (try with_reducible rfl))); (try simp only [Act.put, List.setIfInBounds_toArray, List.set_cons_zero, List.set_cons_succ]))
          first | (refine walkS_skip (some 33) rfl rfl (by rfl) (fun _ _ _ h => h) hS ?_; (try simp only [Act.put, List.setIfInBounds_toArray, List.set_cons_zero, List.set_cons_succ])) | (refine walkS_take (v := ?_) (some 33) rfl rfl (fun _ _ _ h => h) (by rfl) ?_ ?_; rotate_left; (focus (intro w' hw'; obtain ⟨c0, c1, c2, c3, c4, c5, c6, c7, c8⟩ := HC.out w' (HT5.out.trans hw' (fun _ _ h => h)); have y5 : w'.cell? ⟨B, 5, none⟩ = some (.int .i64 y.fb) := cell_of_cells (hw'.keeps HA5.out (fun h => h)) 5; go_simp; (try with_reducible rfl))); (try simp only [Act.put, List.setIfInBounds_toArray, List.set_cons_zero, List.set_cons_succ]))
          first | (refine walkS_skip (some 34) rfl rfl (by rfl) (fun _ _ _ h => h) hS ?_; (try simp only [Act.put, List.setIfInBounds_toArray, List.set_cons_zero, List.set_cons_succ])) | (refine walkS_take (v := ?_) (some 34) rfl rfl (fun _ _ _ h => h) (by rfl) ?_ ?_; rotate_left; (focus (intro w' hw'; obtain ⟨c0, c1, c2, c3, c4, c5, c6, c7, c8⟩ := HC.out w' (HT5.out.trans hw' (fun _ _ h => h)); have y5 : w'.cell? ⟨B, 5, none⟩ = some (.int .i64 y.fb) := cell_of_cells (hw'.keeps HA5.out (fun h => h)) 5; go_simp; (try with_reducible rfl))); (try simp only [Act.put, List.setIfInBounds_toArray, List.set_cons_zero, List.set_cons_succ]))
          first | (refine walkS_skip (some 35) rfl rfl (by rfl) (fun _ _ _ h => h) hS ?_; (try simp only [Act.put, List.setIfInBounds_toArray, List.set_cons_zero, List.set_cons_succ])) | (refine walkS_take (v := ?_) (some 35) rfl rfl (fun _ _ _ h => h) (by rfl) ?_ ?_; rotate_left; (focus (intro w' hw'; obtain ⟨c0, c1, c2, c3, c4, c5, c6, c7, c8⟩ := HC.out w' (HT5.out.trans hw' (fun _ _ h => h)); have y5 : w'.cell? ⟨B, 5, none⟩ = some (.int .i64 y.fb) := cell_of_cells (hw'.keeps HA5.out (fun h => h)) 5; go_simp; (try with_reducible rfl))); (try simp only [Act.put, List.setIfInBounds_toArray, List.set_cons_zero, List.set_cons_succ]))
          first | (refine walkS_skip (some 36) rfl rfl (by rfl) (fun _ _ _ h => h) hS ?_; (try simp only [Act.put, List.setIfInBounds_toArray, List.set_cons_zero, List.set_cons_succ])) | (refine walkS_take (v := ?_) (some 36) rfl rfl (fun _ _ _ h => h) (by rfl) ?_ ?_; rotate_left; (focus (intro w' hw'; obtain ⟨c0, c1, c2, c3, c4, c5, c6, c7, c8⟩ := HC.out w' (HT5.out.trans hw' (fun _ _ h => h)); have y5 : w'.cell? ⟨B, 5, none⟩ = some (.int .i64 y.fb) := cell_of_cells (hw'.keeps HA5.out (fun h => h)) 5; go_simp; (try with_reducible rfl))); (try simp only [Act.put, List.setIfInBounds_toArray, List.set_cons_zero, List.set_cons_succ]))
          first | (refine walkS_skip (some 37) rfl rfl (by rfl) (fun _ _ _ h => h) hS ?_; (try simp only [Act.put, List.setIfInBounds_toArray, List.set_cons_zero, List.set_cons_succ])) | (refine walkS_take (v := ?_) (some 37) rfl rfl (fun _ _ _ h => h) (by rfl) ?_ ?_; rotate_left; (focus (intro w' hw'; obtain ⟨c0, c1, c2, c3, c4, c5, c6, c7, c8⟩ := HC.out w' (HT5.out.trans hw' (fun _ _ h => h)); have y5 : w'.cell? ⟨B, 5, none⟩ = some (.int .i64 y.fb) := cell_of_cells (hw'.keeps HA5.out (fun h => h)) 5; go_simp; (try with_reducible rfl))); (try simp only [Act.put, List.setIfInBounds_toArray, List.set_cons_zero, List.set_cons_succ]))
          (refine walkS_take (v := ?_) (some 38) rfl rfl (fun _ _ _ h => h) (by rfl) ?_ ?_; rotate_left; (focus (intro w' hw'; obtain ⟨c0, c1, c2, c3, c4, c5, c6, c7, c8⟩ := HC.out w' (HT5.out.trans hw' (fun _ _ h => h)); have y5 : w'.cell? ⟨B, 5, none⟩ = some (.int .i64 y.fb) := cell_of_cells (hw'.keeps HA5.out (fun h => h)) 5; go_simp; (try with_reducible rfl))); (try simp only [Act.put, List.setIfInBounds_toArray, List.set_cons_zero, List.set_cons_succ]))
          (refine walkS_take (v := ?_) (some 27) rfl rfl (fun _ _ _ h => h) (by rfl) ?_ ?_; rotate_left; (focus (intro w' hw'; obtain ⟨c0, c1, c2, c3, c4, c5, c6, c7, c8⟩ := HC.out w' (HT5.out.trans hw' (fun _ _ h => h)); have y5 : w'.cell? ⟨B, 5, none⟩ = some (.int .i64 y.fb) := cell_of_cells (hw'.keeps HA5.out (fun h => h)) 5; go_simp; (try with_reducible rfl))); (try simp only [Act.put, List.setIfInBounds_toArray, List.set_cons_zero, List.set_cons_succ]))
          refine walkS_done ?_
          go_wp2_with fail
          go_ret
          exact ⟨by rw [HFN.out, decide_eq_true HB.out]; rfl, HT5.out.trans hS (fun _ _ h => h)⟩
        case neg =>
          have hbb : (y.fb == f.fb) = false := beq_eq_false_iff_ne.2 hb
          have HB := Lib.hid hb
          clear hb
          go_wp2_with fail
          have hS := (Touch.refl wc (fun _ => False)).drew
          refine wp_region_sched (fun w' => Touch wc w' (fun _ => False)) [(0, true), (1, true), (2, true), (3, true), (4, true), (5, true), (6, true), (7, true), (8, true), (9, true), (10, true), (11, true)] (by kernel_rfl) (by kernel_rfl) rfl (by kernel_rfl) hS ?_
          (refine walkS_take (v := ?_) (some 28) rfl rfl (fun _ _ _ h => h) (by rfl) ?_ ?_; rotate_left; (focus (intro w' hw'; obtain ⟨c0, c1, c2, c3, c4, c5, c6, c7, c8⟩ := HC.out w' (HT5.out.trans hw' (fun _ _ h => h)); have y5 : w'.cell? ⟨B, 5, none⟩ = some (.int .i64 y.fb) := cell_of_cells (hw'.keeps HA5.out (fun h => h)) 5; go_simp; (try with_reducible rfl))); (try simp only [Act.put, List.setIfInBounds_toArray, List.set_cons_zero, List.set_cons_succ]))
          (refine walkS_take (v := ?_) (some 29) rfl rfl (fun _ _ _ h => h) (by rfl) ?_ ?_; rotate_left; (focus (intro w' hw'; obtain ⟨c0, c1, c2, c3, c4, c5, c6, c7, c8⟩ := HC.out w' (HT5.out.trans hw' (fun _ _ h => h)); have y5 : w'.cell? ⟨B, 5, none⟩ = some (.int .i64 y.fb) := cell_of_cells (hw'.keeps HA5.out (fun h => h)) 5; go_simp; (try with_reducible rfl))); (try simp only [Act.put, List.setIfInBounds_toArray, List.set_cons_zero, List.set_cons_succ]))
          first | (refine walkS_skip (some 30) rfl rfl (by rfl) (fun _ _ _ h => h) hS ?_; (try simp only [Act.put, List.setIfInBounds_toArray, List.set_cons_zero, List.set_cons_succ])) | (refine walkS_take (v := ?_) (some 30) rfl rfl (fun _ _ _ h => h) (by rfl) ?_ ?_; rotate_left; (focus (intro w' hw'; obtain ⟨c0, c1, c2, c3, c4, c5, c6, c7, c8⟩ := HC.out w' (HT5.out.trans hw' (fun _ _ h => h)); have y5 : w'.cell? ⟨B, 5, none⟩ = some (.int .i64 y.fb) := cell_of_cells (hw'.keeps HA5.out (fun h => h)) 5; go_simp; (try with_reducible rfl))); (try simp only [Act.put, List.setIfInBounds_toArray, List.set_cons_zero, List.set_cons_succ]))
          first | (refine walkS_skip (some 31) rfl rfl (by rfl) (fun _ _ _ h => h) hS ?_; (try simp only [Act.put, List.setIfInBounds_toArray, List.set_cons_zero, List.set_cons_succ])) | (refine walkS_take (v := ?_) (some 31) rfl rfl (fun _ _ _ h => h) (by rfl) ?_ ?_; rotate_left; (focus (intro w' hw'; obtain ⟨c0, c1, c2, c3, c4, c5, c6, c7, c8⟩ := HC.out w' (HT5.out.trans hw' (fun _ _ h => h)); have y5 : w'.cell? ⟨B, 5, none⟩ = some (.int .i64 y.fb) := cell_of_cells (hw'.keeps HA5.out (fun h => h)) 5; go_simp; (try with_reducible rfl))); (try simp only [Act.put, List.setIfInBounds_toArray, List.set_cons_zero, List.set_cons_succ]))
          first | (refine walkS_skip (some 32) rfl rfl (by rfl) (fun _ _ _ h => h) hS ?_; (try simp only [Act.put, List.setIfInBounds_toArray, List.set_cons_zero, List.set_cons_succ])) | (refine walkS_take (v := ?_) (some 32) rfl rfl (fun _ _ _ h => h) (by rfl) ?_ ?_; rotate_left; (focus (intro w' hw'; obtain ⟨c0, c1, c2, c3, c4, c5, c6, c7, c8⟩ := HC.out w' (HT5.out.trans hw' (fun _ _ h => h)); have y5 : w'.cell? ⟨B, 5, none⟩ = some (.int .i64 y.fb) := cell_of_cells (hw'.keeps HA5.out (fun h => h)) 5; go_simp; (try with_reducible rfl))); (try simp only [Act.put, List.setIfInBounds_toArray, List.set_cons_zero, List.set_cons_succ]))
          first | (refine walkS_skip (some 33) rfl rfl (by rfl) (fun _ _ _ h => h) hS ?_; (try simp only [Act.put, List.setIfInBounds_toArray, List.set_cons_zero, List.set_cons_succ])) | (refine walkS_take (v := ?_) (some 33) rfl rfl (fun _ _ _ h => h) (by rfl) ?_ ?_; rotate_left; (focus (intro w' hw'; obtain ⟨c0, c1, c2, c3, c4, c5, c6, c7, c8⟩ := HC.out w' (HT5.out.trans hw' (fun _ _ h => h)); have y5 : w'.cell? ⟨B, 5, none⟩ = some (.int .i64 y.fb) := cell_of_cells (hw'.keeps HA5.out (fun h => h)) 5; go_simp; (try with_reducible rfl))); (try simp only [Act.put, List.setIfInBounds_toArray, List.set_cons_zero, List.set_cons_succ]))
          first | (refine walkS_skip (some 34) rfl rfl (by rfl) (fun _ _ _ h => h) hS ?_; (try simp only [Act.put, List.setIfInBounds_toArray, List.set_cons_zero, List.set_cons_succ])) | (refine walkS_take (v := ?_) (some 34) rfl rfl (fun _ _ _ h => h) (by rfl) ?_ ?_; rotate_left; (focus (intro w' hw'; obtain ⟨c0, c1, c2, c3, c4, c5, c6, c7, c8⟩ := HC.out w' (HT5.out.trans hw' (fun _ _ h => h)); have y5 : w'.cell? ⟨B, 5, none⟩ = some (.int .i64 y.fb) := cell_of_cells (hw'.keeps HA5.out (fun h => h)) 5; go_simp; (try with_reducible rfl))); (try simp only [Act.put, List.setIfInBounds_toArray, List.set_cons_zero, List.set_cons_succ]))
          first | (refine walkS_skip (some 35) rfl rfl (by rfl) (fun _ _ _ h => h) hS ?_; (try simp only [Act.put, List.setIfInBounds_toArray, List.set_cons_zero, List.set_cons_succ])) | (refine walkS_take (v := ?_) (some 35) rfl rfl (fun _ _ _ h => h) (by rfl) ?_ ?_; rotate_left; (focus (intro w' hw'; obtain ⟨c0, c1, c2, c3, c4, c5, c6, c7, c8⟩ := HC.out w' (HT5.out.trans hw' (fun _ _ h => h)); have y5 : w'.cell? ⟨B, 5, none⟩ = some (.int .i64 y.fb) := cell_of_cells (hw'.keeps HA5.out (fun h => h)) 5; go_simp; (try with_reducible rfl))); (try simp only [Act.put, List.setIfInBounds_toArray, List.set_cons_zero, List.set_cons_succ]))
          first | (refine walkS_skip (some 36) rfl rfl (by rfl) (fun _ _ _ h => h) hS ?_; (try simp only [Act.put, List.setIfInBounds_toArray, List.set_cons_zero, List.set_cons_succ])) | (refine walkS_take (v := ?_) (some 36) rfl rfl (fun _ _ _ h => h) (by rfl) ?_ ?_; rotate_left; (focus (intro w' hw'; obtain ⟨c0, c1, c2, c3, c4, c5, c6, c7, c8⟩ := HC.out w' (HT5.out.trans hw' (fun _ _ h => h)); have y5 : w'.cell? ⟨B, 5, none⟩ = some (.int .i64 y.fb) := cell_of_cells (hw'.keeps HA5.out (fun h => h)) 5; go_simp; (try with_reducible rfl))); (try simp only [Act.put, List.setIfInBounds_toArray, List.set_cons_zero, List.set_cons_succ]))
          first | (refine walkS_skip (some 37) rfl rfl (by rfl) (fun _ _ _ h => h) hS ?_; (try simp only [Act.put, List.setIfInBounds_toArray, List.set_cons_zero, List.set_cons_succ])) | (refine walkS_take (v := ?_) (some 37) rfl rfl (fun _ _ _ h => h) (by rfl) ?_ ?_; rotate_left; (focus (intro w' hw'; obtain ⟨c0, c1, c2, c3, c4, c5, c6, c7, c8⟩ := HC.out w' (HT5.out.trans hw' (fun _ _ h => h)); have y5 : w'.cell? ⟨B, 5, none⟩ = some (.int .i64 y.fb) := cell_of_cells (hw'.keeps HA5.out (fun h => h)) 5; go_simp; (try with_reducible rfl))); (try simp only [Act.put, List.setIfInBounds_toArray, List.set_cons_zero, List.set_cons_succ]))
          (refine walkS_take (v := ?_) (some 38) rfl rfl (fun _ _ _ h => h) (by rfl) ?_ ?_; rotate_left; (focus (intro w' hw'; obtain ⟨c0, c1, c2, c3, c4, c5, c6, c7, c8⟩ := HC.out w' (HT5.out.trans hw' (fun _ _ h => h)); have y5 : w'.cell? ⟨B, 5, none⟩ = some (.int .i64 y.fb) := cell_of_cells (hw'.keeps HA5.out (fun h => h)) 5; go_simp; (try with_reducible rfl))); (try simp only [Act.put, List.setIfInBounds_toArray, List.set_cons_zero, List.set_cons_succ]))
          (refine walkS_take (v := ?_) (some 27) rfl rfl (fun _ _ _ h => h) (by rfl) ?_ ?_; rotate_left; (focus (intro w' hw'; obtain ⟨c0, c1, c2, c3, c4, c5, c6, c7, c8⟩ := HC.out w' (HT5.out.trans hw' (fun _ _ h => h)); have y5 : w'.cell? ⟨B, 5, none⟩ = some (.int .i64 y.fb) := cell_of_cells (hw'.keeps HA5.out (fun h => h)) 5; go_simp; (try with_reducible rfl))); (try simp only [Act.put, List.setIfInBounds_toArray, List.set_cons_zero, List.set_cons_succ]))
          refine walkS_done ?_
          go_wp2_with fail
          go_ret
          exact ⟨by rw [HFN.out, decide_eq_false HB.out]; rfl, HT5.out.trans hS (fun _ _ h => h)⟩
end Go.Proofs.YtpjdcgjoepjmcaaGreat
