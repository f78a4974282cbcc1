/- A copy of a state. -/
import Derived.Test.YtdhimlkndpiacaaStRecZ
import Derived.Test.YtdhimlkndpiacaaIterC
set_option linter.unusedVariables false
set_option linter.unusedSimpArgs false
namespace Go.Proofs.Ytdhimlkndpiacaa
open Go.RowKit

theorem mcloneD_any (w : World) (mb : Nat) (M : List DR) (o : OwnZ w 3 2 mb M) :
    Calls Try.prog 33 #[.map (some mb)] w fun e w' => e = .returned (.map (some w.heap.size)) ∧ OwnZ w' 3 2 w.heap.size M ∧ Touch w w' (fun _ => False) ∧ w.heap.size < w'.heap.size := by
  obtain ⟨hn, D, hD, hP⟩ := o
  have hc : Calls Try.prog 33 #[.map (some mb)] w _ := Go.Proofs.AnyW.maps_Clone_owns Try.mclone1 _ _ mb M.length D w hD
  refine hc.mono ?_
  rintro e w' ⟨rfl, h1, -, hb⟩
  exact ⟨rfl, ⟨hn, D, h1, hP⟩, Touch.ofBelow hb (fun k hk hlt => by omega), h1.lt⟩
theorem mcloneFl_any (w : World) (mb : Nat) (M : List FlD) (o : OwnFl w mb M) :
    Calls Try.prog 34 #[.map (some mb)] w fun e w' => e = .returned (.map (some w.heap.size)) ∧ OwnFl w' w.heap.size M ∧ Touch w w' (fun _ => False) ∧ w.heap.size < w'.heap.size := by
  obtain ⟨hn, D, hD, hP⟩ := o
  have hc : Calls Try.prog 34 #[.map (some mb)] w _ := Go.Proofs.AnyW.maps_Clone_owns Try.mclone2 _ _ mb M.length D w hD
  refine hc.mono ?_
  rintro e w' ⟨rfl, h1, -, hb⟩
  exact ⟨rfl, ⟨hn, D, h1, hP⟩, Touch.ofBelow hb (fun k hk hlt => by omega), h1.lt⟩
theorem enter_mcloneD (a : Value) (w : World) : (callFunc 33 #[a]).run Try.prog w = .ok (.enter 33 #[a]) w := by kernel_rfl
theorem enter_mcloneFl (a : Value) (w : World) : (callFunc 34 #[a]).run Try.prog w = .ok (.enter 34 #[a]) w := by kernel_rfl
set_option maxRecDepth 20000 in
set_option maxHeartbeats 8000000 in
theorem stcopy_any (w : World) (b : Nat) (h : StH) (s : StS) (m : StM w b h s) :
    Calls Try.prog 13 #[.pointer (some ⟨b, 0, none⟩)] w fun e w' => ∃ b' h', e = .returned (.pointer (some ⟨b', 0, none⟩)) ∧ StN w w' b' h' s := by
  have HM := Lib.hid m
  have HCC : RowKit.Hid (∀ W, Touch w W (fun _ => False) → W.cell? ⟨b, 0, none⟩ = some (.int .i64 s.gen) ∧ W.cell? ⟨b, 1, none⟩ = some (.slice h.ba s.bs.length h.bc) ∧ W.cell? ⟨b, 2, none⟩ = some (.map (some h.dm)) ∧ W.cell? ⟨b, 3, none⟩ = some (.map (some h.fm))) := Lib.hid (fun W t => (HM.out.still t).cells)
  have HBK : RowKit.Hid (∀ W, Touch w W (fun _ => False) → RowK W h.ba s.bs.length h.bc s.bs) := Lib.hid (fun W t => (HM.out.still t).bk)
  have HBL : RowKit.Hid (s.bs.length ≤ 100000) := Lib.hid (by have := ((gmay_iff _).1 m.ok.bs).1; omega)
  clear m
  go_enter Try.func13, Try.ntmps13
  go_wp2_with fail
  have hS := (Touch.refl w (fun _ => False)).drew
  refine wp_region_tree (fun w' => Touch w w' (fun _ => False)) (.take 0 (.take 1 (.take 2 (.take 3 (.take 4 (.take 5 (.take 6 (.take 7 (.take 9 (.take 10 (.take 11 (.take 12 (.take 14 (.take 15 (.take 16 (.take 17 (.one 8 (.one 13 (.one 18 (.take 19 (.one 20 (.take 21 .fin)))))))))))))))))))))) (by kernel_rfl) (by kernel_rfl) (by kernel_rfl) (by kernel_rfl) hS ?_
  refine walkT_take ?_
  (refine takeN_take (v := ?_) (some 5) rfl rfl (fun _ _ _ h => h) (by rfl) ?_ ?_; rotate_left; (focus (intro w' hw'; obtain ⟨y0, y1, y2, y3⟩ := HCC.out w' hw'; go_simp; (try with_reducible rfl))); (try simp only [Act.put, List.setIfInBounds_toArray, List.set_cons_zero, List.set_cons_succ]))
  refine walkT_take ?_
  (refine takeN_take (v := ?_) (some 6) rfl rfl (fun _ _ _ h => h) (by rfl) ?_ ?_; rotate_left; (focus (intro w' hw'; obtain ⟨y0, y1, y2, y3⟩ := HCC.out w' hw'; go_simp; (try with_reducible rfl))); (try simp only [Act.put, List.setIfInBounds_toArray, List.set_cons_zero, List.set_cons_succ]))
  refine walkT_take ?_
  (refine takeN_take (v := ?_) (some 7) rfl rfl (fun _ _ _ h => h) (by rfl) ?_ ?_; rotate_left; (focus (intro w' hw'; obtain ⟨y0, y1, y2, y3⟩ := HCC.out w' hw'; go_simp; (try with_reducible rfl))); (try simp only [Act.put, List.setIfInBounds_toArray, List.set_cons_zero, List.set_cons_succ]))
  refine walkT_take ?_
  (refine takeN_take (v := ?_) (some 8) rfl rfl (fun _ _ _ h => h) (by rfl) ?_ ?_; rotate_left; (focus (intro w' hw'; obtain ⟨y0, y1, y2, y3⟩ := HCC.out w' hw'; go_simp; (try with_reducible rfl))); (try simp only [Act.put, List.setIfInBounds_toArray, List.set_cons_zero, List.set_cons_succ]))
  refine walkT_take ?_
  (refine takeN_take (v := ?_) (some 9) rfl rfl (fun _ _ _ h => h) (by rfl) ?_ ?_; rotate_left; (focus (intro w' hw'; obtain ⟨y0, y1, y2, y3⟩ := HCC.out w' hw'; go_simp; (try with_reducible rfl))); (try simp only [Act.put, List.setIfInBounds_toArray, List.set_cons_zero, List.set_cons_succ]))
  refine walkT_take ?_
  (refine takeN_take (v := ?_) (some 10) rfl rfl (fun _ _ _ h => h) (by rfl) ?_ ?_; rotate_left; (focus (intro w' hw'; obtain ⟨y0, y1, y2, y3⟩ := HCC.out w' hw'; go_simp; (try with_reducible rfl))); (try simp only [Act.put, List.setIfInBounds_toArray, List.set_cons_zero, List.set_cons_succ]))
  refine walkT_take ?_
  (refine takeN_take (v := ?_) (some 11) rfl rfl (fun _ _ _ h => h) (by rfl) ?_ ?_; rotate_left; (focus (intro w' hw'; obtain ⟨y0, y1, y2, y3⟩ := HCC.out w' hw'; go_simp; (try with_reducible rfl))); (try simp only [Act.put, List.setIfInBounds_toArray, List.set_cons_zero, List.set_cons_succ]))
  refine walkT_take ?_
  (refine takeN_take (v := ?_) (some 12) rfl rfl (fun _ _ _ h => h) (by rfl) ?_ ?_; rotate_left; (focus (intro w' hw'; obtain ⟨y0, y1, y2, y3⟩ := HCC.out w' hw'; go_simp; (try with_reducible rfl))); (try simp only [Act.put, List.setIfInBounds_toArray, List.set_cons_zero, List.set_cons_succ]))
  refine walkT_take ?_
  (refine takeN_take (v := ?_) (some 14) rfl rfl (fun _ _ _ h => h) (by rfl) ?_ ?_; rotate_left; (focus (intro w' hw'; obtain ⟨y0, y1, y2, y3⟩ := HCC.out w' hw'; go_simp; (try with_reducible rfl))); (try simp only [Act.put, List.setIfInBounds_toArray, List.set_cons_zero, List.set_cons_succ]))
  refine walkT_take ?_
  (refine takeN_take (v := ?_) (some 15) rfl rfl (fun _ _ _ h => h) (by rfl) ?_ ?_; rotate_left; (focus (intro w' hw'; obtain ⟨y0, y1, y2, y3⟩ := HCC.out w' hw'; go_simp; (try with_reducible rfl))); (try simp only [Act.put, List.setIfInBounds_toArray, List.set_cons_zero, List.set_cons_succ]))
  refine walkT_take ?_
  (refine takeN_take (v := ?_) (some 16) rfl rfl (fun _ _ _ h => h) (by rfl) ?_ ?_; rotate_left; (focus (intro w' hw'; obtain ⟨y0, y1, y2, y3⟩ := HCC.out w' hw'; go_simp; (try with_reducible rfl))); (try simp only [Act.put, List.setIfInBounds_toArray, List.set_cons_zero, List.set_cons_succ]))
  refine walkT_take ?_
  (refine takeN_take (v := ?_) (some 17) rfl rfl (fun _ _ _ h => h) (by rfl) ?_ ?_; rotate_left; (focus (intro w' hw'; obtain ⟨y0, y1, y2, y3⟩ := HCC.out w' hw'; go_simp; (try with_reducible rfl))); (try simp only [Act.put, List.setIfInBounds_toArray, List.set_cons_zero, List.set_cons_succ]))
  refine walkT_take ?_
  (refine takeN_take (v := ?_) (some 19) rfl rfl (fun _ _ _ h => h) (by rfl) ?_ ?_; rotate_left; (focus (intro w' hw'; obtain ⟨y0, y1, y2, y3⟩ := HCC.out w' hw'; go_simp; (try with_reducible rfl))); (try simp only [Act.put, List.setIfInBounds_toArray, List.set_cons_zero, List.set_cons_succ]))
  refine walkT_take ?_
  (refine takeN_take (v := ?_) (some 20) rfl rfl (fun _ _ _ h => h) (by rfl) ?_ ?_; rotate_left; (focus (intro w' hw'; obtain ⟨y0, y1, y2, y3⟩ := HCC.out w' hw'; go_simp; (try with_reducible rfl))); (try simp only [Act.put, List.setIfInBounds_toArray, List.set_cons_zero, List.set_cons_succ]))
  refine walkT_take ?_
  (refine takeN_take (v := ?_) (some 21) rfl rfl (fun _ _ _ h => h) (by rfl) ?_ ?_; rotate_left; (focus (intro w' hw'; obtain ⟨y0, y1, y2, y3⟩ := HCC.out w' hw'; go_simp; (try with_reducible rfl))); (try simp only [Act.put, List.setIfInBounds_toArray, List.set_cons_zero, List.set_cons_succ]))
  refine walkT_take ?_
  (refine takeN_take (v := ?_) (some 22) rfl rfl (fun _ _ _ h => h) (by rfl) ?_ ?_; rotate_left; (focus (intro w' hw'; obtain ⟨y0, y1, y2, y3⟩ := HCC.out w' hw'; go_simp; (try with_reducible rfl))); (try simp only [Act.put, List.setIfInBounds_toArray, List.set_cons_zero, List.set_cons_succ]))
  refine walkT_one ?_
  (refine runN_call 13 _ _ _ _ (cloneK_any h.ba s.bs.length h.bc s.bs _ (HBK.out _ hS) HBL.out) rfl rfl rfl (by rfl) rfl (enter_cloneS _ _) ?_; rintro e w2 ⟨a1, c1, rfl, o2, t2⟩; have HA := Lib.hid o2.row.2; have hS := hS.trans t2 (fun _ _ h => h); refine ⟨_, rfl, hS, fun hS => ?_⟩; clear o2 t2; (try simp only [Act.put, List.setIfInBounds_toArray, List.set_cons_zero, List.set_cons_succ]))
  refine walkT_one ?_
  (refine runN_call 18 _ _ _ _ (mcloneD_any _ h.dm s.D (HM.out.still hS).dr) rfl rfl rfl (by rfl) rfl (enter_mcloneD _ _) ?_; rintro e w3 ⟨rfl, o3, t3, z3⟩; have HD := Lib.hid o3; have HT3 := Lib.hid t3; have HZ3 := Lib.hid (And.intro hS.size z3); have hS := hS.trans t3 (fun _ _ h => h); refine ⟨_, rfl, hS, fun hS => ?_⟩; clear o3 t3 z3; (try simp only [Act.put, List.setIfInBounds_toArray, List.set_cons_zero, List.set_cons_succ]))
  refine walkT_one ?_
  (refine runN_call 23 _ _ _ _ (mcloneFl_any _ h.fm s.F (HM.out.still hS).fl) rfl rfl rfl (by rfl) rfl (enter_mcloneFl _ _) ?_; rintro e w4 ⟨rfl, o4, t4, z4⟩; have HF := Lib.hid o4; have HT4 := Lib.hid t4; have HZ4 := Lib.hid z4; have hS := hS.trans t4 (fun _ _ h => h); refine ⟨_, rfl, hS, fun hS => ?_⟩; clear o4 t4 z4; (try simp only [Act.put, List.setIfInBounds_toArray, List.set_cons_zero, List.set_cons_succ]))
  refine walkT_take ?_
  (refine takeN_take (v := ?_) (some 24) rfl rfl (fun _ _ _ h => h) (by rfl) ?_ ?_; rotate_left; (focus (intro w' hw'; obtain ⟨y0, y1, y2, y3⟩ := HCC.out w' hw'; go_simp; (try with_reducible rfl))); (try simp only [Act.put, List.setIfInBounds_toArray, List.set_cons_zero, List.set_cons_succ]))
  refine walkT_one ?_
  (refine runN_new 25 (fun W => .pointer (some ⟨W.heap.size, 0, none⟩)) #[.int .i64 s.gen, .slice a1 s.bs.length c1, .map (some w2.heap.size), .map (some w3.heap.size)] 61 rfl rfl (by rfl) (by intro W; go_simp <;> first | with_reducible rfl | rfl | exact ⟨rfl, rfl⟩) ?_; intro w5 hw5 hM5 hs5 t5; have HM5 := Lib.hid hM5; have HT5 := Lib.hid t5; have hS := hS.trans t5 (fun _ _ h => h.elim); refine ⟨hS, fun _ => ?_⟩; clear hw5 hM5 hs5 t5; (try simp only [Act.put, List.setIfInBounds_toArray, List.set_cons_zero, List.set_cons_succ]))
  refine walkT_take ?_
  (refine takeN_take (v := ?_) (some 2) rfl rfl (fun _ _ _ h => h) (by rfl) ?_ ?_; rotate_left; (focus (intro w' hw'; obtain ⟨y0, y1, y2, y3⟩ := HCC.out w' hw'; go_simp; (try with_reducible rfl))); (try simp only [Act.put, List.setIfInBounds_toArray, List.set_cons_zero, List.set_cons_succ]))
  refine walkT_fin ?_
  have HN : RowKit.Hid (StN w w5 w4.heap.size ⟨w2.heap.size, w3.heap.size, a1, c1⟩ s) := Lib.hid (by
    have z2 := HZ3.out.1
    have z3 := HZ3.out.2
    have z4 := HZ4.out
    have t35 := HT4.out.trans HT5.out (fun _ _ h => h)
    have t25 := HT3.out.trans t35 (fun _ _ h => h)
    refine ⟨⟨HM5.out, HD.out.still t35, HF.out.still HT5.out, HA.out.1.still t25, fun x hx => .inr ?_, ⟨show w4.heap.size ≠ w2.heap.size by omega, show w4.heap.size ≠ w3.heap.size by omega, show w2.heap.size ≠ w3.heap.size by omega⟩, HM.out.ok⟩, hS, ?_⟩
    · have := (HA.out.2 x hx).2
      exact ⟨show x.block ≠ w4.heap.size by omega, show x.block ≠ w2.heap.size by omega, show x.block ≠ w3.heap.size by omega⟩
    · rintro k (rfl | rfl | rfl)
      · exact Nat.le_trans z2 (by omega)
      · exact z2
      · exact Nat.le_trans z2 (show w2.heap.size ≤ w3.heap.size by omega))
  go_wp2_with fail
  go_ret
  exact ⟨_, _, rfl, HN.out⟩

end Go.Proofs.Ytdhimlkndpiacaa
