/- A change of names is done, and kept till it is sure. -/
import Derived.Test.YtmokcfmlolohaaaDskTagZ
set_option linter.unusedVariables false
set_option linter.unusedSimpArgs false
namespace Go.Proofs.Ytmokcfmlolohaaa
open Go.RowKit

theorem map_someN (m : Nat) (w : World) : (binOp BinOp.eql 62 (.map (some m)) (.map none)).run Try.prog w = .ok (.bool false) w := by kernel_rfl
theorem row_oneC (w : World) (c : DkCh) : RowS (w.alloc (.cells (dka c) 88)) (some ⟨w.heap.size, 0, none⟩) 1 1 4 [dkl c] :=
  ((OwnS.lit w w.heap.size (Nat.le_refl _) 88 4 1 [dkl c] (dka c) rfl rfl (by simp [dkl]) (by omega)).row').2.1
theorem one_dkl (c : DkCh) : ∀ l ∈ [dkl c], ∀ u ∈ l, u.oneCell' = true := by
  intro l hl u hu
  rw [List.mem_singleton.1 hl] at hu
  unfold dkl pvN at hu
  simp only [List.mem_cons, List.not_mem_nil, or_false] at hu
  rcases hu with rfl | rfl | rfl | rfl <;> rfl
theorem enter_dchange (a b : Value) (w : World) : (callFunc 56 #[a, b]).run Try.prog w = .ok (.enter 56 #[a, b]) w := by kernel_rfl
set_option maxRecDepth 20000 in
set_option maxHeartbeats 8000000 in
theorem dchange_any (w : World) (d : Nat) (h : DkH) (st : DkS) (m : DkM w d h st) (c : DkCh) (hl : st.C.length ≤ 100000) (hk : c.k = 0 ∨ c.k = 1 ∨ c.k = 2) (hs : szN c.n ∧ szN c.tn) (hg : DkGood h.T (dkDo st.N c)) :
    Calls Try.prog 56 #[.pointer (some ⟨d, 0, none⟩), .agg (dka c)] w fun e w' => e = .returned (.tuple #[]) ∧ DkStep w w' d h { st with C := st.C ++ [c] } := by
  obtain ⟨W1, hW1⟩ : ∃ W, w.alloc (.cells (dka c) 88) = W := ⟨_, rfl⟩
  have t1 : Touch w W1 (fun _ => False) := hW1 ▸ (Touch.refl w _).alloc _
  have g1 : W1.heap[w.heap.size]? = some (.cells (dka c) 88 (0, 0)) := hW1 ▸ heap_alloc_new ..
  have m1 := m.still t1
  obtain ⟨c0, c1, -, -, -, -⟩ := m1.cells
  obtain ⟨B1, hB1⟩ : ∃ B, w.heap.size = B := ⟨_, rfl⟩
  rw [hB1] at g1
  have hbm := map_someN h.mn W1
  have hBf : ∀ k, footK h k → k ≠ B1 := fun k hk e => by have := m.lt k hk; omega
  have hmnB : h.mn ≠ B1 := hBf _ (by unfold footK; rw [m.tn]; simp)
  have hdB : d ≠ B1 := hBf _ (by unfold footK; rw [m.td]; simp)
  have hdm : d ≠ h.mn := fun e => by have h1 := m.td; rw [e, m.tn] at h1; cases h1
  have hdc : ¬ (Value.slice h.ac st.C.length h.cc).ownBlock = some d := fun e => by
    obtain ⟨x, hx, hxd⟩ := bown_block e
    have h1 := m.tc x hx
    rw [hxd, m.td] at h1; cases h1
  have hcm : ¬ (Value.slice h.ac st.C.length h.cc).ownBlock = some h.mn := fun e => by
    obtain ⟨x, hx, hxd⟩ := bown_block e
    have h1 := m.tc x hx
    rw [hxd, m.tn] at h1; cases h1
  have hcB : ¬ (Value.slice h.ac st.C.length h.cc).ownBlock = some B1 := fun e => by
    obtain ⟨x, hx, hxd⟩ := bown_block e
    exact hBf _ (by unfold footK; rw [m.tc x hx]; simp) hxd
  have HB1S : RowKit.Hid (∀ W, Touch W1 W (fun k => k = h.mn) → W.heap[B1]? = some (.cells (dka c) 88 (0, 0))) := Lib.hid (fun W t => t.keeps g1 (fun e => hmnB e.symm))
  have HC1 : RowKit.Hid (∀ W, Touch W1 W (fun k => k = h.mn) → W.cell? ⟨d, 1, none⟩ = some (.map (some h.mn))) := Lib.hid (fun W t => cell_of_cells (t.keeps m1.head hdm) 1)
  have HM := Lib.hid m
  have HM1 := Lib.hid m1
  have HNM := Lib.hid m1.nm
  have HT1 := Lib.hid t1
  have HDC := Lib.hid hdc
  have HDL : RowKit.Hid (d < W1.heap.size) := Lib.hid (heap_lt m1.head)
  have HDO : RowKit.Hid (∀ W, OwnN W h.mn st.N → Calls Try.prog 67 #[.map (some h.mn), .agg (dka c)] W fun e w' => e = .returned (.tuple #[]) ∧ OwnN w' h.mn (dkDo st.N c) ∧ Touch W w' (fun k => k = h.mn)) := Lib.hid (fun W o => ddo_any W h.mn st.N c o (by have := m.goodN.len; omega) hs.1 hs.2 hk)
  have HGS := Lib.hid (And.intro hg (And.intro hs hk))
  have HKK : RowKit.Hid (d ≠ h.mn ∧ d ≠ B1 ∧ h.mn ≠ B1 ∧ (¬ (Value.slice h.ac st.C.length h.cc).ownBlock = some h.mn) ∧ ¬ (Value.slice h.ac st.C.length h.cc).ownBlock = some B1) := Lib.hid ⟨hdm, hdB, hmnB, hcm, hcB⟩
  have HG1 := Lib.hid g1
  have HW1 := Lib.hid hW1
  have HB1 := Lib.hid hB1
  clear m m1 t1 g1 hW1 hbm hBf hmnB hdB hdm hdc hcm hcB hs hg hk hB1
  have hbm := map_someN h.mn W1
  obtain ⟨ck, cn, cm, cf⟩ := c
  simp only [dka] at HW1 ⊢
  go_enter Try.func56, Try.ntmps56
  go_upto_region 1 with (fail)
  rw [HW1.out, HB1.out]
  obtain ⟨c, hc⟩ : ∃ c : DkCh, c = ⟨ck, cn, cm, cf⟩ := ⟨_, rfl⟩
  rw [← hc] at HB1S HDO HGS HG1
  clear HW1
  go_upto_region 3 with (fail)
  go_cut [] (fun wx => OwnN wx h.mn (dkDo st.N c) ∧ Touch W1 wx (fun k => k = h.mn))
  case first =>
    go_wp2_with fail
    have hS := (Touch.refl W1 (fun k => k = h.mn)).drew
    refine wp_region_sched (fun w' => Touch W1 w' (fun k => k = h.mn)) [(0, true), (1, true), (2, true), (3, true), (4, true), (5, false)] (by kernel_rfl) (by kernel_rfl) rfl (by kernel_rfl) hS ?_
    (refine walkS_take (v := ?_) (some 17) rfl rfl (fun _ _ _ h => h) (by rfl) ?_ ?_; rotate_left; (focus (intro w' hw'; have y1 := HC1.out w' hw'; go_simp; (try with_reducible rfl))); (try simp only [Act.put, List.setIfInBounds_toArray, List.set_cons_zero, List.set_cons_succ]))
    (refine walkS_take (v := ?_) (some 18) rfl rfl (fun _ _ _ h => h) (by rfl) ?_ ?_; rotate_left; (focus (intro w' hw'; have y1 := HC1.out w' hw'; go_simp; (try with_reducible rfl))); (try simp only [Act.put, List.setIfInBounds_toArray, List.set_cons_zero, List.set_cons_succ]))
    (refine walkS_take (v := ?_) (some 19) rfl rfl (fun _ _ _ h => h) (by rfl) ?_ ?_; rotate_left; (focus (intro w' hw'; have y1 := HC1.out w' hw'; go_simp; (try with_reducible rfl))); (try simp only [Act.put, List.setIfInBounds_toArray, List.set_cons_zero, List.set_cons_succ]))
    (refine walkS_take (v := ?_) (some 20) rfl rfl (fun _ _ _ h => h) (by rfl) ?_ ?_; rotate_left; (focus (intro w' hw'; have y1 := HC1.out w' hw'; go_simp; (try with_reducible rfl))); (try simp only [Act.put, List.setIfInBounds_toArray, List.set_cons_zero, List.set_cons_succ]))
    (refine walkS_row (some 21) rfl rfl 88 (.tmp 3) rfl (B1) rfl _ _ _ _ (fun w' h => HB1S.out w' h) Try.underlying88 rfl infoChange (fun _ _ _ h => h) (by rfl) ?_; (try simp only [Act.put, List.setIfInBounds_toArray, List.set_cons_zero, List.set_cons_succ]))
    (refine walkS_call 22 _ _ _ _ (HDO.out _ (HNM.out.still ((Touch.refl W1 (fun _ => False)).drew))) rfl rfl rfl (by rfl) rfl (enter_ddo _ _ _) ?_; rintro e w2 ⟨rfl, o2, t2⟩; have HNM := Lib.hid o2; refine ⟨_, rfl, hS.trans t2 (fun _ _ h => h), fun hS => ?_⟩; clear o2 t2; (try simp only [Act.put, List.setIfInBounds_toArray, List.set_cons_zero, List.set_cons_succ]))
    refine walkS_done ?_
    go_wp2_with fail
    go_meet
    exact ⟨HNM.out, hS⟩
  case rest =>
    obtain ⟨o2, t2⟩ := hcut
    obtain ⟨w2, hw2⟩ : ∃ W, W = wc := ⟨_, rfl⟩
    rw [← hw2] at o2 t2 ⊢
    have HT2 := Lib.hid t2
    have HNM := Lib.hid o2
    have HHD := Lib.hid (((Touch.refl w2 (fun _ => False)).drew).keeps (t2.keeps HM1.out.head HKK.out.1) (fun h => h))
    have HCH := Lib.hid ((HM1.out.ch.touch t2 (fun k hk e => by have e : k = h.mn := e; exact HKK.out.2.2.2.1 (e ▸ hk))).still ((Touch.refl w2 (fun _ => False)).drew))
    have HB2S : RowKit.Hid (∀ W, Touch w2 W (fun k => k = d ∨ (Value.slice h.ac st.C.length h.cc).ownBlock = some k) → W.heap[B1]? = some (.cells (dka c) 88 (0, 0))) := Lib.hid (fun W t => t.keeps (t2.keeps HG1.out (fun e => HKK.out.2.2.1 e.symm)) (fun e => by rcases e with e | e; exact HKK.out.2.1 e.symm; exact HKK.out.2.2.2.2 e))
    have HDL : RowKit.Hid (d < w2.heap.size) := Lib.hid (Nat.lt_of_lt_of_le HDL.out t2.size)
    have HFIN : RowKit.Hid (∀ a2 c2 w9, Touch w2 w9 (fun k => k = d ∨ (Value.slice h.ac st.C.length h.cc).ownBlock = some k) → w9.heap[d]? = some (.cells #[.int .i64 st.q, .map (some h.mn), .map (some h.ms), .slice a2 (st.C.length + 1) c2, .int .i64 st.ops, .int .i64 st.fail] 65 (0, 0)) → OwnS w9 0 88 4 (.slice a2 (st.C.length + 1) c2) ((st.C ++ [c]).map dkl) → (∀ b, (Value.slice a2 (st.C.length + 1) c2).ownBlock = some b → (Value.slice h.ac st.C.length h.cc).ownBlock = some b ∨ w2.heap.size ≤ b) → DkStep w w9 d h { st with C := st.C ++ [c] }) := Lib.hid (fun a2 c2 w9 t9 hh ho hp => HM.out.changed c
      (((HT1.out.mono (T := fun k => k = h.mn ∨ k = d ∨ (Value.slice h.ac st.C.length h.cc).ownBlock = some k) (fun _ _ h => h.elim)).trans HT2.out (fun k _ e => .inl e)).trans t9 (fun k _ e => .inr e)) hh
      (HNM.out.touch t9 (fun e => by rcases e with e | e; exact HKK.out.1 e.symm; exact HKK.out.2.2.2.1 e)) ho (fun b hb => (hp b hb).imp (fun h => h) (fun hh => Nat.le_trans (Nat.le_trans HT1.out.size HT2.out.size) hh)) HGS.out.1 HGS.out.2.1 HGS.out.2.2)
    clear o2 t2 hw2 HB1S HC1 HDO HM1 HNM HT2 hbm c0 c1
    go_wp2_with fail
    have hS0 := (Touch.refl w2 (fun k => k = d ∨ (Value.slice h.ac st.C.length h.cc).ownBlock = some k)).drew
    have hS := (Touch.refl w2 (fun k => k = d ∨ (Value.slice h.ac st.C.length h.cc).ownBlock = some k)).drew
    refine wp_region_tree (fun w' => Touch w2 w' (fun k => k = d ∨ (Value.slice h.ac st.C.length h.cc).ownBlock = some k)) (.take 0 (.take 1 (.take 2 (.take 3 (.take 5 (.two 4 6 (.one 6 (.one 7 (.take 8 (.take 9 (.one 10 .fin))))) (.one 4 (.one 7 (.take 8 (.take 9 (.one 10 .fin))))))))))) (by kernel_rfl) (by kernel_rfl) (by kernel_rfl) (by kernel_rfl) hS ?_
    refine walkT_take ?_
    (refine takeN_take (v := ?_) (some 23) rfl rfl (fun _ _ _ h => h) (by rfl) ?_ ?_; rotate_left; (focus (intro w' hw'; go_simp; (try with_reducible rfl))); (try simp only [Act.put, List.setIfInBounds_toArray, List.set_cons_zero, List.set_cons_succ]))
    refine walkT_take ?_
    (refine takeN_take (v := ?_) (some 24) rfl rfl (fun _ _ _ h => h) (by rfl) ?_ ?_; rotate_left; (focus (intro w' hw'; go_simp; (try with_reducible rfl))); (try simp only [Act.put, List.setIfInBounds_toArray, List.set_cons_zero, List.set_cons_succ]))
    refine walkT_take ?_
    (refine takeN_take (v := ?_) (some 25) rfl rfl (fun _ _ _ h => h) (by rfl) ?_ ?_; rotate_left; (focus (intro w' hw'; go_simp; (try with_reducible rfl))); (try simp only [Act.put, List.setIfInBounds_toArray, List.set_cons_zero, List.set_cons_succ]))
    refine walkT_take ?_
    (refine takeN_take (v := ?_) (some 26) rfl rfl (fun _ _ _ h => h) (by rfl) ?_ ?_; rotate_left; (focus (intro w' hw'; go_simp; (try with_reducible rfl))); (try simp only [Act.put, List.setIfInBounds_toArray, List.set_cons_zero, List.set_cons_succ]))
    refine walkT_take ?_
    (refine takeN_row (some 28) rfl rfl 88 (.tmp 3) rfl (B1) rfl _ _ _ _ (fun w' h => HB2S.out w' h) Try.underlying88 rfl infoChange (fun _ _ _ h => h) (by rfl) ?_; (try simp only [Act.put, List.setIfInBounds_toArray, List.set_cons_zero, List.set_cons_succ]))
    refine walkT_two ?_ ?_
    · (have cc := cell_of_cells HHD.out 3; refine runN_do (v := .slice h.ac st.C.length h.cc) (w' := _) (some 27) rfl rfl (by rfl) (by go_simp; (try with_reducible rfl)) hS (fun hS => ?_); clear cc; (try simp only [Act.put, List.setIfInBounds_toArray, List.set_cons_zero, List.set_cons_succ]))
      refine walkT_one ?_
      (refine runN_new 29 (fun W => .slice (some ⟨W.heap.size, 0, none⟩) 1 1) (dka c) 88 rfl rfl (by rfl) (by intro W; go_simp <;> first | with_reducible rfl | rfl | exact ⟨rfl, rfl⟩) ?_; intro w7 hw7 hM7 hs7 t7; have hS := hS.trans t7 (fun _ _ h => h.elim); refine ⟨hS, fun _ => ?_⟩; have HNW := Lib.hid (show RowS w7 _ 1 1 4 [dkl c] from hw7 ▸ row_oneC _ _); have HHD := Lib.hid (t7.keeps HHD.out (fun h => h)); have HCH := Lib.hid (HCH.out.still t7); clear hw7 hM7 hs7 t7; (try simp only [Act.put, List.setIfInBounds_toArray, List.set_cons_zero, List.set_cons_succ]))
      refine walkT_one ?_
      (refine runN_appS 30 (.tmp 27) (.tmp 29) _ rfl rfl rfl (by rfl) 88 Try.underlying63 (.agg #[.int .i64 0, .string ByteArray.empty, .string ByteArray.empty, .pointer none]) 4 48 infoChangeB rfl (by decide) 0 _ _ rfl HCH.out _ 1 1 _ rfl HNW.out (one_dkl c) (st.C.length + 1) ((st.C ++ [c]).map dkl) (by rw [List.map_append]; rfl) (by rw [List.length_map]) (by simp only [maxLen]; omega) (by omega) (Nat.zero_le _) ?_; intro a2 c2 w9 how9 hg9 hp9; have t9 := (Touch.refl _ (fun k => (Value.slice h.ac st.C.length h.cc).ownBlock = some k)).grown hg9 (fun k hk _ => hk); have HPL := Lib.hid (fun b hb => (hp9 b hb).imp (fun h => h) (fun hh => Nat.le_trans hS.size hh)); have hS := hS.trans t9 (fun k _ hk => .inr hk); refine ⟨hS, fun _ => ?_⟩; have HHD := Lib.hid (t9.keeps HHD.out (fun e => HDC.out e)); have HCH := Lib.hid how9; clear how9 hg9 hp9 t9 HNW; (try simp only [Act.put, List.setIfInBounds_toArray, List.set_cons_zero, List.set_cons_succ]))
      refine walkT_take ?_
      (refine takeN_take (v := ?_) (some 31) rfl rfl (fun _ _ _ h => h) (by rfl) ?_ ?_; rotate_left; (focus (intro w' hw'; go_simp; (try with_reducible rfl))); (try simp only [Act.put, List.setIfInBounds_toArray, List.set_cons_zero, List.set_cons_succ]))
      refine walkT_take ?_
      (refine takeN_take (v := ?_) (some 32) rfl rfl (fun _ _ _ h => h) (by rfl) ?_ ?_; rotate_left; (focus (intro w' hw'; go_simp; (try with_reducible rfl))); (try simp only [Act.put, List.setIfInBounds_toArray, List.set_cons_zero, List.set_cons_succ]))
      refine walkT_one ?_
      (have cc := cell_of_cells HHD.out 3; have ff := free_of_cells HHD.out 3; refine runN_skip0 none rfl rfl (by rfl) (w' := World.setCell w9 ⟨d, 3, none⟩ (.slice a2 (st.C.length + 1) c2)) (by go_simp; (try with_reducible rfl)) ?_ ?_; (exact hS.setCell _ _ (fun _ => .inl rfl)); clear cc ff; intro hS; have t6 := (Touch.refl w9 (fun k => k = d)).setCell ⟨d, 3, none⟩ (.slice a2 (st.C.length + 1) c2) (fun _ => rfl); have HHD := Lib.hid (heap_setCell_same _ d 3 _ _ (.slice a2 (st.C.length + 1) c2) HHD.out); have HCH := Lib.hid (HCH.out.touch t6 (fun x hx e => by have e : x = d := e; rcases HPL.out x hx with h1 | h1; exact HDC.out (e ▸ h1); (have := HDL.out; omega))); clear t6; (try simp only [Act.put, List.setIfInBounds_toArray, List.set_cons_zero, List.set_cons_succ]))
      refine walkT_fin ?_
      go_wp2_with fail
      go_end0
      exact ⟨rfl, by rw [← hc]; exact HFIN.out _ _ _ hS HHD.out HCH.out HPL.out⟩
    · (refine runN_new 29 (fun W => .slice (some ⟨W.heap.size, 0, none⟩) 1 1) (dka c) 88 rfl rfl (by rfl) (by intro W; go_simp <;> first | with_reducible rfl | rfl | exact ⟨rfl, rfl⟩) ?_; intro w7 hw7 hM7 hs7 t7; have hS := hS.trans t7 (fun _ _ h => h.elim); refine ⟨hS, fun _ => ?_⟩; have HNW := Lib.hid (show RowS w7 _ 1 1 4 [dkl c] from hw7 ▸ row_oneC _ _); have HHD := Lib.hid (t7.keeps HHD.out (fun h => h)); have HCH := Lib.hid (HCH.out.still t7); clear hw7 hM7 hs7 t7; (try simp only [Act.put, List.setIfInBounds_toArray, List.set_cons_zero, List.set_cons_succ]))
      refine walkT_one ?_
      (have cc := cell_of_cells HHD.out 3; refine runN_do (v := .slice h.ac st.C.length h.cc) (w' := _) (some 27) rfl rfl (by rfl) (by go_simp; (try with_reducible rfl)) hS (fun hS => ?_); clear cc; (try simp only [Act.put, List.setIfInBounds_toArray, List.set_cons_zero, List.set_cons_succ]))
      refine walkT_one ?_
      (refine runN_appS 30 (.tmp 27) (.tmp 29) _ rfl rfl rfl (by rfl) 88 Try.underlying63 (.agg #[.int .i64 0, .string ByteArray.empty, .string ByteArray.empty, .pointer none]) 4 48 infoChangeB rfl (by decide) 0 _ _ rfl HCH.out _ 1 1 _ rfl HNW.out (one_dkl c) (st.C.length + 1) ((st.C ++ [c]).map dkl) (by rw [List.map_append]; rfl) (by rw [List.length_map]) (by simp only [maxLen]; omega) (by omega) (Nat.zero_le _) ?_; intro a2 c2 w9 how9 hg9 hp9; have t9 := (Touch.refl _ (fun k => (Value.slice h.ac st.C.length h.cc).ownBlock = some k)).grown hg9 (fun k hk _ => hk); have HPL := Lib.hid (fun b hb => (hp9 b hb).imp (fun h => h) (fun hh => Nat.le_trans hS.size hh)); have hS := hS.trans t9 (fun k _ hk => .inr hk); refine ⟨hS, fun _ => ?_⟩; have HHD := Lib.hid (t9.keeps HHD.out (fun e => HDC.out e)); have HCH := Lib.hid how9; clear how9 hg9 hp9 t9 HNW; (try simp only [Act.put, List.setIfInBounds_toArray, List.set_cons_zero, List.set_cons_succ]))
      refine walkT_take ?_
      (refine takeN_take (v := ?_) (some 31) rfl rfl (fun _ _ _ h => h) (by rfl) ?_ ?_; rotate_left; (focus (intro w' hw'; go_simp; (try with_reducible rfl))); (try simp only [Act.put, List.setIfInBounds_toArray, List.set_cons_zero, List.set_cons_succ]))
      refine walkT_take ?_
      (refine takeN_take (v := ?_) (some 32) rfl rfl (fun _ _ _ h => h) (by rfl) ?_ ?_; rotate_left; (focus (intro w' hw'; go_simp; (try with_reducible rfl))); (try simp only [Act.put, List.setIfInBounds_toArray, List.set_cons_zero, List.set_cons_succ]))
      refine walkT_one ?_
      (have cc := cell_of_cells HHD.out 3; have ff := free_of_cells HHD.out 3; refine runN_skip0 none rfl rfl (by rfl) (w' := World.setCell w9 ⟨d, 3, none⟩ (.slice a2 (st.C.length + 1) c2)) (by go_simp; (try with_reducible rfl)) ?_ ?_; (exact hS.setCell _ _ (fun _ => .inl rfl)); clear cc ff; intro hS; have t6 := (Touch.refl w9 (fun k => k = d)).setCell ⟨d, 3, none⟩ (.slice a2 (st.C.length + 1) c2) (fun _ => rfl); have HHD := Lib.hid (heap_setCell_same _ d 3 _ _ (.slice a2 (st.C.length + 1) c2) HHD.out); have HCH := Lib.hid (HCH.out.touch t6 (fun x hx e => by have e : x = d := e; rcases HPL.out x hx with h1 | h1; exact HDC.out (e ▸ h1); (have := HDL.out; omega))); clear t6; (try simp only [Act.put, List.setIfInBounds_toArray, List.set_cons_zero, List.set_cons_succ]))
      refine walkT_fin ?_
      go_wp2_with fail
      go_end0
      exact ⟨rfl, by rw [← hc]; exact HFIN.out _ _ _ hS HHD.out HCH.out HPL.out⟩
end Go.Proofs.Ytmokcfmlolohaaa
