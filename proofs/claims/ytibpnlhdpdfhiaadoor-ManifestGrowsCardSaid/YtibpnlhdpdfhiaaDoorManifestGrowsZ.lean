/- ManifestGrows: with a segment more, the next one, and Next one more, it may be, as long as there are not too many. -/
import Derived.Test.YtibpnlhdpdfhiaaDoorFrManifestGrowsZ
import Derived.Test.YtibpnlhdpdfhiaaDoorManAwakeZ
import Derived.Test.YtibpnlhdpdfhiaaDoorManArgsZ
import Derived.Test.YtibpnlhdpdfhiaaDoorCalmTZ
set_option linter.unusedVariables false
set_option linter.unusedSimpArgs false
namespace Go.Proofs.YtibpnlhdpdfhiaaDoor
open Go.ChangeShapes Go.WideShapes Go.ChangeAt Go.RowKit

set_option maxRecDepth 20000 in
theorem enter_gmay (u : Value) (w : World) : (callFunc 13 #[u]).run Tryd.prog w = .ok (.enter 13 #[u]) w := by kernel_rfl
set_option maxRecDepth 20000 in
theorem enter_gsame (u v : Value) (w : World) : (callFunc 15 #[u, v]).run Tryd.prog w = .ok (.enter 15 #[u, v]) w := by kernel_rfl
set_option maxRecDepth 20000 in
theorem enter_gawake (w : World) : (callFunc 17 #[]).run Tryd.prog w = .ok (.enter 17 #[]) w := by kernel_rfl
theorem leI_yes (x y : Int) (h : x ≤ y) (p q : Operand) (W : World) :
    (do eqGuard BinOp.leq 3 p q (.int .i64 x) (.int .i64 y); binOp BinOp.leq 3 (.int .i64 x) (.int .i64 y) : Sem Value).run Tryd.prog W = .ok (.bool true) W := by
  go_simp
theorem leI_no (x y : Int) (h : ¬ x ≤ y) (p q : Operand) (W : World) :
    (do eqGuard BinOp.leq 3 p q (.int .i64 x) (.int .i64 y); binOp BinOp.leq 3 (.int .i64 x) (.int .i64 y) : Sem Value).run Tryd.prog W = .ok (.bool false) W := by
  go_simp
/-- Numbers, as rows of one cell. -/
theorem RowI.rowS {w : World} {a : Option Addr} {len cap : Nat} {zs : List Int} (h : RowI w a len cap zs) : RowS w a len cap 1 (zs.map oneI) := by
  obtain ⟨h1, h2, h3, h4, h5⟩ := h
  refine ⟨by simpa using h1, h2, h3, by simp [oneI], ?_⟩
  rcases h5 with h5 | ⟨b, off, ha, hlt, hc⟩
  · exact .inl h5
  · refine .inr ⟨b, off, ha, hlt, fun i hi j u hu => ?_⟩
    rw [List.length_map] at hi
    simp only [List.getElem_map, oneI] at hu
    have hj : j = 0 := by
      rcases j with _ | j
      · rfl
      · simp at hu
    subst hj
    simp at hu
    subst hu
    rw [Nat.mul_one, Nat.add_zero]
    exact hc i hi
theorem upM_end (n : Int) : ∀ (zs : List Int) (last m : Int), upM m last (zs ++ [n]) = (upM (min m n) last zs && decide (zs.getLastD last < n ∧ n < m))
  | [], last, m => by simp [upM]
  | z :: zs, last, m => by
    have ih := upM_end n zs z m
    simp only [List.cons_append, upM, ih, List.getLastD_cons]
    by_cases h : zs.getLastD z < n ∧ n < m
    · rw [decide_eq_true h, Bool.and_true, Bool.and_true]
      by_cases h2 : upM (min m n) z zs = true
      · rw [h2, Bool.and_true, Bool.and_true]
        congr 1
        refine propext ⟨fun k => ⟨k.1, ?_⟩, fun k => ⟨k.1, by omega⟩⟩
        have : z ≤ zs.getLastD z := by
          cases zs with
          | nil => simp
          | cons y r =>
            have hm := upM_mem _ _ _ h2 ((y :: r).getLastD z) (by rw [List.getLastD_cons]; exact List.getLastD_mem_cons)
            omega
        omega
      · rw [Bool.not_eq_true] at h2; rw [h2]; simp
    · rw [decide_eq_false h]; simp
theorem upM_mono : ∀ (zs : List Int) (last m m2 : Int), m ≤ m2 → upM m last zs = true → upM m2 last zs = true
  | [], _, _, _, _, _ => rfl
  | z :: zs, last, m, m2, h, hu => by
    simp only [upM, Bool.and_eq_true, decide_eq_true_eq] at hu ⊢
    exact ⟨⟨hu.1.1, by omega⟩, upM_mono zs z m m2 h hu.2⟩
theorem last_lt (n : Int) : ∀ (zs : List Int) (last : Int), last < n → upM n last zs = true → zs.getLastD last < n
  | [], last, h, _ => h
  | z :: zs, last, h, hu => by
    simp only [upM, Bool.and_eq_true, decide_eq_true_eq] at hu
    rw [List.getLastD_cons]
    exact last_lt n zs z hu.1.2 hu.2
/-- May it be, with the next one? -/
theorem may_grow (v n : Int) (zs : List Int) (h : mayM v n zs = true) : mayM v (n + 1) (zs ++ [n]) = (decide (zs.length + 1 ≤ 64) && decide (n + 1 ≤ 1000000)) := by
  obtain ⟨h1, h2, h3, h4⟩ := (mayM_iff v n zs).1 h
  have hu : upM (n + 1) 0 (zs ++ [n]) = true := by
    rw [upM_end, show min (n + 1) n = n by omega, h4, decide_eq_true ⟨last_lt n zs 0 (by omega) h4, by omega⟩]; rfl
  have e : mayM v (n + 1) (zs ++ [n]) = true ↔ (zs.length + 1 ≤ 64 ∧ n + 1 ≤ 1000000) := by
    rw [mayM_iff, List.length_append]
    simp only [List.length_cons, List.length_nil]
    constructor
    · intro k; omega
    · intro k; exact ⟨h1, by omega, by omega, hu⟩
  rw [Bool.eq_iff_iff, e]; simp

set_option maxRecDepth 20000 in
set_option maxHeartbeats 8000000 in
theorem mgrows_walk (v n : Int) (a : Option Addr) (len cap : Nat) (zs : List Int) (w : World) (hr : RowI w a len cap zs) (hT : TabW w) :
    Calls Tryd.prog 7 #[.agg #[.int .i64 v, .int .i64 n, .slice a len cap]] w fun e w' => e = .returned (.bool true) ∧ Touch w w' (fun _ => False) := by
  obtain ⟨W1, hW1⟩ : ∃ W, w.alloc (.cells #[.int .i64 v, .int .i64 n, .slice a len cap] 24) = W := ⟨_, rfl⟩
  have t1 : Touch w W1 (fun _ => False) := hW1 ▸ (Touch.refl _ _).alloc _
  have hg : W1.heap[w.heap.size]? = some (.cells #[.int .i64 v, .int .i64 n, .slice a len cap] 24 (0, 0)) := hW1 ▸ heap_alloc_new w _
  have HT1 := Lib.hid t1
  have HR := Lib.hid (hr.keep t1)
  have HTB := Lib.hid (hT.touch t1)
  have HIM := Lib.hid infoMan
  have HL := Lib.hid hr.1
  have HG := Lib.hid hg
  have HAW0 : RowKit.Hid (∀ W, Touch W1 W (fun _ => False) → Calls Tryd.prog 17 #[] W fun e w' => e = .returned (.bool true) ∧ Touch W1 w' (fun _ => False)) := Lib.hid (fun W h => (awake5 W (HTB.out.touch h)).mono fun e w' k => ⟨k.1, h.trans k.2 (fun _ _ h => h)⟩)
  have HMA0 := Lib.hid (mmay_any v n a len cap zs W1 HR.out)
  have HW1 := Lib.hid hW1
  have hcap := hr.2.2.1
  clear hr t1 hg hT hW1
  cases hm : mayM v n zs with
  | false =>
    rw [hm] at HMA0
    go_enter Tryd.func7, Tryd.ntmps7
    go_upto_region 1 with (fail)
    rw [HW1.out]
    go_wp2_with (first
      | (refine wpList_load_row rfl 24 (.tmp 1) rfl w.heap.size rfl _ _ _ _ HG.out Tryd.underlying24 rfl HIM.out ?_)
      | (go_at_call 13; (with_reducible refine HMA0.out.mono ?_); rintro e w2 ⟨rfl, t2⟩; have T2 := Lib.hid t2; clear t2)
      | (go_at_call 17; (with_reducible refine (HAW0.out _ T2.out).mono ?_); rintro e w3 ⟨rfl, t3⟩))
    go_ret
    exact ⟨rfl, HT1.out.trans t3 (fun _ _ h => h)⟩
  | true =>
  rw [hm] at HMA0
  have HGR := Lib.hid (may_grow v n zs hm)
  obtain ⟨⟨hv0, hv1⟩, ⟨hn0, hn1⟩, ⟨hs0, hs1⟩, _⟩ := (mayM_iff v n zs).1 hm
  rw [HL.out] at hs0 hs1 HGR
  clear hm
  go_enter Tryd.func7, Tryd.ntmps7
  go_upto_region 1 with (fail)
  rw [HW1.out]
  go_upto_region 4 with (first
    | (refine wpList_load_row rfl 24 (.tmp 1) rfl w.heap.size rfl _ _ _ _ HG.out Tryd.underlying24 rfl HIM.out ?_)
    | (go_at_call 13; (with_reducible refine HMA0.out.mono ?_); rintro e w2 ⟨rfl, t2⟩; have T2 := Lib.hid t2; have HG := Lib.hid (t2.keeps HG.out (fun h => h)); clear t2))
  obtain ⟨W3, hW3⟩ : ∃ W, w2.alloc (.cells #[.int .i64 v, .int .i64 n, .slice a len cap] 24) = W := ⟨_, rfl⟩
  have t3 : Touch w2 W3 (fun _ => False) := hW3 ▸ (Touch.refl _ _).alloc _
  have HM3 : RowKit.Hid (W3.heap[w2.heap.size]? = some (.cells (mcs v n a len cap) 24 (0, 0))) := Lib.hid (hW3 ▸ heap_alloc_new w2 _)
  have T3 := Lib.hid (T2.out.trans t3 (fun _ _ h => h))
  have HG := Lib.hid (t3.keeps HG.out (fun h => h))
  have HSZ : RowKit.Hid (w.heap.size < w2.heap.size ∧ W3.heap.size = w2.heap.size + 1) := Lib.hid ⟨by have h1 : w.heap.size < W1.heap.size := (by rw [← HW1.out]; simp); exact Nat.lt_of_lt_of_le h1 T2.out.size, by rw [← hW3]; simp⟩
  have HCB : RowKit.Hid (∀ W, Touch W3 W (fun k => k = w2.heap.size) → W.cell? ⟨w.heap.size, 1, none⟩ = some (.int .i64 n) ∧ W.cell? ⟨w.heap.size, 2, none⟩ = some (.slice a len cap)) := Lib.hid (fun W t => by
    have h := t.keeps HG.out (fun e => by have := HSZ.out; have e : w.heap.size = w2.heap.size := e; omega)
    exact ⟨cell_of_cells h 1, cell_of_cells h 2⟩)
  have HRR : RowKit.Hid (∀ W, Touch W3 W (fun k => k = w2.heap.size) → RowS W a len cap 1 (zs.map oneI)) := Lib.hid (fun W t => by
    have h0 := HR.out.keep T2.out
    have h1 : RowI W a len cap zs := by
      have hlt : ∀ x, a = some x → len = 0 ∨ x.block < w2.heap.size := by
        intro x hx
        rcases h0.2.2.2.2 with h5 | ⟨b, off, ha, hlt, _⟩
        · exact .inl h5
        · rw [hx] at ha; cases ha; exact .inr hlt
      have h2 := h0.keep t3
      refine h2.touch' t (fun x hx e => ?_)
      have e : x.block = w2.heap.size := e
      rcases hlt x hx with h | h
      · omega
      · omega
    exact h1.rowS)
  rw [hW3]
  clear t3 hW3 HMA0 HW1
  go_cut [] (fun wx => ∃ a2 c2, wx.heap[w2.heap.size]? = some (.cells (mcs v n a2 (len + 1) c2) 24 (0, 0)) ∧ OwnS wx (w2.heap.size + 1) 3 1 (.slice a2 (len + 1) c2) ((zs ++ [n]).map oneI) ∧ Touch W3 wx (fun k => k = w2.heap.size))
  case first =>
    go_wp2_with fail
    have HM3 := Lib.hid (((Touch.refl W3 (fun _ => False)).drew).keeps HM3.out (fun h => h))
    have hS := (Touch.refl W3 (fun k => k = w2.heap.size)).drew
    refine wp_region_tree (fun w' => Touch W3 w' (fun k => k = w2.heap.size)) (.take 0 (.take 1 (.take 3 (.take 4 (.two 2 5 (.one 5 (.one 6 (.take 7 (.one 8 .fin)))) (.one 2 (.one 6 (.take 7 (.one 8 .fin))))))))) (by kernel_rfl) (by kernel_rfl) (by kernel_rfl) (by kernel_rfl) hS ?_
    refine walkT_take ?_
    (refine takeN_take (v := ?_) (some 9) rfl rfl (fun _ _ _ h => h) (by rfl) ?_ ?_; rotate_left; (focus (intro w' hw'; obtain ⟨cb1, cb2⟩ := HCB.out w' hw'; go_simp; (try with_reducible rfl))); (try simp only [Act.put, List.setIfInBounds_toArray, List.set_cons_zero, List.set_cons_succ]))
    refine walkT_take ?_
    (refine takeN_take (v := ?_) (some 10) rfl rfl (fun _ _ _ h => h) (by rfl) ?_ ?_; rotate_left; (focus (intro w' hw'; obtain ⟨cb1, cb2⟩ := HCB.out w' hw'; go_simp; (try with_reducible rfl))); (try simp only [Act.put, List.setIfInBounds_toArray, List.set_cons_zero, List.set_cons_succ]))
    refine walkT_take ?_
    (refine takeN_take (v := ?_) (some 12) rfl rfl (fun _ _ _ h => h) (by rfl) ?_ ?_; rotate_left; (focus (intro w' hw'; obtain ⟨cb1, cb2⟩ := HCB.out w' hw'; go_simp; (try with_reducible rfl))); (try simp only [Act.put, List.setIfInBounds_toArray, List.set_cons_zero, List.set_cons_succ]))
    refine walkT_take ?_
    (refine takeN_take (v := ?_) (some 13) rfl rfl (fun _ _ _ h => h) (by rfl) ?_ ?_; rotate_left; (focus (intro w' hw'; obtain ⟨cb1, cb2⟩ := HCB.out w' hw'; go_simp; (try with_reducible rfl))); (try simp only [Act.put, List.setIfInBounds_toArray, List.set_cons_zero, List.set_cons_succ]))
    refine walkT_two ?_ ?_
    · (refine runN_appS 11 (.const (.slice none 0 0)) (.tmp 10) _ rfl rfl rfl (by rfl) 3 Tryd.underlying22 (.int .i64 0) 1 8 infoInt rfl (by decide) (w2.heap.size + 1) _ [] rfl (OwnS.nil _ _ _ _) a len cap (zs.map oneI) rfl (HRR.out _ hS) (by simp [oneI, Value.oneCell']) len (zs.map oneI) (by simp) (by simp) (by unfold maxLen; omega) (by omega) (heap_lt HM3.out) ?_; intro a7 c7 w7 how7 hg7 hp7; have t9 := (Touch.refl _ (fun _ => False)).grown hg7 (fun k hk _ => by cases hk); have hS := hS.trans t9 (fun _ _ h => h.elim); refine ⟨hS, fun _ => ?_⟩; have HM3 := Lib.hid (t9.keeps HM3.out (fun h => h)); have HOW := Lib.hid how7; (try have HNW := Lib.hid (HNW.out.still t9)); clear how7 hg7 hp7 t9; (try simp only [Act.put, List.setIfInBounds_toArray, List.set_cons_zero, List.set_cons_succ]))
      refine walkT_one ?_
      (refine runN_new 14 (fun W => .slice (some ⟨W.heap.size, 0, none⟩) 1 1) #[.int .i64 n] 3 rfl rfl (by rfl) (by intro W; go_simp <;> first | with_reducible rfl | rfl | exact ⟨rfl, rfl⟩) ?_; intro w8 hw8 hM8 hs8 t8; have hS := hS.trans t8 (fun _ _ h => h.elim); refine ⟨hS, fun _ => ?_⟩; have HNW := Lib.hid (show RowS w8 _ 1 1 1 [oneI n] from hw8 ▸ row_oneI _ _); have HM3 := Lib.hid (t8.keeps HM3.out (fun h => h)); (try have HOW := Lib.hid (HOW.out.still t8)); clear hw8 hM8 hs8 t8; (try simp only [Act.put, List.setIfInBounds_toArray, List.set_cons_zero, List.set_cons_succ]))
      refine walkT_one ?_
      (refine runN_appS 15 (.tmp 11) (.tmp 14) _ rfl rfl rfl (by rfl) 3 Tryd.underlying22 (.int .i64 0) 1 8 infoInt rfl (by decide) (w2.heap.size + 1) _ _ rfl HOW.out _ 1 1 _ rfl HNW.out (by simp [oneI, Value.oneCell']) (len + 1) ((zs ++ [n]).map oneI) (by rw [List.map_append]; rfl) (by rw [List.length_map, HL.out]) (by unfold maxLen; omega) (by omega) (heap_lt HM3.out) ?_; intro a2 c2 w9 how9 hg9 hp9; have t9 := (Touch.refl _ (fun k => w2.heap.size + 1 ≤ k)).grown hg9 (fun k hk _ => (HOW.out.own.lt k hk).1); have hS := hS.trans t9 (fun k hk h => by have := HSZ.out; have h : w2.heap.size + 1 ≤ k := h; omega); refine ⟨hS, fun _ => ?_⟩; have HM3 := Lib.hid (t9.keeps HM3.out (fun h => by have h : w2.heap.size + 1 ≤ w2.heap.size := h; omega)); have HOW := Lib.hid how9; clear how9 hg9 hp9 t9 HNW; (try simp only [Act.put, List.setIfInBounds_toArray, List.set_cons_zero, List.set_cons_succ]))
      refine walkT_take ?_
      (refine takeN_take (v := ?_) (some 16) rfl rfl (fun _ _ _ h => h) (by rfl) ?_ ?_; rotate_left; (focus (intro w' hw'; obtain ⟨cb1, cb2⟩ := HCB.out w' hw'; go_simp; (try with_reducible rfl))); (try simp only [Act.put, List.setIfInBounds_toArray, List.set_cons_zero, List.set_cons_succ]))
      refine walkT_one ?_
      (have cc := (mcells_of HM3.out).2.2; have ff := free_of_cells HM3.out 2; refine runN_skip0 none rfl rfl (by rfl) (w' := World.setCell w9 ⟨w2.heap.size, 2, none⟩ (.slice a2 (len + 1) c2)) (by go_simp; (try with_reducible rfl)) ?_ ?_; (exact hS.setCell _ _ (fun h => rfl)); clear cc ff; intro hS; have t6 := (Touch.refl w9 (fun k => k = w2.heap.size)).setCell ⟨w2.heap.size, 2, none⟩ (.slice a2 (len + 1) c2) (fun _ => rfl); have HM3 := Lib.hid (heap_setCell_same _ w2.heap.size 2 _ _ (.slice a2 (len + 1) c2) HM3.out); have HOW := Lib.hid (HOW.out.touch t6 (fun x hx e => by have := (HOW.out.own.lt x hx).1; have e : x = w2.heap.size := e; omega)); clear t6; (try simp only [Act.put, List.setIfInBounds_toArray, List.set_cons_zero, List.set_cons_succ]))
      refine walkT_fin ?_
      go_wp2_with fail
      go_meet
      exact ⟨a2, c2, HM3.out, HOW.out, hS⟩
    · (refine runN_new 14 (fun W => .slice (some ⟨W.heap.size, 0, none⟩) 1 1) #[.int .i64 n] 3 rfl rfl (by rfl) (by intro W; go_simp <;> first | with_reducible rfl | rfl | exact ⟨rfl, rfl⟩) ?_; intro w8 hw8 hM8 hs8 t8; have hS := hS.trans t8 (fun _ _ h => h.elim); refine ⟨hS, fun _ => ?_⟩; have HNW := Lib.hid (show RowS w8 _ 1 1 1 [oneI n] from hw8 ▸ row_oneI _ _); have HM3 := Lib.hid (t8.keeps HM3.out (fun h => h)); (try have HOW := Lib.hid (HOW.out.still t8)); clear hw8 hM8 hs8 t8; (try simp only [Act.put, List.setIfInBounds_toArray, List.set_cons_zero, List.set_cons_succ]))
      refine walkT_one ?_
      (refine runN_appS 11 (.const (.slice none 0 0)) (.tmp 10) _ rfl rfl rfl (by rfl) 3 Tryd.underlying22 (.int .i64 0) 1 8 infoInt rfl (by decide) (w2.heap.size + 1) _ [] rfl (OwnS.nil _ _ _ _) a len cap (zs.map oneI) rfl (HRR.out _ hS) (by simp [oneI, Value.oneCell']) len (zs.map oneI) (by simp) (by simp) (by unfold maxLen; omega) (by omega) (heap_lt HM3.out) ?_; intro a7 c7 w7 how7 hg7 hp7; have t9 := (Touch.refl _ (fun _ => False)).grown hg7 (fun k hk _ => by cases hk); have hS := hS.trans t9 (fun _ _ h => h.elim); refine ⟨hS, fun _ => ?_⟩; have HM3 := Lib.hid (t9.keeps HM3.out (fun h => h)); have HOW := Lib.hid how7; (try have HNW := Lib.hid (HNW.out.still t9)); clear how7 hg7 hp7 t9; (try simp only [Act.put, List.setIfInBounds_toArray, List.set_cons_zero, List.set_cons_succ]))
      refine walkT_one ?_
      (refine runN_appS 15 (.tmp 11) (.tmp 14) _ rfl rfl rfl (by rfl) 3 Tryd.underlying22 (.int .i64 0) 1 8 infoInt rfl (by decide) (w2.heap.size + 1) _ _ rfl HOW.out _ 1 1 _ rfl HNW.out (by simp [oneI, Value.oneCell']) (len + 1) ((zs ++ [n]).map oneI) (by rw [List.map_append]; rfl) (by rw [List.length_map, HL.out]) (by unfold maxLen; omega) (by omega) (heap_lt HM3.out) ?_; intro a2 c2 w9 how9 hg9 hp9; have t9 := (Touch.refl _ (fun k => w2.heap.size + 1 ≤ k)).grown hg9 (fun k hk _ => (HOW.out.own.lt k hk).1); have hS := hS.trans t9 (fun k hk h => by have := HSZ.out; have h : w2.heap.size + 1 ≤ k := h; omega); refine ⟨hS, fun _ => ?_⟩; have HM3 := Lib.hid (t9.keeps HM3.out (fun h => by have h : w2.heap.size + 1 ≤ w2.heap.size := h; omega)); have HOW := Lib.hid how9; clear how9 hg9 hp9 t9 HNW; (try simp only [Act.put, List.setIfInBounds_toArray, List.set_cons_zero, List.set_cons_succ]))
      refine walkT_take ?_
      (refine takeN_take (v := ?_) (some 16) rfl rfl (fun _ _ _ h => h) (by rfl) ?_ ?_; rotate_left; (focus (intro w' hw'; obtain ⟨cb1, cb2⟩ := HCB.out w' hw'; go_simp; (try with_reducible rfl))); (try simp only [Act.put, List.setIfInBounds_toArray, List.set_cons_zero, List.set_cons_succ]))
      refine walkT_one ?_
      (have cc := (mcells_of HM3.out).2.2; have ff := free_of_cells HM3.out 2; refine runN_skip0 none rfl rfl (by rfl) (w' := World.setCell w9 ⟨w2.heap.size, 2, none⟩ (.slice a2 (len + 1) c2)) (by go_simp; (try with_reducible rfl)) ?_ ?_; (exact hS.setCell _ _ (fun h => rfl)); clear cc ff; intro hS; have t6 := (Touch.refl w9 (fun k => k = w2.heap.size)).setCell ⟨w2.heap.size, 2, none⟩ (.slice a2 (len + 1) c2) (fun _ => rfl); have HM3 := Lib.hid (heap_setCell_same _ w2.heap.size 2 _ _ (.slice a2 (len + 1) c2) HM3.out); have HOW := Lib.hid (HOW.out.touch t6 (fun x hx e => by have := (HOW.out.own.lt x hx).1; have e : x = w2.heap.size := e; omega)); clear t6; (try simp only [Act.put, List.setIfInBounds_toArray, List.set_cons_zero, List.set_cons_succ]))
      refine walkT_fin ?_
      go_wp2_with fail
      go_meet
      exact ⟨a2, c2, HM3.out, HOW.out, hS⟩

  case rest =>
    obtain ⟨a2, c2, hm3, how, ht⟩ := hcut
    have HM3 := Lib.hid hm3
    have HOW := Lib.hid how
    have T4 := Lib.hid ht
    obtain ⟨cx0, cx1, cx2⟩ := mcells_of HM3.out
    have ff := free_of_cells HM3.out 1
    clear hm3 how ht
    go_upto_region 6 with (fail)
    clear cx0 cx1 cx2 ff
    obtain ⟨W5, hW5⟩ : ∃ W, wc.setCell ⟨w2.heap.size, 1, none⟩ (.int .i64 (n + 1)) = W := ⟨_, rfl⟩
    have t5 : Touch wc W5 (fun k => k = w2.heap.size) := hW5 ▸ (Touch.refl wc _).setCell _ _ (fun _ => rfl)
    have hm5 : W5.heap[w2.heap.size]? = some (.cells #[.int .i64 v, .int .i64 (n + 1), .slice a2 (len + 1) c2] 24 (0, 0)) := hW5 ▸ heap_setCell_same _ w2.heap.size 1 _ _ (.int .i64 (n + 1)) HM3.out
    have HOW := Lib.hid (HOW.out.touch t5 (fun x hx e => by have := (HOW.out.own.lt x hx).1; have e : x = w2.heap.size := e; omega))
    have T5 := Lib.hid (T4.out.trans t5 (fun _ _ h => h))
    have HG1 : RowKit.Hid (∀ W, Touch W5 W (fun _ => False) → W.heap[w.heap.size]? = some (.cells #[.int .i64 v, .int .i64 n, .slice a len cap] 24 (0, 0))) := Lib.hid (fun W t => (T5.out.trans t (fun _ _ h => h.elim)).keeps HG.out (fun e => by have := HSZ.out; have e : w.heap.size = w2.heap.size := e; omega))
    have HG3 : RowKit.Hid (∀ W, Touch W5 W (fun _ => False) → W.heap[w2.heap.size]? = some (.cells #[.int .i64 v, .int .i64 (n + 1), .slice a2 (len + 1) c2] 24 (0, 0))) := Lib.hid (fun W t => t.keeps hm5 (fun h => h))
    have HGC : RowKit.Hid (∀ W, Touch W5 W (fun _ => False) → W.cell? ⟨w2.heap.size, 1, none⟩ = some (.int .i64 (n + 1)) ∧ W.cell? ⟨w2.heap.size, 2, none⟩ = some (.slice a2 (len + 1) c2)) := Lib.hid (fun W t => ⟨cell_of_cells (t.keeps hm5 (fun h => h)) 1, cell_of_cells (t.keeps hm5 (fun h => h)) 2⟩)
    have hri : RowI W5 a2 (len + 1) c2 (zs ++ [n]) := ownS_rowI HOW.out (fun z hz => by
      rcases List.mem_append.1 hz with h | h
      · exact HR.out.2.2.2.1 z h
      · rw [List.mem_singleton.1 h]; omega)
    have hrr : ∀ W, Touch W5 W (fun _ => False) → RowI W a len cap zs := fun W t => by
      have h2 := HRR.out W (T5.out.trans t (fun _ _ h => h.elim))
      have h0 := HR.out
      refine ⟨h0.1, h0.2.1, h0.2.2.1, h0.2.2.2.1, ?_⟩
      rcases h2.at_ with h5 | ⟨b, off, ha, hlt, hc⟩
      · exact .inl h5
      · exact .inr ⟨b, off, ha, hlt, fun i hi => by have := hc i (by simpa using hi) 0 (.int .i64 zs[i]) (by simp [oneI]); simpa using this⟩
    obtain ⟨m, hm⟩ : ∃ m, mayM v (n + 1) (zs ++ [n]) = m := ⟨_, rfl⟩
    have hq : sameM v n zs v (n + 1) (zs ++ [n]) = false := decide_eq_false (fun h => by have := h.2.1; omega)
    have HMA : RowKit.Hid (∀ W, Touch W5 W (fun _ => False) → Calls Tryd.prog 13 #[.agg #[.int .i64 v, .int .i64 (n + 1), .slice a2 (len + 1) c2]] W fun e w' => e = .returned (.bool m) ∧ Touch W5 w' (fun _ => False)) := Lib.hid (fun W h => hm ▸ (mmay_any v (n + 1) a2 (len + 1) c2 _ W (hri.keep h)).mono fun e w' k => ⟨k.1, h.trans k.2 (fun _ _ h => h)⟩)
    have HSA : RowKit.Hid (∀ W, Touch W5 W (fun _ => False) → Calls Tryd.prog 15 #[.agg #[.int .i64 v, .int .i64 n, .slice a len cap], .agg #[.int .i64 v, .int .i64 (n + 1), .slice a2 (len + 1) c2]] W fun e w' => e = .returned (.bool false) ∧ Touch W5 w' (fun _ => False)) := Lib.hid (fun W h => hq ▸ (msame_any v n a len cap zs v (n + 1) a2 (len + 1) c2 _ W (hrr W h) (hri.keep h)).mono fun e w' k => ⟨k.1, h.trans k.2 (fun _ _ h => h)⟩)
    have HTX : RowKit.Hid (Touch W1 W5 (fun _ => False)) := Lib.hid (T3.out.trans T5.out (fun k hk e => by have := HSZ.out; have := T2.out.size; have e : k = w2.heap.size := e; omega))
    have HAW : RowKit.Hid (∀ W, Touch W5 W (fun _ => False) → Calls Tryd.prog 17 #[] W fun e w' => e = .returned (.bool true) ∧ Touch W5 w' (fun _ => False)) := Lib.hid (fun W h => (awake5 W (HTB.out.touch (HTX.out.trans h (fun _ _ h => h)))).mono fun e w' k => ⟨k.1, h.trans k.2 (fun _ _ h => h)⟩)
    rw [HGR.out] at hm
    have HMM := Lib.hid hm
    rw [hW5]
    clear t5 hW5 hm5 hri hrr hm hq HRR HCB
    by_cases k1 : len + 1 ≤ 64
    case neg =>
      have e1 : ¬ ((len + 1 : Nat) : Int) ≤ 64 := by omega
      have hmf : m = false := by rw [← HMM.out, decide_eq_false k1]; rfl
      subst hmf
      clear k1
      have hS := (Touch.refl W5 (fun _ => False)).drew
      refine wp_region_sched (fun w' => Touch W5 w' (fun _ => False)) [(0, true), (2, true), (3, true), (4, true), (5, true), (1, false), (6, true), (7, true), (8, true), (9, true), (10, true), (11, true), (12, true), (13, true), (14, true), (15, false), (16, true), (17, true), (18, true), (19, false), (20, true), (21, true)] (by kernel_rfl) (by kernel_rfl) rfl (by kernel_rfl) hS ?_
      (refine walkS_row (some 21) rfl rfl 24 (.tmp 3) rfl (w2.heap.size) rfl _ _ _ _ (fun w' h => HG3.out w' h) Tryd.underlying24 rfl HIM.out (fun _ _ _ h => h) (by rfl) ?_; (try simp only [Act.put, List.setIfInBounds_toArray, List.set_cons_zero, List.set_cons_succ]))
      (refine walkS_take (v := ?_) (some 23) rfl rfl (fun _ _ _ h => h) (by rfl) ?_ ?_; rotate_left; (focus (intro w' hw'; obtain ⟨g1, g2⟩ := HGC.out w' hw'; go_simp; (try with_reducible rfl))); (try simp only [Act.put, List.setIfInBounds_toArray, List.set_cons_zero, List.set_cons_succ]))
      (refine walkS_take (v := ?_) (some 24) rfl rfl (fun _ _ _ h => h) (by rfl) ?_ ?_; rotate_left; (focus (intro w' hw'; obtain ⟨g1, g2⟩ := HGC.out w' hw'; go_simp; (try with_reducible rfl))); (try simp only [Act.put, List.setIfInBounds_toArray, List.set_cons_zero, List.set_cons_succ]))
      (refine walkS_take (v := ?_) (some 25) rfl rfl (fun _ _ _ h => h) (by rfl) ?_ ?_; rotate_left; (focus (intro w' hw'; obtain ⟨g1, g2⟩ := HGC.out w' hw'; go_simp; (try with_reducible rfl))); (try simp only [Act.put, List.setIfInBounds_toArray, List.set_cons_zero, List.set_cons_succ]))
      (refine walkS_bin (some 26) _ _ _ _ _ _ _ _ (leI_no _ _ (by omega)) rfl rfl rfl rfl rfl (fun _ _ _ h => h) (by rfl) ?_; (try simp only [Act.put, List.setIfInBounds_toArray, List.set_cons_zero, List.set_cons_succ]))
      first | (refine walkS_call 22 _ _ _ _ (HMA.out _ hS) rfl rfl rfl (by rfl) rfl (enter_gmay _ _) ?_; clear hS; rintro e w9 ⟨rfl, hS⟩; refine ⟨_, rfl, hS, fun hS => ?_⟩; (try simp only [Act.put, List.setIfInBounds_toArray, List.set_cons_zero, List.set_cons_succ])) | (refine walkS_call 22 _ _ _ _ (HSA.out _ hS) rfl rfl rfl (by rfl) rfl (enter_gsame _ _ _) ?_; clear hS; rintro e w9 ⟨rfl, hS⟩; refine ⟨_, rfl, hS, fun hS => ?_⟩; (try simp only [Act.put, List.setIfInBounds_toArray, List.set_cons_zero, List.set_cons_succ])) | (refine walkS_call 22 _ _ _ _ (HAW.out _ hS) rfl rfl rfl (by rfl) rfl (enter_gawake _) ?_; clear hS; rintro e w9 ⟨rfl, hS⟩; refine ⟨_, rfl, hS, fun hS => ?_⟩; (try simp only [Act.put, List.setIfInBounds_toArray, List.set_cons_zero, List.set_cons_succ]))
      (refine walkS_take (v := ?_) (some 27) rfl rfl (fun _ _ _ h => h) (by rfl) ?_ ?_; rotate_left; (focus (intro w' hw'; obtain ⟨g1, g2⟩ := HGC.out w' hw'; go_simp; (try with_reducible rfl))); (try simp only [Act.put, List.setIfInBounds_toArray, List.set_cons_zero, List.set_cons_succ]))
      first | (refine walkS_skip (some 28) rfl rfl (by rfl) (fun _ _ _ h => h) hS ?_; (try simp only [Act.put, List.setIfInBounds_toArray, List.set_cons_zero, List.set_cons_succ])) | (refine walkS_take (v := ?_) (some 28) rfl rfl (fun _ _ _ h => h) (by rfl) ?_ ?_; rotate_left; (focus (intro w' hw'; obtain ⟨g1, g2⟩ := HGC.out w' hw'; go_simp; (try with_reducible rfl))); (try simp only [Act.put, List.setIfInBounds_toArray, List.set_cons_zero, List.set_cons_succ]))
      first | (refine walkS_skip (some 29) rfl rfl (by rfl) (fun _ _ _ h => h) hS ?_; (try simp only [Act.put, List.setIfInBounds_toArray, List.set_cons_zero, List.set_cons_succ])) | (refine walkS_take (v := ?_) (some 29) rfl rfl (fun _ _ _ h => h) (by rfl) ?_ ?_; rotate_left; (focus (intro w' hw'; obtain ⟨g1, g2⟩ := HGC.out w' hw'; go_simp; (try with_reducible rfl))); (try simp only [Act.put, List.setIfInBounds_toArray, List.set_cons_zero, List.set_cons_succ]))
      first | (refine walkS_skip (some 30) rfl rfl (by rfl) (fun _ _ _ h => h) hS ?_; (try simp only [Act.put, List.setIfInBounds_toArray, List.set_cons_zero, List.set_cons_succ])) | (refine walkS_bin (some 30) _ _ _ _ _ _ _ _ (leI_no _ _ (by omega)) rfl rfl rfl rfl rfl (fun _ _ _ h => h) (by rfl) ?_; (try simp only [Act.put, List.setIfInBounds_toArray, List.set_cons_zero, List.set_cons_succ]))
      (refine walkS_take (v := ?_) (some 31) rfl rfl (fun _ _ _ h => h) (by rfl) ?_ ?_; rotate_left; (focus (intro w' hw'; obtain ⟨g1, g2⟩ := HGC.out w' hw'; go_simp; (try with_reducible rfl))); (try simp only [Act.put, List.setIfInBounds_toArray, List.set_cons_zero, List.set_cons_succ]))
      (refine walkS_take (v := ?_) (some 32) rfl rfl (fun _ _ _ h => h) (by rfl) ?_ ?_; rotate_left; (focus (intro w' hw'; obtain ⟨g1, g2⟩ := HGC.out w' hw'; go_simp; (try with_reducible rfl))); (try simp only [Act.put, List.setIfInBounds_toArray, List.set_cons_zero, List.set_cons_succ]))
      (refine walkS_take (v := ?_) (some 33) rfl rfl (fun _ _ _ h => h) (by rfl) ?_ ?_; rotate_left; (focus (intro w' hw'; obtain ⟨g1, g2⟩ := HGC.out w' hw'; go_simp; (try with_reducible rfl))); (try simp only [Act.put, List.setIfInBounds_toArray, List.set_cons_zero, List.set_cons_succ]))
      first | (refine walkS_skip (some 34) rfl rfl (by rfl) (fun _ _ _ h => h) hS ?_; (try simp only [Act.put, List.setIfInBounds_toArray, List.set_cons_zero, List.set_cons_succ])) | (refine walkS_row (some 34) rfl rfl 24 (.tmp 1) rfl (w.heap.size) rfl _ _ _ _ (fun w' h => HG1.out w' h) Tryd.underlying24 rfl HIM.out (fun _ _ _ h => h) (by rfl) ?_; (try simp only [Act.put, List.setIfInBounds_toArray, List.set_cons_zero, List.set_cons_succ]))
      first | (refine walkS_skip (some 35) rfl rfl (by rfl) (fun _ _ _ h => h) hS ?_; (try simp only [Act.put, List.setIfInBounds_toArray, List.set_cons_zero, List.set_cons_succ])) | (refine walkS_row (some 35) rfl rfl 24 (.tmp 3) rfl (w2.heap.size) rfl _ _ _ _ (fun w' h => HG3.out w' h) Tryd.underlying24 rfl HIM.out (fun _ _ _ h => h) (by rfl) ?_; (try simp only [Act.put, List.setIfInBounds_toArray, List.set_cons_zero, List.set_cons_succ]))
      first | (refine walkS_skip (some 36) rfl rfl (by rfl) (fun _ _ _ h => h) hS ?_; (try simp only [Act.put, List.setIfInBounds_toArray, List.set_cons_zero, List.set_cons_succ])) | (refine walkS_call 36 _ _ _ _ (HMA.out _ hS) rfl rfl rfl (by rfl) rfl (enter_gmay _ _) ?_; clear hS; rintro e w9 ⟨rfl, hS⟩; refine ⟨_, rfl, hS, fun hS => ?_⟩; (try simp only [Act.put, List.setIfInBounds_toArray, List.set_cons_zero, List.set_cons_succ])) | (refine walkS_call 36 _ _ _ _ (HSA.out _ hS) rfl rfl rfl (by rfl) rfl (enter_gsame _ _ _) ?_; clear hS; rintro e w9 ⟨rfl, hS⟩; refine ⟨_, rfl, hS, fun hS => ?_⟩; (try simp only [Act.put, List.setIfInBounds_toArray, List.set_cons_zero, List.set_cons_succ])) | (refine walkS_call 36 _ _ _ _ (HAW.out _ hS) rfl rfl rfl (by rfl) rfl (enter_gawake _) ?_; clear hS; rintro e w9 ⟨rfl, hS⟩; refine ⟨_, rfl, hS, fun hS => ?_⟩; (try simp only [Act.put, List.setIfInBounds_toArray, List.set_cons_zero, List.set_cons_succ]))
      first | (refine walkS_skip (some 37) rfl rfl (by rfl) (fun _ _ _ h => h) hS ?_; (try simp only [Act.put, List.setIfInBounds_toArray, List.set_cons_zero, List.set_cons_succ])) | (refine walkS_take (v := ?_) (some 37) rfl rfl (fun _ _ _ h => h) (by rfl) ?_ ?_; rotate_left; (focus (intro w' hw'; obtain ⟨g1, g2⟩ := HGC.out w' hw'; go_simp; (try with_reducible rfl))); (try simp only [Act.put, List.setIfInBounds_toArray, List.set_cons_zero, List.set_cons_succ]))
      (refine walkS_take (v := ?_) (some 38) rfl rfl (fun _ _ _ h => h) (by rfl) ?_ ?_; rotate_left; (focus (intro w' hw'; obtain ⟨g1, g2⟩ := HGC.out w' hw'; go_simp; (try with_reducible rfl))); (try simp only [Act.put, List.setIfInBounds_toArray, List.set_cons_zero, List.set_cons_succ]))
      (refine walkS_take (v := ?_) (some 39) rfl rfl (fun _ _ _ h => h) (by rfl) ?_ ?_; rotate_left; (focus (intro w' hw'; obtain ⟨g1, g2⟩ := HGC.out w' hw'; go_simp; (try with_reducible rfl))); (try simp only [Act.put, List.setIfInBounds_toArray, List.set_cons_zero, List.set_cons_succ]))
      first | (refine walkS_skip (some 40) rfl rfl (by rfl) (fun _ _ _ h => h) hS ?_; (try simp only [Act.put, List.setIfInBounds_toArray, List.set_cons_zero, List.set_cons_succ])) | (refine walkS_call 40 _ _ _ _ (HMA.out _ hS) rfl rfl rfl (by rfl) rfl (enter_gmay _ _) ?_; clear hS; rintro e w9 ⟨rfl, hS⟩; refine ⟨_, rfl, hS, fun hS => ?_⟩; (try simp only [Act.put, List.setIfInBounds_toArray, List.set_cons_zero, List.set_cons_succ])) | (refine walkS_call 40 _ _ _ _ (HSA.out _ hS) rfl rfl rfl (by rfl) rfl (enter_gsame _ _ _) ?_; clear hS; rintro e w9 ⟨rfl, hS⟩; refine ⟨_, rfl, hS, fun hS => ?_⟩; (try simp only [Act.put, List.setIfInBounds_toArray, List.set_cons_zero, List.set_cons_succ])) | (refine walkS_call 40 _ _ _ _ (HAW.out _ hS) rfl rfl rfl (by rfl) rfl (enter_gawake _) ?_; clear hS; rintro e w9 ⟨rfl, hS⟩; refine ⟨_, rfl, hS, fun hS => ?_⟩; (try simp only [Act.put, List.setIfInBounds_toArray, List.set_cons_zero, List.set_cons_succ]))
      (refine walkS_take (v := ?_) (some 41) rfl rfl (fun _ _ _ h => h) (by rfl) ?_ ?_; rotate_left; (focus (intro w' hw'; obtain ⟨g1, g2⟩ := HGC.out w' hw'; go_simp; (try with_reducible rfl))); (try simp only [Act.put, List.setIfInBounds_toArray, List.set_cons_zero, List.set_cons_succ]))
      (refine walkS_take (v := ?_) (some 2) rfl rfl (fun _ _ _ h => h) (by rfl) ?_ ?_; rotate_left; (focus (intro w' hw'; obtain ⟨g1, g2⟩ := HGC.out w' hw'; go_simp; (try with_reducible rfl))); (try simp only [Act.put, List.setIfInBounds_toArray, List.set_cons_zero, List.set_cons_succ]))
      refine walkS_done ?_

      go_wp2_with fail
      go_ret
      exact ⟨rfl, (HT1.out.trans HTX.out (fun _ _ h => h)).trans hS (fun _ _ h => h)⟩
    case pos =>
      have e1 : ((len + 1 : Nat) : Int) ≤ 64 := by omega
      by_cases k2 : n + 1 ≤ 1000000
      case neg =>
        have hmf : m = false := by rw [← HMM.out, decide_eq_false k2]; simp
        subst hmf
        clear k1
        have hS := (Touch.refl W5 (fun _ => False)).drew
        refine wp_region_sched (fun w' => Touch W5 w' (fun _ => False)) [(0, true), (2, true), (3, true), (4, true), (5, true), (1, false), (6, true), (7, true), (8, true), (9, true), (10, true), (11, true), (12, true), (13, true), (14, true), (15, false), (16, true), (17, true), (18, true), (19, false), (20, true), (21, true)] (by kernel_rfl) (by kernel_rfl) rfl (by kernel_rfl) hS ?_
        (refine walkS_row (some 21) rfl rfl 24 (.tmp 3) rfl (w2.heap.size) rfl _ _ _ _ (fun w' h => HG3.out w' h) Tryd.underlying24 rfl HIM.out (fun _ _ _ h => h) (by rfl) ?_; (try simp only [Act.put, List.setIfInBounds_toArray, List.set_cons_zero, List.set_cons_succ]))
        (refine walkS_take (v := ?_) (some 23) rfl rfl (fun _ _ _ h => h) (by rfl) ?_ ?_; rotate_left; (focus (intro w' hw'; obtain ⟨g1, g2⟩ := HGC.out w' hw'; go_simp; (try with_reducible rfl))); (try simp only [Act.put, List.setIfInBounds_toArray, List.set_cons_zero, List.set_cons_succ]))
        (refine walkS_take (v := ?_) (some 24) rfl rfl (fun _ _ _ h => h) (by rfl) ?_ ?_; rotate_left; (focus (intro w' hw'; obtain ⟨g1, g2⟩ := HGC.out w' hw'; go_simp; (try with_reducible rfl))); (try simp only [Act.put, List.setIfInBounds_toArray, List.set_cons_zero, List.set_cons_succ]))
        (refine walkS_take (v := ?_) (some 25) rfl rfl (fun _ _ _ h => h) (by rfl) ?_ ?_; rotate_left; (focus (intro w' hw'; obtain ⟨g1, g2⟩ := HGC.out w' hw'; go_simp; (try with_reducible rfl))); (try simp only [Act.put, List.setIfInBounds_toArray, List.set_cons_zero, List.set_cons_succ]))
        (refine walkS_bin (some 26) _ _ _ _ _ _ _ _ (leI_yes _ _ (by omega)) rfl rfl rfl rfl rfl (fun _ _ _ h => h) (by rfl) ?_; (try simp only [Act.put, List.setIfInBounds_toArray, List.set_cons_zero, List.set_cons_succ]))
        first | (refine walkS_call 22 _ _ _ _ (HMA.out _ hS) rfl rfl rfl (by rfl) rfl (enter_gmay _ _) ?_; clear hS; rintro e w9 ⟨rfl, hS⟩; refine ⟨_, rfl, hS, fun hS => ?_⟩; (try simp only [Act.put, List.setIfInBounds_toArray, List.set_cons_zero, List.set_cons_succ])) | (refine walkS_call 22 _ _ _ _ (HSA.out _ hS) rfl rfl rfl (by rfl) rfl (enter_gsame _ _ _) ?_; clear hS; rintro e w9 ⟨rfl, hS⟩; refine ⟨_, rfl, hS, fun hS => ?_⟩; (try simp only [Act.put, List.setIfInBounds_toArray, List.set_cons_zero, List.set_cons_succ])) | (refine walkS_call 22 _ _ _ _ (HAW.out _ hS) rfl rfl rfl (by rfl) rfl (enter_gawake _) ?_; clear hS; rintro e w9 ⟨rfl, hS⟩; refine ⟨_, rfl, hS, fun hS => ?_⟩; (try simp only [Act.put, List.setIfInBounds_toArray, List.set_cons_zero, List.set_cons_succ]))
        (refine walkS_take (v := ?_) (some 27) rfl rfl (fun _ _ _ h => h) (by rfl) ?_ ?_; rotate_left; (focus (intro w' hw'; obtain ⟨g1, g2⟩ := HGC.out w' hw'; go_simp; (try with_reducible rfl))); (try simp only [Act.put, List.setIfInBounds_toArray, List.set_cons_zero, List.set_cons_succ]))
        first | (refine walkS_skip (some 28) rfl rfl (by rfl) (fun _ _ _ h => h) hS ?_; (try simp only [Act.put, List.setIfInBounds_toArray, List.set_cons_zero, List.set_cons_succ])) | (refine walkS_take (v := ?_) (some 28) rfl rfl (fun _ _ _ h => h) (by rfl) ?_ ?_; rotate_left; (focus (intro w' hw'; obtain ⟨g1, g2⟩ := HGC.out w' hw'; go_simp; (try with_reducible rfl))); (try simp only [Act.put, List.setIfInBounds_toArray, List.set_cons_zero, List.set_cons_succ]))
        first | (refine walkS_skip (some 29) rfl rfl (by rfl) (fun _ _ _ h => h) hS ?_; (try simp only [Act.put, List.setIfInBounds_toArray, List.set_cons_zero, List.set_cons_succ])) | (refine walkS_take (v := ?_) (some 29) rfl rfl (fun _ _ _ h => h) (by rfl) ?_ ?_; rotate_left; (focus (intro w' hw'; obtain ⟨g1, g2⟩ := HGC.out w' hw'; go_simp; (try with_reducible rfl))); (try simp only [Act.put, List.setIfInBounds_toArray, List.set_cons_zero, List.set_cons_succ]))
        first | (refine walkS_skip (some 30) rfl rfl (by rfl) (fun _ _ _ h => h) hS ?_; (try simp only [Act.put, List.setIfInBounds_toArray, List.set_cons_zero, List.set_cons_succ])) | (refine walkS_bin (some 30) _ _ _ _ _ _ _ _ (leI_no _ _ (by omega)) rfl rfl rfl rfl rfl (fun _ _ _ h => h) (by rfl) ?_; (try simp only [Act.put, List.setIfInBounds_toArray, List.set_cons_zero, List.set_cons_succ]))
        (refine walkS_take (v := ?_) (some 31) rfl rfl (fun _ _ _ h => h) (by rfl) ?_ ?_; rotate_left; (focus (intro w' hw'; obtain ⟨g1, g2⟩ := HGC.out w' hw'; go_simp; (try with_reducible rfl))); (try simp only [Act.put, List.setIfInBounds_toArray, List.set_cons_zero, List.set_cons_succ]))
        (refine walkS_take (v := ?_) (some 32) rfl rfl (fun _ _ _ h => h) (by rfl) ?_ ?_; rotate_left; (focus (intro w' hw'; obtain ⟨g1, g2⟩ := HGC.out w' hw'; go_simp; (try with_reducible rfl))); (try simp only [Act.put, List.setIfInBounds_toArray, List.set_cons_zero, List.set_cons_succ]))
        (refine walkS_take (v := ?_) (some 33) rfl rfl (fun _ _ _ h => h) (by rfl) ?_ ?_; rotate_left; (focus (intro w' hw'; obtain ⟨g1, g2⟩ := HGC.out w' hw'; go_simp; (try with_reducible rfl))); (try simp only [Act.put, List.setIfInBounds_toArray, List.set_cons_zero, List.set_cons_succ]))
        first | (refine walkS_skip (some 34) rfl rfl (by rfl) (fun _ _ _ h => h) hS ?_; (try simp only [Act.put, List.setIfInBounds_toArray, List.set_cons_zero, List.set_cons_succ])) | (refine walkS_row (some 34) rfl rfl 24 (.tmp 1) rfl (w.heap.size) rfl _ _ _ _ (fun w' h => HG1.out w' h) Tryd.underlying24 rfl HIM.out (fun _ _ _ h => h) (by rfl) ?_; (try simp only [Act.put, List.setIfInBounds_toArray, List.set_cons_zero, List.set_cons_succ]))
        first | (refine walkS_skip (some 35) rfl rfl (by rfl) (fun _ _ _ h => h) hS ?_; (try simp only [Act.put, List.setIfInBounds_toArray, List.set_cons_zero, List.set_cons_succ])) | (refine walkS_row (some 35) rfl rfl 24 (.tmp 3) rfl (w2.heap.size) rfl _ _ _ _ (fun w' h => HG3.out w' h) Tryd.underlying24 rfl HIM.out (fun _ _ _ h => h) (by rfl) ?_; (try simp only [Act.put, List.setIfInBounds_toArray, List.set_cons_zero, List.set_cons_succ]))
        first | (refine walkS_skip (some 36) rfl rfl (by rfl) (fun _ _ _ h => h) hS ?_; (try simp only [Act.put, List.setIfInBounds_toArray, List.set_cons_zero, List.set_cons_succ])) | (refine walkS_call 36 _ _ _ _ (HMA.out _ hS) rfl rfl rfl (by rfl) rfl (enter_gmay _ _) ?_; clear hS; rintro e w9 ⟨rfl, hS⟩; refine ⟨_, rfl, hS, fun hS => ?_⟩; (try simp only [Act.put, List.setIfInBounds_toArray, List.set_cons_zero, List.set_cons_succ])) | (refine walkS_call 36 _ _ _ _ (HSA.out _ hS) rfl rfl rfl (by rfl) rfl (enter_gsame _ _ _) ?_; clear hS; rintro e w9 ⟨rfl, hS⟩; refine ⟨_, rfl, hS, fun hS => ?_⟩; (try simp only [Act.put, List.setIfInBounds_toArray, List.set_cons_zero, List.set_cons_succ])) | (refine walkS_call 36 _ _ _ _ (HAW.out _ hS) rfl rfl rfl (by rfl) rfl (enter_gawake _) ?_; clear hS; rintro e w9 ⟨rfl, hS⟩; refine ⟨_, rfl, hS, fun hS => ?_⟩; (try simp only [Act.put, List.setIfInBounds_toArray, List.set_cons_zero, List.set_cons_succ]))
        first | (refine walkS_skip (some 37) rfl rfl (by rfl) (fun _ _ _ h => h) hS ?_; (try simp only [Act.put, List.setIfInBounds_toArray, List.set_cons_zero, List.set_cons_succ])) | (refine walkS_take (v := ?_) (some 37) rfl rfl (fun _ _ _ h => h) (by rfl) ?_ ?_; rotate_left; (focus (intro w' hw'; obtain ⟨g1, g2⟩ := HGC.out w' hw'; go_simp; (try with_reducible rfl))); (try simp only [Act.put, List.setIfInBounds_toArray, List.set_cons_zero, List.set_cons_succ]))
        (refine walkS_take (v := ?_) (some 38) rfl rfl (fun _ _ _ h => h) (by rfl) ?_ ?_; rotate_left; (focus (intro w' hw'; obtain ⟨g1, g2⟩ := HGC.out w' hw'; go_simp; (try with_reducible rfl))); (try simp only [Act.put, List.setIfInBounds_toArray, List.set_cons_zero, List.set_cons_succ]))
        (refine walkS_take (v := ?_) (some 39) rfl rfl (fun _ _ _ h => h) (by rfl) ?_ ?_; rotate_left; (focus (intro w' hw'; obtain ⟨g1, g2⟩ := HGC.out w' hw'; go_simp; (try with_reducible rfl))); (try simp only [Act.put, List.setIfInBounds_toArray, List.set_cons_zero, List.set_cons_succ]))
        first | (refine walkS_skip (some 40) rfl rfl (by rfl) (fun _ _ _ h => h) hS ?_; (try simp only [Act.put, List.setIfInBounds_toArray, List.set_cons_zero, List.set_cons_succ])) | (refine walkS_call 40 _ _ _ _ (HMA.out _ hS) rfl rfl rfl (by rfl) rfl (enter_gmay _ _) ?_; clear hS; rintro e w9 ⟨rfl, hS⟩; refine ⟨_, rfl, hS, fun hS => ?_⟩; (try simp only [Act.put, List.setIfInBounds_toArray, List.set_cons_zero, List.set_cons_succ])) | (refine walkS_call 40 _ _ _ _ (HSA.out _ hS) rfl rfl rfl (by rfl) rfl (enter_gsame _ _ _) ?_; clear hS; rintro e w9 ⟨rfl, hS⟩; refine ⟨_, rfl, hS, fun hS => ?_⟩; (try simp only [Act.put, List.setIfInBounds_toArray, List.set_cons_zero, List.set_cons_succ])) | (refine walkS_call 40 _ _ _ _ (HAW.out _ hS) rfl rfl rfl (by rfl) rfl (enter_gawake _) ?_; clear hS; rintro e w9 ⟨rfl, hS⟩; refine ⟨_, rfl, hS, fun hS => ?_⟩; (try simp only [Act.put, List.setIfInBounds_toArray, List.set_cons_zero, List.set_cons_succ]))
        (refine walkS_take (v := ?_) (some 41) rfl rfl (fun _ _ _ h => h) (by rfl) ?_ ?_; rotate_left; (focus (intro w' hw'; obtain ⟨g1, g2⟩ := HGC.out w' hw'; go_simp; (try with_reducible rfl))); (try simp only [Act.put, List.setIfInBounds_toArray, List.set_cons_zero, List.set_cons_succ]))
        (refine walkS_take (v := ?_) (some 2) rfl rfl (fun _ _ _ h => h) (by rfl) ?_ ?_; rotate_left; (focus (intro w' hw'; obtain ⟨g1, g2⟩ := HGC.out w' hw'; go_simp; (try with_reducible rfl))); (try simp only [Act.put, List.setIfInBounds_toArray, List.set_cons_zero, List.set_cons_succ]))
        refine walkS_done ?_

        go_wp2_with fail
        go_ret
        exact ⟨rfl, (HT1.out.trans HTX.out (fun _ _ h => h)).trans hS (fun _ _ h => h)⟩
      case pos =>
        have hmf : m = true := by rw [← HMM.out, decide_eq_true k1, decide_eq_true k2]; rfl
        subst hmf
        clear k1
        have hS := (Touch.refl W5 (fun _ => False)).drew
        refine wp_region_sched (fun w' => Touch W5 w' (fun _ => False)) [(0, true), (2, true), (3, true), (4, true), (5, true), (1, false), (6, true), (7, true), (8, true), (9, true), (10, true), (11, true), (12, true), (13, true), (14, true), (15, false), (16, true), (17, true), (18, true), (19, false), (20, true), (21, true)] (by kernel_rfl) (by kernel_rfl) rfl (by kernel_rfl) hS ?_
        (refine walkS_row (some 21) rfl rfl 24 (.tmp 3) rfl (w2.heap.size) rfl _ _ _ _ (fun w' h => HG3.out w' h) Tryd.underlying24 rfl HIM.out (fun _ _ _ h => h) (by rfl) ?_; (try simp only [Act.put, List.setIfInBounds_toArray, List.set_cons_zero, List.set_cons_succ]))
        (refine walkS_take (v := ?_) (some 23) rfl rfl (fun _ _ _ h => h) (by rfl) ?_ ?_; rotate_left; (focus (intro w' hw'; obtain ⟨g1, g2⟩ := HGC.out w' hw'; go_simp; (try with_reducible rfl))); (try simp only [Act.put, List.setIfInBounds_toArray, List.set_cons_zero, List.set_cons_succ]))
        (refine walkS_take (v := ?_) (some 24) rfl rfl (fun _ _ _ h => h) (by rfl) ?_ ?_; rotate_left; (focus (intro w' hw'; obtain ⟨g1, g2⟩ := HGC.out w' hw'; go_simp; (try with_reducible rfl))); (try simp only [Act.put, List.setIfInBounds_toArray, List.set_cons_zero, List.set_cons_succ]))
        (refine walkS_take (v := ?_) (some 25) rfl rfl (fun _ _ _ h => h) (by rfl) ?_ ?_; rotate_left; (focus (intro w' hw'; obtain ⟨g1, g2⟩ := HGC.out w' hw'; go_simp; (try with_reducible rfl))); (try simp only [Act.put, List.setIfInBounds_toArray, List.set_cons_zero, List.set_cons_succ]))
        (refine walkS_bin (some 26) _ _ _ _ _ _ _ _ (leI_yes _ _ (by omega)) rfl rfl rfl rfl rfl (fun _ _ _ h => h) (by rfl) ?_; (try simp only [Act.put, List.setIfInBounds_toArray, List.set_cons_zero, List.set_cons_succ]))
        first | (refine walkS_call 22 _ _ _ _ (HMA.out _ hS) rfl rfl rfl (by rfl) rfl (enter_gmay _ _) ?_; clear hS; rintro e w9 ⟨rfl, hS⟩; refine ⟨_, rfl, hS, fun hS => ?_⟩; (try simp only [Act.put, List.setIfInBounds_toArray, List.set_cons_zero, List.set_cons_succ])) | (refine walkS_call 22 _ _ _ _ (HSA.out _ hS) rfl rfl rfl (by rfl) rfl (enter_gsame _ _ _) ?_; clear hS; rintro e w9 ⟨rfl, hS⟩; refine ⟨_, rfl, hS, fun hS => ?_⟩; (try simp only [Act.put, List.setIfInBounds_toArray, List.set_cons_zero, List.set_cons_succ])) | (refine walkS_call 22 _ _ _ _ (HAW.out _ hS) rfl rfl rfl (by rfl) rfl (enter_gawake _) ?_; clear hS; rintro e w9 ⟨rfl, hS⟩; refine ⟨_, rfl, hS, fun hS => ?_⟩; (try simp only [Act.put, List.setIfInBounds_toArray, List.set_cons_zero, List.set_cons_succ]))
        (refine walkS_take (v := ?_) (some 27) rfl rfl (fun _ _ _ h => h) (by rfl) ?_ ?_; rotate_left; (focus (intro w' hw'; obtain ⟨g1, g2⟩ := HGC.out w' hw'; go_simp; (try with_reducible rfl))); (try simp only [Act.put, List.setIfInBounds_toArray, List.set_cons_zero, List.set_cons_succ]))
        first | (refine walkS_skip (some 28) rfl rfl (by rfl) (fun _ _ _ h => h) hS ?_; (try simp only [Act.put, List.setIfInBounds_toArray, List.set_cons_zero, List.set_cons_succ])) | (refine walkS_take (v := ?_) (some 28) rfl rfl (fun _ _ _ h => h) (by rfl) ?_ ?_; rotate_left; (focus (intro w' hw'; obtain ⟨g1, g2⟩ := HGC.out w' hw'; go_simp; (try with_reducible rfl))); (try simp only [Act.put, List.setIfInBounds_toArray, List.set_cons_zero, List.set_cons_succ]))
        first | (refine walkS_skip (some 29) rfl rfl (by rfl) (fun _ _ _ h => h) hS ?_; (try simp only [Act.put, List.setIfInBounds_toArray, List.set_cons_zero, List.set_cons_succ])) | (refine walkS_take (v := ?_) (some 29) rfl rfl (fun _ _ _ h => h) (by rfl) ?_ ?_; rotate_left; (focus (intro w' hw'; obtain ⟨g1, g2⟩ := HGC.out w' hw'; go_simp; (try with_reducible rfl))); (try simp only [Act.put, List.setIfInBounds_toArray, List.set_cons_zero, List.set_cons_succ]))
        first | (refine walkS_skip (some 30) rfl rfl (by rfl) (fun _ _ _ h => h) hS ?_; (try simp only [Act.put, List.setIfInBounds_toArray, List.set_cons_zero, List.set_cons_succ])) | (refine walkS_bin (some 30) _ _ _ _ _ _ _ _ (leI_yes _ _ (by omega)) rfl rfl rfl rfl rfl (fun _ _ _ h => h) (by rfl) ?_; (try simp only [Act.put, List.setIfInBounds_toArray, List.set_cons_zero, List.set_cons_succ]))
        (refine walkS_take (v := ?_) (some 31) rfl rfl (fun _ _ _ h => h) (by rfl) ?_ ?_; rotate_left; (focus (intro w' hw'; obtain ⟨g1, g2⟩ := HGC.out w' hw'; go_simp; (try with_reducible rfl))); (try simp only [Act.put, List.setIfInBounds_toArray, List.set_cons_zero, List.set_cons_succ]))
        (refine walkS_take (v := ?_) (some 32) rfl rfl (fun _ _ _ h => h) (by rfl) ?_ ?_; rotate_left; (focus (intro w' hw'; obtain ⟨g1, g2⟩ := HGC.out w' hw'; go_simp; (try with_reducible rfl))); (try simp only [Act.put, List.setIfInBounds_toArray, List.set_cons_zero, List.set_cons_succ]))
        (refine walkS_take (v := ?_) (some 33) rfl rfl (fun _ _ _ h => h) (by rfl) ?_ ?_; rotate_left; (focus (intro w' hw'; obtain ⟨g1, g2⟩ := HGC.out w' hw'; go_simp; (try with_reducible rfl))); (try simp only [Act.put, List.setIfInBounds_toArray, List.set_cons_zero, List.set_cons_succ]))
        first | (refine walkS_skip (some 34) rfl rfl (by rfl) (fun _ _ _ h => h) hS ?_; (try simp only [Act.put, List.setIfInBounds_toArray, List.set_cons_zero, List.set_cons_succ])) | (refine walkS_row (some 34) rfl rfl 24 (.tmp 1) rfl (w.heap.size) rfl _ _ _ _ (fun w' h => HG1.out w' h) Tryd.underlying24 rfl HIM.out (fun _ _ _ h => h) (by rfl) ?_; (try simp only [Act.put, List.setIfInBounds_toArray, List.set_cons_zero, List.set_cons_succ]))
        first | (refine walkS_skip (some 35) rfl rfl (by rfl) (fun _ _ _ h => h) hS ?_; (try simp only [Act.put, List.setIfInBounds_toArray, List.set_cons_zero, List.set_cons_succ])) | (refine walkS_row (some 35) rfl rfl 24 (.tmp 3) rfl (w2.heap.size) rfl _ _ _ _ (fun w' h => HG3.out w' h) Tryd.underlying24 rfl HIM.out (fun _ _ _ h => h) (by rfl) ?_; (try simp only [Act.put, List.setIfInBounds_toArray, List.set_cons_zero, List.set_cons_succ]))
        first | (refine walkS_skip (some 36) rfl rfl (by rfl) (fun _ _ _ h => h) hS ?_; (try simp only [Act.put, List.setIfInBounds_toArray, List.set_cons_zero, List.set_cons_succ])) | (refine walkS_call 36 _ _ _ _ (HMA.out _ hS) rfl rfl rfl (by rfl) rfl (enter_gmay _ _) ?_; clear hS; rintro e w9 ⟨rfl, hS⟩; refine ⟨_, rfl, hS, fun hS => ?_⟩; (try simp only [Act.put, List.setIfInBounds_toArray, List.set_cons_zero, List.set_cons_succ])) | (refine walkS_call 36 _ _ _ _ (HSA.out _ hS) rfl rfl rfl (by rfl) rfl (enter_gsame _ _ _) ?_; clear hS; rintro e w9 ⟨rfl, hS⟩; refine ⟨_, rfl, hS, fun hS => ?_⟩; (try simp only [Act.put, List.setIfInBounds_toArray, List.set_cons_zero, List.set_cons_succ])) | (refine walkS_call 36 _ _ _ _ (HAW.out _ hS) rfl rfl rfl (by rfl) rfl (enter_gawake _) ?_; clear hS; rintro e w9 ⟨rfl, hS⟩; refine ⟨_, rfl, hS, fun hS => ?_⟩; (try simp only [Act.put, List.setIfInBounds_toArray, List.set_cons_zero, List.set_cons_succ]))
        first | (refine walkS_skip (some 37) rfl rfl (by rfl) (fun _ _ _ h => h) hS ?_; (try simp only [Act.put, List.setIfInBounds_toArray, List.set_cons_zero, List.set_cons_succ])) | (refine walkS_take (v := ?_) (some 37) rfl rfl (fun _ _ _ h => h) (by rfl) ?_ ?_; rotate_left; (focus (intro w' hw'; obtain ⟨g1, g2⟩ := HGC.out w' hw'; go_simp; (try with_reducible rfl))); (try simp only [Act.put, List.setIfInBounds_toArray, List.set_cons_zero, List.set_cons_succ]))
        (refine walkS_take (v := ?_) (some 38) rfl rfl (fun _ _ _ h => h) (by rfl) ?_ ?_; rotate_left; (focus (intro w' hw'; obtain ⟨g1, g2⟩ := HGC.out w' hw'; go_simp; (try with_reducible rfl))); (try simp only [Act.put, List.setIfInBounds_toArray, List.set_cons_zero, List.set_cons_succ]))
        (refine walkS_take (v := ?_) (some 39) rfl rfl (fun _ _ _ h => h) (by rfl) ?_ ?_; rotate_left; (focus (intro w' hw'; obtain ⟨g1, g2⟩ := HGC.out w' hw'; go_simp; (try with_reducible rfl))); (try simp only [Act.put, List.setIfInBounds_toArray, List.set_cons_zero, List.set_cons_succ]))
        first | (refine walkS_skip (some 40) rfl rfl (by rfl) (fun _ _ _ h => h) hS ?_; (try simp only [Act.put, List.setIfInBounds_toArray, List.set_cons_zero, List.set_cons_succ])) | (refine walkS_call 40 _ _ _ _ (HMA.out _ hS) rfl rfl rfl (by rfl) rfl (enter_gmay _ _) ?_; clear hS; rintro e w9 ⟨rfl, hS⟩; refine ⟨_, rfl, hS, fun hS => ?_⟩; (try simp only [Act.put, List.setIfInBounds_toArray, List.set_cons_zero, List.set_cons_succ])) | (refine walkS_call 40 _ _ _ _ (HSA.out _ hS) rfl rfl rfl (by rfl) rfl (enter_gsame _ _ _) ?_; clear hS; rintro e w9 ⟨rfl, hS⟩; refine ⟨_, rfl, hS, fun hS => ?_⟩; (try simp only [Act.put, List.setIfInBounds_toArray, List.set_cons_zero, List.set_cons_succ])) | (refine walkS_call 40 _ _ _ _ (HAW.out _ hS) rfl rfl rfl (by rfl) rfl (enter_gawake _) ?_; clear hS; rintro e w9 ⟨rfl, hS⟩; refine ⟨_, rfl, hS, fun hS => ?_⟩; (try simp only [Act.put, List.setIfInBounds_toArray, List.set_cons_zero, List.set_cons_succ]))
        (refine walkS_take (v := ?_) (some 41) rfl rfl (fun _ _ _ h => h) (by rfl) ?_ ?_; rotate_left; (focus (intro w' hw'; obtain ⟨g1, g2⟩ := HGC.out w' hw'; go_simp; (try with_reducible rfl))); (try simp only [Act.put, List.setIfInBounds_toArray, List.set_cons_zero, List.set_cons_succ]))
        (refine walkS_take (v := ?_) (some 2) rfl rfl (fun _ _ _ h => h) (by rfl) ?_ ?_; rotate_left; (focus (intro w' hw'; obtain ⟨g1, g2⟩ := HGC.out w' hw'; go_simp; (try with_reducible rfl))); (try simp only [Act.put, List.setIfInBounds_toArray, List.set_cons_zero, List.set_cons_succ]))
        refine walkS_done ?_

        go_wp2_with fail
        go_ret
        exact ⟨rfl, (HT1.out.trans HTX.out (fun _ _ h => h)).trans hS (fun _ _ h => h)⟩
theorem manifestGrows_holds : Rows.ManifestGrowsCardSaid := by
  refine manifestGrows.said fun H enc W base v0 d0 p0 h0 hT hM => ?_
  obtain ⟨v, n, a, len, cap, zs, rfl, hr, _⟩ := h0.manD
  exact (mgrows_walk v n a len cap zs W hr hT).mono fun e w' h => ⟨h.1, h.2.under (Nat.le_refl _)⟩
end Go.Proofs.YtibpnlhdpdfhiaaDoor
