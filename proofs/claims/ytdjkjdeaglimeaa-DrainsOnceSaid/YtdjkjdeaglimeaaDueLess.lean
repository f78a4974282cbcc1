/- The queue's Less. -/
import Derived.Test.YtdjkjdeaglimeaaDueB
import Derived.Deep.DeepCutAuto
set_option linter.unusedVariables false
set_option linter.unusedSimpArgs false
namespace Go.Proofs.Ytdjkjdeaglimeaa
open Go.RowKit

set_option maxRecDepth 20000 in
set_option maxHeartbeats 4000000 in
theorem kless_any (w1 : World) (b : Nat) (h : QH) (l : List QR) (q : QB w1 b h l) (i j : Nat) (hi : i < l.length) (hj : j < l.length) :
    Calls Try.prog 93 #[.pointer (some ⟨b, 0, none⟩), .int .i64 i, .int .i64 j] w1 fun e w' => e = .returned (.bool (ltQ (gq l i) (gq l j))) ∧ Touch w1 w' (fun _ => False) := by
  obtain ⟨g, ha, hg0, hg1⟩ := q.at' (by omega)
  have hcap := q.row.hcap
  have hmax := q.row.hmax
  have hlen := q.len
  have HC : RowKit.Hid (∀ W, Touch w1 W (fun _ => False) → W.cell? ⟨b, 0, none⟩ = some (.slice (some ⟨g, 0, none⟩) l.length h.c) ∧ W.cell? ⟨g, i * 2, none⟩ = some (.string (gq l i).key) ∧ W.cell? ⟨g, i * 2 + 1, none⟩ = some (.int .i64 (gq l i).time) ∧ W.cell? ⟨g, j * 2, none⟩ = some (.string (gq l j).key) ∧ W.cell? ⟨g, j * 2 + 1, none⟩ = some (.int .i64 (gq l j).time)) := Lib.hid (fun W t => by
    have q2 := q.still t
    have h0 := q2.cells.1
    rw [ha] at h0
    exact ⟨h0, (q2.cell2 ha i hi).1, (q2.cell2 ha i hi).2, (q2.cell2 ha j hj).1, (q2.cell2 ha j hj).2⟩)
  have HSZ : RowKit.Hid (b < g ∧ g < w1.heap.size) := Lib.hid ⟨hg0, hg1⟩
  have hiI : (i : Int) < l.length := by omega
  have hjI : (j : Int) < l.length := by omega
  have HLT := Lib.hid (ltQ_iff (gq l i) (gq l j))
  clear q ha hg0 hg1
  generalize l.length = n at *
  go_enter Try.func93, Try.ntmps93
  go_wp2_with fail
  go_cut [7, 8] (fun s7 s8 wx => ∃ A B, s7 = .pointer (some ⟨A, 0, none⟩) ∧ s8 = .pointer (some ⟨B, 0, none⟩) ∧ wx.heap[A]? = some (.cells #[.string (gq l i).key, .int .i64 (gq l i).time] 88 (0, 0)) ∧ wx.heap[B]? = some (.cells #[.string (gq l j).key, .int .i64 (gq l j).time] 88 (0, 0)) ∧ Touch w1 wx (fun _ => False))
  case first =>
    go_wp2_with fail
    have hS := (Touch.refl w1 (fun _ => False)).drew
    refine wp_region_tree (fun w' => Touch w1 w' (fun _ => False)) (.take 0 (.take 1 (.take 2 (.take 3 (.take 4 (.take 5 (.take 6 (.take 7 (.take 8 (.take 9 (.take 10 (.take 11 (.take 12 (.take 13 (.two 14 15 (.one 15 (.one 16 (.one 17 .fin))) (.one 14 (.one 16 (.one 17 .fin)))))))))))))))))) (by kernel_rfl) (by kernel_rfl) (by kernel_rfl) (by kernel_rfl) hS ?_
    refine walkT_take ?_
    (refine takeN_take (v := ?_) (some 9) rfl rfl (fun _ _ _ h => h) (by rfl) ?_ ?_; rotate_left; (focus (intro w' hw'; obtain ⟨c0, c1, c2, c3, c4⟩ := HC.out w' hw'; go_simp; (try with_reducible rfl))); (try simp only [Act.put, List.setIfInBounds_toArray, List.set_cons_zero, List.set_cons_succ]))
    refine walkT_take ?_
    (refine takeN_take (v := ?_) (some 10) rfl rfl (fun _ _ _ h => h) (by rfl) ?_ ?_; rotate_left; (focus (intro w' hw'; obtain ⟨c0, c1, c2, c3, c4⟩ := HC.out w' hw'; go_simp; (try with_reducible rfl))); (try simp only [Act.put, List.setIfInBounds_toArray, List.set_cons_zero, List.set_cons_succ]))
    refine walkT_take ?_
    (refine takeN_take (v := ?_) (some 11) rfl rfl (fun _ _ _ h => h) (by rfl) ?_ ?_; rotate_left; (focus (intro w' hw'; obtain ⟨c0, c1, c2, c3, c4⟩ := HC.out w' hw'; go_simp; (try with_reducible rfl))); (try simp only [Act.put, List.setIfInBounds_toArray, List.set_cons_zero, List.set_cons_succ]))
    refine walkT_take ?_
    (refine takeN_take (v := ?_) (some 12) rfl rfl (fun _ _ _ h => h) (by rfl) ?_ ?_; rotate_left; (focus (intro w' hw'; obtain ⟨c0, c1, c2, c3, c4⟩ := HC.out w' hw'; go_simp; (try with_reducible rfl))); (try simp only [Act.put, List.setIfInBounds_toArray, List.set_cons_zero, List.set_cons_succ]))
    refine walkT_take ?_
    (refine takeN_take (v := ?_) (some 13) rfl rfl (fun _ _ _ h => h) (by rfl) ?_ ?_; rotate_left; (focus (intro w' hw'; obtain ⟨c0, c1, c2, c3, c4⟩ := HC.out w' hw'; go_simp; (try with_reducible rfl))); (try simp only [Act.put, List.setIfInBounds_toArray, List.set_cons_zero, List.set_cons_succ]))
    refine walkT_take ?_
    (refine takeN_take (v := ?_) (some 14) rfl rfl (fun _ _ _ h => h) (by rfl) ?_ ?_; rotate_left; (focus (intro w' hw'; obtain ⟨c0, c1, c2, c3, c4⟩ := HC.out w' hw'; go_simp; (try with_reducible rfl))); (try simp only [Act.put, List.setIfInBounds_toArray, List.set_cons_zero, List.set_cons_succ]))
    refine walkT_take ?_
    (refine takeN_take (v := ?_) (some 15) rfl rfl (fun _ _ _ h => h) (by rfl) ?_ ?_; rotate_left; (focus (intro w' hw'; obtain ⟨c0, c1, c2, c3, c4⟩ := HC.out w' hw'; go_simp; (try with_reducible rfl))); (try simp only [Act.put, List.setIfInBounds_toArray, List.set_cons_zero, List.set_cons_succ]))
    refine walkT_take ?_
    (refine takeN_take (v := ?_) (some 16) rfl rfl (fun _ _ _ h => h) (by rfl) ?_ ?_; rotate_left; (focus (intro w' hw'; obtain ⟨c0, c1, c2, c3, c4⟩ := HC.out w' hw'; go_simp; (try with_reducible rfl))); (try simp only [Act.put, List.setIfInBounds_toArray, List.set_cons_zero, List.set_cons_succ]))
    refine walkT_take ?_
    (refine takeN_take (v := ?_) (some 17) rfl rfl (fun _ _ _ h => h) (by rfl) ?_ ?_; rotate_left; (focus (intro w' hw'; obtain ⟨c0, c1, c2, c3, c4⟩ := HC.out w' hw'; go_simp; (try with_reducible rfl))); (try simp only [Act.put, List.setIfInBounds_toArray, List.set_cons_zero, List.set_cons_succ]))
    refine walkT_take ?_
    (refine takeN_take (v := ?_) (some 18) rfl rfl (fun _ _ _ h => h) (by rfl) ?_ ?_; rotate_left; (focus (intro w' hw'; obtain ⟨c0, c1, c2, c3, c4⟩ := HC.out w' hw'; go_simp; (try with_reducible rfl))); (try simp only [Act.put, List.setIfInBounds_toArray, List.set_cons_zero, List.set_cons_succ]))
    refine walkT_take ?_
    (refine takeN_take (v := ?_) (some 19) rfl rfl (fun _ _ _ h => h) (by rfl) ?_ ?_; rotate_left; (focus (intro w' hw'; obtain ⟨c0, c1, c2, c3, c4⟩ := HC.out w' hw'; go_simp; (try with_reducible rfl))); (try simp only [Act.put, List.setIfInBounds_toArray, List.set_cons_zero, List.set_cons_succ]))
    refine walkT_take ?_
    (refine takeN_take (v := ?_) (some 20) rfl rfl (fun _ _ _ h => h) (by rfl) ?_ ?_; rotate_left; (focus (intro w' hw'; obtain ⟨c0, c1, c2, c3, c4⟩ := HC.out w' hw'; go_simp; (try with_reducible rfl))); (try simp only [Act.put, List.setIfInBounds_toArray, List.set_cons_zero, List.set_cons_succ]))
    refine walkT_take ?_
    (refine takeN_take (v := ?_) (some 21) rfl rfl (fun _ _ _ h => h) (by rfl) ?_ ?_; rotate_left; (focus (intro w' hw'; obtain ⟨c0, c1, c2, c3, c4⟩ := HC.out w' hw'; go_simp; (try with_reducible rfl))); (try simp only [Act.put, List.setIfInBounds_toArray, List.set_cons_zero, List.set_cons_succ]))
    refine walkT_take ?_
    (refine takeN_take (v := ?_) (some 22) rfl rfl (fun _ _ _ h => h) (by rfl) ?_ ?_; rotate_left; (focus (intro w' hw'; obtain ⟨c0, c1, c2, c3, c4⟩ := HC.out w' hw'; go_simp; (try with_reducible rfl))); (try simp only [Act.put, List.setIfInBounds_toArray, List.set_cons_zero, List.set_cons_succ]))
    refine walkT_two ?_ ?_
    · (have HAZ := Lib.hid hS.size; (try have HLB := Lib.hid (heap_lt HB.out)); refine runN_new 7 (fun W => .pointer (some ⟨W.heap.size, 0, none⟩)) #[.string ByteArray.empty, .int .i64 0] 88 rfl rfl (by rfl) (by intro W; go_simp <;> first | with_reducible rfl | rfl | exact ⟨rfl, rfl⟩) ?_; intro w7 hw7 hM7 hs7 t7; have hS := hS.trans t7 (fun _ _ h => h.elim); refine ⟨hS, fun _ => ?_⟩; clear hw7 hs7; have HA := Lib.hid hM7; (try have HB := Lib.hid (t7.keeps HB.out (fun h => h))); clear hM7 t7; (try simp only [Act.put, List.setIfInBounds_toArray, List.set_cons_zero, List.set_cons_succ]))
      refine walkT_one ?_
      (have HBZ := Lib.hid hS.size; (try have HLA := Lib.hid (heap_lt HA.out)); refine runN_new 8 (fun W => .pointer (some ⟨W.heap.size, 0, none⟩)) #[.string ByteArray.empty, .int .i64 0] 88 rfl rfl (by rfl) (by intro W; go_simp <;> first | with_reducible rfl | rfl | exact ⟨rfl, rfl⟩) ?_; intro w7 hw7 hM7 hs7 t7; have hS := hS.trans t7 (fun _ _ h => h.elim); refine ⟨hS, fun _ => ?_⟩; clear hw7 hs7; have HB := Lib.hid hM7; (try have HA := Lib.hid (t7.keeps HA.out (fun h => h))); clear hM7 t7; (try simp only [Act.put, List.setIfInBounds_toArray, List.set_cons_zero, List.set_cons_succ]))
      refine walkT_one ?_
      (refine runN_store rfl rfl (by rfl) 88 _ _ rfl _ #[.string (gq l i).key, .int .i64 (gq l i).time] rfl rfl _ _ HA.out infoRow rfl rfl ?_; intro w6 hM6 ht; refine ⟨hS.trans ht (fun k hk h => by have e : k = _ := h; have h9 := HAZ.out; omega), fun hS => ?_⟩; have HB := Lib.hid (ht.keeps HB.out (fun e => by first | (have h8 := HLA.out; omega) | (have h8 := HLB.out; omega))); have HA := Lib.hid hM6; clear hM6 ht; (try simp only [Act.put, List.setIfInBounds_toArray, List.set_cons_zero, List.set_cons_succ]))
      refine walkT_one ?_
      (refine runN_store rfl rfl (by rfl) 88 _ _ rfl _ #[.string (gq l j).key, .int .i64 (gq l j).time] rfl rfl _ _ HB.out infoRow rfl rfl ?_; intro w6 hM6 ht; refine ⟨hS.trans ht (fun k hk h => by have e : k = _ := h; have h9 := HBZ.out; omega), fun hS => ?_⟩; have HA := Lib.hid (ht.keeps HA.out (fun e => by first | (have h8 := HLA.out; omega) | (have h8 := HLB.out; omega))); have HB := Lib.hid hM6; clear hM6 ht; (try simp only [Act.put, List.setIfInBounds_toArray, List.set_cons_zero, List.set_cons_succ]))
      refine walkT_fin ?_
      go_wp2_with fail
      go_meet
      exact ⟨_, _, rfl, rfl, HA.out, HB.out, hS⟩
    · (have HBZ := Lib.hid hS.size; (try have HLA := Lib.hid (heap_lt HA.out)); refine runN_new 8 (fun W => .pointer (some ⟨W.heap.size, 0, none⟩)) #[.string ByteArray.empty, .int .i64 0] 88 rfl rfl (by rfl) (by intro W; go_simp <;> first | with_reducible rfl | rfl | exact ⟨rfl, rfl⟩) ?_; intro w7 hw7 hM7 hs7 t7; have hS := hS.trans t7 (fun _ _ h => h.elim); refine ⟨hS, fun _ => ?_⟩; clear hw7 hs7; have HB := Lib.hid hM7; (try have HA := Lib.hid (t7.keeps HA.out (fun h => h))); clear hM7 t7; (try simp only [Act.put, List.setIfInBounds_toArray, List.set_cons_zero, List.set_cons_succ]))
      refine walkT_one ?_
      (have HAZ := Lib.hid hS.size; (try have HLB := Lib.hid (heap_lt HB.out)); refine runN_new 7 (fun W => .pointer (some ⟨W.heap.size, 0, none⟩)) #[.string ByteArray.empty, .int .i64 0] 88 rfl rfl (by rfl) (by intro W; go_simp <;> first | with_reducible rfl | rfl | exact ⟨rfl, rfl⟩) ?_; intro w7 hw7 hM7 hs7 t7; have hS := hS.trans t7 (fun _ _ h => h.elim); refine ⟨hS, fun _ => ?_⟩; clear hw7 hs7; have HA := Lib.hid hM7; (try have HB := Lib.hid (t7.keeps HB.out (fun h => h))); clear hM7 t7; (try simp only [Act.put, List.setIfInBounds_toArray, List.set_cons_zero, List.set_cons_succ]))
      refine walkT_one ?_
      (refine runN_store rfl rfl (by rfl) 88 _ _ rfl _ #[.string (gq l i).key, .int .i64 (gq l i).time] rfl rfl _ _ HA.out infoRow rfl rfl ?_; intro w6 hM6 ht; refine ⟨hS.trans ht (fun k hk h => by have e : k = _ := h; have h9 := HAZ.out; omega), fun hS => ?_⟩; have HB := Lib.hid (ht.keeps HB.out (fun e => by first | (have h8 := HLA.out; omega) | (have h8 := HLB.out; omega))); have HA := Lib.hid hM6; clear hM6 ht; (try simp only [Act.put, List.setIfInBounds_toArray, List.set_cons_zero, List.set_cons_succ]))
      refine walkT_one ?_
      (refine runN_store rfl rfl (by rfl) 88 _ _ rfl _ #[.string (gq l j).key, .int .i64 (gq l j).time] rfl rfl _ _ HB.out infoRow rfl rfl ?_; intro w6 hM6 ht; refine ⟨hS.trans ht (fun k hk h => by have e : k = _ := h; have h9 := HBZ.out; omega), fun hS => ?_⟩; have HA := Lib.hid (ht.keeps HA.out (fun e => by first | (have h8 := HLA.out; omega) | (have h8 := HLB.out; omega))); have HB := Lib.hid hM6; clear hM6 ht; (try simp only [Act.put, List.setIfInBounds_toArray, List.set_cons_zero, List.set_cons_succ]))
      refine walkT_fin ?_
      go_wp2_with fail
      go_meet
      exact ⟨_, _, rfl, rfl, HA.out, HB.out, hS⟩

  case rest =>
    obtain ⟨A, B, rfl, rfl, hA, hB, ht⟩ := hcut
    have d0 := cell_of_cells hA 0
    have d1 := cell_of_cells hA 1
    have d2 := cell_of_cells hB 0
    have d3 := cell_of_cells hB 1
    simp at d0 d1 d2 d3
    have HT := Lib.hid ht
    clear hA hB ht
    obtain ⟨⟨xk, xt⟩, hx⟩ : ∃ x, gq l i = x := ⟨_, rfl⟩
    obtain ⟨⟨yk, yt⟩, hy⟩ : ∃ x, gq l j = x := ⟨_, rfl⟩
    have HX := Lib.hid hx
    have HY := Lib.hid hy
    rw [hx] at d0 d1 HLT
    rw [hy] at d2 d3 HLT
    simp only at d0 d1 d2 d3
    clear hx hy
    by_cases h1 : xt < yt
    · have HF : RowKit.Hid (ltQ ⟨xk, xt⟩ ⟨yk, yt⟩ = true) := Lib.hid (HLT.out.2 (.inl h1))
      go_wp2
      go_ret
      exact ⟨by rw [HX.out, HY.out, HF.out]; rfl, HT.out⟩
    · by_cases h2 : xt = yt
      · subst h2
        have hb : (xt == xt) = true := beq_self_eq_true xt
        obtain ⟨z, hz⟩ : ∃ z, Op.bytesLess xk.toList yk.toList = z := ⟨_, rfl⟩
        have HF : RowKit.Hid (ltQ ⟨xk, xt⟩ ⟨yk, xt⟩ = z) := Lib.hid (by rw [← hz]; simp [ltQ, blB])
        go_wp2
        go_ret
        exact ⟨by rw [HX.out, HY.out, HF.out, ← hz]; rfl, HT.out⟩
      · have hb : (xt == yt) = false := beq_eq_false_iff_ne.2 h2
        have HF : RowKit.Hid (ltQ ⟨xk, xt⟩ ⟨yk, yt⟩ = false) := Lib.hid (by
          rw [Bool.eq_false_iff]; intro h
          rcases HLT.out.1 h with h | h
          · exact h1 h
          · exact h2 h.1)
        go_wp2
        go_ret
        exact ⟨by rw [HX.out, HY.out, HF.out]; rfl, HT.out⟩
end Go.Proofs.Ytdjkjdeaglimeaa
