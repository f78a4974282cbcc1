/- The queue's Swap. -/
import Derived.Test.YtdjkjdeaglimeaaDueS
import Derived.Deep.DeepCutAuto
set_option linter.unusedVariables false
set_option linter.unusedSimpArgs false
namespace Go.Proofs.Ytdjkjdeaglimeaa
open Go.RowKit

set_option maxRecDepth 20000 in
set_option maxHeartbeats 8000000 in
theorem kswap_any (w1 : World) (b : Nat) (h : QH) (l : List QR) (q : QB w1 b h l) (i j : Nat) (hi : i < l.length) (hj : j < l.length) :
    Calls Try.prog 96 #[.pointer (some ⟨b, 0, none⟩), .int .i64 i, .int .i64 j] w1 fun e w' => e = .returned (.tuple #[]) ∧ QStep w1 w' b h (swapQ l i j) := by
  obtain ⟨g, ha, hg0, hg1⟩ := q.at' (by omega)
  obtain ⟨ha', hc, hmo⟩ := h
  simp only at ha
  subst ha
  have hcap := q.row.hcap
  have hmax := q.row.hmax
  have hlen := q.len
  have hmp := q.map
  obtain ⟨mb, rfl⟩ : ∃ mb, hmo = some mb := by
    cases hmo with
    | none => unfold MapQ at hmp; simp only at hmp; subst hmp; simp at hi
    | some mb => exact ⟨mb, rfl⟩
  unfold MapQ at hmp
  simp only at hmp
  obtain ⟨hm1, hm2, D, hD, hP⟩ := hmp
  have hgm : g ≠ mb := hm2 g rfl
  have hmlt := hD.lt
  have HC : RowKit.Hid (∀ W, Touch w1 W (fun k => k = g) → W.cell? ⟨b, 0, none⟩ = some (.slice (some ⟨g, 0, none⟩) l.length hc) ∧ W.cell? ⟨b, 1, none⟩ = some (.map (some mb))) := Lib.hid (fun W t => by
    have h9 := t.keeps q.head (fun e => by have e : b = g := e; omega)
    exact ⟨cell_of_cells h9 0, cell_of_cells h9 1⟩)
  have HOW := Lib.hid (OwnS.still q.own ((Touch.refl w1 (fun _ => False)).drew))
  have HHD := Lib.hid q.head
  have HDD := Lib.hid hD
  have HPP := Lib.hid hP
  have HQ := Lib.hid q
  have HSZ : RowKit.Hid (b < g ∧ g < w1.heap.size ∧ b < mb ∧ mb < w1.heap.size ∧ g ≠ mb) := Lib.hid ⟨hg0, hg1, hm1, hmlt, hgm⟩
  have HI := Lib.hid hi
  have HJ := Lib.hid hj
  have hiI : (i : Int) < l.length := by omega
  have hjI : (j : Int) < l.length := by omega
  have hin : i ≤ 1024 := by omega
  have hjn : j ≤ 1024 := by omega
  clear q hg0 hg1 hm1 hm2 hD hP hgm hmlt hi hj
  go_enter Try.func96, Try.ntmps96
  go_wp2_with fail
  go_cut [] (fun wx => OwnS wx (b + 1) 88 2 (.slice (some ⟨g, 0, none⟩) l.length hc) ((swapQ l i j).map qcl) ∧ Touch w1 wx (fun k => k = g))
  case first =>
    go_wp2_with fail
    have hS := (Touch.refl w1 (fun k => k = g)).drew
    refine wp_region_tree (fun w' => Touch w1 w' (fun k => k = g)) (.take 0 (.take 1 (.take 2 (.take 3 (.take 4 (.take 5 (.take 6 (.take 7 (.take 8 (.take 9 (.take 10 (.take 11 (.take 12 (.take 13 (.take 14 (.take 15 (.take 17 (.take 18 (.take 19 (.take 20 (.take 21 (.take 22 (.two 16 23 (.one 23 (.take 24 (.one 25 (.take 26 (.one 27 .fin))))) (.one 16 (.take 24 (.one 25 (.take 26 (.one 27 .fin)))))))))))))))))))))))))))) (by kernel_rfl) (by kernel_rfl) (by kernel_rfl) (by kernel_rfl) hS ?_
    refine walkT_take ?_
    (refine takeN_take (v := ?_) (some 6) rfl rfl (fun _ _ _ h => h) (by rfl) ?_ ?_; rotate_left; (focus (intro w' hw'; obtain ⟨c0, c1⟩ := HC.out w' hw'; go_simp; (try with_reducible rfl))); (try simp only [Act.put, List.setIfInBounds_toArray, List.set_cons_zero, List.set_cons_succ]))
    refine walkT_take ?_
    (refine takeN_take (v := ?_) (some 7) rfl rfl (fun _ _ _ h => h) (by rfl) ?_ ?_; rotate_left; (focus (intro w' hw'; obtain ⟨c0, c1⟩ := HC.out w' hw'; go_simp; (try with_reducible rfl))); (try simp only [Act.put, List.setIfInBounds_toArray, List.set_cons_zero, List.set_cons_succ]))
    refine walkT_take ?_
    (refine takeN_take (v := ?_) (some 8) rfl rfl (fun _ _ _ h => h) (by rfl) ?_ ?_; rotate_left; (focus (intro w' hw'; obtain ⟨c0, c1⟩ := HC.out w' hw'; go_simp; (try with_reducible rfl))); (try simp only [Act.put, List.setIfInBounds_toArray, List.set_cons_zero, List.set_cons_succ]))
    refine walkT_take ?_
    (refine takeN_take (v := ?_) (some 9) rfl rfl (fun _ _ _ h => h) (by rfl) ?_ ?_; rotate_left; (focus (intro w' hw'; obtain ⟨c0, c1⟩ := HC.out w' hw'; go_simp; (try with_reducible rfl))); (try simp only [Act.put, List.setIfInBounds_toArray, List.set_cons_zero, List.set_cons_succ]))
    refine walkT_take ?_
    (refine takeN_take (v := ?_) (some 10) rfl rfl (fun _ _ _ h => h) (by rfl) ?_ ?_; rotate_left; (focus (intro w' hw'; obtain ⟨c0, c1⟩ := HC.out w' hw'; go_simp; (try with_reducible rfl))); (try simp only [Act.put, List.setIfInBounds_toArray, List.set_cons_zero, List.set_cons_succ]))
    refine walkT_take ?_
    (refine takeN_take (v := ?_) (some 11) rfl rfl (fun _ _ _ h => h) (by rfl) ?_ ?_; rotate_left; (focus (intro w' hw'; obtain ⟨c0, c1⟩ := HC.out w' hw'; go_simp; (try with_reducible rfl))); (try simp only [Act.put, List.setIfInBounds_toArray, List.set_cons_zero, List.set_cons_succ]))
    refine walkT_take ?_
    (refine takeN_take (v := ?_) (some 12) rfl rfl (fun _ _ _ h => h) (by rfl) ?_ ?_; rotate_left; (focus (intro w' hw'; obtain ⟨c0, c1⟩ := HC.out w' hw'; go_simp; (try with_reducible rfl))); (try simp only [Act.put, List.setIfInBounds_toArray, List.set_cons_zero, List.set_cons_succ]))
    refine walkT_take ?_
    (refine takeN_take (v := ?_) (some 13) rfl rfl (fun _ _ _ h => h) (by rfl) ?_ ?_; rotate_left; (focus (intro w' hw'; obtain ⟨c0, c1⟩ := HC.out w' hw'; go_simp; (try with_reducible rfl))); (try simp only [Act.put, List.setIfInBounds_toArray, List.set_cons_zero, List.set_cons_succ]))
    refine walkT_take ?_
    (refine takeN_take (v := ?_) (some 14) rfl rfl (fun _ _ _ h => h) (by rfl) ?_ ?_; rotate_left; (focus (intro w' hw'; obtain ⟨c0, c1⟩ := HC.out w' hw'; go_simp; (try with_reducible rfl))); (try simp only [Act.put, List.setIfInBounds_toArray, List.set_cons_zero, List.set_cons_succ]))
    refine walkT_take ?_
    (refine takeN_take (v := ?_) (some 15) rfl rfl (fun _ _ _ h => h) (by rfl) ?_ ?_; rotate_left; (focus (intro w' hw'; obtain ⟨c0, c1⟩ := HC.out w' hw'; go_simp; (try with_reducible rfl))); (try simp only [Act.put, List.setIfInBounds_toArray, List.set_cons_zero, List.set_cons_succ]))
    refine walkT_take ?_
    (refine takeN_take (v := ?_) (some 16) rfl rfl (fun _ _ _ h => h) (by rfl) ?_ ?_; rotate_left; (focus (intro w' hw'; obtain ⟨c0, c1⟩ := HC.out w' hw'; go_simp; (try with_reducible rfl))); (try simp only [Act.put, List.setIfInBounds_toArray, List.set_cons_zero, List.set_cons_succ]))
    refine walkT_take ?_
    (refine takeN_take (v := ?_) (some 17) rfl rfl (fun _ _ _ h => h) (by rfl) ?_ ?_; rotate_left; (focus (intro w' hw'; obtain ⟨c0, c1⟩ := HC.out w' hw'; go_simp; (try with_reducible rfl))); (try simp only [Act.put, List.setIfInBounds_toArray, List.set_cons_zero, List.set_cons_succ]))
    refine walkT_take ?_
    (refine takeN_take (v := ?_) (some 18) rfl rfl (fun _ _ _ h => h) (by rfl) ?_ ?_; rotate_left; (focus (intro w' hw'; obtain ⟨c0, c1⟩ := HC.out w' hw'; go_simp; (try with_reducible rfl))); (try simp only [Act.put, List.setIfInBounds_toArray, List.set_cons_zero, List.set_cons_succ]))
    refine walkT_take ?_
    (refine takeN_take (v := ?_) (some 19) rfl rfl (fun _ _ _ h => h) (by rfl) ?_ ?_; rotate_left; (focus (intro w' hw'; obtain ⟨c0, c1⟩ := HC.out w' hw'; go_simp; (try with_reducible rfl))); (try simp only [Act.put, List.setIfInBounds_toArray, List.set_cons_zero, List.set_cons_succ]))
    refine walkT_take ?_
    (refine takeN_take (v := ?_) (some 20) rfl rfl (fun _ _ _ h => h) (by rfl) ?_ ?_; rotate_left; (focus (intro w' hw'; obtain ⟨c0, c1⟩ := HC.out w' hw'; go_simp; (try with_reducible rfl))); (try simp only [Act.put, List.setIfInBounds_toArray, List.set_cons_zero, List.set_cons_succ]))
    refine walkT_take ?_
    (refine takeN_take (v := ?_) (some 21) rfl rfl (fun _ _ _ h => h) (by rfl) ?_ ?_; rotate_left; (focus (intro w' hw'; obtain ⟨c0, c1⟩ := HC.out w' hw'; go_simp; (try with_reducible rfl))); (try simp only [Act.put, List.setIfInBounds_toArray, List.set_cons_zero, List.set_cons_succ]))
    refine walkT_take ?_
    (refine takeN_take (v := ?_) (some 23) rfl rfl (fun _ _ _ h => h) (by rfl) ?_ ?_; rotate_left; (focus (intro w' hw'; obtain ⟨c0, c1⟩ := HC.out w' hw'; go_simp; (try with_reducible rfl))); (try simp only [Act.put, List.setIfInBounds_toArray, List.set_cons_zero, List.set_cons_succ]))
    refine walkT_take ?_
    (refine takeN_take (v := ?_) (some 24) rfl rfl (fun _ _ _ h => h) (by rfl) ?_ ?_; rotate_left; (focus (intro w' hw'; obtain ⟨c0, c1⟩ := HC.out w' hw'; go_simp; (try with_reducible rfl))); (try simp only [Act.put, List.setIfInBounds_toArray, List.set_cons_zero, List.set_cons_succ]))
    refine walkT_take ?_
    (refine takeN_take (v := ?_) (some 25) rfl rfl (fun _ _ _ h => h) (by rfl) ?_ ?_; rotate_left; (focus (intro w' hw'; obtain ⟨c0, c1⟩ := HC.out w' hw'; go_simp; (try with_reducible rfl))); (try simp only [Act.put, List.setIfInBounds_toArray, List.set_cons_zero, List.set_cons_succ]))
    refine walkT_take ?_
    (refine takeN_take (v := ?_) (some 26) rfl rfl (fun _ _ _ h => h) (by rfl) ?_ ?_; rotate_left; (focus (intro w' hw'; obtain ⟨c0, c1⟩ := HC.out w' hw'; go_simp; (try with_reducible rfl))); (try simp only [Act.put, List.setIfInBounds_toArray, List.set_cons_zero, List.set_cons_succ]))
    refine walkT_take ?_
    (refine takeN_take (v := ?_) (some 27) rfl rfl (fun _ _ _ h => h) (by rfl) ?_ ?_; rotate_left; (focus (intro w' hw'; obtain ⟨c0, c1⟩ := HC.out w' hw'; go_simp; (try with_reducible rfl))); (try simp only [Act.put, List.setIfInBounds_toArray, List.set_cons_zero, List.set_cons_succ]))
    refine walkT_take ?_
    (refine takeN_take (v := ?_) (some 28) rfl rfl (fun _ _ _ h => h) (by rfl) ?_ ?_; rotate_left; (focus (intro w' hw'; obtain ⟨c0, c1⟩ := HC.out w' hw'; go_simp; (try with_reducible rfl))); (try simp only [Act.put, List.setIfInBounds_toArray, List.set_cons_zero, List.set_cons_succ]))
    refine walkT_two ?_ ?_
    · (refine runN_do (v := .agg #[.string (gq l j).key, .int .i64 (gq l j).time]) (w' := w1.drew) (some 22) rfl rfl (by rfl) (by obtain ⟨k0, k1⟩ := own_cell2 HOW.out j HJ.out; go_simp; (try with_reducible rfl)) hS (fun hS => ?_); (try simp only [Act.put, List.setIfInBounds_toArray, List.set_cons_zero, List.set_cons_succ]))
      refine walkT_one ?_
      (refine runN_do (v := .agg #[.string (gq l i).key, .int .i64 (gq l i).time]) (w' := w1.drew) (some 29) rfl rfl (by rfl) (by obtain ⟨k0, k1⟩ := own_cell2 HOW.out i HI.out; go_simp; (try with_reducible rfl)) hS (fun hS => ?_); (try simp only [Act.put, List.setIfInBounds_toArray, List.set_cons_zero, List.set_cons_succ]))
      refine walkT_take ?_
      (refine takeN_take (v := ?_) (some 30) rfl rfl (fun _ _ _ h => h) (by rfl) ?_ ?_; rotate_left; (focus (intro w' hw'; obtain ⟨c0, c1⟩ := HC.out w' hw'; go_simp; (try with_reducible rfl))); (try simp only [Act.put, List.setIfInBounds_toArray, List.set_cons_zero, List.set_cons_succ]))
      refine walkT_one ?_
      (refine runN_storeM rfl rfl (by rfl) 88 _ _ rfl g (i * 2) #[.string (gq l j).key, .int .i64 (gq l j).time] (by first | rfl | simp) rfl (own_there HOW.out i HI.out) infoRow (two_one _ _) ⟨hS.trans (touch_cells _ g _ _) (fun _ _ h => h), fun hS => ?_⟩; have HOW := Lib.hid (own_put HOW.out i HI.out (gq l j)); (try simp only [Act.put, List.setIfInBounds_toArray, List.set_cons_zero, List.set_cons_succ]))
      refine walkT_take ?_
      (refine takeN_take (v := ?_) (some 31) rfl rfl (fun _ _ _ h => h) (by rfl) ?_ ?_; rotate_left; (focus (intro w' hw'; obtain ⟨c0, c1⟩ := HC.out w' hw'; go_simp; (try with_reducible rfl))); (try simp only [Act.put, List.setIfInBounds_toArray, List.set_cons_zero, List.set_cons_succ]))
      refine walkT_one ?_
      (refine runN_storeM rfl rfl (by rfl) 88 _ _ rfl g (j * 2) #[.string (gq l i).key, .int .i64 (gq l i).time] (by first | rfl | simp) rfl (own_there HOW.out j (by rw [List.length_set]; exact HJ.out)) infoRow (two_one _ _) ⟨hS.trans (touch_cells _ g _ _) (fun _ _ h => h), fun hS => ?_⟩; have HOW := Lib.hid (own_put HOW.out j (by rw [List.length_set]; exact HJ.out) (gq l i)); (try simp only [Act.put, List.setIfInBounds_toArray, List.set_cons_zero, List.set_cons_succ]))
      refine walkT_fin ?_
      go_wp2_with fail
      go_meet
      exact ⟨HOW.out, hS⟩
    · (refine runN_do (v := .agg #[.string (gq l i).key, .int .i64 (gq l i).time]) (w' := w1.drew) (some 29) rfl rfl (by rfl) (by obtain ⟨k0, k1⟩ := own_cell2 HOW.out i HI.out; go_simp; (try with_reducible rfl)) hS (fun hS => ?_); (try simp only [Act.put, List.setIfInBounds_toArray, List.set_cons_zero, List.set_cons_succ]))
      refine walkT_one ?_
      (refine runN_do (v := .agg #[.string (gq l j).key, .int .i64 (gq l j).time]) (w' := w1.drew) (some 22) rfl rfl (by rfl) (by obtain ⟨k0, k1⟩ := own_cell2 HOW.out j HJ.out; go_simp; (try with_reducible rfl)) hS (fun hS => ?_); (try simp only [Act.put, List.setIfInBounds_toArray, List.set_cons_zero, List.set_cons_succ]))
      refine walkT_take ?_
      (refine takeN_take (v := ?_) (some 30) rfl rfl (fun _ _ _ h => h) (by rfl) ?_ ?_; rotate_left; (focus (intro w' hw'; obtain ⟨c0, c1⟩ := HC.out w' hw'; go_simp; (try with_reducible rfl))); (try simp only [Act.put, List.setIfInBounds_toArray, List.set_cons_zero, List.set_cons_succ]))
      refine walkT_one ?_
      (refine runN_storeM rfl rfl (by rfl) 88 _ _ rfl g (i * 2) #[.string (gq l j).key, .int .i64 (gq l j).time] (by first | rfl | simp) rfl (own_there HOW.out i HI.out) infoRow (two_one _ _) ⟨hS.trans (touch_cells _ g _ _) (fun _ _ h => h), fun hS => ?_⟩; have HOW := Lib.hid (own_put HOW.out i HI.out (gq l j)); (try simp only [Act.put, List.setIfInBounds_toArray, List.set_cons_zero, List.set_cons_succ]))
      refine walkT_take ?_
      (refine takeN_take (v := ?_) (some 31) rfl rfl (fun _ _ _ h => h) (by rfl) ?_ ?_; rotate_left; (focus (intro w' hw'; obtain ⟨c0, c1⟩ := HC.out w' hw'; go_simp; (try with_reducible rfl))); (try simp only [Act.put, List.setIfInBounds_toArray, List.set_cons_zero, List.set_cons_succ]))
      refine walkT_one ?_
      (refine runN_storeM rfl rfl (by rfl) 88 _ _ rfl g (j * 2) #[.string (gq l i).key, .int .i64 (gq l i).time] (by first | rfl | simp) rfl (own_there HOW.out j (by rw [List.length_set]; exact HJ.out)) infoRow (two_one _ _) ⟨hS.trans (touch_cells _ g _ _) (fun _ _ h => h), fun hS => ?_⟩; have HOW := Lib.hid (own_put HOW.out j (by rw [List.length_set]; exact HJ.out) (gq l i)); (try simp only [Act.put, List.setIfInBounds_toArray, List.set_cons_zero, List.set_cons_succ]))
      refine walkT_fin ?_
      go_wp2_with fail
      go_meet
      exact ⟨HOW.out, hS⟩

  case rest =>
    rename World => w2
    obtain ⟨how, ht⟩ := hcut
    have HOW := Lib.hid how
    have HT := Lib.hid ht
    have hl9 := swapQ_length l i j
    have HD2 := Lib.hid (ownsMap_touch HDD.out (ht.drew) (fun e => by have := HSZ.out; have e : mb = g := e; omega))
    have hok : ∀ m, m < l.length → (gq (swapQ l i j) m).key.size ≤ 281474976710656 := fun m hm => by
      have h1 := gq_mem (swapQ l i j) m (by omega)
      exact (HQ.out.ok _ ((perm_swap l i j HI.out HJ.out).mem_iff.1 h1)).1
    obtain ⟨v3, s3, w3, w4, e1, t1, e2, t2, o4⟩ := entry_two HD2.out (by omega) (gq (swapQ l i j) i).key (hok i HI.out) i (by omega)
    obtain ⟨v5, s5, w5, w6, e3, t3, e4, t4, o6⟩ := entry_two o4 (by omega) (gq (swapQ l i j) j).key (hok j HJ.out) j (by omega)
    have HE1 := Lib.hid e1
    have HE2 := Lib.hid e2
    have HE3 := Lib.hid e3
    have HE4 := Lib.hid e4
    have HE1T := Lib.hid t1
    have HE2T := Lib.hid t2
    have HE3T := Lib.hid t3
    have HE4T := Lib.hid t4
    have HO6 := Lib.hid o6
    have HC2 : RowKit.Hid (∀ W, Touch w2 W (fun k => k = mb) → W.cell? ⟨b, 0, none⟩ = some (.slice (some ⟨g, 0, none⟩) l.length hc) ∧ W.cell? ⟨b, 1, none⟩ = some (.map (some mb)) ∧ W.cell? ⟨g, i * 2, none⟩ = some (.string (gq (swapQ l i j) i).key) ∧ W.cell? ⟨g, j * 2, none⟩ = some (.string (gq (swapQ l i j) j).key)) := Lib.hid (fun W t => by
      have h9 := t.keeps (ht.keeps HHD.out (fun e => by have := HSZ.out; have e : b = g := e; omega)) (fun e => by have := HSZ.out; have e : b = mb := e; omega)
      have ho := how.touch t (fun x hx e => by have := HSZ.out; have hx : some g = some x := hx; simp only [Option.some.injEq] at hx; have e : x = mb := e; omega)
      exact ⟨cell_of_cells h9 0, cell_of_cells h9 1, (own_cell2 ho i (by rw [hl9]; exact HI.out)).1, (own_cell2 ho j (by rw [hl9]; exact HJ.out)).1⟩)
    clear how ht e1 t1 e2 t2 o4 e3 t3 e4 t4 o6 hok HC
    go_wp2_with fail
    have hS := (Touch.refl w2 (fun k => k = mb)).drew
    refine wp_region_tree (fun w' => Touch w2 w' (fun k => k = mb)) (.take 0 (.take 1 (.take 2 (.take 3 (.take 4 (.take 5 (.take 6 (.take 7 (.take 8 (.take 9 (.take 10 (.take 11 (.take 12 (.take 13 (.take 14 (.take 15 (.take 16 (.take 17 (.take 18 (.take 19 (.take 20 (.take 21 (.take 22 (.take 23 (.take 24 (.take 25 (.one 26 (.take 27 (.one 28 (.one 29 (.take 30 (.one 31 .fin)))))))))))))))))))))))))))))))) (by kernel_rfl) (by kernel_rfl) (by kernel_rfl) (by kernel_rfl) hS ?_
    refine walkT_take ?_
    (refine takeN_take (v := ?_) (some 32) rfl rfl (fun _ _ _ h => h) (by rfl) ?_ ?_; rotate_left; (focus (intro w' hw'; obtain ⟨c0, c1, c2, c3⟩ := HC2.out w' hw'; go_simp; (try with_reducible rfl))); (try simp only [Act.put, List.setIfInBounds_toArray, List.set_cons_zero, List.set_cons_succ]))
    refine walkT_take ?_
    (refine takeN_take (v := ?_) (some 33) rfl rfl (fun _ _ _ h => h) (by rfl) ?_ ?_; rotate_left; (focus (intro w' hw'; obtain ⟨c0, c1, c2, c3⟩ := HC2.out w' hw'; go_simp; (try with_reducible rfl))); (try simp only [Act.put, List.setIfInBounds_toArray, List.set_cons_zero, List.set_cons_succ]))
    refine walkT_take ?_
    (refine takeN_take (v := ?_) (some 34) rfl rfl (fun _ _ _ h => h) (by rfl) ?_ ?_; rotate_left; (focus (intro w' hw'; obtain ⟨c0, c1, c2, c3⟩ := HC2.out w' hw'; go_simp; (try with_reducible rfl))); (try simp only [Act.put, List.setIfInBounds_toArray, List.set_cons_zero, List.set_cons_succ]))
    refine walkT_take ?_
    (refine takeN_take (v := ?_) (some 35) rfl rfl (fun _ _ _ h => h) (by rfl) ?_ ?_; rotate_left; (focus (intro w' hw'; obtain ⟨c0, c1, c2, c3⟩ := HC2.out w' hw'; go_simp; (try with_reducible rfl))); (try simp only [Act.put, List.setIfInBounds_toArray, List.set_cons_zero, List.set_cons_succ]))
    refine walkT_take ?_
    (refine takeN_take (v := ?_) (some 36) rfl rfl (fun _ _ _ h => h) (by rfl) ?_ ?_; rotate_left; (focus (intro w' hw'; obtain ⟨c0, c1, c2, c3⟩ := HC2.out w' hw'; go_simp; (try with_reducible rfl))); (try simp only [Act.put, List.setIfInBounds_toArray, List.set_cons_zero, List.set_cons_succ]))
    refine walkT_take ?_
    (refine takeN_take (v := ?_) (some 37) rfl rfl (fun _ _ _ h => h) (by rfl) ?_ ?_; rotate_left; (focus (intro w' hw'; obtain ⟨c0, c1, c2, c3⟩ := HC2.out w' hw'; go_simp; (try with_reducible rfl))); (try simp only [Act.put, List.setIfInBounds_toArray, List.set_cons_zero, List.set_cons_succ]))
    refine walkT_take ?_
    (refine takeN_take (v := ?_) (some 38) rfl rfl (fun _ _ _ h => h) (by rfl) ?_ ?_; rotate_left; (focus (intro w' hw'; obtain ⟨c0, c1, c2, c3⟩ := HC2.out w' hw'; go_simp; (try with_reducible rfl))); (try simp only [Act.put, List.setIfInBounds_toArray, List.set_cons_zero, List.set_cons_succ]))
    refine walkT_take ?_
    (refine takeN_take (v := ?_) (some 39) rfl rfl (fun _ _ _ h => h) (by rfl) ?_ ?_; rotate_left; (focus (intro w' hw'; obtain ⟨c0, c1, c2, c3⟩ := HC2.out w' hw'; go_simp; (try with_reducible rfl))); (try simp only [Act.put, List.setIfInBounds_toArray, List.set_cons_zero, List.set_cons_succ]))
    refine walkT_take ?_
    (refine takeN_take (v := ?_) (some 40) rfl rfl (fun _ _ _ h => h) (by rfl) ?_ ?_; rotate_left; (focus (intro w' hw'; obtain ⟨c0, c1, c2, c3⟩ := HC2.out w' hw'; go_simp; (try with_reducible rfl))); (try simp only [Act.put, List.setIfInBounds_toArray, List.set_cons_zero, List.set_cons_succ]))
    refine walkT_take ?_
    (refine takeN_take (v := ?_) (some 41) rfl rfl (fun _ _ _ h => h) (by rfl) ?_ ?_; rotate_left; (focus (intro w' hw'; obtain ⟨c0, c1, c2, c3⟩ := HC2.out w' hw'; go_simp; (try with_reducible rfl))); (try simp only [Act.put, List.setIfInBounds_toArray, List.set_cons_zero, List.set_cons_succ]))
    refine walkT_take ?_
    (refine takeN_take (v := ?_) (some 42) rfl rfl (fun _ _ _ h => h) (by rfl) ?_ ?_; rotate_left; (focus (intro w' hw'; obtain ⟨c0, c1, c2, c3⟩ := HC2.out w' hw'; go_simp; (try with_reducible rfl))); (try simp only [Act.put, List.setIfInBounds_toArray, List.set_cons_zero, List.set_cons_succ]))
    refine walkT_take ?_
    (refine takeN_take (v := ?_) (some 43) rfl rfl (fun _ _ _ h => h) (by rfl) ?_ ?_; rotate_left; (focus (intro w' hw'; obtain ⟨c0, c1, c2, c3⟩ := HC2.out w' hw'; go_simp; (try with_reducible rfl))); (try simp only [Act.put, List.setIfInBounds_toArray, List.set_cons_zero, List.set_cons_succ]))
    refine walkT_take ?_
    (refine takeN_take (v := ?_) (some 44) rfl rfl (fun _ _ _ h => h) (by rfl) ?_ ?_; rotate_left; (focus (intro w' hw'; obtain ⟨c0, c1, c2, c3⟩ := HC2.out w' hw'; go_simp; (try with_reducible rfl))); (try simp only [Act.put, List.setIfInBounds_toArray, List.set_cons_zero, List.set_cons_succ]))
    refine walkT_take ?_
    (refine takeN_take (v := ?_) (some 45) rfl rfl (fun _ _ _ h => h) (by rfl) ?_ ?_; rotate_left; (focus (intro w' hw'; obtain ⟨c0, c1, c2, c3⟩ := HC2.out w' hw'; go_simp; (try with_reducible rfl))); (try simp only [Act.put, List.setIfInBounds_toArray, List.set_cons_zero, List.set_cons_succ]))
    refine walkT_take ?_
    (refine takeN_take (v := ?_) (some 46) rfl rfl (fun _ _ _ h => h) (by rfl) ?_ ?_; rotate_left; (focus (intro w' hw'; obtain ⟨c0, c1, c2, c3⟩ := HC2.out w' hw'; go_simp; (try with_reducible rfl))); (try simp only [Act.put, List.setIfInBounds_toArray, List.set_cons_zero, List.set_cons_succ]))
    refine walkT_take ?_
    (refine takeN_take (v := ?_) (some 47) rfl rfl (fun _ _ _ h => h) (by rfl) ?_ ?_; rotate_left; (focus (intro w' hw'; obtain ⟨c0, c1, c2, c3⟩ := HC2.out w' hw'; go_simp; (try with_reducible rfl))); (try simp only [Act.put, List.setIfInBounds_toArray, List.set_cons_zero, List.set_cons_succ]))
    refine walkT_take ?_
    (refine takeN_take (v := ?_) (some 48) rfl rfl (fun _ _ _ h => h) (by rfl) ?_ ?_; rotate_left; (focus (intro w' hw'; obtain ⟨c0, c1, c2, c3⟩ := HC2.out w' hw'; go_simp; (try with_reducible rfl))); (try simp only [Act.put, List.setIfInBounds_toArray, List.set_cons_zero, List.set_cons_succ]))
    refine walkT_take ?_
    (refine takeN_take (v := ?_) (some 49) rfl rfl (fun _ _ _ h => h) (by rfl) ?_ ?_; rotate_left; (focus (intro w' hw'; obtain ⟨c0, c1, c2, c3⟩ := HC2.out w' hw'; go_simp; (try with_reducible rfl))); (try simp only [Act.put, List.setIfInBounds_toArray, List.set_cons_zero, List.set_cons_succ]))
    refine walkT_take ?_
    (refine takeN_take (v := ?_) (some 50) rfl rfl (fun _ _ _ h => h) (by rfl) ?_ ?_; rotate_left; (focus (intro w' hw'; obtain ⟨c0, c1, c2, c3⟩ := HC2.out w' hw'; go_simp; (try with_reducible rfl))); (try simp only [Act.put, List.setIfInBounds_toArray, List.set_cons_zero, List.set_cons_succ]))
    refine walkT_take ?_
    (refine takeN_take (v := ?_) (some 51) rfl rfl (fun _ _ _ h => h) (by rfl) ?_ ?_; rotate_left; (focus (intro w' hw'; obtain ⟨c0, c1, c2, c3⟩ := HC2.out w' hw'; go_simp; (try with_reducible rfl))); (try simp only [Act.put, List.setIfInBounds_toArray, List.set_cons_zero, List.set_cons_succ]))
    refine walkT_take ?_
    (refine takeN_take (v := ?_) (some 52) rfl rfl (fun _ _ _ h => h) (by rfl) ?_ ?_; rotate_left; (focus (intro w' hw'; obtain ⟨c0, c1, c2, c3⟩ := HC2.out w' hw'; go_simp; (try with_reducible rfl))); (try simp only [Act.put, List.setIfInBounds_toArray, List.set_cons_zero, List.set_cons_succ]))
    refine walkT_take ?_
    (refine takeN_take (v := ?_) (some 53) rfl rfl (fun _ _ _ h => h) (by rfl) ?_ ?_; rotate_left; (focus (intro w' hw'; obtain ⟨c0, c1, c2, c3⟩ := HC2.out w' hw'; go_simp; (try with_reducible rfl))); (try simp only [Act.put, List.setIfInBounds_toArray, List.set_cons_zero, List.set_cons_succ]))
    refine walkT_take ?_
    (refine takeN_take (v := ?_) (some 54) rfl rfl (fun _ _ _ h => h) (by rfl) ?_ ?_; rotate_left; (focus (intro w' hw'; obtain ⟨c0, c1, c2, c3⟩ := HC2.out w' hw'; go_simp; (try with_reducible rfl))); (try simp only [Act.put, List.setIfInBounds_toArray, List.set_cons_zero, List.set_cons_succ]))
    refine walkT_take ?_
    (refine takeN_take (v := ?_) (some 55) rfl rfl (fun _ _ _ h => h) (by rfl) ?_ ?_; rotate_left; (focus (intro w' hw'; obtain ⟨c0, c1, c2, c3⟩ := HC2.out w' hw'; go_simp; (try with_reducible rfl))); (try simp only [Act.put, List.setIfInBounds_toArray, List.set_cons_zero, List.set_cons_succ]))
    refine walkT_take ?_
    (refine takeN_take (v := ?_) (some 56) rfl rfl (fun _ _ _ h => h) (by rfl) ?_ ?_; rotate_left; (focus (intro w' hw'; obtain ⟨c0, c1, c2, c3⟩ := HC2.out w' hw'; go_simp; (try with_reducible rfl))); (try simp only [Act.put, List.setIfInBounds_toArray, List.set_cons_zero, List.set_cons_succ]))
    refine walkT_take ?_
    (refine takeN_take (v := ?_) (some 57) rfl rfl (fun _ _ _ h => h) (by rfl) ?_ ?_; rotate_left; (focus (intro w' hw'; obtain ⟨c0, c1, c2, c3⟩ := HC2.out w' hw'; go_simp; (try with_reducible rfl))); (try simp only [Act.put, List.setIfInBounds_toArray, List.set_cons_zero, List.set_cons_succ]))
    refine walkT_one ?_
    (refine runN_do (v := .tuple #[v3, .int .i64 s3]) (w' := w3) (some 58) rfl rfl (by rfl) (by have q := HE1.out; go_simp; (try with_reducible rfl)) (hS.trans (HE1T.out) (fun _ _ h => h)) (fun hS => ?_); (try simp only [Act.put, List.setIfInBounds_toArray, List.set_cons_zero, List.set_cons_succ]))
    refine walkT_take ?_
    (refine takeN_take (v := ?_) (some 59) rfl rfl (fun _ _ _ h => h) (by rfl) ?_ ?_; rotate_left; (focus (intro w' hw'; obtain ⟨c0, c1, c2, c3⟩ := HC2.out w' hw'; go_simp; (try with_reducible rfl))); (try simp only [Act.put, List.setIfInBounds_toArray, List.set_cons_zero, List.set_cons_succ]))
    refine walkT_one ?_
    (refine runN_skip0 none rfl rfl (by rfl) (w' := w4) (by have q := HE2.out; go_simp; (try with_reducible rfl)) (hS.trans (HE2T.out) (fun _ _ h => h)) (fun hS => ?_); (try simp only [Act.put, List.setIfInBounds_toArray, List.set_cons_zero, List.set_cons_succ]))
    refine walkT_one ?_
    (refine runN_do (v := .tuple #[v5, .int .i64 s5]) (w' := w5) (some 60) rfl rfl (by rfl) (by have q := HE3.out; go_simp; (try with_reducible rfl)) (hS.trans (HE3T.out) (fun _ _ h => h)) (fun hS => ?_); (try simp only [Act.put, List.setIfInBounds_toArray, List.set_cons_zero, List.set_cons_succ]))
    refine walkT_take ?_
    (refine takeN_take (v := ?_) (some 61) rfl rfl (fun _ _ _ h => h) (by rfl) ?_ ?_; rotate_left; (focus (intro w' hw'; obtain ⟨c0, c1, c2, c3⟩ := HC2.out w' hw'; go_simp; (try with_reducible rfl))); (try simp only [Act.put, List.setIfInBounds_toArray, List.set_cons_zero, List.set_cons_succ]))
    refine walkT_one ?_
    (refine runN_skip0 none rfl rfl (by rfl) (w' := w6) (by have q := HE4.out; go_simp; (try with_reducible rfl)) (hS.trans (HE4T.out) (fun _ _ h => h)) (fun hS => ?_); (try simp only [Act.put, List.setIfInBounds_toArray, List.set_cons_zero, List.set_cons_succ]))
    refine walkT_fin ?_

    go_wp2_with fail
    go_end0
    refine ⟨rfl, ⟨some ⟨g, 0, none⟩, hc, some mb⟩, ?_, ?_, fun k hk => .inl hk⟩
    · have hp := perm_swap l i j HI.out HJ.out
      have hpq := plQ_swap HPP.out HQ.out.nd HI.out HJ.out
      have htg := ownsMap_tight HO6.out
      have e6 : Maps.size ((D.put (klB (gq (swapQ l i j) i).key) (DataW.lit (Lit.int .i64 i))).put (klB (gq (swapQ l i j) j).key) (DataW.lit (Lit.int .i64 j))) = (swapQ l i j).length := hpq.size
      rw [e6] at htg
      refine ⟨?_, ?_, fun r hr => HQ.out.ok r (hp.mem_iff.1 hr), (hp.map QR.key).nodup_iff.2 HQ.out.nd, by rw [hl9]; exact HQ.out.len, ?_⟩
      · rw [hl9]
        exact hS.keeps (HT.out.keeps HHD.out (fun e => by have := HSZ.out; have e : b = g := e; omega)) (fun e => by have := HSZ.out; have e : b = mb := e; omega)
      · rw [hl9]
        exact HOW.out.touch hS (fun x hx e => by have := HSZ.out; have hx : some g = some x := hx; simp only [Option.some.injEq] at hx; have e : x = mb := e; omega)
      · exact ⟨HSZ.out.2.2.1, fun k hk => by have hk : some g = some k := hk; simp only [Option.some.injEq] at hk; have := HSZ.out; omega, _, htg, hpq⟩
    · exact (HT.out.mono (fun k _ e => by have e : k = g := e; subst e; exact .inr (.inl rfl))).trans hS (fun k _ e => by have e : k = mb := e; subst e; exact .inr (.inr rfl))
end Go.Proofs.Ytdjkjdeaglimeaa
