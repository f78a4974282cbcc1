/- The queue's Push of a row. -/
import Derived.Test.YtdjkjdeaglimeaaDueS
import Derived.Deep.DeepCutAuto
import Derived.Carry
set_option linter.unusedVariables false
set_option linter.unusedSimpArgs false
namespace Go.Proofs.Ytdjkjdeaglimeaa
open Go.RowKit

theorem row_oneQ (w : World) (r : QR) : RowS (w.alloc (.cells #[.string r.key, .int .i64 r.time] 88)) (some ⟨w.heap.size, 0, none⟩) 1 1 2 [qcl r] :=
  ((OwnS.lit w w.heap.size (Nat.le_refl _) 88 2 1 [qcl r] #[.string r.key, .int .i64 r.time] rfl rfl (by simp [qcl]) (by omega)).row').2.1
theorem own_block' {a : Option Addr} {n c k : Nat} (h : a.map (·.block) = some k) : (Value.slice a n c).ownBlock = some k := by
  cases a with
  | none => simp at h
  | some x => simpa [Value.ownBlock] using h
theorem map_some (m : Nat) (w : World) : (binOp BinOp.eql 81 (.map (some m)) (.map none)).run Try.prog w = .ok (.bool false) w := by kernel_rfl
theorem map_none (w : World) : (binOp BinOp.eql 81 (.map none) (.map none)).run Try.prog w = .ok (.bool true) w := by kernel_rfl
theorem assert_row (v : Value) (w : World) : (Instr.typeAssert (.iface 88 v) 20 88 true).run Try.prog w = .ok (.tuple #[v, .bool true]) w := by kernel_rfl
set_option maxRecDepth 20000 in
set_option maxHeartbeats 8000000 in
theorem kpush_some (w : World) (b : Nat) (ha : Option Addr) (hc mb : Nat) (l : List QR) (q : QB w b ⟨ha, hc, some mb⟩ l) (r : QR) (hn : r.key ∉ l.map QR.key) (hk : r.key.size ≤ 281474976710656) (hr : 0 ≤ r.time ∧ r.time ≤ 1099511627776) (hl : l.length < 1024) :
    Calls Try.prog 95 #[.pointer (some ⟨b, 0, none⟩), .iface 88 (.agg #[.string r.key, .int .i64 r.time])] w fun e w' => e = .returned (.tuple #[]) ∧ QStep w w' b ⟨ha, hc, some mb⟩ (l ++ [r]) := by
  obtain ⟨h, hh⟩ : ∃ h : QH, h = ⟨ha, hc, some mb⟩ := ⟨_, rfl⟩
  obtain ⟨W4, hW4⟩ : ∃ W, w.alloc (.cells #[.string r.key, .int .i64 r.time] 88) = W := ⟨_, rfl⟩
  have t4 : Touch w W4 (fun _ => False) := hW4 ▸ (Touch.refl _ _).alloc _
  have q4 := q.still t4
  have hfl := q.footlt
  rw [← hh] at q4 hfl
  have hmo : h.mo = some mb := by rw [hh]
  have hmp := q4.map
  unfold MapQ at hmp
  rw [hmo] at hmp
  have HMP : RowKit.Hid (b < mb ∧ (∀ k, h.a.map (·.block) = some k → k ≠ mb) ∧ ∃ D : DataW Unit, W4.ownsMap Try.prog 9 (plainElem Try.prog 3) mb l.length D ∧ PlQ D l) := Lib.hid hmp
  have hhd := q4.head
  rw [hmo] at hhd
  have HHD := Lib.hid hhd
  have HOW := Lib.hid q4.own
  have HV : RowKit.Hid (W4.heap[w.heap.size]? = some (.cells #[.string r.key, .int .i64 r.time] 88 (0, 0))) := Lib.hid (hW4 ▸ heap_alloc_new w _)
  have HVF : RowKit.Hid (¬ footQ b ⟨h.a, h.c, some mb⟩ w.heap.size) := Lib.hid (fun e => Nat.lt_irrefl _ (hfl _ (by rwa [← hmo] at e)))
  have HVM : RowKit.Hid (w.heap.size ≠ mb) := Lib.hid (fun e => HVF.out (.inr (.inr (by rw [e]))))
  have HOA : RowKit.Hid (∀ k, h.a.map (·.block) = some k → b < k) := Lib.hid (fun k hk => by have := (q4.own.own.lt k (own_block' hk)).1; omega)
  have HN := Lib.hid hn
  have HK := Lib.hid hk
  have HR := Lib.hid hr
  have HOK := Lib.hid q4.ok
  have HND := Lib.hid q4.nd
  have T4 : RowKit.Hid (Touch w W4 (footQ b ⟨ha, hc, some mb⟩)) := Lib.hid (t4.mono (fun _ _ h => h.elim))
  have HFT : RowKit.Hid (∀ k, k < w.heap.size → footQ b ⟨h.a, h.c, some mb⟩ k → footQ b ⟨ha, hc, some mb⟩ k) := Lib.hid (fun k _ h9 => by rw [hh] at h9; exact h9)
  have HFA : RowKit.Hid (∀ k, h.a.map (·.block) = some k → footQ b ⟨ha, hc, some mb⟩ k ∨ w.heap.size ≤ k) := Lib.hid (fun k hk => by rw [hh] at hk; exact .inl (.inr (.inl hk)))
  have HFM : RowKit.Hid (footQ b ⟨ha, hc, some mb⟩ mb ∨ w.heap.size ≤ mb) := Lib.hid (.inl (.inr (.inr rfl)))
  have c1 := cell_of_cells HHD.out 1
  have HW4 := Lib.hid hW4
  have hbm := map_some mb W4
  have has := assert_row (.agg #[.string r.key, .int .i64 r.time]) w
  clear q q4 hfl hhd hmp t4 hn hk hr hW4 hh
  go_enter Try.func95, Try.ntmps95
  go_upto_region 1 with (fail)
  rw [HW4.out]
  go_wp2_with fail
  clear c1
  obtain ⟨D, hD, hP⟩ := HMP.out.2.2
  obtain ⟨w5, hrun5, ho5, hg5⟩ := World.ownsMap.store (w := W4.drew) (b := mb) (n := l.length) (D := D) hD strKeyed Try.underlying81 (by simp only [maxLen]; omega) (keyQ HK.out) (elemQ (l.length : Int) (by omega) (by omega))
  have HUP := Lib.hid hrun5
  have HUT : RowKit.Hid (Touch W4 w5 (fun k => k = mb)) := Lib.hid (((Touch.refl W4 (fun k => k = mb)).drew).grown hg5.grown (fun k hk _ => by simp only [Option.some.injEq] at hk; exact hk.symm))
  have HSZ : RowKit.Hid (b < mb ∧ (∀ k, h.a.map (·.block) = some k → ∀ m, m = mb → k ≠ m)) := Lib.hid ⟨HMP.out.1, fun k hk m hm => by subst hm; exact HMP.out.2.1 k hk⟩
  have HPP := Lib.hid hP
  have HO5 := Lib.hid ho5
  have HC4 : RowKit.Hid (∀ W, Touch W4 W (fun k => k = mb) → W.cell? ⟨b, 0, none⟩ = some (.slice h.a l.length h.c) ∧ W.cell? ⟨b, 1, none⟩ = some (.map (some mb)) ∧ W.cell? ⟨w.heap.size, 0, none⟩ = some (.string r.key)) := Lib.hid (fun W t => by
    have h1 := t.keeps HHD.out (fun e => by have := HSZ.out.1; have e : b = mb := e; omega)
    have h2 := t.keeps HV.out (fun e => HVM.out e)
    exact ⟨cell_of_cells h1 0, cell_of_cells h1 1, cell_of_cells h2 0⟩)
  clear hD hP hrun5 ho5 hg5
  go_cut [] (fun wx => wx = w5)
  case first =>
    go_wp2_with fail
    have hS := (Touch.refl W4 (fun k => k = mb)).drew
    refine wp_region_tree (fun w' => Touch W4 w' (fun k => k = mb)) (.take 0 (.take 1 (.take 2 (.take 3 (.take 4 (.take 5 (.take 6 (.take 7 (.take 8 (.take 9 (.take 10 (.one 11 .fin)))))))))))) (by kernel_rfl) (by kernel_rfl) (by kernel_rfl) (by kernel_rfl) hS ?_
    refine walkT_take ?_
    (refine takeN_take (v := ?_) (some 22) rfl rfl (fun _ _ _ h => h) (by rfl) ?_ ?_; rotate_left; (focus (intro w' hw'; obtain ⟨c0, c1, c2⟩ := HC4.out w' hw'; go_simp; (try with_reducible rfl))); (try simp only [Act.put, List.setIfInBounds_toArray, List.set_cons_zero, List.set_cons_succ]))
    refine walkT_take ?_
    (refine takeN_take (v := ?_) (some 23) rfl rfl (fun _ _ _ h => h) (by rfl) ?_ ?_; rotate_left; (focus (intro w' hw'; obtain ⟨c0, c1, c2⟩ := HC4.out w' hw'; go_simp; (try with_reducible rfl))); (try simp only [Act.put, List.setIfInBounds_toArray, List.set_cons_zero, List.set_cons_succ]))
    refine walkT_take ?_
    (refine takeN_take (v := ?_) (some 24) rfl rfl (fun _ _ _ h => h) (by rfl) ?_ ?_; rotate_left; (focus (intro w' hw'; obtain ⟨c0, c1, c2⟩ := HC4.out w' hw'; go_simp; (try with_reducible rfl))); (try simp only [Act.put, List.setIfInBounds_toArray, List.set_cons_zero, List.set_cons_succ]))
    refine walkT_take ?_
    (refine takeN_take (v := ?_) (some 25) rfl rfl (fun _ _ _ h => h) (by rfl) ?_ ?_; rotate_left; (focus (intro w' hw'; obtain ⟨c0, c1, c2⟩ := HC4.out w' hw'; go_simp; (try with_reducible rfl))); (try simp only [Act.put, List.setIfInBounds_toArray, List.set_cons_zero, List.set_cons_succ]))
    refine walkT_take ?_
    (refine takeN_take (v := ?_) (some 26) rfl rfl (fun _ _ _ h => h) (by rfl) ?_ ?_; rotate_left; (focus (intro w' hw'; obtain ⟨c0, c1, c2⟩ := HC4.out w' hw'; go_simp; (try with_reducible rfl))); (try simp only [Act.put, List.setIfInBounds_toArray, List.set_cons_zero, List.set_cons_succ]))
    refine walkT_take ?_
    (refine takeN_take (v := ?_) (some 27) rfl rfl (fun _ _ _ h => h) (by rfl) ?_ ?_; rotate_left; (focus (intro w' hw'; obtain ⟨c0, c1, c2⟩ := HC4.out w' hw'; go_simp; (try with_reducible rfl))); (try simp only [Act.put, List.setIfInBounds_toArray, List.set_cons_zero, List.set_cons_succ]))
    refine walkT_take ?_
    (refine takeN_take (v := ?_) (some 28) rfl rfl (fun _ _ _ h => h) (by rfl) ?_ ?_; rotate_left; (focus (intro w' hw'; obtain ⟨c0, c1, c2⟩ := HC4.out w' hw'; go_simp; (try with_reducible rfl))); (try simp only [Act.put, List.setIfInBounds_toArray, List.set_cons_zero, List.set_cons_succ]))
    refine walkT_take ?_
    (refine takeN_take (v := ?_) (some 29) rfl rfl (fun _ _ _ h => h) (by rfl) ?_ ?_; rotate_left; (focus (intro w' hw'; obtain ⟨c0, c1, c2⟩ := HC4.out w' hw'; go_simp; (try with_reducible rfl))); (try simp only [Act.put, List.setIfInBounds_toArray, List.set_cons_zero, List.set_cons_succ]))
    refine walkT_take ?_
    (refine takeN_take (v := ?_) (some 30) rfl rfl (fun _ _ _ h => h) (by rfl) ?_ ?_; rotate_left; (focus (intro w' hw'; obtain ⟨c0, c1, c2⟩ := HC4.out w' hw'; go_simp; (try with_reducible rfl))); (try simp only [Act.put, List.setIfInBounds_toArray, List.set_cons_zero, List.set_cons_succ]))
    refine walkT_take ?_
    (refine takeN_take (v := ?_) (some 31) rfl rfl (fun _ _ _ h => h) (by rfl) ?_ ?_; rotate_left; (focus (intro w' hw'; obtain ⟨c0, c1, c2⟩ := HC4.out w' hw'; go_simp; (try with_reducible rfl))); (try simp only [Act.put, List.setIfInBounds_toArray, List.set_cons_zero, List.set_cons_succ]))
    refine walkT_take ?_
    (refine takeN_take (v := ?_) (some 32) rfl rfl (fun _ _ _ h => h) (by rfl) ?_ ?_; rotate_left; (focus (intro w' hw'; obtain ⟨c0, c1, c2⟩ := HC4.out w' hw'; go_simp; (try with_reducible rfl))); (try simp only [Act.put, List.setIfInBounds_toArray, List.set_cons_zero, List.set_cons_succ]))
    refine walkT_one ?_
    (refine runN_skip0 none rfl rfl (by rfl) (w' := w5) (by have q := HUP.out; go_simp; (try with_reducible rfl)) HUT.out (fun hS => ?_); (try simp only [Act.put, List.setIfInBounds_toArray, List.set_cons_zero, List.set_cons_succ]))
    refine walkT_fin ?_
    go_wp2_with fail
    go_meet
    rfl
  case rest =>
    obtain rfl := hcut
    have HHD := Lib.hid (HUT.out.keeps HHD.out (fun e => by have := HSZ.out.1; have e : b = mb := e; omega))
    have HOW := Lib.hid (HOW.out.touch HUT.out (fun x hx e => HSZ.out.2 x (own_block hx) _ e rfl))
    have HV := Lib.hid (HUT.out.keeps HV.out (fun e => HVM.out e))
    have HDM := Lib.hid HO5.out
    have HMW5 : RowKit.Hid (mb < wc.heap.size) := Lib.hid HO5.out.lt
    have HSG5 : RowKit.Hid (w.heap.size ≤ wc.heap.size) := Lib.hid (Nat.le_trans T4.out.size HUT.out.size)
    have HLV : RowKit.Hid (∀ W, Touch wc W (footQ b ⟨h.a, h.c, some mb⟩) → W.cell? ⟨w.heap.size, 0, none⟩ = some (.string r.key) ∧ W.cell? ⟨w.heap.size, 1, none⟩ = some (.int .i64 r.time)) := Lib.hid (fun W t => by
      have h2 := t.keeps HV.out (fun e => HVF.out e)
      exact ⟨cell_of_cells h2 0, cell_of_cells h2 1⟩)
    go_wp2_with fail
    have HHD := Lib.hid (((Touch.refl wc (fun _ => False)).drew).keeps HHD.out (fun h => h))
    have HOW := Lib.hid (HOW.out.still ((Touch.refl wc (fun _ => False)).drew))
    have HDM := Lib.hid (ownsMap_touch HDM.out ((Touch.refl wc (fun _ => False)).drew) (fun h => h))
    have hS := (Touch.refl wc (footQ b ⟨h.a, h.c, some mb⟩)).drew
    refine wp_region_tree (fun w' => Touch wc w' (footQ b ⟨h.a, h.c, some mb⟩)) (.take 0 (.take 1 (.take 2 (.take 3 (.take 5 (.two 4 6 (.one 6 (.one 7 (.take 8 (.take 9 (.one 10 .fin))))) (.one 4 (.one 7 (.take 8 (.take 9 (.one 10 .fin))))))))))) (by kernel_rfl) (by kernel_rfl) (by kernel_rfl) (by kernel_rfl) hS ?_
    refine walkT_take ?_
    (refine takeN_take (v := ?_) (some 33) rfl rfl (fun _ _ _ h => h) (by rfl) ?_ ?_; rotate_left; (focus (intro w' hw'; obtain ⟨c5, c6⟩ := HLV.out w' hw'; go_simp; (try with_reducible rfl))); (try simp only [Act.put, List.setIfInBounds_toArray, List.set_cons_zero, List.set_cons_succ]))
    refine walkT_take ?_
    (refine takeN_take (v := ?_) (some 34) rfl rfl (fun _ _ _ h => h) (by rfl) ?_ ?_; rotate_left; (focus (intro w' hw'; obtain ⟨c5, c6⟩ := HLV.out w' hw'; go_simp; (try with_reducible rfl))); (try simp only [Act.put, List.setIfInBounds_toArray, List.set_cons_zero, List.set_cons_succ]))
    refine walkT_take ?_
    (refine takeN_take (v := ?_) (some 35) rfl rfl (fun _ _ _ h => h) (by rfl) ?_ ?_; rotate_left; (focus (intro w' hw'; obtain ⟨c5, c6⟩ := HLV.out w' hw'; go_simp; (try with_reducible rfl))); (try simp only [Act.put, List.setIfInBounds_toArray, List.set_cons_zero, List.set_cons_succ]))
    refine walkT_take ?_
    (refine takeN_take (v := ?_) (some 36) rfl rfl (fun _ _ _ h => h) (by rfl) ?_ ?_; rotate_left; (focus (intro w' hw'; obtain ⟨c5, c6⟩ := HLV.out w' hw'; go_simp; (try with_reducible rfl))); (try simp only [Act.put, List.setIfInBounds_toArray, List.set_cons_zero, List.set_cons_succ]))
    refine walkT_take ?_
    (refine takeN_take (v := ?_) (some 38) rfl rfl (fun _ _ _ h => h) (by rfl) ?_ ?_; rotate_left; (focus (intro w' hw'; obtain ⟨c5, c6⟩ := HLV.out w' hw'; go_simp; (try with_reducible rfl))); (try simp only [Act.put, List.setIfInBounds_toArray, List.set_cons_zero, List.set_cons_succ]))
    refine walkT_two ?_ ?_
    · (have cc := cell_of_cells HHD.out 0; refine runN_do (v := .slice h.a l.length h.c) (w' := _) (some 37) rfl rfl (by rfl) (by go_simp; (try with_reducible rfl)) hS (fun hS => ?_); clear cc; (try simp only [Act.put, List.setIfInBounds_toArray, List.set_cons_zero, List.set_cons_succ]))
      refine walkT_one ?_
      (refine runN_new 39 (fun W => .slice (some ⟨W.heap.size, 0, none⟩) 1 1) #[.string r.key, .int .i64 r.time] 88 rfl rfl (by rfl) (by intro W; go_simp <;> first | with_reducible rfl | rfl | exact ⟨rfl, rfl⟩) ?_; intro w7 hw7 hM7 hs7 t7; have hS := hS.trans t7 (fun _ _ h => h.elim); refine ⟨hS, fun _ => ?_⟩; have HNW := Lib.hid (show RowS w7 _ 1 1 2 [qcl r] from hw7 ▸ row_oneQ _ _); have HHD := Lib.hid (t7.keeps HHD.out (fun h => h)); have HOW := Lib.hid (HOW.out.still t7); have HDM := Lib.hid (ownsMap_touch HDM.out t7 (fun h => h)); clear hw7 hM7 hs7 t7; (try simp only [Act.put, List.setIfInBounds_toArray, List.set_cons_zero, List.set_cons_succ]))
      refine walkT_one ?_
      (have HSW := Lib.hid hS.size; refine runN_appS 40 (.tmp 37) (.tmp 39) _ rfl rfl rfl (by rfl) 88 Try.underlying80 (.agg #[.string ByteArray.empty, .int .i64 0]) 2 24 infoRowB rfl (by decide) (b + 1) _ _ rfl HOW.out _ 1 1 _ rfl HNW.out (by simp [qcl, Value.oneCell']) (l.length + 1) ((l ++ [r]).map qcl) (by rw [List.map_append]; rfl) (by rw [List.length_map]) (by simp only [maxLen]; omega) (by omega) (heap_lt HHD.out) ?_; intro a2 c2 w9 how9 hg9 hp9; have t9 := (Touch.refl _ (fun k => h.a.map (·.block) = some k)).grown hg9 (fun k hk _ => own_block hk); have hS := hS.trans t9 (fun k _ hk => .inr (.inl hk)); refine ⟨hS, fun _ => ?_⟩; have HHD := Lib.hid (t9.keeps HHD.out (fun e => by have := (HOA.out b e); omega)); have HDM := Lib.hid (ownsMap_touch HDM.out t9 (fun e => HSZ.out.2 _ e _ rfl rfl)); have HOW := Lib.hid how9; have HPL := Lib.hid hp9; clear how9 hg9 hp9 t9 HNW; (try simp only [Act.put, List.setIfInBounds_toArray, List.set_cons_zero, List.set_cons_succ]))
      refine walkT_take ?_
      (refine takeN_take (v := ?_) (some 41) rfl rfl (fun _ _ _ h => h) (by rfl) ?_ ?_; rotate_left; (focus (intro w' hw'; obtain ⟨c5, c6⟩ := HLV.out w' hw'; go_simp; (try with_reducible rfl))); (try simp only [Act.put, List.setIfInBounds_toArray, List.set_cons_zero, List.set_cons_succ]))
      refine walkT_take ?_
      (refine takeN_take (v := ?_) (some 42) rfl rfl (fun _ _ _ h => h) (by rfl) ?_ ?_; rotate_left; (focus (intro w' hw'; obtain ⟨c5, c6⟩ := HLV.out w' hw'; go_simp; (try with_reducible rfl))); (try simp only [Act.put, List.setIfInBounds_toArray, List.set_cons_zero, List.set_cons_succ]))
      refine walkT_one ?_
      (have cc := cell_of_cells HHD.out 0; have ff := free_of_cells HHD.out 0; refine runN_skip0 none rfl rfl (by rfl) (w' := World.setCell w9 ⟨b, 0, none⟩ (.slice a2 (l.length + 1) c2)) (by go_simp; (try with_reducible rfl)) ?_ ?_; (exact hS.setCell _ _ (fun _ => .inl rfl)); clear cc ff; intro hS; have t6 := (Touch.refl w9 (fun k => k = b)).setCell ⟨b, 0, none⟩ (.slice a2 (l.length + 1) c2) (fun _ => rfl); have HHD := Lib.hid (heap_setCell_same _ b 0 _ _ (.slice a2 (l.length + 1) c2) HHD.out); have HOB := Lib.hid (fun x (hx : (Value.slice a2 (l.length + 1) c2).ownBlock = some x) => (HOW.out.own.lt x hx)); have HOW := Lib.hid (HOW.out.touch t6 (fun x hx e => by have := (HOW.out.own.lt x hx).1; have e : x = b := e; omega)); have HDM := Lib.hid (ownsMap_touch HDM.out t6 (fun e => by have := HSZ.out.1; have e : mb = b := e; omega)); clear t6; (try simp only [Act.put, List.setIfInBounds_toArray, List.set_cons_zero, List.set_cons_succ]))
      refine walkT_fin ?_
      go_wp2_with fail
      go_end0
      refine ⟨rfl, ⟨a2, c2, some mb⟩, ?_, ?_, ?_⟩
      · have hp9 := plQ_push HPP.out r HN.out
        have htg := ownsMap_tight HDM.out
        have e6 : Maps.size (D.put (klQ r) (DataW.lit (Lit.int .i64 l.length))) = (l ++ [r]).length := hp9.size
        have e7 : (l ++ [r]).length = l.length + 1 := by simp
        change World.ownsMap _ _ _ _ _ (Maps.size (D.put (klQ r) (DataW.lit (Lit.int .i64 l.length)))) _ at htg
        rw [e6] at htg
        refine ⟨?_, ?_, ?_, ?_, by rw [e7]; omega, ?_⟩
        · rw [e7]; exact HHD.out
        · rw [e7]; exact HOW.out
        · intro x hx
          rcases List.mem_append.1 hx with hx | hx
          · exact HOK.out x hx
          · rw [List.mem_singleton.1 hx]; exact ⟨HK.out, HR.out.1, HR.out.2⟩
        · rw [List.map_append, List.nodup_append]
          exact ⟨HND.out, by simp, fun x hx y hy => by simp at hy; subst hy; intro e; exact HN.out (e ▸ hx)⟩
        · refine ⟨HSZ.out.1, fun k hk e => ?_, _, htg, hp9⟩
          subst e
          have hk' : (Value.slice a2 (l.length + 1) c2).ownBlock = some k := own_block' hk
          rcases HPL.out k hk' with h9 | h9
          · exact HSZ.out.2 _ (own_block h9) _ rfl rfl
          · have h1 := HMW5.out; have h2 := HSW.out; omega
      · exact (T4.out.trans ((HUT.out.mono (T := footQ b ⟨h.a, h.c, some mb⟩) (fun k _ e => .inr (.inr (by have e : k = mb := e; rw [e])))).trans hS (fun _ _ h => h)) (fun k hk h9 => HFT.out k hk h9))
      · intro k hk
        rcases hk with rfl | hk | hk
        · exact .inl (.inl rfl)
        · have hk' : (Value.slice a2 (l.length + 1) c2).ownBlock = some k := own_block' hk
          rcases HPL.out k hk' with h9 | h9
          · exact HFA.out k (own_block h9)
          · exact .inr (by have h1 := HSG5.out; have h2 := HSW.out; omega)
        · simp only [Option.some.injEq] at hk
          subst hk
          exact HFM.out
    · (refine runN_new 39 (fun W => .slice (some ⟨W.heap.size, 0, none⟩) 1 1) #[.string r.key, .int .i64 r.time] 88 rfl rfl (by rfl) (by intro W; go_simp <;> first | with_reducible rfl | rfl | exact ⟨rfl, rfl⟩) ?_; intro w7 hw7 hM7 hs7 t7; have hS := hS.trans t7 (fun _ _ h => h.elim); refine ⟨hS, fun _ => ?_⟩; have HNW := Lib.hid (show RowS w7 _ 1 1 2 [qcl r] from hw7 ▸ row_oneQ _ _); have HHD := Lib.hid (t7.keeps HHD.out (fun h => h)); have HOW := Lib.hid (HOW.out.still t7); have HDM := Lib.hid (ownsMap_touch HDM.out t7 (fun h => h)); clear hw7 hM7 hs7 t7; (try simp only [Act.put, List.setIfInBounds_toArray, List.set_cons_zero, List.set_cons_succ]))
      refine walkT_one ?_
      (have cc := cell_of_cells HHD.out 0; refine runN_do (v := .slice h.a l.length h.c) (w' := _) (some 37) rfl rfl (by rfl) (by go_simp; (try with_reducible rfl)) hS (fun hS => ?_); clear cc; (try simp only [Act.put, List.setIfInBounds_toArray, List.set_cons_zero, List.set_cons_succ]))
      refine walkT_one ?_
      (have HSW := Lib.hid hS.size; refine runN_appS 40 (.tmp 37) (.tmp 39) _ rfl rfl rfl (by rfl) 88 Try.underlying80 (.agg #[.string ByteArray.empty, .int .i64 0]) 2 24 infoRowB rfl (by decide) (b + 1) _ _ rfl HOW.out _ 1 1 _ rfl HNW.out (by simp [qcl, Value.oneCell']) (l.length + 1) ((l ++ [r]).map qcl) (by rw [List.map_append]; rfl) (by rw [List.length_map]) (by simp only [maxLen]; omega) (by omega) (heap_lt HHD.out) ?_; intro a2 c2 w9 how9 hg9 hp9; have t9 := (Touch.refl _ (fun k => h.a.map (·.block) = some k)).grown hg9 (fun k hk _ => own_block hk); have hS := hS.trans t9 (fun k _ hk => .inr (.inl hk)); refine ⟨hS, fun _ => ?_⟩; have HHD := Lib.hid (t9.keeps HHD.out (fun e => by have := (HOA.out b e); omega)); have HDM := Lib.hid (ownsMap_touch HDM.out t9 (fun e => HSZ.out.2 _ e _ rfl rfl)); have HOW := Lib.hid how9; have HPL := Lib.hid hp9; clear how9 hg9 hp9 t9 HNW; (try simp only [Act.put, List.setIfInBounds_toArray, List.set_cons_zero, List.set_cons_succ]))
      refine walkT_take ?_
      (refine takeN_take (v := ?_) (some 41) rfl rfl (fun _ _ _ h => h) (by rfl) ?_ ?_; rotate_left; (focus (intro w' hw'; obtain ⟨c5, c6⟩ := HLV.out w' hw'; go_simp; (try with_reducible rfl))); (try simp only [Act.put, List.setIfInBounds_toArray, List.set_cons_zero, List.set_cons_succ]))
      refine walkT_take ?_
      (refine takeN_take (v := ?_) (some 42) rfl rfl (fun _ _ _ h => h) (by rfl) ?_ ?_; rotate_left; (focus (intro w' hw'; obtain ⟨c5, c6⟩ := HLV.out w' hw'; go_simp; (try with_reducible rfl))); (try simp only [Act.put, List.setIfInBounds_toArray, List.set_cons_zero, List.set_cons_succ]))
      refine walkT_one ?_
      (have cc := cell_of_cells HHD.out 0; have ff := free_of_cells HHD.out 0; refine runN_skip0 none rfl rfl (by rfl) (w' := World.setCell w9 ⟨b, 0, none⟩ (.slice a2 (l.length + 1) c2)) (by go_simp; (try with_reducible rfl)) ?_ ?_; (exact hS.setCell _ _ (fun _ => .inl rfl)); clear cc ff; intro hS; have t6 := (Touch.refl w9 (fun k => k = b)).setCell ⟨b, 0, none⟩ (.slice a2 (l.length + 1) c2) (fun _ => rfl); have HHD := Lib.hid (heap_setCell_same _ b 0 _ _ (.slice a2 (l.length + 1) c2) HHD.out); have HOB := Lib.hid (fun x (hx : (Value.slice a2 (l.length + 1) c2).ownBlock = some x) => (HOW.out.own.lt x hx)); have HOW := Lib.hid (HOW.out.touch t6 (fun x hx e => by have := (HOW.out.own.lt x hx).1; have e : x = b := e; omega)); have HDM := Lib.hid (ownsMap_touch HDM.out t6 (fun e => by have := HSZ.out.1; have e : mb = b := e; omega)); clear t6; (try simp only [Act.put, List.setIfInBounds_toArray, List.set_cons_zero, List.set_cons_succ]))
      refine walkT_fin ?_
      go_wp2_with fail
      go_end0
      refine ⟨rfl, ⟨a2, c2, some mb⟩, ?_, ?_, ?_⟩
      · have hp9 := plQ_push HPP.out r HN.out
        have htg := ownsMap_tight HDM.out
        have e6 : Maps.size (D.put (klQ r) (DataW.lit (Lit.int .i64 l.length))) = (l ++ [r]).length := hp9.size
        have e7 : (l ++ [r]).length = l.length + 1 := by simp
        change World.ownsMap _ _ _ _ _ (Maps.size (D.put (klQ r) (DataW.lit (Lit.int .i64 l.length)))) _ at htg
        rw [e6] at htg
        refine ⟨?_, ?_, ?_, ?_, by rw [e7]; omega, ?_⟩
        · rw [e7]; exact HHD.out
        · rw [e7]; exact HOW.out
        · intro x hx
          rcases List.mem_append.1 hx with hx | hx
          · exact HOK.out x hx
          · rw [List.mem_singleton.1 hx]; exact ⟨HK.out, HR.out.1, HR.out.2⟩
        · rw [List.map_append, List.nodup_append]
          exact ⟨HND.out, by simp, fun x hx y hy => by simp at hy; subst hy; intro e; exact HN.out (e ▸ hx)⟩
        · refine ⟨HSZ.out.1, fun k hk e => ?_, _, htg, hp9⟩
          subst e
          have hk' : (Value.slice a2 (l.length + 1) c2).ownBlock = some k := own_block' hk
          rcases HPL.out k hk' with h9 | h9
          · exact HSZ.out.2 _ (own_block h9) _ rfl rfl
          · have h1 := HMW5.out; have h2 := HSW.out; omega
      · exact (T4.out.trans ((HUT.out.mono (T := footQ b ⟨h.a, h.c, some mb⟩) (fun k _ e => .inr (.inr (by have e : k = mb := e; rw [e])))).trans hS (fun _ _ h => h)) (fun k hk h9 => HFT.out k hk h9))
      · intro k hk
        rcases hk with rfl | hk | hk
        · exact .inl (.inl rfl)
        · have hk' : (Value.slice a2 (l.length + 1) c2).ownBlock = some k := own_block' hk
          rcases HPL.out k hk' with h9 | h9
          · exact HFA.out k (own_block h9)
          · exact .inr (by have h1 := HSG5.out; have h2 := HSW.out; omega)
        · simp only [Option.some.injEq] at hk
          subst hk
          exact HFM.out
set_option maxRecDepth 20000 in
set_option maxHeartbeats 8000000 in
theorem kpush_none (w : World) (b : Nat) (ha : Option Addr) (hc : Nat) (l : List QR) (q : QB w b ⟨ha, hc, none⟩ l) (r : QR) (hn : r.key ∉ l.map QR.key) (hk : r.key.size ≤ 281474976710656) (hr : 0 ≤ r.time ∧ r.time ≤ 1099511627776) (hl : l.length < 1024) :
    Calls Try.prog 95 #[.pointer (some ⟨b, 0, none⟩), .iface 88 (.agg #[.string r.key, .int .i64 r.time])] w fun e w' => e = .returned (.tuple #[]) ∧ QStep w w' b ⟨ha, hc, none⟩ (l ++ [r]) := by
  have hl0 : l = [] := q.map
  obtain ⟨mb, hmb⟩ : ∃ m, m = w.heap.size + 1 := ⟨_, rfl⟩
  obtain ⟨h, hh⟩ : ∃ h : QH, h = ⟨ha, hc, some mb⟩ := ⟨_, rfl⟩
  obtain ⟨W1, hW1⟩ : ∃ W, w.alloc (.cells #[.string r.key, .int .i64 r.time] 88) = W := ⟨_, rfl⟩
  have hs1 : W1.heap.size = w.heap.size + 1 := by rw [← hW1]; simp
  obtain ⟨W2, hW2⟩ : ∃ W, W1.alloc (.map #[] 0) = W := ⟨_, rfl⟩
  obtain ⟨W4, hW4⟩ : ∃ W, W2.setCell ⟨b, 1, none⟩ (.map (some (w.heap.size + 1))) = W := ⟨_, rfl⟩
  have t1 : Touch w W1 (fun _ => False) := hW1 ▸ (Touch.refl _ _).alloc _
  have t2 : Touch W1 W2 (fun _ => False) := hW2 ▸ (Touch.refl _ _).alloc _
  have t3 : Touch W2 W4 (fun k => k = b) := hW4 ▸ (Touch.refl W2 (fun k => k = b)).setCell _ _ (fun _ => rfl)
  have hfl := q.footlt
  have hbl : b < w.heap.size := hfl b (.inl rfl)
  have h1d := t1.keeps q.head (fun h => h)
  have h2d := t2.keeps h1d (fun h => h)
  have hea : h.a = ha := by rw [hh]
  have hec : h.c = hc := by rw [hh]
  have HHD : RowKit.Hid (W4.heap[b]? = some (.cells #[.slice h.a l.length h.c, .map (some mb)] 85 (0, 0))) := Lib.hid (by
    have h4 := heap_setCell_same W2 b 1 _ _ (.map (some (w.heap.size + 1))) h2d
    rw [hW4] at h4
    rw [h4, hea, hec, hmb]; rfl)
  have how : OwnS w (b + 1) 88 2 (.slice h.a l.length h.c) (l.map qcl) := by rw [hea, hec]; exact q.own
  have hoa : ∀ k, h.a.map (·.block) = some k → b < k ∧ k < w.heap.size := fun k hk => by have := how.own.lt k (own_block' hk); omega
  have HOW : RowKit.Hid (OwnS W4 (b + 1) 88 2 (.slice h.a l.length h.c) (l.map qcl)) := Lib.hid (((how.still t1).still t2).touch t3 (fun x hx e => by have := (hoa x (own_block hx)).1; have e : x = b := e; omega))
  have HMP : RowKit.Hid (b < mb ∧ (∀ k, h.a.map (·.block) = some k → k ≠ mb) ∧ ∃ D : DataW Unit, W4.ownsMap Try.prog 9 (plainElem Try.prog 3) mb l.length D ∧ PlQ D l) := Lib.hid ⟨by omega, fun k hk => by have := (hoa k hk).2; omega, .map [], by
      have h9 := World.ownsMap_made (H := Unit) W1 Try.prog 9 (plainElem Try.prog 3)
      rw [hW2, hs1, ← hmb] at h9
      rw [hl0]
      exact ownsMap_touch h9 t3 (fun e => by have e : mb = b := e; omega), by rw [hl0]; exact plQ_nil⟩
  have HV : RowKit.Hid (W4.heap[w.heap.size]? = some (.cells #[.string r.key, .int .i64 r.time] 88 (0, 0))) := Lib.hid (t3.keeps (t2.keeps (hW1 ▸ heap_alloc_new w _) (fun h => h)) (fun e => by have e : w.heap.size = b := e; omega))
  have HVM : RowKit.Hid (w.heap.size ≠ mb) := Lib.hid (by omega)
  have HVF : RowKit.Hid (¬ footQ b ⟨h.a, h.c, some mb⟩ w.heap.size) := Lib.hid (fun e => by
    rcases e with e | e | e
    · omega
    · have := (hoa _ e).2; omega
    · simp only [Option.some.injEq] at e; omega)
  have HOA : RowKit.Hid (∀ k, h.a.map (·.block) = some k → b < k) := Lib.hid (fun k hk => (hoa k hk).1)
  have HN := Lib.hid hn
  have HK := Lib.hid hk
  have HR := Lib.hid hr
  have HOK := Lib.hid q.ok
  have HND := Lib.hid q.nd
  have T4 : RowKit.Hid (Touch w W4 (footQ b ⟨ha, hc, none⟩)) := Lib.hid (((t1.trans t2 (fun _ _ h => h)).mono (T := footQ b ⟨ha, hc, none⟩) (fun _ _ h => h.elim)).trans t3 (fun k _ e => by have e : k = b := e; subst e; exact .inl rfl))
  have HFT : RowKit.Hid (∀ k, k < w.heap.size → footQ b ⟨h.a, h.c, some mb⟩ k → footQ b ⟨ha, hc, none⟩ k) := Lib.hid (fun k hk h9 => by
    rcases h9 with e | e | e
    · exact .inl e
    · rw [hea] at e; exact .inr (.inl e)
    · simp only [Option.some.injEq] at e; omega)
  have HFA : RowKit.Hid (∀ k, h.a.map (·.block) = some k → footQ b ⟨ha, hc, none⟩ k ∨ w.heap.size ≤ k) := Lib.hid (fun k hk => by rw [hea] at hk; exact .inl (.inr (.inl hk)))
  have HFM : RowKit.Hid (footQ b ⟨ha, hc, none⟩ mb ∨ w.heap.size ≤ mb) := Lib.hid (.inr (by omega))
  have c1 := cell_of_cells h1d 1
  have c2 := cell_of_cells h2d 1
  have f2 := free_of_cells h2d 1
  have hbm := map_none W1
  have has := assert_row (.agg #[.string r.key, .int .i64 r.time]) w
  have hmk := run_makeMap (P := Try.prog) 81 W1
  rw [hW2, hs1] at hmk
  have HW1 := Lib.hid hW1
  have HW4 := Lib.hid hW4
  clear q hfl h1d h2d t1 t2 t3 hn hk hr hW1 hW2 hW4 how hoa hea hec hs1 hh hmb hbl hl0
  go_enter Try.func95, Try.ntmps95
  go_upto_region 1 with (fail)
  rw [HW1.out]
  go_wp2_with fail
  rw [HW4.out]
  clear c1 c2 f2 hbm has hmk
  obtain ⟨D, hD, hP⟩ := HMP.out.2.2
  obtain ⟨w5, hrun5, ho5, hg5⟩ := World.ownsMap.store (w := W4.drew) (b := mb) (n := l.length) (D := D) hD strKeyed Try.underlying81 (by simp only [maxLen]; omega) (keyQ HK.out) (elemQ (l.length : Int) (by omega) (by omega))
  have HUP := Lib.hid hrun5
  have HUT : RowKit.Hid (Touch W4 w5 (fun k => k = mb)) := Lib.hid (((Touch.refl W4 (fun k => k = mb)).drew).grown hg5.grown (fun k hk _ => by simp only [Option.some.injEq] at hk; exact hk.symm))
  have HSZ : RowKit.Hid (b < mb ∧ (∀ k, h.a.map (·.block) = some k → ∀ m, m = mb → k ≠ m)) := Lib.hid ⟨HMP.out.1, fun k hk m hm => by subst hm; exact HMP.out.2.1 k hk⟩
  have HPP := Lib.hid hP
  have HO5 := Lib.hid ho5
  have HC4 : RowKit.Hid (∀ W, Touch W4 W (fun k => k = mb) → W.cell? ⟨b, 0, none⟩ = some (.slice h.a l.length h.c) ∧ W.cell? ⟨b, 1, none⟩ = some (.map (some mb)) ∧ W.cell? ⟨w.heap.size, 0, none⟩ = some (.string r.key)) := Lib.hid (fun W t => by
    have h1 := t.keeps HHD.out (fun e => by have := HSZ.out.1; have e : b = mb := e; omega)
    have h2 := t.keeps HV.out (fun e => HVM.out e)
    exact ⟨cell_of_cells h1 0, cell_of_cells h1 1, cell_of_cells h2 0⟩)
  clear hD hP hrun5 ho5 hg5
  go_cut [] (fun wx => wx = w5)
  case first =>
    go_wp2_with fail
    have hS := (Touch.refl W4 (fun k => k = mb)).drew
    refine wp_region_tree (fun w' => Touch W4 w' (fun k => k = mb)) (.take 0 (.take 1 (.take 2 (.take 3 (.take 4 (.take 5 (.take 6 (.take 7 (.take 8 (.take 9 (.take 10 (.one 11 .fin)))))))))))) (by kernel_rfl) (by kernel_rfl) (by kernel_rfl) (by kernel_rfl) hS ?_
    refine walkT_take ?_
    (refine takeN_take (v := ?_) (some 22) rfl rfl (fun _ _ _ h => h) (by rfl) ?_ ?_; rotate_left; (focus (intro w' hw'; obtain ⟨c0, c1, c2⟩ := HC4.out w' hw'; go_simp; (try with_reducible rfl))); (try simp only [Act.put, List.setIfInBounds_toArray, List.set_cons_zero, List.set_cons_succ]))
    refine walkT_take ?_
    (refine takeN_take (v := ?_) (some 23) rfl rfl (fun _ _ _ h => h) (by rfl) ?_ ?_; rotate_left; (focus (intro w' hw'; obtain ⟨c0, c1, c2⟩ := HC4.out w' hw'; go_simp; (try with_reducible rfl))); (try simp only [Act.put, List.setIfInBounds_toArray, List.set_cons_zero, List.set_cons_succ]))
    refine walkT_take ?_
    (refine takeN_take (v := ?_) (some 24) rfl rfl (fun _ _ _ h => h) (by rfl) ?_ ?_; rotate_left; (focus (intro w' hw'; obtain ⟨c0, c1, c2⟩ := HC4.out w' hw'; go_simp; (try with_reducible rfl))); (try simp only [Act.put, List.setIfInBounds_toArray, List.set_cons_zero, List.set_cons_succ]))
    refine walkT_take ?_
    (refine takeN_take (v := ?_) (some 25) rfl rfl (fun _ _ _ h => h) (by rfl) ?_ ?_; rotate_left; (focus (intro w' hw'; obtain ⟨c0, c1, c2⟩ := HC4.out w' hw'; go_simp; (try with_reducible rfl))); (try simp only [Act.put, List.setIfInBounds_toArray, List.set_cons_zero, List.set_cons_succ]))
    refine walkT_take ?_
    (refine takeN_take (v := ?_) (some 26) rfl rfl (fun _ _ _ h => h) (by rfl) ?_ ?_; rotate_left; (focus (intro w' hw'; obtain ⟨c0, c1, c2⟩ := HC4.out w' hw'; go_simp; (try with_reducible rfl))); (try simp only [Act.put, List.setIfInBounds_toArray, List.set_cons_zero, List.set_cons_succ]))
    refine walkT_take ?_
    (refine takeN_take (v := ?_) (some 27) rfl rfl (fun _ _ _ h => h) (by rfl) ?_ ?_; rotate_left; (focus (intro w' hw'; obtain ⟨c0, c1, c2⟩ := HC4.out w' hw'; go_simp; (try with_reducible rfl))); (try simp only [Act.put, List.setIfInBounds_toArray, List.set_cons_zero, List.set_cons_succ]))
    refine walkT_take ?_
    (refine takeN_take (v := ?_) (some 28) rfl rfl (fun _ _ _ h => h) (by rfl) ?_ ?_; rotate_left; (focus (intro w' hw'; obtain ⟨c0, c1, c2⟩ := HC4.out w' hw'; go_simp; (try with_reducible rfl))); (try simp only [Act.put, List.setIfInBounds_toArray, List.set_cons_zero, List.set_cons_succ]))
    refine walkT_take ?_
    (refine takeN_take (v := ?_) (some 29) rfl rfl (fun _ _ _ h => h) (by rfl) ?_ ?_; rotate_left; (focus (intro w' hw'; obtain ⟨c0, c1, c2⟩ := HC4.out w' hw'; go_simp; (try with_reducible rfl))); (try simp only [Act.put, List.setIfInBounds_toArray, List.set_cons_zero, List.set_cons_succ]))
    refine walkT_take ?_
    (refine takeN_take (v := ?_) (some 30) rfl rfl (fun _ _ _ h => h) (by rfl) ?_ ?_; rotate_left; (focus (intro w' hw'; obtain ⟨c0, c1, c2⟩ := HC4.out w' hw'; go_simp; (try with_reducible rfl))); (try simp only [Act.put, List.setIfInBounds_toArray, List.set_cons_zero, List.set_cons_succ]))
    refine walkT_take ?_
    (refine takeN_take (v := ?_) (some 31) rfl rfl (fun _ _ _ h => h) (by rfl) ?_ ?_; rotate_left; (focus (intro w' hw'; obtain ⟨c0, c1, c2⟩ := HC4.out w' hw'; go_simp; (try with_reducible rfl))); (try simp only [Act.put, List.setIfInBounds_toArray, List.set_cons_zero, List.set_cons_succ]))
    refine walkT_take ?_
    (refine takeN_take (v := ?_) (some 32) rfl rfl (fun _ _ _ h => h) (by rfl) ?_ ?_; rotate_left; (focus (intro w' hw'; obtain ⟨c0, c1, c2⟩ := HC4.out w' hw'; go_simp; (try with_reducible rfl))); (try simp only [Act.put, List.setIfInBounds_toArray, List.set_cons_zero, List.set_cons_succ]))
    refine walkT_one ?_
    (refine runN_skip0 none rfl rfl (by rfl) (w' := w5) (by have q := HUP.out; go_simp; (try with_reducible rfl)) HUT.out (fun hS => ?_); (try simp only [Act.put, List.setIfInBounds_toArray, List.set_cons_zero, List.set_cons_succ]))
    refine walkT_fin ?_
    go_wp2_with fail
    go_meet
    rfl
  case rest =>
    obtain rfl := hcut
    have HHD := Lib.hid (HUT.out.keeps HHD.out (fun e => by have := HSZ.out.1; have e : b = mb := e; omega))
    have HOW := Lib.hid (HOW.out.touch HUT.out (fun x hx e => HSZ.out.2 x (own_block hx) _ e rfl))
    have HV := Lib.hid (HUT.out.keeps HV.out (fun e => HVM.out e))
    have HDM := Lib.hid HO5.out
    have HMW5 : RowKit.Hid (mb < wc.heap.size) := Lib.hid HO5.out.lt
    have HSG5 : RowKit.Hid (w.heap.size ≤ wc.heap.size) := Lib.hid (Nat.le_trans T4.out.size HUT.out.size)
    have HLV : RowKit.Hid (∀ W, Touch wc W (footQ b ⟨h.a, h.c, some mb⟩) → W.cell? ⟨w.heap.size, 0, none⟩ = some (.string r.key) ∧ W.cell? ⟨w.heap.size, 1, none⟩ = some (.int .i64 r.time)) := Lib.hid (fun W t => by
      have h2 := t.keeps HV.out (fun e => HVF.out e)
      exact ⟨cell_of_cells h2 0, cell_of_cells h2 1⟩)
    go_wp2_with fail
    have HHD := Lib.hid (((Touch.refl wc (fun _ => False)).drew).keeps HHD.out (fun h => h))
    have HOW := Lib.hid (HOW.out.still ((Touch.refl wc (fun _ => False)).drew))
    have HDM := Lib.hid (ownsMap_touch HDM.out ((Touch.refl wc (fun _ => False)).drew) (fun h => h))
    have hS := (Touch.refl wc (footQ b ⟨h.a, h.c, some mb⟩)).drew
    refine wp_region_tree (fun w' => Touch wc w' (footQ b ⟨h.a, h.c, some mb⟩)) (.take 0 (.take 1 (.take 2 (.take 3 (.take 5 (.two 4 6 (.one 6 (.one 7 (.take 8 (.take 9 (.one 10 .fin))))) (.one 4 (.one 7 (.take 8 (.take 9 (.one 10 .fin))))))))))) (by kernel_rfl) (by kernel_rfl) (by kernel_rfl) (by kernel_rfl) hS ?_
    refine walkT_take ?_
    (refine takeN_take (v := ?_) (some 33) rfl rfl (fun _ _ _ h => h) (by rfl) ?_ ?_; rotate_left; (focus (intro w' hw'; obtain ⟨c5, c6⟩ := HLV.out w' hw'; go_simp; (try with_reducible rfl))); (try simp only [Act.put, List.setIfInBounds_toArray, List.set_cons_zero, List.set_cons_succ]))
    refine walkT_take ?_
    (refine takeN_take (v := ?_) (some 34) rfl rfl (fun _ _ _ h => h) (by rfl) ?_ ?_; rotate_left; (focus (intro w' hw'; obtain ⟨c5, c6⟩ := HLV.out w' hw'; go_simp; (try with_reducible rfl))); (try simp only [Act.put, List.setIfInBounds_toArray, List.set_cons_zero, List.set_cons_succ]))
    refine walkT_take ?_
    (refine takeN_take (v := ?_) (some 35) rfl rfl (fun _ _ _ h => h) (by rfl) ?_ ?_; rotate_left; (focus (intro w' hw'; obtain ⟨c5, c6⟩ := HLV.out w' hw'; go_simp; (try with_reducible rfl))); (try simp only [Act.put, List.setIfInBounds_toArray, List.set_cons_zero, List.set_cons_succ]))
    refine walkT_take ?_
    (refine takeN_take (v := ?_) (some 36) rfl rfl (fun _ _ _ h => h) (by rfl) ?_ ?_; rotate_left; (focus (intro w' hw'; obtain ⟨c5, c6⟩ := HLV.out w' hw'; go_simp; (try with_reducible rfl))); (try simp only [Act.put, List.setIfInBounds_toArray, List.set_cons_zero, List.set_cons_succ]))
    refine walkT_take ?_
    (refine takeN_take (v := ?_) (some 38) rfl rfl (fun _ _ _ h => h) (by rfl) ?_ ?_; rotate_left; (focus (intro w' hw'; obtain ⟨c5, c6⟩ := HLV.out w' hw'; go_simp; (try with_reducible rfl))); (try simp only [Act.put, List.setIfInBounds_toArray, List.set_cons_zero, List.set_cons_succ]))
    refine walkT_two ?_ ?_
    · (have cc := cell_of_cells HHD.out 0; refine runN_do (v := .slice h.a l.length h.c) (w' := _) (some 37) rfl rfl (by rfl) (by go_simp; (try with_reducible rfl)) hS (fun hS => ?_); clear cc; (try simp only [Act.put, List.setIfInBounds_toArray, List.set_cons_zero, List.set_cons_succ]))
      refine walkT_one ?_
      (refine runN_new 39 (fun W => .slice (some ⟨W.heap.size, 0, none⟩) 1 1) #[.string r.key, .int .i64 r.time] 88 rfl rfl (by rfl) (by intro W; go_simp <;> first | with_reducible rfl | rfl | exact ⟨rfl, rfl⟩) ?_; intro w7 hw7 hM7 hs7 t7; have hS := hS.trans t7 (fun _ _ h => h.elim); refine ⟨hS, fun _ => ?_⟩; have HNW := Lib.hid (show RowS w7 _ 1 1 2 [qcl r] from hw7 ▸ row_oneQ _ _); have HHD := Lib.hid (t7.keeps HHD.out (fun h => h)); have HOW := Lib.hid (HOW.out.still t7); have HDM := Lib.hid (ownsMap_touch HDM.out t7 (fun h => h)); clear hw7 hM7 hs7 t7; (try simp only [Act.put, List.setIfInBounds_toArray, List.set_cons_zero, List.set_cons_succ]))
      refine walkT_one ?_
      (have HSW := Lib.hid hS.size; refine runN_appS 40 (.tmp 37) (.tmp 39) _ rfl rfl rfl (by rfl) 88 Try.underlying80 (.agg #[.string ByteArray.empty, .int .i64 0]) 2 24 infoRowB rfl (by decide) (b + 1) _ _ rfl HOW.out _ 1 1 _ rfl HNW.out (by simp [qcl, Value.oneCell']) (l.length + 1) ((l ++ [r]).map qcl) (by rw [List.map_append]; rfl) (by rw [List.length_map]) (by simp only [maxLen]; omega) (by omega) (heap_lt HHD.out) ?_; intro a2 c2 w9 how9 hg9 hp9; have t9 := (Touch.refl _ (fun k => h.a.map (·.block) = some k)).grown hg9 (fun k hk _ => own_block hk); have hS := hS.trans t9 (fun k _ hk => .inr (.inl hk)); refine ⟨hS, fun _ => ?_⟩; have HHD := Lib.hid (t9.keeps HHD.out (fun e => by have := (HOA.out b e); omega)); have HDM := Lib.hid (ownsMap_touch HDM.out t9 (fun e => HSZ.out.2 _ e _ rfl rfl)); have HOW := Lib.hid how9; have HPL := Lib.hid hp9; clear how9 hg9 hp9 t9 HNW; (try simp only [Act.put, List.setIfInBounds_toArray, List.set_cons_zero, List.set_cons_succ]))
      refine walkT_take ?_
      (refine takeN_take (v := ?_) (some 41) rfl rfl (fun _ _ _ h => h) (by rfl) ?_ ?_; rotate_left; (focus (intro w' hw'; obtain ⟨c5, c6⟩ := HLV.out w' hw'; go_simp; (try with_reducible rfl))); (try simp only [Act.put, List.setIfInBounds_toArray, List.set_cons_zero, List.set_cons_succ]))
      refine walkT_take ?_
      (refine takeN_take (v := ?_) (some 42) rfl rfl (fun _ _ _ h => h) (by rfl) ?_ ?_; rotate_left; (focus (intro w' hw'; obtain ⟨c5, c6⟩ := HLV.out w' hw'; go_simp; (try with_reducible rfl))); (try simp only [Act.put, List.setIfInBounds_toArray, List.set_cons_zero, List.set_cons_succ]))
      refine walkT_one ?_
      (have cc := cell_of_cells HHD.out 0; have ff := free_of_cells HHD.out 0; refine runN_skip0 none rfl rfl (by rfl) (w' := World.setCell w9 ⟨b, 0, none⟩ (.slice a2 (l.length + 1) c2)) (by go_simp; (try with_reducible rfl)) ?_ ?_; (exact hS.setCell _ _ (fun _ => .inl rfl)); clear cc ff; intro hS; have t6 := (Touch.refl w9 (fun k => k = b)).setCell ⟨b, 0, none⟩ (.slice a2 (l.length + 1) c2) (fun _ => rfl); have HHD := Lib.hid (heap_setCell_same _ b 0 _ _ (.slice a2 (l.length + 1) c2) HHD.out); have HOB := Lib.hid (fun x (hx : (Value.slice a2 (l.length + 1) c2).ownBlock = some x) => (HOW.out.own.lt x hx)); have HOW := Lib.hid (HOW.out.touch t6 (fun x hx e => by have := (HOW.out.own.lt x hx).1; have e : x = b := e; omega)); have HDM := Lib.hid (ownsMap_touch HDM.out t6 (fun e => by have := HSZ.out.1; have e : mb = b := e; omega)); clear t6; (try simp only [Act.put, List.setIfInBounds_toArray, List.set_cons_zero, List.set_cons_succ]))
      refine walkT_fin ?_
      go_wp2_with fail
      go_end0
      refine ⟨rfl, ⟨a2, c2, some mb⟩, ?_, ?_, ?_⟩
      · have hp9 := plQ_push HPP.out r HN.out
        have htg := ownsMap_tight HDM.out
        have e6 : Maps.size (D.put (klQ r) (DataW.lit (Lit.int .i64 l.length))) = (l ++ [r]).length := hp9.size
        have e7 : (l ++ [r]).length = l.length + 1 := by simp
        change World.ownsMap _ _ _ _ _ (Maps.size (D.put (klQ r) (DataW.lit (Lit.int .i64 l.length)))) _ at htg
        rw [e6] at htg
        refine ⟨?_, ?_, ?_, ?_, by rw [e7]; omega, ?_⟩
        · rw [e7]; exact HHD.out
        · rw [e7]; exact HOW.out
        · intro x hx
          rcases List.mem_append.1 hx with hx | hx
          · exact HOK.out x hx
          · rw [List.mem_singleton.1 hx]; exact ⟨HK.out, HR.out.1, HR.out.2⟩
        · rw [List.map_append, List.nodup_append]
          exact ⟨HND.out, by simp, fun x hx y hy => by simp at hy; subst hy; intro e; exact HN.out (e ▸ hx)⟩
        · refine ⟨HSZ.out.1, fun k hk e => ?_, _, htg, hp9⟩
          subst e
          have hk' : (Value.slice a2 (l.length + 1) c2).ownBlock = some k := own_block' hk
          rcases HPL.out k hk' with h9 | h9
          · exact HSZ.out.2 _ (own_block h9) _ rfl rfl
          · have h1 := HMW5.out; have h2 := HSW.out; omega
      · exact (T4.out.trans ((HUT.out.mono (T := footQ b ⟨h.a, h.c, some mb⟩) (fun k _ e => .inr (.inr (by have e : k = mb := e; rw [e])))).trans hS (fun _ _ h => h)) (fun k hk h9 => HFT.out k hk h9))
      · intro k hk
        rcases hk with rfl | hk | hk
        · exact .inl (.inl rfl)
        · have hk' : (Value.slice a2 (l.length + 1) c2).ownBlock = some k := own_block' hk
          rcases HPL.out k hk' with h9 | h9
          · exact HFA.out k (own_block h9)
          · exact .inr (by have h1 := HSG5.out; have h2 := HSW.out; omega)
        · simp only [Option.some.injEq] at hk
          subst hk
          exact HFM.out
    · (refine runN_new 39 (fun W => .slice (some ⟨W.heap.size, 0, none⟩) 1 1) #[.string r.key, .int .i64 r.time] 88 rfl rfl (by rfl) (by intro W; go_simp <;> first | with_reducible rfl | rfl | exact ⟨rfl, rfl⟩) ?_; intro w7 hw7 hM7 hs7 t7; have hS := hS.trans t7 (fun _ _ h => h.elim); refine ⟨hS, fun _ => ?_⟩; have HNW := Lib.hid (show RowS w7 _ 1 1 2 [qcl r] from hw7 ▸ row_oneQ _ _); have HHD := Lib.hid (t7.keeps HHD.out (fun h => h)); have HOW := Lib.hid (HOW.out.still t7); have HDM := Lib.hid (ownsMap_touch HDM.out t7 (fun h => h)); clear hw7 hM7 hs7 t7; (try simp only [Act.put, List.setIfInBounds_toArray, List.set_cons_zero, List.set_cons_succ]))
      refine walkT_one ?_
      (have cc := cell_of_cells HHD.out 0; refine runN_do (v := .slice h.a l.length h.c) (w' := _) (some 37) rfl rfl (by rfl) (by go_simp; (try with_reducible rfl)) hS (fun hS => ?_); clear cc; (try simp only [Act.put, List.setIfInBounds_toArray, List.set_cons_zero, List.set_cons_succ]))
      refine walkT_one ?_
      (have HSW := Lib.hid hS.size; refine runN_appS 40 (.tmp 37) (.tmp 39) _ rfl rfl rfl (by rfl) 88 Try.underlying80 (.agg #[.string ByteArray.empty, .int .i64 0]) 2 24 infoRowB rfl (by decide) (b + 1) _ _ rfl HOW.out _ 1 1 _ rfl HNW.out (by simp [qcl, Value.oneCell']) (l.length + 1) ((l ++ [r]).map qcl) (by rw [List.map_append]; rfl) (by rw [List.length_map]) (by simp only [maxLen]; omega) (by omega) (heap_lt HHD.out) ?_; intro a2 c2 w9 how9 hg9 hp9; have t9 := (Touch.refl _ (fun k => h.a.map (·.block) = some k)).grown hg9 (fun k hk _ => own_block hk); have hS := hS.trans t9 (fun k _ hk => .inr (.inl hk)); refine ⟨hS, fun _ => ?_⟩; have HHD := Lib.hid (t9.keeps HHD.out (fun e => by have := (HOA.out b e); omega)); have HDM := Lib.hid (ownsMap_touch HDM.out t9 (fun e => HSZ.out.2 _ e _ rfl rfl)); have HOW := Lib.hid how9; have HPL := Lib.hid hp9; clear how9 hg9 hp9 t9 HNW; (try simp only [Act.put, List.setIfInBounds_toArray, List.set_cons_zero, List.set_cons_succ]))
      refine walkT_take ?_
      (refine takeN_take (v := ?_) (some 41) rfl rfl (fun _ _ _ h => h) (by rfl) ?_ ?_; rotate_left; (focus (intro w' hw'; obtain ⟨c5, c6⟩ := HLV.out w' hw'; go_simp; (try with_reducible rfl))); (try simp only [Act.put, List.setIfInBounds_toArray, List.set_cons_zero, List.set_cons_succ]))
      refine walkT_take ?_
      (refine takeN_take (v := ?_) (some 42) rfl rfl (fun _ _ _ h => h) (by rfl) ?_ ?_; rotate_left; (focus (intro w' hw'; obtain ⟨c5, c6⟩ := HLV.out w' hw'; go_simp; (try with_reducible rfl))); (try simp only [Act.put, List.setIfInBounds_toArray, List.set_cons_zero, List.set_cons_succ]))
      refine walkT_one ?_
      (have cc := cell_of_cells HHD.out 0; have ff := free_of_cells HHD.out 0; refine runN_skip0 none rfl rfl (by rfl) (w' := World.setCell w9 ⟨b, 0, none⟩ (.slice a2 (l.length + 1) c2)) (by go_simp; (try with_reducible rfl)) ?_ ?_; (exact hS.setCell _ _ (fun _ => .inl rfl)); clear cc ff; intro hS; have t6 := (Touch.refl w9 (fun k => k = b)).setCell ⟨b, 0, none⟩ (.slice a2 (l.length + 1) c2) (fun _ => rfl); have HHD := Lib.hid (heap_setCell_same _ b 0 _ _ (.slice a2 (l.length + 1) c2) HHD.out); have HOB := Lib.hid (fun x (hx : (Value.slice a2 (l.length + 1) c2).ownBlock = some x) => (HOW.out.own.lt x hx)); have HOW := Lib.hid (HOW.out.touch t6 (fun x hx e => by have := (HOW.out.own.lt x hx).1; have e : x = b := e; omega)); have HDM := Lib.hid (ownsMap_touch HDM.out t6 (fun e => by have := HSZ.out.1; have e : mb = b := e; omega)); clear t6; (try simp only [Act.put, List.setIfInBounds_toArray, List.set_cons_zero, List.set_cons_succ]))
      refine walkT_fin ?_
      go_wp2_with fail
      go_end0
      refine ⟨rfl, ⟨a2, c2, some mb⟩, ?_, ?_, ?_⟩
      · have hp9 := plQ_push HPP.out r HN.out
        have htg := ownsMap_tight HDM.out
        have e6 : Maps.size (D.put (klQ r) (DataW.lit (Lit.int .i64 l.length))) = (l ++ [r]).length := hp9.size
        have e7 : (l ++ [r]).length = l.length + 1 := by simp
        change World.ownsMap _ _ _ _ _ (Maps.size (D.put (klQ r) (DataW.lit (Lit.int .i64 l.length)))) _ at htg
        rw [e6] at htg
        refine ⟨?_, ?_, ?_, ?_, by rw [e7]; omega, ?_⟩
        · rw [e7]; exact HHD.out
        · rw [e7]; exact HOW.out
        · intro x hx
          rcases List.mem_append.1 hx with hx | hx
          · exact HOK.out x hx
          · rw [List.mem_singleton.1 hx]; exact ⟨HK.out, HR.out.1, HR.out.2⟩
        · rw [List.map_append, List.nodup_append]
          exact ⟨HND.out, by simp, fun x hx y hy => by simp at hy; subst hy; intro e; exact HN.out (e ▸ hx)⟩
        · refine ⟨HSZ.out.1, fun k hk e => ?_, _, htg, hp9⟩
          subst e
          have hk' : (Value.slice a2 (l.length + 1) c2).ownBlock = some k := own_block' hk
          rcases HPL.out k hk' with h9 | h9
          · exact HSZ.out.2 _ (own_block h9) _ rfl rfl
          · have h1 := HMW5.out; have h2 := HSW.out; omega
      · exact (T4.out.trans ((HUT.out.mono (T := footQ b ⟨h.a, h.c, some mb⟩) (fun k _ e => .inr (.inr (by have e : k = mb := e; rw [e])))).trans hS (fun _ _ h => h)) (fun k hk h9 => HFT.out k hk h9))
      · intro k hk
        rcases hk with rfl | hk | hk
        · exact .inl (.inl rfl)
        · have hk' : (Value.slice a2 (l.length + 1) c2).ownBlock = some k := own_block' hk
          rcases HPL.out k hk' with h9 | h9
          · exact HFA.out k (own_block h9)
          · exact .inr (by have h1 := HSG5.out; have h2 := HSW.out; omega)
        · simp only [Option.some.injEq] at hk
          subst hk
          exact HFM.out

end Go.Proofs.Ytdjkjdeaglimeaa
