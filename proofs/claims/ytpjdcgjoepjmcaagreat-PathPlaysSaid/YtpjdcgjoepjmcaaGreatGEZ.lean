import Derived.Test.YtpjdcgjoepjmcaaGreatGDZ
import Derived.Deep.DeepCutAuto
import Derived.Carry
import Derived.BigQuiet
set_option linter.unusedVariables false
set_option linter.unusedSimpArgs false
section
namespace Go.Proofs.YtpjdcgjoepjmcaaGreat
open Go.RowKit
theorem row_oneQ (w : World) (r : QR) : RowS (w.alloc (.cells #[.string r.key, .int .i64 r.time] 233)) (some ⟨w.heap.size, 0, none⟩) 1 1 2 [qcl r] :=
 ((OwnS.lit w w.heap.size (Nat.le_refl _) 233 2 1 [qcl r] #[.string r.key, .int .i64 r.time] rfl rfl (by simp [qcl]) (by omega)).row').2.1
theorem own_block' {a : Option Addr} {n c k : Nat} (h : a.map (·.block) = some k) : (Value.slice a n c).ownBlock = some k := by
 cases a with
 | none => simp at h
 | some x => simpa [Value.ownBlock] using h
theorem map_some (m : Nat) (w : World) : (binOp BinOp.eql 134 (.map (some m)) (.map none)).run Tryz.prog w = .ok (.bool false) w := by kernel_rfl
theorem map_none (w : World) : (binOp BinOp.eql 134 (.map none) (.map none)).run Tryz.prog w = .ok (.bool true) w := by kernel_rfl
theorem assert_row (v : Value) (w : World) : (Instr.typeAssert (.iface 233 v) 20 233 true).run Tryz.prog w = .ok (.tuple #[v, .bool true]) w := by kernel_rfl
set_option maxRecDepth 20000 in
set_option maxHeartbeats 8000000 in
theorem kpush_some (w : World) (b : Nat) (ha : Option Addr) (hc mb : Nat) (l : List QR) (q : QB w b ⟨ha, hc, some mb⟩ l) (r : QR) (hn : r.key ∉ l.map QR.key) (hk : r.key.size ≤ 281474976710656) (hr : 0 ≤ r.time ∧ r.time ≤ 1099511627776) (hl : l.length < 1024) :
 Calls Tryz.prog 213 #[.pointer (some ⟨b, 0, none⟩), .iface 233 (.agg #[.string r.key, .int .i64 r.time])] w fun e w' => e = .returned (.tuple #[]) ∧ QStep w w' b ⟨ha, hc, some mb⟩ (l ++ [r]) := by
 obtain ⟨h, hh⟩ : ∃ h : QH, h = ⟨ha, hc, some mb⟩ := ⟨_, rfl⟩
 obtain ⟨W4, hW4⟩ : ∃ W, w.alloc (.cells #[.string r.key, .int .i64 r.time] 233) = W := ⟨_, rfl⟩
 have t4 : Touch w W4 (fun _ => False) := hW4 ▸ (Touch.refl _ _).alloc _
 have q4 := q.still t4
 have hfl := q.footlt
 rw [← hh] at q4 hfl
 have hmo : h.mo = some mb := by rw [hh]
 have hmp := q4.map
 unfold MapQ at hmp
 rw [hmo] at hmp
 have HMP : RowKit.Hid (b < mb ∧ (∀ k, h.a.map (·.block) = some k → k ≠ mb) ∧ ∃ D : DataW Unit, W4.ownsMap Tryz.prog 9 (plainElem Tryz.prog 3) mb l.length D ∧ PlQ D l) := Lib.hid hmp
 have hhd := q4.head
 rw [hmo] at hhd
 have HHD := Lib.hid hhd
 have HOW := Lib.hid q4.own
 have HV : RowKit.Hid (W4.heap[w.heap.size]? = some (.cells #[.string r.key, .int .i64 r.time] 233 (0, 0))) := Lib.hid (hW4 ▸ heap_alloc_new w _)
 have HVF : RowKit.Hid (¬ footQ b ⟨h.a, h.c, some mb⟩ w.heap.size) := Lib.hid (fun e => Nat.lt_irrefl _ (hfl _ (by rwa [← hmo] at e)))
 have HVM : RowKit.Hid (w.heap.size ≠ mb) := Lib.hid (fun e => HVF.out (.inr (.inr (by rw [e]))))
 have HOA : RowKit.Hid (∀ k, h.a.map (·.block) = some k → b < k) := Lib.hid (fun k hk => by have := (q4.own.own.lt k (own_block' hk)).1; omega)
 have HN := Lib.hid hn
 have HK := Lib.hid hk
 have HR := Lib.hid hr
 have HOK := Lib.hid q4.ok
 have HND := Lib.hid q4.nd
 have T4 : RowKit.Hid (Touch w W4 (footQ b ⟨ha, hc, some mb⟩)) := Lib.hid (t4.mono (fun _ _ h => h.elim))
 have HFT : RowKit.Hid (∀ k, k < w.heap.size → footQ b ⟨h.a, h.c, some mb⟩ k → footQ b ⟨ha, hc, some mb⟩ k) := Lib.hid (fun k _ h9 => by rw [hh] at h9; exact h9)
 have HFA : RowKit.Hid (∀ k, h.a.map (·.block) = some k → footQ b ⟨ha, hc, some mb⟩ k ∨ w.heap.size ≤ k) := Lib.hid (fun k hk => by rw [hh] at hk; exact .inl (.inr (.inl hk)))
 have HFM : RowKit.Hid (footQ b ⟨ha, hc, some mb⟩ mb ∨ w.heap.size ≤ mb) := Lib.hid (.inl (.inr (.inr rfl)))
 have c1 := cell_of_cells HHD.out 1
 have HW4 := Lib.hid hW4
 have hbm := map_some mb W4
 have has := assert_row (.agg #[.string r.key, .int .i64 r.time]) w
 clear q q4 hfl hhd hmp t4 hn hk hr hW4 hh
 go_enter Tryz.func213, Tryz.ntmps213
 go_upto_region 1 with (fail)
 rw [HW4.out]
 go_wp2_with fail
 clear c1
 obtain ⟨D, hD, hP⟩ := HMP.out.2.2
 obtain ⟨w5, hrun5, ho5, hg5⟩ := World.ownsMap.store (w := W4.drew) (b := mb) (n := l.length) (D := D) hD strKeyed Tryz.underlying134 (by simp only [maxLen]; omega) (keyQ HK.out) (elemQ (l.length : Int) (by omega) (by omega))
 have HUP := Lib.hid hrun5
 have HUT : RowKit.Hid (Touch W4 w5 (fun k => k = mb)) := Lib.hid (((Touch.refl W4 (fun k => k = mb)).drew).grown hg5.grown (fun k hk _ => by simp only [Option.some.injEq] at hk; exact hk.symm))
 have HSZ : RowKit.Hid (b < mb ∧ (∀ k, h.a.map (·.block) = some k → ∀ m, m = mb → k ≠ m)) := Lib.hid ⟨HMP.out.1, fun k hk m hm => by subst hm; exact HMP.out.2.1 k hk⟩
 have HPP := Lib.hid hP
 have HO5 := Lib.hid ho5
 have HC4 : RowKit.Hid (∀ W, Touch W4 W (fun k => k = mb) → W.cell? ⟨b, 0, none⟩ = some (.slice h.a l.length h.c) ∧ W.cell? ⟨b, 1, none⟩ = some (.map (some mb)) ∧ W.cell? ⟨w.heap.size, 0, none⟩ = some (.string r.key)) := Lib.hid (fun W t => by
  have h1 := t.keeps HHD.out (fun e => by have := HSZ.out.1; have e : b = mb := e; omega)
  have h2 := t.keeps HV.out (fun e => HVM.out e)
  exact ⟨cell_of_cells h1 0, cell_of_cells h1 1, cell_of_cells h2 0⟩)
 clear hD hP hrun5 ho5 hg5
 go_cut [] (fun wx => wx = w5)
 case first =>
  go_wp2_with fail
  have hS := (Touch.refl W4 (fun k => k = mb)).drew
  refine wp_region_tree (fun w' => Touch W4 w' (fun k => k = mb)) (.take 0 (.take 1 (.take 2 (.take 3 (.take 4 (.take 5 (.take 6 (.take 7 (.take 8 (.take 9 (.take 10 (.one 11 .fin)))))))))))) (by kernel_rfl) (by kernel_rfl) (by kernel_rfl) (by kernel_rfl) hS ?_
  repeat' (first
   | (with_reducible refine walkT_take ?_)
   | (with_reducible refine walkT_one ?_)
   | (with_reducible refine walkT_two ?_ ?_)
   | (with_reducible refine walkT_fin ?_)
   | ((with_reducible show TakeN _ _ _ _ _ _ _ _); ((refine takeN_take (v := ?_) (some _) rfl rfl (fun _ _ _ h => h) (by rfl) ?_ ?_; rotate_left; (focus (intro w' hw'; obtain ⟨c0, c1, c2⟩ := HC4.out w' hw'; go_simp; (try with_reducible rfl))); (try simp only [Act.put, List.setIfInBounds_toArray, List.set_cons_zero, List.set_cons_succ]))))
   | ((with_reducible show RunN _ _ _ _ 11 _ _ _); ((refine runN_skip0 none rfl rfl (by rfl) (w' := w5) (by have q := HUP.out; go_simp; (try with_reducible rfl)) HUT.out (fun hS => ?_); (try simp only [Act.put, List.setIfInBounds_toArray, List.set_cons_zero, List.set_cons_succ])))))
  all_goals
   go_wp2_with fail
   go_meet
   rfl
 case rest =>
  obtain rfl := hcut
  have HHD := Lib.hid (HUT.out.keeps HHD.out (fun e => by have := HSZ.out.1; have e : b = mb := e; omega))
  have HOW := Lib.hid (HOW.out.touch HUT.out (fun x hx e => HSZ.out.2 x (own_block hx) _ e rfl))
  have HV := Lib.hid (HUT.out.keeps HV.out (fun e => HVM.out e))
  have HDM := Lib.hid HO5.out
  have HMW5 : RowKit.Hid (mb < wc.heap.size) := Lib.hid HO5.out.lt
  have HSG5 : RowKit.Hid (w.heap.size ≤ wc.heap.size) := Lib.hid (Nat.le_trans T4.out.size HUT.out.size)
  have HLV : RowKit.Hid (∀ W, Touch wc W (footQ b ⟨h.a, h.c, some mb⟩) → W.cell? ⟨w.heap.size, 0, none⟩ = some (.string r.key) ∧ W.cell? ⟨w.heap.size, 1, none⟩ = some (.int .i64 r.time)) := Lib.hid (fun W t => by
   have h2 := t.keeps HV.out (fun e => HVF.out e)
   exact ⟨cell_of_cells h2 0, cell_of_cells h2 1⟩)
  go_wp2_with fail
  have HHD := Lib.hid (((Touch.refl wc (fun _ => False)).drew).keeps HHD.out (fun h => h))
  have HOW := Lib.hid (HOW.out.still ((Touch.refl wc (fun _ => False)).drew))
  have HDM := Lib.hid (ownsMap_touch HDM.out ((Touch.refl wc (fun _ => False)).drew) (fun h => h))
  have hS := (Touch.refl wc (footQ b ⟨h.a, h.c, some mb⟩)).drew
  refine wp_region_tree (fun w' => Touch wc w' (footQ b ⟨h.a, h.c, some mb⟩)) (.take 0 (.take 1 (.take 2 (.take 3 (.take 5 (.two 4 6 (.one 6 (.one 7 (.take 8 (.take 9 (.one 10 .fin))))) (.one 4 (.one 7 (.take 8 (.take 9 (.one 10 .fin))))))))))) (by kernel_rfl) (by kernel_rfl) (by kernel_rfl) (by kernel_rfl) hS ?_
  repeat' (first
   | (with_reducible refine walkT_take ?_)
   | (with_reducible refine walkT_one ?_)
   | (with_reducible refine walkT_two ?_ ?_)
   | (with_reducible refine walkT_fin ?_)
   | ((with_reducible show TakeN _ _ _ _ _ _ _ _); ((refine takeN_take (v := ?_) (some _) rfl rfl (fun _ _ _ h => h) (by rfl) ?_ ?_; rotate_left; (focus (intro w' hw'; obtain ⟨c5, c6⟩ := HLV.out w' hw'; go_simp; (try with_reducible rfl))); (try simp only [Act.put, List.setIfInBounds_toArray, List.set_cons_zero, List.set_cons_succ]))))
   | ((with_reducible show RunN _ _ _ _ 4 _ _ _); ((have cc := cell_of_cells HHD.out 0; refine runN_do (v := .slice h.a l.length h.c) (w' := _) (some 37) rfl rfl (by rfl) (by go_simp; (try with_reducible rfl)) hS (fun hS => ?_); clear cc; (try simp only [Act.put, List.setIfInBounds_toArray, List.set_cons_zero, List.set_cons_succ]))))
   | ((with_reducible show RunN _ _ _ _ 6 _ _ _); ((refine runN_new 39 (fun W => .slice (some ⟨W.heap.size, 0, none⟩) 1 1) #[.string r.key, .int .i64 r.time] 233 rfl rfl (by rfl) (by intro W; go_simp <;> first | with_reducible rfl | rfl | exact ⟨rfl, rfl⟩) ?_; intro w7 hw7 hM7 hs7 t7; have hS := hS.trans t7 (fun _ _ h => h.elim); refine ⟨hS, fun _ => ?_⟩; have HNW := Lib.hid (show RowS w7 _ 1 1 2 [qcl r] from hw7 ▸ row_oneQ _ _); have HHD := Lib.hid (t7.keeps HHD.out (fun h => h)); have HOW := Lib.hid (HOW.out.still t7); have HDM := Lib.hid (ownsMap_touch HDM.out t7 (fun h => h)); clear hw7 hM7 hs7 t7; (try simp only [Act.put, List.setIfInBounds_toArray, List.set_cons_zero, List.set_cons_succ]))))
   | ((with_reducible show RunN _ _ _ _ 7 _ _ _); ((have HSW := Lib.hid hS.size; refine runN_appS 40 (.tmp 37) (.tmp 39) _ rfl rfl rfl (by rfl) 233 Tryz.underlying133 (.agg #[.string ByteArray.empty, .int .i64 0]) 2 24 infoRowB rfl (by decide) (b + 1) _ _ rfl HOW.out _ 1 1 _ rfl HNW.out (by simp [qcl, Value.oneCell']) (l.length + 1) ((l ++ [r]).map qcl) (by rw [List.map_append]; rfl) (by rw [List.length_map]) (by simp only [maxLen]; omega) (by omega) (heap_lt HHD.out) ?_; intro a2 c2 w9 how9 hg9 hp9; have t9 := (Touch.refl _ (fun k => h.a.map (·.block) = some k)).grown hg9 (fun k hk _ => own_block hk); have hS := hS.trans t9 (fun k _ hk => .inr (.inl hk)); refine ⟨hS, fun _ => ?_⟩; have HHD := Lib.hid (t9.keeps HHD.out (fun e => by have := (HOA.out b e); omega)); have HDM := Lib.hid (ownsMap_touch HDM.out t9 (fun e => HSZ.out.2 _ e _ rfl rfl)); have HOW := Lib.hid how9; have HPL := Lib.hid hp9; clear how9 hg9 hp9 t9 HNW; (try simp only [Act.put, List.setIfInBounds_toArray, List.set_cons_zero, List.set_cons_succ]))))
   | ((with_reducible show RunN _ _ _ _ 10 _ _ _); ((have cc := cell_of_cells HHD.out 0; have ff := free_of_cells HHD.out 0; refine runN_skip0 none rfl rfl (by rfl) (w' := World.setCell w9 ⟨b, 0, none⟩ (.slice a2 (l.length + 1) c2)) (by go_simp; (try with_reducible rfl)) ?_ ?_; (exact hS.setCell _ _ (fun _ => .inl rfl)); clear cc ff; intro hS; have t6 := (Touch.refl w9 (fun k => k = b)).setCell ⟨b, 0, none⟩ (.slice a2 (l.length + 1) c2) (fun _ => rfl); have HHD := Lib.hid (heap_setCell_same _ b 0 _ _ (.slice a2 (l.length + 1) c2) HHD.out); have HOB := Lib.hid (fun x (hx : (Value.slice a2 (l.length + 1) c2).ownBlock = some x) => (HOW.out.own.lt x hx)); have HOW := Lib.hid (HOW.out.touch t6 (fun x hx e => by have := (HOW.out.own.lt x hx).1; have e : x = b := e; omega)); have HDM := Lib.hid (ownsMap_touch HDM.out t6 (fun e => by have := HSZ.out.1; have e : mb = b := e; omega)); clear t6; (try simp only [Act.put, List.setIfInBounds_toArray, List.set_cons_zero, List.set_cons_succ])))))
  all_goals
   go_wp2_with fail
   go_end0
   refine ⟨rfl, ⟨a2, c2, some mb⟩, ?_, ?_, ?_⟩
   ·have hp9 := plQ_push HPP.out r HN.out
    have htg := ownsMap_tight HDM.out
    have e6 : Maps.size (D.put (klQ r) (DataW.lit (Lit.int .i64 l.length))) = (l ++ [r]).length := hp9.size
    have e7 : (l ++ [r]).length = l.length + 1 := by simp
    change World.ownsMap _ _ _ _ _ (Maps.size (D.put (klQ r) (DataW.lit (Lit.int .i64 l.length)))) _ at htg
    rw [e6] at htg
    refine ⟨?_, ?_, ?_, ?_, by rw [e7]; omega, ?_⟩
    ·rw [e7]; exact HHD.out
    ·rw [e7]; exact HOW.out
    ·intro x hx
     rcases List.mem_append.1 hx with hx | hx
     ·exact HOK.out x hx
     ·rw [List.mem_singleton.1 hx]; exact ⟨HK.out, HR.out.1, HR.out.2⟩
    ·rw [List.map_append, List.nodup_append]
     exact ⟨HND.out, by simp, fun x hx y hy => by simp at hy; subst hy; intro e; exact HN.out (e ▸ hx)⟩
    ·refine ⟨HSZ.out.1, fun k hk e => ?_, _, htg, hp9⟩
     subst e
     have hk' : (Value.slice a2 (l.length + 1) c2).ownBlock = some k := own_block' hk
     rcases HPL.out k hk' with h9 | h9
     ·exact HSZ.out.2 _ (own_block h9) _ rfl rfl
     ·have h1 := HMW5.out; have h2 := HSW.out; omega
   ·exact (T4.out.trans ((HUT.out.mono (T := footQ b ⟨h.a, h.c, some mb⟩) (fun k _ e => .inr (.inr (by have e : k = mb := e; rw [e])))).trans hS (fun _ _ h => h)) (fun k hk h9 => HFT.out k hk h9))
   ·intro k hk
    rcases hk with rfl | hk | hk
    ·exact .inl (.inl rfl)
    ·have hk' : (Value.slice a2 (l.length + 1) c2).ownBlock = some k := own_block' hk
     rcases HPL.out k hk' with h9 | h9
     ·exact HFA.out k (own_block h9)
     ·exact .inr (by have h1 := HSG5.out; have h2 := HSW.out; omega)
    ·simp only [Option.some.injEq] at hk
     subst hk
     exact HFM.out
set_option maxRecDepth 20000 in
set_option maxHeartbeats 8000000 in
theorem kpush_none (w : World) (b : Nat) (ha : Option Addr) (hc : Nat) (l : List QR) (q : QB w b ⟨ha, hc, none⟩ l) (r : QR) (hn : r.key ∉ l.map QR.key) (hk : r.key.size ≤ 281474976710656) (hr : 0 ≤ r.time ∧ r.time ≤ 1099511627776) (hl : l.length < 1024) :
 Calls Tryz.prog 213 #[.pointer (some ⟨b, 0, none⟩), .iface 233 (.agg #[.string r.key, .int .i64 r.time])] w fun e w' => e = .returned (.tuple #[]) ∧ QStep w w' b ⟨ha, hc, none⟩ (l ++ [r]) := by
 have hl0 : l = [] := q.map
 obtain ⟨mb, hmb⟩ : ∃ m, m = w.heap.size + 1 := ⟨_, rfl⟩
 obtain ⟨h, hh⟩ : ∃ h : QH, h = ⟨ha, hc, some mb⟩ := ⟨_, rfl⟩
 obtain ⟨W1, hW1⟩ : ∃ W, w.alloc (.cells #[.string r.key, .int .i64 r.time] 233) = W := ⟨_, rfl⟩
 have hs1 : W1.heap.size = w.heap.size + 1 := by rw [← hW1]; simp
 obtain ⟨W2, hW2⟩ : ∃ W, W1.alloc (.map #[] 0) = W := ⟨_, rfl⟩
 obtain ⟨W4, hW4⟩ : ∃ W, W2.setCell ⟨b, 1, none⟩ (.map (some (w.heap.size + 1))) = W := ⟨_, rfl⟩
 have t1 : Touch w W1 (fun _ => False) := hW1 ▸ (Touch.refl _ _).alloc _
 have t2 : Touch W1 W2 (fun _ => False) := hW2 ▸ (Touch.refl _ _).alloc _
 have t3 : Touch W2 W4 (fun k => k = b) := hW4 ▸ (Touch.refl W2 (fun k => k = b)).setCell _ _ (fun _ => rfl)
 have hfl := q.footlt
 have hbl : b < w.heap.size := hfl b (.inl rfl)
 have h1d := t1.keeps q.head (fun h => h)
 have h2d := t2.keeps h1d (fun h => h)
 have hea : h.a = ha := by rw [hh]
 have hec : h.c = hc := by rw [hh]
 have HHD : RowKit.Hid (W4.heap[b]? = some (.cells #[.slice h.a l.length h.c, .map (some mb)] 138 (0, 0))) := Lib.hid (by
  have h4 := heap_setCell_same W2 b 1 _ _ (.map (some (w.heap.size + 1))) h2d
  rw [hW4] at h4
  rw [h4, hea, hec, hmb]; rfl)
 have how : OwnS w (b + 1) 233 2 (.slice h.a l.length h.c) (l.map qcl) := by rw [hea, hec]; exact q.own
 have hoa : ∀ k, h.a.map (·.block) = some k → b < k ∧ k < w.heap.size := fun k hk => by have := how.own.lt k (own_block' hk); omega
 have HOW : RowKit.Hid (OwnS W4 (b + 1) 233 2 (.slice h.a l.length h.c) (l.map qcl)) := Lib.hid (((how.still t1).still t2).touch t3 (fun x hx e => by have := (hoa x (own_block hx)).1; have e : x = b := e; omega))
 have HMP : RowKit.Hid (b < mb ∧ (∀ k, h.a.map (·.block) = some k → k ≠ mb) ∧ ∃ D : DataW Unit, W4.ownsMap Tryz.prog 9 (plainElem Tryz.prog 3) mb l.length D ∧ PlQ D l) := Lib.hid ⟨by omega, fun k hk => by have := (hoa k hk).2; omega, .map [], by
  have h9 := World.ownsMap_made (H := Unit) W1 Tryz.prog 9 (plainElem Tryz.prog 3)
  rw [hW2, hs1, ← hmb] at h9
  rw [hl0]
  exact ownsMap_touch h9 t3 (fun e => by have e : mb = b := e; omega), by rw [hl0]; exact plQ_nil⟩
 have HV : RowKit.Hid (W4.heap[w.heap.size]? = some (.cells #[.string r.key, .int .i64 r.time] 233 (0, 0))) := Lib.hid (t3.keeps (t2.keeps (hW1 ▸ heap_alloc_new w _) (fun h => h)) (fun e => by have e : w.heap.size = b := e; omega))
 have HVM : RowKit.Hid (w.heap.size ≠ mb) := Lib.hid (by omega)
 have HVF : RowKit.Hid (¬ footQ b ⟨h.a, h.c, some mb⟩ w.heap.size) := Lib.hid (fun e => by
  rcases e with e | e | e
  ·omega
  ·have := (hoa _ e).2; omega
  ·simp only [Option.some.injEq] at e; omega)
 have HOA : RowKit.Hid (∀ k, h.a.map (·.block) = some k → b < k) := Lib.hid (fun k hk => (hoa k hk).1)
 have HN := Lib.hid hn
 have HK := Lib.hid hk
 have HR := Lib.hid hr
 have HOK := Lib.hid q.ok
 have HND := Lib.hid q.nd
 have T4 : RowKit.Hid (Touch w W4 (footQ b ⟨ha, hc, none⟩)) := Lib.hid (((t1.trans t2 (fun _ _ h => h)).mono (T := footQ b ⟨ha, hc, none⟩) (fun _ _ h => h.elim)).trans t3 (fun k _ e => by have e : k = b := e; subst e; exact .inl rfl))
 have HFT : RowKit.Hid (∀ k, k < w.heap.size → footQ b ⟨h.a, h.c, some mb⟩ k → footQ b ⟨ha, hc, none⟩ k) := Lib.hid (fun k hk h9 => by
  rcases h9 with e | e | e
  ·exact .inl e
  ·rw [hea] at e; exact .inr (.inl e)
  ·simp only [Option.some.injEq] at e; omega)
 have HFA : RowKit.Hid (∀ k, h.a.map (·.block) = some k → footQ b ⟨ha, hc, none⟩ k ∨ w.heap.size ≤ k) := Lib.hid (fun k hk => by rw [hea] at hk; exact .inl (.inr (.inl hk)))
 have HFM : RowKit.Hid (footQ b ⟨ha, hc, none⟩ mb ∨ w.heap.size ≤ mb) := Lib.hid (.inr (by omega))
 have c1 := cell_of_cells h1d 1
 have c2 := cell_of_cells h2d 1
 have f2 := free_of_cells h2d 1
 have hbm := map_none W1
 have has := assert_row (.agg #[.string r.key, .int .i64 r.time]) w
 have hmk := run_makeMap (P := Tryz.prog) 134 W1
 rw [hW2, hs1] at hmk
 have HW1 := Lib.hid hW1
 have HW4 := Lib.hid hW4
 clear q hfl h1d h2d t1 t2 t3 hn hk hr hW1 hW2 hW4 how hoa hea hec hs1 hh hmb hbl hl0
 go_enter Tryz.func213, Tryz.ntmps213
 go_upto_region 1 with (fail)
 rw [HW1.out]
 go_wp2_with fail
 rw [HW4.out]
 clear c1 c2 f2 hbm has hmk
 obtain ⟨D, hD, hP⟩ := HMP.out.2.2
 obtain ⟨w5, hrun5, ho5, hg5⟩ := World.ownsMap.store (w := W4.drew) (b := mb) (n := l.length) (D := D) hD strKeyed Tryz.underlying134 (by simp only [maxLen]; omega) (keyQ HK.out) (elemQ (l.length : Int) (by omega) (by omega))
 have HUP := Lib.hid hrun5
 have HUT : RowKit.Hid (Touch W4 w5 (fun k => k = mb)) := Lib.hid (((Touch.refl W4 (fun k => k = mb)).drew).grown hg5.grown (fun k hk _ => by simp only [Option.some.injEq] at hk; exact hk.symm))
 have HSZ : RowKit.Hid (b < mb ∧ (∀ k, h.a.map (·.block) = some k → ∀ m, m = mb → k ≠ m)) := Lib.hid ⟨HMP.out.1, fun k hk m hm => by subst hm; exact HMP.out.2.1 k hk⟩
 have HPP := Lib.hid hP
 have HO5 := Lib.hid ho5
 have HC4 : RowKit.Hid (∀ W, Touch W4 W (fun k => k = mb) → W.cell? ⟨b, 0, none⟩ = some (.slice h.a l.length h.c) ∧ W.cell? ⟨b, 1, none⟩ = some (.map (some mb)) ∧ W.cell? ⟨w.heap.size, 0, none⟩ = some (.string r.key)) := Lib.hid (fun W t => by
  have h1 := t.keeps HHD.out (fun e => by have := HSZ.out.1; have e : b = mb := e; omega)
  have h2 := t.keeps HV.out (fun e => HVM.out e)
  exact ⟨cell_of_cells h1 0, cell_of_cells h1 1, cell_of_cells h2 0⟩)
 clear hD hP hrun5 ho5 hg5
 go_cut [] (fun wx => wx = w5)
 case first =>
  go_wp2_with fail
  have hS := (Touch.refl W4 (fun k => k = mb)).drew
  refine wp_region_tree (fun w' => Touch W4 w' (fun k => k = mb)) (.take 0 (.take 1 (.take 2 (.take 3 (.take 4 (.take 5 (.take 6 (.take 7 (.take 8 (.take 9 (.take 10 (.one 11 .fin)))))))))))) (by kernel_rfl) (by kernel_rfl) (by kernel_rfl) (by kernel_rfl) hS ?_
  repeat' (first
   | (with_reducible refine walkT_take ?_)
   | (with_reducible refine walkT_one ?_)
   | (with_reducible refine walkT_two ?_ ?_)
   | (with_reducible refine walkT_fin ?_)
   | ((with_reducible show TakeN _ _ _ _ _ _ _ _); ((refine takeN_take (v := ?_) (some _) rfl rfl (fun _ _ _ h => h) (by rfl) ?_ ?_; rotate_left; (focus (intro w' hw'; obtain ⟨c0, c1, c2⟩ := HC4.out w' hw'; go_simp; (try with_reducible rfl))); (try simp only [Act.put, List.setIfInBounds_toArray, List.set_cons_zero, List.set_cons_succ]))))
   | ((with_reducible show RunN _ _ _ _ 11 _ _ _); ((refine runN_skip0 none rfl rfl (by rfl) (w' := w5) (by have q := HUP.out; go_simp; (try with_reducible rfl)) HUT.out (fun hS => ?_); (try simp only [Act.put, List.setIfInBounds_toArray, List.set_cons_zero, List.set_cons_succ])))))
  all_goals
   go_wp2_with fail
   go_meet
   rfl
 case rest =>
  obtain rfl := hcut
  have HHD := Lib.hid (HUT.out.keeps HHD.out (fun e => by have := HSZ.out.1; have e : b = mb := e; omega))
  have HOW := Lib.hid (HOW.out.touch HUT.out (fun x hx e => HSZ.out.2 x (own_block hx) _ e rfl))
  have HV := Lib.hid (HUT.out.keeps HV.out (fun e => HVM.out e))
  have HDM := Lib.hid HO5.out
  have HMW5 : RowKit.Hid (mb < wc.heap.size) := Lib.hid HO5.out.lt
  have HSG5 : RowKit.Hid (w.heap.size ≤ wc.heap.size) := Lib.hid (Nat.le_trans T4.out.size HUT.out.size)
  have HLV : RowKit.Hid (∀ W, Touch wc W (footQ b ⟨h.a, h.c, some mb⟩) → W.cell? ⟨w.heap.size, 0, none⟩ = some (.string r.key) ∧ W.cell? ⟨w.heap.size, 1, none⟩ = some (.int .i64 r.time)) := Lib.hid (fun W t => by
   have h2 := t.keeps HV.out (fun e => HVF.out e)
   exact ⟨cell_of_cells h2 0, cell_of_cells h2 1⟩)
  go_wp2_with fail
  have HHD := Lib.hid (((Touch.refl wc (fun _ => False)).drew).keeps HHD.out (fun h => h))
  have HOW := Lib.hid (HOW.out.still ((Touch.refl wc (fun _ => False)).drew))
  have HDM := Lib.hid (ownsMap_touch HDM.out ((Touch.refl wc (fun _ => False)).drew) (fun h => h))
  have hS := (Touch.refl wc (footQ b ⟨h.a, h.c, some mb⟩)).drew
  refine wp_region_tree (fun w' => Touch wc w' (footQ b ⟨h.a, h.c, some mb⟩)) (.take 0 (.take 1 (.take 2 (.take 3 (.take 5 (.two 4 6 (.one 6 (.one 7 (.take 8 (.take 9 (.one 10 .fin))))) (.one 4 (.one 7 (.take 8 (.take 9 (.one 10 .fin))))))))))) (by kernel_rfl) (by kernel_rfl) (by kernel_rfl) (by kernel_rfl) hS ?_
  repeat' (first
   | (with_reducible refine walkT_take ?_)
   | (with_reducible refine walkT_one ?_)
   | (with_reducible refine walkT_two ?_ ?_)
   | (with_reducible refine walkT_fin ?_)
   | ((with_reducible show TakeN _ _ _ _ _ _ _ _); ((refine takeN_take (v := ?_) (some _) rfl rfl (fun _ _ _ h => h) (by rfl) ?_ ?_; rotate_left; (focus (intro w' hw'; obtain ⟨c5, c6⟩ := HLV.out w' hw'; go_simp; (try with_reducible rfl))); (try simp only [Act.put, List.setIfInBounds_toArray, List.set_cons_zero, List.set_cons_succ]))))
   | ((with_reducible show RunN _ _ _ _ 4 _ _ _); ((have cc := cell_of_cells HHD.out 0; refine runN_do (v := .slice h.a l.length h.c) (w' := _) (some 37) rfl rfl (by rfl) (by go_simp; (try with_reducible rfl)) hS (fun hS => ?_); clear cc; (try simp only [Act.put, List.setIfInBounds_toArray, List.set_cons_zero, List.set_cons_succ]))))
   | ((with_reducible show RunN _ _ _ _ 6 _ _ _); ((refine runN_new 39 (fun W => .slice (some ⟨W.heap.size, 0, none⟩) 1 1) #[.string r.key, .int .i64 r.time] 233 rfl rfl (by rfl) (by intro W; go_simp <;> first | with_reducible rfl | rfl | exact ⟨rfl, rfl⟩) ?_; intro w7 hw7 hM7 hs7 t7; have hS := hS.trans t7 (fun _ _ h => h.elim); refine ⟨hS, fun _ => ?_⟩; have HNW := Lib.hid (show RowS w7 _ 1 1 2 [qcl r] from hw7 ▸ row_oneQ _ _); have HHD := Lib.hid (t7.keeps HHD.out (fun h => h)); have HOW := Lib.hid (HOW.out.still t7); have HDM := Lib.hid (ownsMap_touch HDM.out t7 (fun h => h)); clear hw7 hM7 hs7 t7; (try simp only [Act.put, List.setIfInBounds_toArray, List.set_cons_zero, List.set_cons_succ]))))
   | ((with_reducible show RunN _ _ _ _ 7 _ _ _); ((have HSW := Lib.hid hS.size; refine runN_appS 40 (.tmp 37) (.tmp 39) _ rfl rfl rfl (by rfl) 233 Tryz.underlying133 (.agg #[.string ByteArray.empty, .int .i64 0]) 2 24 infoRowB rfl (by decide) (b + 1) _ _ rfl HOW.out _ 1 1 _ rfl HNW.out (by simp [qcl, Value.oneCell']) (l.length + 1) ((l ++ [r]).map qcl) (by rw [List.map_append]; rfl) (by rw [List.length_map]) (by simp only [maxLen]; omega) (by omega) (heap_lt HHD.out) ?_; intro a2 c2 w9 how9 hg9 hp9; have t9 := (Touch.refl _ (fun k => h.a.map (·.block) = some k)).grown hg9 (fun k hk _ => own_block hk); have hS := hS.trans t9 (fun k _ hk => .inr (.inl hk)); refine ⟨hS, fun _ => ?_⟩; have HHD := Lib.hid (t9.keeps HHD.out (fun e => by have := (HOA.out b e); omega)); have HDM := Lib.hid (ownsMap_touch HDM.out t9 (fun e => HSZ.out.2 _ e _ rfl rfl)); have HOW := Lib.hid how9; have HPL := Lib.hid hp9; clear how9 hg9 hp9 t9 HNW; (try simp only [Act.put, List.setIfInBounds_toArray, List.set_cons_zero, List.set_cons_succ]))))
   | ((with_reducible show RunN _ _ _ _ 10 _ _ _); ((have cc := cell_of_cells HHD.out 0; have ff := free_of_cells HHD.out 0; refine runN_skip0 none rfl rfl (by rfl) (w' := World.setCell w9 ⟨b, 0, none⟩ (.slice a2 (l.length + 1) c2)) (by go_simp; (try with_reducible rfl)) ?_ ?_; (exact hS.setCell _ _ (fun _ => .inl rfl)); clear cc ff; intro hS; have t6 := (Touch.refl w9 (fun k => k = b)).setCell ⟨b, 0, none⟩ (.slice a2 (l.length + 1) c2) (fun _ => rfl); have HHD := Lib.hid (heap_setCell_same _ b 0 _ _ (.slice a2 (l.length + 1) c2) HHD.out); have HOB := Lib.hid (fun x (hx : (Value.slice a2 (l.length + 1) c2).ownBlock = some x) => (HOW.out.own.lt x hx)); have HOW := Lib.hid (HOW.out.touch t6 (fun x hx e => by have := (HOW.out.own.lt x hx).1; have e : x = b := e; omega)); have HDM := Lib.hid (ownsMap_touch HDM.out t6 (fun e => by have := HSZ.out.1; have e : mb = b := e; omega)); clear t6; (try simp only [Act.put, List.setIfInBounds_toArray, List.set_cons_zero, List.set_cons_succ])))))
  all_goals
   go_wp2_with fail
   go_end0
   refine ⟨rfl, ⟨a2, c2, some mb⟩, ?_, ?_, ?_⟩
   ·have hp9 := plQ_push HPP.out r HN.out
    have htg := ownsMap_tight HDM.out
    have e6 : Maps.size (D.put (klQ r) (DataW.lit (Lit.int .i64 l.length))) = (l ++ [r]).length := hp9.size
    have e7 : (l ++ [r]).length = l.length + 1 := by simp
    change World.ownsMap _ _ _ _ _ (Maps.size (D.put (klQ r) (DataW.lit (Lit.int .i64 l.length)))) _ at htg
    rw [e6] at htg
    refine ⟨?_, ?_, ?_, ?_, by rw [e7]; omega, ?_⟩
    ·rw [e7]; exact HHD.out
    ·rw [e7]; exact HOW.out
    ·intro x hx
     rcases List.mem_append.1 hx with hx | hx
     ·exact HOK.out x hx
     ·rw [List.mem_singleton.1 hx]; exact ⟨HK.out, HR.out.1, HR.out.2⟩
    ·rw [List.map_append, List.nodup_append]
     exact ⟨HND.out, by simp, fun x hx y hy => by simp at hy; subst hy; intro e; exact HN.out (e ▸ hx)⟩
    ·refine ⟨HSZ.out.1, fun k hk e => ?_, _, htg, hp9⟩
     subst e
     have hk' : (Value.slice a2 (l.length + 1) c2).ownBlock = some k := own_block' hk
     rcases HPL.out k hk' with h9 | h9
     ·exact HSZ.out.2 _ (own_block h9) _ rfl rfl
     ·have h1 := HMW5.out; have h2 := HSW.out; omega
   ·exact (T4.out.trans ((HUT.out.mono (T := footQ b ⟨h.a, h.c, some mb⟩) (fun k _ e => .inr (.inr (by have e : k = mb := e; rw [e])))).trans hS (fun _ _ h => h)) (fun k hk h9 => HFT.out k hk h9))
   ·intro k hk
    rcases hk with rfl | hk | hk
    ·exact .inl (.inl rfl)
    ·have hk' : (Value.slice a2 (l.length + 1) c2).ownBlock = some k := own_block' hk
     rcases HPL.out k hk' with h9 | h9
     ·exact HFA.out k (own_block h9)
     ·exact .inr (by have h1 := HSG5.out; have h2 := HSW.out; omega)
    ·simp only [Option.some.injEq] at hk
     subst hk
     exact HFM.out
end Go.Proofs.YtpjdcgjoepjmcaaGreat
end
section
namespace Go.Proofs.YtpjdcgjoepjmcaaGreat
open Go.RowKit
set_option maxRecDepth 20000 in
set_option maxHeartbeats 8000000 in
theorem kpop_any (w : World) (b : Nat) (h : QH) (l : List QR) (r : QR) (q : QB w b h (l ++ [r])) :
 Calls Tryz.prog 212 #[.pointer (some ⟨b, 0, none⟩)] w fun e w' => e = .returned (.iface 233 (.agg #[.string r.key, .int .i64 r.time])) ∧ QStep w w' b h l := by
 have hlen : (l ++ [r]).length = l.length + 1 := by simp
 obtain ⟨g, hga, hg0, hg1⟩ := q.at' (by omega)
 obtain ⟨ha, hc, hmo⟩ := h
 simp only at hga
 subst hga
 have hmp := q.map
 obtain ⟨mb, rfl⟩ : ∃ mb, hmo = some mb := by
  cases hmo with
  | none => unfold MapQ at hmp; simp at hmp
  | some mb => exact ⟨mb, rfl⟩
 unfold MapQ at hmp
 simp only at hmp
 obtain ⟨hm1, hm2, D, hD, hP⟩ := hmp
 have hgm : g ≠ mb := hm2 g rfl
 have hcap := q.row.hcap
 have hmax := q.row.hmax
 have hq1024 := q.len
 rw [hlen] at hcap hq1024
 have hhd := q.head
 rw [hlen] at hhd
 have how := q.own
 rw [hlen] at how
 have hfl := q.footlt
 have hbl : b < w.heap.size := hfl b (.inl rfl)
 have hml : mb < w.heap.size := hfl mb (.inr (.inr rfl))
 have hc2 := own_cell2 how l.length (by omega)
 rw [gq_last] at hc2
 obtain ⟨d0, d1⟩ := hc2
 have c0 := cell_of_cells hhd 0
 simp at c0
 obtain ⟨W1, hW1⟩ : ∃ W, w.alloc (.cells #[.string r.key, .int .i64 r.time] 233) = W := ⟨_, rfl⟩
 have t1 : Touch w W1 (fun _ => False) := hW1 ▸ (Touch.refl _ _).alloc _
 have h1d := t1.keeps hhd (fun h => h)
 have e0 := cell_of_cells h1d 0
 have f0 := free_of_cells h1d 0
 simp at e0
 obtain ⟨W2, hW2⟩ : ∃ W, W1.setCell ⟨b, 0, none⟩ (.slice (some ⟨g, 0, none⟩) l.length hc) = W := ⟨_, rfl⟩
 have t2 : Touch W1 W2 (fun k => k = b) := hW2 ▸ (Touch.refl W1 (fun k => k = b)).setCell _ _ (fun _ => rfl)
 have HHD : RowKit.Hid (W2.heap[b]? = some (.cells #[.slice (some ⟨g, 0, none⟩) l.length hc, .map (some mb)] 138 (0, 0))) := Lib.hid (by
  have h4 := heap_setCell_same W1 b 0 _ _ (.slice (some ⟨g, 0, none⟩) l.length hc) h1d
  rw [hW2] at h4
  rw [h4]; rfl)
 have HV : RowKit.Hid (W2.heap[w.heap.size]? = some (.cells #[.string r.key, .int .i64 r.time] 233 (0, 0))) := Lib.hid (t2.keeps (hW1 ▸ heap_alloc_new w _) (fun e => by have e : w.heap.size = b := e; omega))
 have HOW := Lib.hid ((how.still t1).touch t2 (fun x hx e => by have hx : some g = some x := hx; simp only [Option.some.injEq] at hx; have e : x = b := e; omega))
 have hD2 := ownsMap_touch (ownsMap_touch hD t1 (fun h => h)) t2 (fun e => by have e : mb = b := e; omega)
 obtain ⟨w3, hrun3, ho3, hg3⟩ := World.ownsMap.drop (w := W2.drew) (b := mb) hD2 strKeyed Tryz.underlying134 (keyQ (q.ok r (by simp)).1) 0
 have HUP := Lib.hid hrun3
 have HUT : RowKit.Hid (Touch W2 w3 (fun k => k = mb)) := Lib.hid (((Touch.refl W2 (fun k => k = mb)).drew).grown hg3.grown (fun k hk _ => by simp only [Option.some.injEq] at hk; exact hk.symm))
 have HO3 := Lib.hid ho3
 have HPP := Lib.hid hP
 have HQ := Lib.hid q
 have HT := Lib.hid ((t1.mono (T := fun k => k = b) (fun _ _ h => h.elim)).trans t2 (fun _ _ h => h))
 have HSZ : RowKit.Hid (b < g ∧ g < w.heap.size ∧ b < mb ∧ mb < w.heap.size ∧ g ≠ mb ∧ b < w.heap.size) := Lib.hid ⟨hg0, hg1, hm1, hml, hgm, hbl⟩
 have HC2 : RowKit.Hid (∀ W, Touch W2 W (fun k => k = mb) → W.cell? ⟨b, 0, none⟩ = some (.slice (some ⟨g, 0, none⟩) l.length hc) ∧ W.cell? ⟨b, 1, none⟩ = some (.map (some mb)) ∧ W.cell? ⟨w.heap.size, 0, none⟩ = some (.string r.key)) := Lib.hid (fun W t => by
  have h1 := t.keeps HHD.out (fun e => by have := HSZ.out; have e : b = mb := e; omega)
  have h2 := t.keeps HV.out (fun e => by have := HSZ.out; have e : w.heap.size = mb := e; omega)
  exact ⟨cell_of_cells h1 0, cell_of_cells h1 1, cell_of_cells h2 0⟩)
 have hnI : (l.length : Int) < (l.length + 1 : Nat) := by omega
 have hn1 : ((l.length + 1 : Nat) : Int) - 1 = l.length := by omega
 have hncap : (l.length : Int) ≤ hc := by
  have hcap' : l.length + 1 ≤ hc := hcap
  omega
 have HW1 := Lib.hid hW1
 have HW2 := Lib.hid hW2
 clear q hm2 hD hP hhd how hfl t1 t2 h1d hD2 hrun3 ho3 hg3 hW1 hW2
 go_enter Tryz.func212, Tryz.ntmps212
 go_upto_region 3 with (fail)
 rw [HW1.out]
 go_wp2_with fail
 rw [HW2.out]
 clear c0 d0 d1 e0 f0
 go_cut [] (fun wx => wx = w3)
 case first =>
  go_wp2_with fail
  have hS := (Touch.refl W2 (fun k => k = mb)).drew
  refine wp_region_tree (fun w' => Touch W2 w' (fun k => k = mb)) (.take 0 (.take 1 (.take 2 (.take 3 (.take 4 (.take 5 (.one 6 .fin))))))) (by kernel_rfl) (by kernel_rfl) (by kernel_rfl) (by kernel_rfl) hS ?_
  repeat' (first
   | (with_reducible refine walkT_take ?_)
   | (with_reducible refine walkT_one ?_)
   | (with_reducible refine walkT_two ?_ ?_)
   | (with_reducible refine walkT_fin ?_)
   | ((with_reducible show TakeN _ _ _ _ _ _ _ _); ((refine takeN_take (v := ?_) (some _) rfl rfl (fun _ _ _ h => h) (by rfl) ?_ ?_; rotate_left; (focus (intro w' hw'; obtain ⟨c0, c1, c2⟩ := HC2.out w' hw'; go_simp; (try with_reducible rfl))); (try simp only [Act.put, List.setIfInBounds_toArray, List.set_cons_zero, List.set_cons_succ]))))
   | ((with_reducible show RunN _ _ _ _ 6 _ _ _); ((refine runN_do (v := .tuple #[]) (w' := w3) none rfl rfl (by rfl) (by have q := HUP.out; go_simp; (try with_reducible rfl)) HUT.out (fun hS => ?_); (try simp only [Act.put, List.setIfInBounds_toArray, List.set_cons_zero, List.set_cons_succ])))))
  all_goals
   go_wp2_with fail
   go_meet
   rfl
 case rest =>
  obtain rfl := hcut
  have HV3 := Lib.hid (HUT.out.keeps HV.out (fun e => by have := HSZ.out; have e : w.heap.size = mb := e; omega))
  go_wp2_with (refine wpList_load_row rfl 233 (.tmp 4) rfl w.heap.size rfl _ _ _ _ HV3.out Tryz.underlying233 rfl infoRow ?_)
  go_ret
  refine ⟨rfl, ⟨some ⟨g, 0, none⟩, hc, some mb⟩, ?_, ?_, fun k hk => .inl hk⟩
  ·have hp9 := plQ_pop HPP.out HQ.out.nd
   have htg := ownsMap_tight HO3.out
   change World.ownsMap _ _ _ _ _ (Maps.size (D.del (klQ r))) _ at htg
   rw [hp9.size] at htg
   have hfr := OwnS.front HOW.out l.length (by omega)
   have hnd := HQ.out.nd
   rw [List.map_append, List.nodup_append] at hnd
   rw [List.map_append, List.take_append_of_le_length (by simp), List.take_of_length_le (by simp)] at hfr
   refine ⟨HUT.out.keeps HHD.out (fun e => by have := HSZ.out; have e : b = mb := e; omega), ?_, fun x hx => HQ.out.ok x (List.mem_append_left _ hx), hnd.1, by omega, ?_⟩
   ·exact hfr.touch HUT.out (fun x hx e => by have := HSZ.out; have hx : some g = some x := hx; simp only [Option.some.injEq] at hx; have e : x = mb := e; omega)
   ·exact ⟨HSZ.out.2.2.1, fun k hk => by have hk : some g = some k := hk; simp only [Option.some.injEq] at hk; have := HSZ.out; omega, _, htg, hp9⟩
  ·exact (HT.out.mono (fun k _ e => by have e : k = b := e; subst e; exact .inl rfl)).trans HUT.out (fun k _ e => by have e : k = mb := e; subst e; exact .inr (.inr rfl))
end Go.Proofs.YtpjdcgjoepjmcaaGreat
end
section
namespace Go.Proofs.YtpjdcgjoepjmcaaGreat
open Go.RowKit
def QI (w : World) (b : Nat) (h : QH) (l : List QR) : Prop := QB w b h l ∧ HeapQ l.length l
def QIStep (w w' : World) (b : Nat) (h : QH) (l' : List QR) : Prop :=
 ∃ h', QI w' b h' l' ∧ Touch w w' (footQ b h) ∧ ∀ k, footQ b h' k → footQ b h k ∨ w.heap.size ≤ k
theorem QStep.heap {w w' : World} {b : Nat} {h : QH} {l' : List QR} (s : QStep w w' b h l') (hh : HeapQ l'.length l') : QIStep w w' b h l' := by
 obtain ⟨h', q, t, f⟩ := s
 exact ⟨h', ⟨q, hh⟩, t, f⟩
theorem QIStep.trans {w w1 w2 : World} {b : Nat} {h h1 : QH} {l2 : List QR} (t : Touch w w1 (footQ b h)) (hf : ∀ k, footQ b h1 k → footQ b h k ∨ w.heap.size ≤ k) (s : QIStep w1 w2 b h1 l2) : QIStep w w2 b h l2 := by
 obtain ⟨h2, q2, t2, f2⟩ := s
 obtain ⟨h3, q3, t3, f3⟩ := QStep.trans t hf ⟨h2, q2.1, t2, f2⟩
 exact ⟨h3, ⟨q3, q2.2⟩, t3, f3⟩
set_option maxRecDepth 20000 in
set_option maxHeartbeats 8000000 in
theorem hfix_any (w : World) (b : Nat) (h : QH) (l : List QR) (q : QB w b h l) (i : Nat) (hi : i < l.length) (hu : HeapBut l.length i l) :
 Calls Tryz.prog 181 #[.iface 219 (.pointer (some ⟨b, 0, none⟩)), .int .i64 i] w fun e w' => e = .returned (.tuple #[]) ∧ ∃ l', QIStep w w' b h l' ∧ l'.Perm l := by
 have hl4 := q.len
 have HQ := Lib.hid q
 have HU := Lib.hid hu
 clear q hu
 go_enter Tryz.func181, Tryz.ntmps181
 go_wp2_with fail
 refine (klen_any w b h l HQ.out).mono ?_
 rintro e w' ⟨rfl, rfl⟩
 go_wp2_with fail
 refine (down_any w b h l HQ.out l.length i (Nat.le_refl _) (by omega) HU.out).mono ?_
 rintro e w2 ⟨r, l2, rfl, ⟨h2, q2, t2, f2⟩, m2, y, n⟩
 have hl2 := m2.length
 have HQ2 := Lib.hid q2
 have HT2 := Lib.hid t2
 have HF2 := Lib.hid f2
 have HM2 := Lib.hid m2
 clear q2 t2 f2 m2
 cases r with
 | true =>
   have hy := y rfl
   go_wp2_with fail
   go_end0
   exact ⟨rfl, l2, QStep.heap ⟨h2, HQ2.out, HT2.out, HF2.out⟩ (by rw [hl2]; exact hy), HM2.out.1⟩
 | false =>
   have HN := Lib.hid (n rfl)
   clear y n
   go_wp2_with fail
   refine (up_any w2 b h2 l2 HQ2.out l.length i (by omega) hi HN.out).mono ?_
   rintro e w3 ⟨rfl, l3, s3, m3, hh⟩
   have HX : RowKit.Hid (QIStep w w3 b h l3) := Lib.hid (QStep.heap (QStep.trans HT2.out HF2.out s3) (by rw [m3.length, hl2]; exact hh))
   have HP := Lib.hid (m3.1.trans HM2.out.1)
   clear s3 m3 hh
   go_wp2_with fail
   go_end0
   exact ⟨rfl, l3, HX.out, HP.out⟩
theorem kpush_any (w : World) (b : Nat) (h : QH) (l : List QR) (q : QB w b h l) (r : QR) (hn : r.key ∉ l.map QR.key) (hk : r.key.size ≤ 281474976710656) (hr : 0 ≤ r.time ∧ r.time ≤ 1099511627776) (hl : l.length < 1024) :
 Calls Tryz.prog 213 #[.pointer (some ⟨b, 0, none⟩), .iface 233 (.agg #[.string r.key, .int .i64 r.time])] w fun e w' => e = .returned (.tuple #[]) ∧ QStep w w' b h (l ++ [r]) := by
 obtain ⟨ha, hc, hm⟩ := h
 cases hm with
 | none => exact kpush_none w b ha hc l q r hn hk hr hl
 | some mb => exact kpush_some w b ha hc mb l q r hn hk hr hl
set_option maxRecDepth 20000 in
set_option maxHeartbeats 8000000 in
theorem hpush_any (w : World) (b : Nat) (h : QH) (l : List QR) (q : QI w b h l) (r : QR) (hn : r.key ∉ l.map QR.key) (hk : r.key.size ≤ 281474976710656) (hr : 0 ≤ r.time ∧ r.time ≤ 1099511627776) (hl : l.length < 1024) :
 Calls Tryz.prog 182 #[.iface 219 (.pointer (some ⟨b, 0, none⟩)), .iface 233 (.agg #[.string r.key, .int .i64 r.time])] w fun e w' => e = .returned (.tuple #[]) ∧ ∃ l', QIStep w w' b h l' ∧ l'.Perm (l ++ [r]) := by
 have HQ := Lib.hid q
 have HP := Lib.hid (kpush_any w b h l q.1 r hn hk hr hl)
 clear q hn hk hr
 go_enter Tryz.func182, Tryz.ntmps182
 go_wp2_with fail
 refine HP.out.mono ?_
 rintro e w1 ⟨rfl, h1, q1, t1, f1⟩
 have hlen : (l ++ [r]).length = l.length + 1 := by simp
 have HQ1 := Lib.hid q1
 have HT1 := Lib.hid t1
 have HF1 := Lib.hid f1
 have HL := Lib.hid (klen_any w1 b h1 (l ++ [r]) q1)
 rw [hlen] at HL
 have e1 : ((l.length + 1 : Nat) : Int) - 1 = l.length := by omega
 clear q1 t1 f1
 go_wp2_with fail
 refine HL.out.mono ?_
 rintro e w2 ⟨rfl, rfl⟩
 go_wp2_with fail
 refine (up_any w1 b h1 (l ++ [r]) HQ1.out (l.length + 1) l.length (by omega) (by omega) (push_up HQ.out.2)).mono ?_
 rintro e w3 ⟨rfl, l3, s3, m3, hh⟩
 have HX : RowKit.Hid (QIStep w w3 b h l3) := Lib.hid (QStep.heap (QStep.trans HT1.out HF1.out s3) (by rw [m3.length, hlen]; exact hh))
 have HP := Lib.hid m3.1
 clear s3 m3 hh
 go_wp2_with fail
 go_end0
 exact ⟨rfl, l3, HX.out, HP.out⟩
theorem snoc_of (l : List QR) (n : Nat) (h : l.length = n + 1) : ∃ l', l = l' ++ [gq l n] ∧ l'.length = n := by
 refine ⟨l.take n, ?_, by simp; omega⟩
 rw [gq_get l n (by omega)]
 have e := List.take_succ_eq_append_getElem (l := l) (i := n) (by omega)
 rw [← e, List.take_of_length_le (by omega)]
theorem HeapQ.front {n : Nat} {l' : List QR} {r : QR} (h : HeapQ n (l' ++ [r])) (hl : l'.length = n) : HeapQ l'.length l' := by
 refine HeapQ.same (l := l' ++ [r]) (hl ▸ h) (fun m hm => ?_)
 exact (gq_app l' r m hm).symm
theorem perm_front {l l2 l' : List QR} {r : QR} (hp : l2.Perm l) (he : l2 = l' ++ [r]) : (r :: l').Perm l := by
 subst he
 exact (List.perm_append_comm (l₁ := [r]) (l₂ := l')).trans hp
set_option maxRecDepth 20000 in
set_option maxHeartbeats 8000000 in
theorem hremove_any (w : World) (b : Nat) (h : QH) (l : List QR) (q : QI w b h l) (i : Nat) (hi : i < l.length) :
 Calls Tryz.prog 172 #[.iface 219 (.pointer (some ⟨b, 0, none⟩)), .int .i64 i] w fun e w' => (∃ v, e = .returned v) ∧ ∃ l', QIStep w w' b h l' ∧ (gq l i :: l').Perm l := by
 have hl4 := q.1.len
 obtain ⟨n, hn⟩ : ∃ n, l.length = n + 1 := ⟨l.length - 1, by omega⟩
 have HQ := Lib.hid q
 have HL := Lib.hid (klen_any w b h l q.1)
 rw [hn] at HL
 have e1 : ((n + 1 : Nat) : Int) - 1 = n := by omega
 clear q
 by_cases hin : i = n
 ·subst hin
  obtain ⟨l3, he3, hl3⟩ := snoc_of l i (by omega)
  have hq := HQ.out
  have HPP := Lib.hid (kpop_any w b h l3 (gq l i) (by rw [← he3]; exact hq.1))
  have HP3 := Lib.hid (perm_front (.refl l) he3)
  have HH : RowKit.Hid (HeapQ l3.length l3) := Lib.hid (HeapQ.front (n := i) (r := gq l i) (by rw [← he3]; exact hq.2.mono (by omega)) hl3)
  clear hq he3
  go_enter Tryz.func172, Tryz.ntmps172
  go_wp2_with fail
  refine HL.out.mono ?_
  rintro e w' ⟨rfl, rfl⟩
  go_wp2_with fail
  refine HPP.out.mono ?_
  rintro e w3 ⟨rfl, s3⟩
  have HX : RowKit.Hid (QIStep w w3 b h l3) := Lib.hid (QStep.heap s3 HH.out)
  clear s3
  go_wp2_with fail
  go_ret
  exact ⟨⟨_, rfl⟩, l3, HX.out, HP3.out⟩
 have hne : ¬ (n : Int) = (i : Int) := by omega
 have HS := Lib.hid (kswap_any w b h l HQ.out.1 i n hi (by omega))
 go_enter Tryz.func172, Tryz.ntmps172
 go_wp2_with fail
 refine HL.out.mono ?_
 rintro e w' ⟨rfl, rfl⟩
 go_wp2_with fail
 refine HS.out.mono ?_
 rintro e w1 ⟨rfl, h1, q1, t1, f1⟩
 have hsl := swapQ_length l i n
 have HM1 : RowKit.Hid (Moved (n + 1) l (swapQ l i n)) := Lib.hid (Moved.swap (by omega) i n (by omega) (by omega))
 have HQ1 := Lib.hid q1
 have HT1 := Lib.hid t1
 have HF1 := Lib.hid f1
 have HD := Lib.hid (down_any w1 b h1 (swapQ l i n) q1 n i (by omega) (by omega) (but_of (i := i) (HQ.out.2.mono (by omega)) (fun m m0 mn => by rw [gq_swap l i n m (by omega) (by omega), if_neg (by omega), if_neg m0])))
 clear q1 t1 f1
 go_wp2_with fail
 refine HD.out.mono ?_
 rintro e w2 ⟨r, l2, rfl, ⟨h2, q2, t2, f2⟩, m2, y, nn⟩
 have hl2 := m2.length
 have hg2 : gq l2 n = gq l i := by
  rw [m2.2 n (Nat.le_refl _), gq_swap l i n n (by omega) (by omega), if_pos rfl]
 have HQ2 := Lib.hid q2
 have HT2 := Lib.hid t2
 have HF2 := Lib.hid f2
 have HM2 := Lib.hid m2
 clear q2 t2 f2 m2
 cases r with
 | true =>
   obtain ⟨l3, he3, hl3⟩ := snoc_of l2 n (by omega)
   rw [hg2] at he3
   have hhp := y rfl
   rw [he3] at hhp
   have HPP := Lib.hid (kpop_any w2 b h2 l3 (gq l i) (by rw [← he3]; exact HQ2.out))
   have HP3 := Lib.hid (perm_front (HM2.out.1.trans HM1.out.1) he3)
   have HH := Lib.hid (hhp.front hl3)
   clear y nn hhp he3
   go_wp2_with fail
   refine HPP.out.mono ?_
   rintro e w3 ⟨rfl, s3⟩
   have HX : RowKit.Hid (QIStep w w3 b h l3) := Lib.hid (QStep.heap (QStep.trans HT1.out HF1.out (QStep.trans HT2.out HF2.out s3)) HH.out)
   clear s3
   go_wp2_with fail
   go_ret
   exact ⟨⟨_, rfl⟩, l3, HX.out, HP3.out⟩
 | false =>
   have HN := Lib.hid (up_any w2 b h2 l2 HQ2.out n i (by omega) (by omega) (nn rfl))
   clear y nn
   go_wp2_with fail
   refine HN.out.mono ?_
   rintro e w5 ⟨rfl, l5, ⟨h5, q5, t5, f5⟩, m5, hh⟩
   have hl5 := m5.length
   obtain ⟨l3, he3, hl3⟩ := snoc_of l5 n (by omega)
   rw [m5.2 n (Nat.le_refl _), hg2] at he3
   rw [he3] at hh
   have HPP := Lib.hid (kpop_any w5 b h5 l3 (gq l i) (by rw [← he3]; exact q5))
   have HP3 := Lib.hid (perm_front ((m5.1.trans HM2.out.1).trans HM1.out.1) he3)
   have HH := Lib.hid (hh.front hl3)
   have HT5 := Lib.hid t5
   have HF5 := Lib.hid f5
   clear q5 t5 f5 m5 hh he3
   go_wp2_with fail
   refine HPP.out.mono ?_
   rintro e w3 ⟨rfl, s3⟩
   have HX : RowKit.Hid (QIStep w w3 b h l3) := Lib.hid (QStep.heap (QStep.trans HT1.out HF1.out (QStep.trans HT2.out HF2.out (QStep.trans HT5.out HF5.out s3))) HH.out)
   clear s3
   go_wp2_with fail
   go_ret
   exact ⟨⟨_, rfl⟩, l3, HX.out, HP3.out⟩
end Go.Proofs.YtpjdcgjoepjmcaaGreat
end
section
namespace Go.Proofs.YtpjdcgjoepjmcaaGreat
open Go.RowKit
def hasQ (l : List QR) (k : ByteArray) : Bool := l.any (fun r => decide (r.key = k))
def delQ (l : List QR) (k : ByteArray) : List QR := l.filter (fun r => !decide (r.key = k))
def insQ (r : QR) : List QR → List QR
 | [] => [r]
 | x :: l => if ltQ x r then x :: insQ r l else r :: x :: l
def timeQ : List QR → ByteArray → Int
 | [], _ => 0
 | r :: l, k => if r.key = k then r.time else timeQ l k
def SortQ (l : List QR) : Prop := l.Pairwise (fun a b => ltQ a b = true)
theorem ins_perm (r : QR) : ∀ l, (insQ r l).Perm (r :: l)
 | [] => .refl _
 | x :: l => by
   unfold insQ
   split
   ·exact ((ins_perm r l).cons x).trans (.swap r x l)
   ·exact .refl _
theorem ins_sort (r : QR) : ∀ l, SortQ l → r.key ∉ l.map QR.key → SortQ (insQ r l)
 | [], _, _ => by simp [insQ, SortQ]
 | x :: l, h, hn => by
   obtain ⟨h1, h2⟩ := List.pairwise_cons.1 h
   have hn2 : r.key ∉ l.map QR.key := fun h => hn (by simp only [List.map_cons, List.mem_cons]; exact .inr h)
   have hxr : r.key ≠ x.key := fun h => hn (by simp [h])
   unfold insQ
   split
   ·rename_i hlt
    refine List.pairwise_cons.2 ⟨fun y hy => ?_, ins_sort r l h2 hn2⟩
    rcases List.mem_cons.1 ((ins_perm r l).mem_iff.1 hy) with rfl | hy
    ·exact hlt
    ·exact h1 y hy
   ·rename_i hlt
    have hrx : ltQ r x = true := by
     cases hc : ltQ r x with
     | true => rfl
     | false =>
       have hl' : ltQ x r = false := by simpa using hlt
       have := lt_total hc hl'
       exact absurd (by rw [this]) hxr
    exact List.pairwise_cons.2 ⟨fun y hy => by
     rcases List.mem_cons.1 hy with rfl | hy
     ·exact hrx
     ·exact lt_trans' hrx (h1 y hy), h⟩
theorem del_sort {l : List QR} (h : SortQ l) (k : ByteArray) : SortQ (delQ l k) := h.filter _
theorem del_none {l : List QR} {k : ByteArray} (h : k ∉ l.map QR.key) : delQ l k = l := by
 unfold delQ
 rw [List.filter_eq_self]
 intro r hr
 have : r.key ≠ k := fun e => h (List.mem_map.2 ⟨r, hr, e⟩)
 simp [this]
theorem del_not (l : List QR) (k : ByteArray) : k ∉ (delQ l k).map QR.key := by
 intro h
 obtain ⟨r, hr, e⟩ := List.mem_map.1 h
 have := (List.mem_filter.1 hr).2
 simp [e] at this
theorem has_iff (l : List QR) (k : ByteArray) : hasQ l k = true ↔ k ∈ l.map QR.key := by
 unfold hasQ; rw [List.any_eq_true, List.mem_map]
 constructor
 ·rintro ⟨r, hr, e⟩; exact ⟨r, hr, of_decide_eq_true e⟩
 ·rintro ⟨r, hr, e⟩; exact ⟨r, hr, decide_eq_true e⟩
theorem has_perm {l l' : List QR} (h : l.Perm l') (k : ByteArray) : hasQ l k = hasQ l' k := by
 rw [Bool.eq_iff_iff, has_iff, has_iff]; exact (h.map _).mem_iff
theorem nd_perm {l l' : List QR} (h : l.Perm l') (hn : (l.map QR.key).Nodup) : (l'.map QR.key).Nodup := (h.map _).nodup_iff.1 hn
theorem del_perm {x : QR} {rest L : List QR} (hp : (x :: rest).Perm L) (hn : (L.map QR.key).Nodup) {k : ByteArray} (hk : x.key = k) : rest.Perm (delQ L k) := by
 have h1 : (delQ (x :: rest) k).Perm (delQ L k) := hp.filter _
 have h2 : ((x :: rest).map QR.key).Nodup := nd_perm hp.symm hn
 rw [List.map_cons, List.nodup_cons] at h2
 have h3 : delQ (x :: rest) k = rest := by
  have h4 : delQ rest k = rest := del_none (by rw [← hk]; exact h2.1)
  unfold delQ at h4 ⊢
  rw [List.filter_cons, if_neg (by simp [hk]), h4]
 rwa [h3] at h1
theorem set_perm (l : List QR) (i : Nat) (hi : i < l.length) (r : QR) : ∃ rest, (gq l i :: rest).Perm l ∧ (l.set i r).Perm (r :: rest) := by
 refine ⟨l.take i ++ l.drop (i + 1), ?_, ?_⟩
 ·rw [gq_get l i hi]
  have h1 := (List.perm_middle (a := l[i]) (l₁ := l.take i) (l₂ := l.drop (i + 1))).symm
  rwa [List.getElem_cons_drop, List.take_append_drop] at h1
 ·rw [List.set_eq_take_append_cons_drop, if_pos hi]
  exact List.perm_middle
def QL (w : World) (b : Nat) (h : QH) (L : List QR) : Prop := SortQ L ∧ ∃ l, QI w b h l ∧ l.Perm L
def QLStep (w w' : World) (b : Nat) (h : QH) (L' : List QR) : Prop :=
 ∃ h', QL w' b h' L' ∧ Touch w w' (footQ b h) ∧ ∀ k, footQ b h' k → footQ b h k ∨ w.heap.size ≤ k
theorem QIStep.ql {w w' : World} {b : Nat} {h : QH} {l' L' : List QR} (s : QIStep w w' b h l') (hs : SortQ L') (hp : l'.Perm L') : QLStep w w' b h L' := by
 obtain ⟨h', q, t, f⟩ := s
 exact ⟨h', ⟨hs, l', q, hp⟩, t, f⟩
section
variable {w w' : World} {b : Nat} {h : QH} {L : List QR}
theorem QL.touch {S : Nat → Prop} (q : QL w b h L) (t : Touch w w' S) (hn : ∀ k, footQ b h k → ¬ S k) : QL w' b h L := by
 obtain ⟨hs, l, q, hp⟩ := q
 exact ⟨hs, l, ⟨q.1.touch t hn, q.2⟩, hp⟩
theorem QL.still (q : QL w b h L) (t : Touch w w' (fun _ => False)) : QL w' b h L := q.touch t (fun _ _ h => h)
theorem QL.footlt (q : QL w b h L) : ∀ k, footQ b h k → k < w.heap.size := by
 obtain ⟨hs, l, q, hp⟩ := q
 exact q.1.footlt
theorem QLStep.refl (q : QL w b h L) : QLStep w w b h L := ⟨h, q, Touch.refl _ _, fun _ hk => .inl hk⟩
theorem lit_inj {a c : Int} (h : (DataW.lit (.int .i64 a) : DataW Unit) = .lit (.int .i64 c)) : a = c := by
 have h4 := congrArg (fun d : DataW Unit => match d with | .lit (.int _ n) => n | _ => (0:Int)) h
 exact h4
theorem look_q {l : List QR} (q : QB w b h l) (k : ByteArray) (hk : k.size ≤ 281474976710656) :
 ∃ c : Int, (Instr.lookup 134 (.map h.mo) (.string k) true).run Tryz.prog w = .ok (.tuple #[.int .i64 c, .bool (hasQ l k)]) w ∧ (hasQ l k = true → ∃ i, i < l.length ∧ c = (i : Nat) ∧ (gq l i).key = k) := by
 have hm := q.map
 unfold MapQ at hm
 cases hh : h.mo with
 | none =>
   rw [hh] at hm
   simp only at hm
   subst hm
   refine ⟨0, ?_, fun h => by simp [hasQ] at h⟩
   have := Maps.look_nil (w := w) true strKeyed Tryz.underlying134 (zeroI w) (keyQ hk)
   simpa [hasQ] using this
 | some mb =>
   rw [hh] at hm
   simp only at hm
   obtain ⟨_, _, D, hD, hP⟩ := hm
   obtain ⟨v, ps, hrun, hv⟩ := World.ownsMap.look_ok hD strKeyed Tryz.underlying134 (zeroI w) (plainElem_int (H := Unit) Tryz.underlying3 (by decide)) (keyQ hk)
   obtain ⟨c, rfl, hc, hwc⟩ := plainElem_int_inv Tryz.underlying3 hv
   have he := hP.has k
   rw [he] at hrun
   refine ⟨c, hrun, fun hy => ?_⟩
   obtain ⟨r, hr, e⟩ := List.mem_map.1 ((has_iff l k).1 hy)
   obtain ⟨i, hi, e2⟩ := List.getElem_of_mem hr
   have e3 : gq l i = r := (gq_get l i hi).trans e2
   have h2 := hP.at_ i hi
   rw [e3] at h2
   have e4 : klQ r = klB k := by unfold klQ; rw [e]
   rw [e4] at h2
   have h3 := congrArg Prod.fst hc
   simp only at h3
   rw [h2] at h3
   exact ⟨i, hi, (lit_inj h3).symm, by rw [e3, e]⟩
theorem plQ_keys {D : DataW Unit} {l l' : List QR} (p : PlQ D l) (e : l'.map QR.key = l.map QR.key) : PlQ D l' := by
 have hl : l'.length = l.length := by have := congrArg List.length e; simpa using this
 have ha : ∀ (m : List QR) (k : ByteArray), m.any (fun r => decide (r.key = k)) = (m.map QR.key).any (fun x => decide (x = k)) := fun m k => by rw [List.any_map]; rfl
 refine ⟨p.tidy, by rw [hl]; exact p.size, fun i hi => ?_, fun k => by rw [p.has, ha, ha, e]⟩
 have h1 : (l'.map QR.key)[i]? = (l.map QR.key)[i]? := by rw [e]
 rw [List.getElem?_map, List.getElem?_map, List.getElem?_eq_getElem hi, List.getElem?_eq_getElem (by omega)] at h1
 simp only [Option.map_some, Option.some.injEq] at h1
 have h2 : klQ (gq l' i) = klQ (gq l i) := by unfold klQ; rw [gq_get l' i hi, gq_get l i (by omega), h1]
 rw [h2]; exact p.at_ i (by omega)
theorem QB.setTime {l : List QR} {g : Nat} (q : QB w b h l) (ha : h.a = some ⟨g, 0, none⟩) (i : Nat) (hi : i < l.length) (t : Int) (h0 : 0 ≤ t) (h1 : t ≤ 1099511627776) :
 QB (w.setCell ⟨g, i * 2 + 1, none⟩ (.int .i64 t)) b h (l.set i ⟨(gq l i).key, t⟩) ∧ Touch w (w.setCell ⟨g, i * 2 + 1, none⟩ (.int .i64 t)) (footQ b h) := by
 obtain ⟨a, c, mo⟩ := h
 simp only at ha
 subst ha
 obtain ⟨g2, hg, hg0, hg1⟩ := q.at' (by omega)
 simp only [Option.some.injEq, Addr.mk.injEq, and_true] at hg
 subst hg
 have hk : (l.set i ⟨(gq l i).key, t⟩).map QR.key = l.map QR.key := by
  rw [List.map_set, gq_get l i hi]
  apply List.ext_getElem (by simp)
  intro m h1 h2
  rw [List.getElem_set]
  split
  ·rename_i e; subst e; simp
  ·rfl
 have tt : Touch w (w.setCell ⟨g, i * 2 + 1, none⟩ (.int .i64 t)) (fun k => k = g) := (Touch.refl w (fun k => k = g)).setCell _ _ (fun _ => rfl)
 have hi' : i < (l.map qcl).length := by simpa using hi
 have ho := OwnS.stored q.own i hi' 1 (by omega) (.int .i64 t)
 have e : (l.map qcl).set i ((l.map qcl)[i].set 1 (.int .i64 t)) = (l.set i ⟨(gq l i).key, t⟩).map qcl := by
  rw [List.map_set, gq_get l i hi]
  simp [qcl]
 rw [e] at ho
 have hln : (l.set i (⟨(gq l i).key, t⟩ : QR)).length = l.length := by simp
 refine ⟨⟨?_, by rw [hln]; exact ho, fun r hr => ?_, by rw [hk]; exact q.nd, by rw [hln]; exact q.len, ?_⟩, tt.mono (fun k _ e => by subst e; exact .inr (.inl rfl))⟩
 ·rw [hln]; exact tt.keeps q.head (fun e => by have e : b = g := e; omega)
 ·rcases List.mem_or_eq_of_mem_set hr with hr | rfl
  ·exact q.ok r hr
  ·exact ⟨(q.ok _ (gq_mem l i hi)).1, h0, h1⟩
 ·have hm := q.map
  unfold MapQ at hm ⊢
  cases mo with
  | none => simp only at hm ⊢; subst hm; simp at hi
  | some mb =>
    simp only at hm ⊢
    obtain ⟨m1, m2, D, m3, m4⟩ := hm
    refine ⟨m1, m2, D, by rw [hln]; exact ownsMap_touch m3 tt (fun e => m2 g rfl (by have e : mb = g := e; exact e.symm)), plQ_keys m4 hk⟩
end
end Go.Proofs.YtpjdcgjoepjmcaaGreat
end
section
namespace Go.Proofs.YtpjdcgjoepjmcaaGreat
open Go.RowKit
set_option maxRecDepth 20000 in
theorem qnew_any (w : World) :
 Calls Tryz.prog 35 #[] w fun e w' => e = .returned (.pointer (some ⟨w.heap.size, 0, none⟩)) ∧ QL w' w.heap.size ⟨none, 0, none⟩ [] ∧ Touch w w' (fun _ => False) ∧ ∀ k, footQ w.heap.size ⟨none, 0, none⟩ k → w.heap.size ≤ k := by
 go_enter Tryz.func35, Tryz.ntmps35
 go_wp2
 go_ret
 refine ⟨rfl, ⟨List.Pairwise.nil, [], ⟨⟨?_, OwnS.nil _ _ _ _, by simp, by simp, by simp, rfl⟩, fun k h0 hk => by simp at hk⟩, .refl _⟩, (Touch.refl _ _).alloc _, ?_⟩
 ·exact heap_alloc_new ..
 ·rintro k (rfl | h | h)
  ·exact Nat.le_refl _
  ·cases h
  ·cases h
end Go.Proofs.YtpjdcgjoepjmcaaGreat
end
section
namespace Go.Proofs.YtpjdcgjoepjmcaaGreat
open Go.RowKit
def headQ : List QR → QR
 | [] => q0
 | x :: _ => x
end Go.Proofs.YtpjdcgjoepjmcaaGreat
end
