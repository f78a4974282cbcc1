/- A set of backends out of a text: parseOne, Parse. -/
import Derived.Test.YtgpchkobjgglhaaGreatDoorGnTextZ
import Derived.Test.YtgpchkobjgglhaaGreatDoorHDZ
import Derived.Test.YtgpchkobjgglhaaGreatDoorHAZ
set_option linter.unusedVariables false
set_option linter.unusedSimpArgs false
namespace Go.Proofs.YtgpchkobjgglhaaGreatDoor
open Go.RowKit

theorem infoBkP : (Tryz.prog.info? 27).map (·.size) = some 3 := by kernel_rfl
def bcs (b : BkD) : Array Value := #[.int .i64 b.id, .int .u32 b.addr, .int .i64 b.weight]
set_option maxRecDepth 20000 in
set_option maxHeartbeats 4000000 in
theorem parseOne_any (l : List UInt8) (w : World) (hl : l.length < 4294967281) (hT : TabW w) (hE : ErrW w) (hM : MaxW w) :
    Calls Tryz.prog 23 #[.string (mkS l)] w fun e w' => e = .returned (.agg (bcs (pOneK l))) ∧ Touch w w' (fun _ => False) := by
  have hc1 := cut_len l 64
  have hc2 := cut_len (cutL l 64).2 42
  have HC1 := Lib.hid (fun W (h : Touch w W (fun _ => False)) => cut_call l 64 W hl (hM.touch h))
  have HC2 := Lib.hid (fun W (h : Touch w W (fun _ => False)) => cut_call (cutL l 64).2 42 W (by omega) (hM.touch h))
  have HA1 : RowKit.Hid (∀ W, Touch w W (fun _ => False) → Calls Tryz.prog 43 #[.string (mkS (cutL l 64).1)] W fun e w' => ∃ v : Value, e = .returned (.tuple #[.int .i64 (pOneK l).id, v]) ∧ Touch W w' (fun _ => False)) := Lib.hid (fun W h => at_any _ W (by omega) (hE.touch h))
  have HA2 : RowKit.Hid (∀ W, Touch w W (fun _ => False) → Calls Tryz.prog 43 #[.string (mkS (cutL (cutL l 64).2 42).2)] W fun e w' => ∃ v : Value, e = .returned (.tuple #[.int .i64 (pOneK l).weight, v]) ∧ Touch W w' (fun _ => False)) := Lib.hid (fun W h => at_any _ W (by omega) (hE.touch h))
  have HPA : RowKit.Hid (∀ W, Touch w W (fun _ => False) → Calls Tryz.prog 44 #[.string (mkS (cutL (cutL l 64).2 42).1)] W fun e w' => e = .returned (.tuple #[.int .u32 (pOneK l).addr, .bool (paB (cutL (cutL l 64).2 42).1)]) ∧ Touch W w' (fun _ => False)) := Lib.hid (fun W h => parseAddr_any _ W (by omega) (hT.touch h) (hE.touch h) (hM.touch h))
  generalize pOneK l = f at *
  generalize paB (cutL (cutL l 64).2 42).1 = pb at *
  generalize mkS (cutL (cutL l 64).2 42).1 = s1 at *
  generalize mkS (cutL (cutL l 64).2 42).2 = s2 at *
  generalize cutB (cutL l 64).2 42 = b2 at *
  generalize mkS (cutL l 64).2 = s3 at *
  generalize mkS (cutL l 64).1 = s4 at *
  generalize cutB l 64 = b1 at *
  generalize mkS l = s at *
  clear hl hT hE hM hc1 hc2
  obtain ⟨f1, f2, f3⟩ := f
  simp only at HA1 HA2 HPA
  obtain ⟨W1, hW1⟩ : ∃ W, w.alloc (.cells #[.int .i64 0, .int .u32 0, .int .i64 0] 27) = W := ⟨_, rfl⟩
  have T1 : RowKit.Hid (Touch w W1 (fun _ => False)) := Lib.hid (hW1 ▸ (Touch.refl w _).alloc _)
  have HZ : RowKit.Hid (W1.heap[w.heap.size]? = some (.cells #[.int .i64 0, .int .u32 0, .int .i64 0] 27 (0, 0))) := Lib.hid (hW1 ▸ heap_alloc_new ..)
  have HW1 := Lib.hid hW1
  clear hW1
  go_enter Tryz.func23, Tryz.ntmps23
  go_upto_region 1 with (fail)
  rw [HW1.out]
  go_upto_region 3 with (first
    | (go_at_call 42; (with_reducible refine (HC1.out _ T1.out).mono ?_); rintro e w2 ⟨rfl, t2⟩; have T2 := Lib.hid (T1.out.trans t2 (fun _ _ h => h)); have HZ2 := Lib.hid (t2.keeps HZ.out (fun h => h)); clear t2)
    | (go_at_call 42; (with_reducible refine (HC2.out _ T2.out).mono ?_); rintro e w3 ⟨rfl, t3⟩; have T3 := Lib.hid (T2.out.trans t3 (fun _ _ h => h)); have HZ3 := Lib.hid (t3.keeps HZ2.out (fun h => h)); clear t3))
  obtain ⟨W4, hW4⟩ : ∃ W, w3.alloc (.cells #[.int .i64 0, .int .u32 0, .int .i64 0] 27) = W := ⟨_, rfl⟩
  obtain ⟨B, hB⟩ : ∃ b, w3.heap.size = b := ⟨_, rfl⟩
  have t4 : Touch w3 W4 (fun _ => False) := hW4 ▸ (Touch.refl w3 _).alloc _
  have g4 : W4.heap[B]? = some (.cells #[.int .i64 0, .int .u32 0, .int .i64 0] 27 (0, 0)) := hB ▸ hW4 ▸ heap_alloc_new ..
  have HBB : RowKit.Hid (w.heap.size < B) := Lib.hid (by have := heap_lt HZ3.out; omega)
  have HBW : RowKit.Hid (w.heap.size ≤ B) := Lib.hid (Nat.le_of_lt HBB.out)
  have T4 := Lib.hid (T3.out.trans t4 (fun _ _ h => h))
  have HZ4 := Lib.hid (t4.keeps HZ3.out (fun h => h))
  have HG4 := Lib.hid g4
  have HW4 := Lib.hid (And.intro hW4 hB)
  clear t4 g4 hW4 hB
  go_upto_region 4 with (fail)
  rw [HW4.out.1, HW4.out.2]
  go_wp2_with fail
  (with_reducible refine (HA1.out _ T4.out).mono ?_)
  rintro e w5 ⟨v5, rfl, t5⟩
  have g5 := t5.keeps HG4.out (fun h => h)
  have g6 := heap_setCell_same w5 B 0 _ _ (.int .i64 f1) g5
  have t6 := (Touch.refl w5 (fun k => k = B)).setCell ⟨B, 0, none⟩ (.int .i64 f1) (fun _ => rfl)
  obtain ⟨W6, hW6⟩ : ∃ W, w5.setCell ⟨B, 0, none⟩ (.int .i64 f1) = W := ⟨_, rfl⟩
  have b0 := cell_of_cells g5 0
  have ff := free_of_cells g5 0
  rw [hW6] at g6 t6
  have T6 := Lib.hid ((T4.out.trans t5 (fun _ _ h => h)).trans t6 (fun k h1 h2 => by have h2 : k = B := h2; have := HBB.out; omega))
  have HZ6 := Lib.hid (t6.keeps (t5.keeps HZ4.out (fun h => h)) (fun e => by have := HBB.out; omega))
  have HG6 := Lib.hid g6
  have HW6 := Lib.hid hW6
  clear t5 g5 g6 t6 hW6
  go_upto_region 5 with (fail)
  rw [HW6.out]
  clear b0 ff
  go_wp2_with fail
  (with_reducible refine (HPA.out _ T6.out).mono ?_)
  rintro e w7 ⟨rfl, t7⟩
  have g7 := t7.keeps HG6.out (fun h => h)
  have g8 := heap_setCell_same w7 B 1 _ _ (.int .u32 f2) g7
  have t8 := (Touch.refl w7 (fun k => k = B)).setCell ⟨B, 1, none⟩ (.int .u32 f2) (fun _ => rfl)
  obtain ⟨W8, hW8⟩ : ∃ W, w7.setCell ⟨B, 1, none⟩ (.int .u32 f2) = W := ⟨_, rfl⟩
  have b0 := cell_of_cells g7 1
  have ff := free_of_cells g7 1
  rw [hW8] at g8 t8
  have T8 := Lib.hid ((T6.out.trans t7 (fun _ _ h => h)).trans t8 (fun k h1 h2 => by have h2 : k = B := h2; have := HBB.out; omega))
  have HZ8 := Lib.hid (t8.keeps (t7.keeps HZ6.out (fun h => h)) (fun e => by have := HBB.out; omega))
  have HG8 := Lib.hid g8
  have HW8 := Lib.hid hW8
  clear t7 g7 g8 t8 hW8
  go_upto_region 6 with (fail)
  rw [HW8.out]
  clear b0 ff
  go_wp2_with fail
  (with_reducible refine (HA2.out _ T8.out).mono ?_)
  rintro e w9 ⟨v9, rfl, t9⟩
  have g9 := t9.keeps HG8.out (fun h => h)
  have g10 := heap_setCell_same w9 B 2 _ _ (.int .i64 f3) g9
  have t10 := (Touch.refl w9 (fun k => k = B)).setCell ⟨B, 2, none⟩ (.int .i64 f3) (fun _ => rfl)
  obtain ⟨W10, hW10⟩ : ∃ W, w9.setCell ⟨B, 2, none⟩ (.int .i64 f3) = W := ⟨_, rfl⟩
  have b0 := cell_of_cells g9 2
  have ff := free_of_cells g9 2
  rw [hW10] at g10 t10
  have T10 := Lib.hid ((T8.out.trans t9 (fun _ _ h => h)).trans t10 (fun k h1 h2 => by have h2 : k = B := h2; have := HBB.out; omega))
  have HZ10 := Lib.hid (t10.keeps (t9.keeps HZ8.out (fun h => h)) (fun e => by have := HBB.out; omega))
  have g11 : W10.heap[B]? = some (.cells #[.int .i64 f1, .int .u32 f2, .int .i64 f3] 27 (0, 0)) := g10
  have HW10 := Lib.hid hW10
  have HIB := Lib.hid infoBkP
  have HG11 := Lib.hid g11
  clear t9 g9 g10 t10 hW10 g11
  go_upto_region 7 with (fail)
  rw [HW10.out]
  clear b0 ff
  have c0 := cell_of_cells HG11.out 0
  have c1 := cell_of_cells HG11.out 1
  have c2 := cell_of_cells HG11.out 2
  go_wp2_with (refine store_row rfl 27 (.tmp 2) (.tmp 40) rfl w.heap.size _ rfl rfl _ _ HZ10.out HIB.out rfl rfl ?_)
  refine ret_row rfl rfl w.heap.size 27 _ (0, 0) _ rfl (setRow_heap _ _ _ _ _ _ HZ10.out) Tryz.underlying27 rfl infoBkP ?_
  exact ⟨rfl, T10.out.setRow _ _ (fun h => absurd h (Nat.lt_irrefl _))⟩
theorem gparL_ok (l : List UInt8) : ∀ b ∈ gparL l, BkOk b := by
  intro x hx
  have h1 := gparL_adr l x hx
  unfold gparL at hx
  split at hx
  · cases hx
  · obtain ⟨p, _, rfl⟩ := List.mem_map.1 hx
    exact ⟨atV_bounds _, h1, atV_bounds _⟩
theorem gparL_dash : gparL [45] = [] := rfl
theorem gparB_dash : gparB [45] = true := by decide +kernel
/-- What comes of a text as a set. -/
def ParIs (w w' : World) (l : List UInt8) (e : Ending) : Prop :=
  (gparB l = true ∧ ∃ a c, e = .returned (.tuple #[.slice a (gparL l).length c, .bool true]) ∧ OwnK w' w.heap.size (.slice a (gparL l).length c) (gparL l)) ∨ (gparB l = false ∧ e = .returned (.tuple #[.slice none 0 0, .bool false]))
set_option maxRecDepth 20000 in
set_option maxHeartbeats 4000000 in
theorem gparse_any (l : List UInt8) (w : World) (hl : l.length ≤ 3000000) (hT : TabW w) (hE : ErrW w) (hM : MaxW w) :
    Calls Tryz.prog 7 #[.string (mkS l)] w fun e w' => ParIs w w' l e ∧ Touch w w' (fun _ => False) := by
  have HTB := Lib.hid hT
  have HER := Lib.hid hE
  have HMX := Lib.hid hM
  by_cases hd : l = [45]
  · subst hd
    have HGM := Lib.hid (gmay_any none 0 0 [] w (RowS.nil _ _ _ _ (by omega)))
    have HGT := Lib.hid (fun W (h : Touch w W (fun _ => False)) => gtext_any none 0 0 [] W (RowS.nil _ _ _ _ (by omega)) (fun _ h => by cases h) (by omega) (HTB.out.touch h))
    have hg : gmay [] = true := by decide
    have hb : bksL [] = [45] := rfl
    rw [hg] at HGM
    rw [hb] at HGT
    clear hl hT hE hM hg hb
    have HX : RowKit.Hid (∀ w', ParIs w w' [45] (.returned (.tuple #[.slice none 0 0, .bool true]))) := Lib.hid (fun w' => .inl ⟨gparB_dash, none, 0, rfl, OwnK.none _ _⟩)
    have hs1 : ((mkS [45]).toList == [45]) = true := by rw [mkS_toList]; rfl
    have hs2 : ((mkS [45]).toList == (mkS [45]).toList) = true := by simp
    generalize mkS [45] = s at *
    go_enter Tryz.func7, Tryz.ntmps7
    go_wp2_with (first
      | (go_at_call 11; (with_reducible refine HGM.out.mono ?_); rintro e w2 ⟨rfl, t2⟩)
      | (go_at_call 20; (with_reducible refine (HGT.out _ t2).mono ?_); rintro e w3 ⟨rfl, t3⟩))
    go_ret2
    exact ⟨HX.out _, t2.trans t3 (fun _ _ h => h)⟩
  · have HSP := Lib.hid (split_call l 44 w (by omega) hM)
    obtain ⟨ps, hps⟩ : ∃ x, partsOf l 44 = x := ⟨_, rfl⟩
    have HGL : RowKit.Hid (gparL l = ps.map (fun p => pOneK p.data.toList)) := Lib.hid (by unfold gparL; rw [if_neg hd, hps])
    rw [hps] at HSP
    have hpl : ps.length ≤ l.length + 1 := by
      rw [← hps, partsOf_len]
      have := Lib.countB_le (mkS [44]) (by simp [mkS_size]) _ (mkS l) (Nat.le_refl _)
      rw [mkS_size] at this; omega
    have hpl2 : ps.length ≤ 3000001 := by omega
    have hPZ : ∀ p ∈ ps, p.size ≤ l.length := by rw [← hps, ← mkS_size l]; exact splitB_size _ _ _
    have hs1 : ((mkS l).toList == [45]) = false := by rw [mkS_toList]; simpa using hd
    have hs2 : ((mkS l).toList == (mkS [45]).toList) = false := by rw [mkS_toList, mkS_toList]; simpa using hd
    have HII := Lib.hid infoBk
    have HPZ := Lib.hid hPZ
    have HLL := Lib.hid hl
    clear hps hT hE hM hpl hPZ
    have HSL : RowKit.Hid (∀ x, ((mkS x).toList == (mkS l).toList) = decide (x = l)) := Lib.hid (fun x => by rw [mkS_toList, mkS_toList]; by_cases h : x = l <;> simp [h])
    obtain ⟨s, hs⟩ : ∃ s, mkS l = s := ⟨_, rfl⟩
    rw [hs] at HSP hs1 hs2 HSL ⊢
    clear hs
    go_enter Tryz.func7, Tryz.ntmps7
    go_wp2_with fail
    refine HSP.out.mono ?_
    rintro e w1 ⟨rfl, hw1⟩
    have t1 : Touch w w1 (fun _ => False) := hw1 ▸ (Touch.refl w _).alloc _
    have g1 : w1.heap[w.heap.size]? = some (.cells (ps.map Value.string).toArray 9 (0, 0)) := hw1 ▸ heap_alloc_new ..
    have HG1 := Lib.hid g1
    have HT1 := Lib.hid t1
    clear t1 g1 hw1
    go_wp2_with fail
    go_loopw [4, 12] (fun s4 i wr => ∃ (k : Nat) (a' : Option Addr) (c' : Nat), k ≤ ps.length ∧ i = .int .i64 k ∧ s4 = .slice a' k c' ∧ OwnK wr w.heap.size (.slice a' k c') ((ps.take k).map (fun p => pOneK p.data.toList)) ∧ (∀ q, (Value.slice a' k c').ownBlock = some q → q ≠ w.heap.size) ∧ Touch w wr (fun _ => False) ∧ wr.heap[w.heap.size]? = some (.cells (ps.map Value.string).toArray 9 (0, 0))) (fun _ i _ => ps.length - (RowKit.intOf i).toNat)
    case atStart => exact ⟨0, none, 0, by omega, rfl, rfl, OwnK.none _ _, (fun q h => by cases h), HT1.out, HG1.out⟩
    case round =>
      obtain ⟨k, a', c', hk, rfl, rfl, ho, hn, ht, hg⟩ := hrel
      have HO := Lib.hid ho
      have HNB := Lib.hid hn
      have HT := Lib.hid ht
      have HG := Lib.hid hg
      clear ho hn ht hg
      by_cases hlt : k < ps.length
      case pos =>
        have hp := HPZ.out ps[k] (List.getElem_mem hlt)
        have hc : wr.cell? ⟨w.heap.size, k, none⟩ = some (.string ps[k]) := by
          rw [cell_of_cells HG.out k]; simp [hlt]
        have HS : RowKit.Hid ((ps.take (k + 1)).map (fun p => pOneK p.data.toList) = (ps.take k).map (fun p => pOneK p.data.toList) ++ [pOneK ps[k].data.toList]) := Lib.hid (by rw [List.take_succ_eq_append_getElem hlt, List.map_append]; rfl)
        generalize ps[k] = p at *
        obtain ⟨q, rfl⟩ : ∃ q, p = mkS q := ⟨p.data.toList, (mkS_of p).symm⟩
        rw [mkS_size] at hp
        rw [mkS_data] at HS
        have hkI : (k : Int) < ps.length := by omega
        have HPO := Lib.hid (parseOne_any q wr (by have := HLL.out; omega) (HTB.out.touch HT.out) (HER.out.touch HT.out) (HMX.out.touch HT.out))
        obtain ⟨f, hf⟩ : ∃ f, pOneK q = f := ⟨_, rfl⟩
        rw [hf] at HPO HS
        simp only [bcs] at HPO
        clear hf hp
        go_wp2_with fail
        refine HPO.out.mono ?_
        rintro e w3 ⟨rfl, t3⟩
        obtain ⟨W5, hW5⟩ : ∃ W, w3.alloc (.cells #[.int .i64 f.id, .int .u32 f.addr, .int .i64 f.weight] 27) = W := ⟨_, rfl⟩
        have t5 : Touch w3 W5 (fun _ => False) := hW5 ▸ (Touch.refl w3 _).alloc _
        have HON : RowKit.Hid (OwnS W5 w.heap.size 27 3 (.slice a' k c') (((ps.take k).map (fun p => pOneK p.data.toList)).map BkD.cells)) := Lib.hid (OwnS.still (OwnK.still HO.out t3).toS t5)
        have HT4 := Lib.hid (HT.out.trans t3 (fun _ _ h => h))
        have hb4 := HT4.out.size
        have HG4 := Lib.hid (t3.keeps HG.out (fun h => h))
        have HW5 := Lib.hid hW5
        clear t3 t5
        go_wp2_with (at_builtin; (with_reducible refine wp_add1 (w := w3) HON.out hW5 rfl rfl (by simp [Value.oneCell']) (by omega) 22 Tryz.underlying22 _ 24 HII.out rfl (by decide) (by decide) hb4 rfl _ _ rfl rfl rfl ?_); intro a6 c6 w6 ho6 t6 hb6; have HO6 := Lib.hid ho6; have HT6 := Lib.hid t6; have HB6 := Lib.hid hb6; clear ho6 t6 hb6)
        have HO7 : RowKit.Hid (OwnK w6 w.heap.size (.slice a6 (k + 1) c6) ((ps.take (k + 1)).map (fun p => pOneK p.data.toList))) := Lib.hid (by
          rw [HS.out]
          unfold OwnK
          rw [List.map_append, List.map_cons, List.map_nil]
          exact HO6.out)
        have hown : ∀ x, (Value.slice a' k c').ownBlock = some x → w.heap.size ≤ x := fun x hx => ((OwnS.own HON.out).lt x hx).1
        exact ⟨⟨k + 1, a6, c6, by omega, by go_num, rfl, HO7.out, fun q hq e => by
          rcases HB6.out q hq with h | h
          · exact HNB.out q h e
          · have := heap_lt HG4.out; omega, HT4.out.trans HT6.out (fun q hq e => by have := hown _ e; omega), HT6.out.keeps HG4.out (fun e => HNB.out _ e rfl)⟩, by simp [RowKit.intOf]; omega⟩
      case neg =>
        obtain rfl : k = ps.length := by omega
        have hlt' : ¬ ((ps.length : Nat) : Int) < ps.length := by omega
        have ho := HO.out
        rw [List.take_length, ← HGL.out] at ho
        have hll : (gparL l).length = ps.length := by rw [HGL.out, List.length_map]
        have hrow := (OwnK.row ho).2.1
        have HGM := Lib.hid (gmay_any a' ps.length c' (gparL l) wr hrow)
        have HOL : RowKit.Hid (OwnK wr w.heap.size (.slice a' (gparL l).length c') (gparL l)) := Lib.hid (by rw [hll]; exact ho)
        have HLE := Lib.hid hll
        have HBD : RowKit.Hid (gparB l = (gmay (gparL l) && decide (bksL (gparL l) = l))) := Lib.hid rfl
        obtain ⟨mb, hmb⟩ : ∃ x, gmay (gparL l) = x := ⟨_, rfl⟩
        cases mb with
        | false =>
          rw [hmb] at HGM
          have HX : RowKit.Hid (∀ w', ParIs w w' l (.returned (.tuple #[.slice none 0 0, .bool false]))) := Lib.hid (fun w' => .inr ⟨by rw [HBD.out, hmb]; rfl, rfl⟩)
          clear ho hll hrow hmb
          go_wp2_with (go_at_call 11; (with_reducible refine HGM.out.mono ?_); rintro e w2 ⟨rfl, t2⟩)
          go_ret2
          exact ⟨HX.out _, HT.out.trans t2 (fun _ _ h => h)⟩
        | true =>
          have hsm := ((gmayK_iff _).1 hmb).1
          rw [hmb] at HGM
          have HGT := Lib.hid (fun W (h : Touch wr W (fun _ => False)) => gtext_any a' ps.length c' (gparL l) W (hrow.still h) (gparL_ok l) (by omega) ((HTB.out.touch HT.out).touch h))
          have hse := HSL.out (bksL (gparL l))
          obtain ⟨db, hdb⟩ : ∃ x, decide (bksL (gparL l) = l) = x := ⟨_, rfl⟩
          rw [hdb] at hse
          obtain ⟨st, hst⟩ : ∃ x, mkS (bksL (gparL l)) = x := ⟨_, rfl⟩
          rw [hst] at hse HGT
          cases db with
          | false =>
            have HX : RowKit.Hid (∀ w', ParIs w w' l (.returned (.tuple #[.slice none 0 0, .bool false]))) := Lib.hid (fun w' => .inr ⟨by rw [HBD.out, hmb, hdb]; rfl, rfl⟩)
            clear ho hll hrow hmb hdb hst hsm
            go_wp2_with (first
              | (go_at_call 11; (with_reducible refine HGM.out.mono ?_); rintro e w2 ⟨rfl, t2⟩)
              | (go_at_call 20; (with_reducible refine (HGT.out _ t2).mono ?_); rintro e w3 ⟨rfl, t3⟩))
            go_ret2
            exact ⟨HX.out _, HT.out.trans (t2.trans t3 (fun _ _ h => h)) (fun _ _ h => h)⟩
          | true =>
            have HX : RowKit.Hid (∀ w', Touch wr w' (fun _ => False) → ParIs w w' l (.returned (.tuple #[.slice a' (gparL l).length c', .bool true]))) := Lib.hid (fun w' t => .inl ⟨by rw [HBD.out, hmb, hdb]; rfl, a', c', rfl, OwnK.still HOL.out t⟩)
            rw [HLE.out] at HX
            clear ho hll hrow hmb hdb hst hsm
            go_wp2_with (first
              | (go_at_call 11; (with_reducible refine HGM.out.mono ?_); rintro e w2 ⟨rfl, t2⟩)
              | (go_at_call 20; (with_reducible refine (HGT.out _ t2).mono ?_); rintro e w3 ⟨rfl, t3⟩))
            go_ret2
            exact ⟨HX.out _ (t2.trans t3 (fun _ _ h => h)), HT.out.trans (t2.trans t3 (fun _ _ h => h)) (fun _ _ h => h)⟩
end Go.Proofs.YtgpchkobjgglhaaGreatDoor
