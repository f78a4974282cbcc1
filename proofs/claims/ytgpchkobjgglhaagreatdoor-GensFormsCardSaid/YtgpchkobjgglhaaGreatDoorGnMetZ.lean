/- Without, asked of a map that remembers whom it has met. -/
import Derived.Test.YtgpchkobjgglhaaGreatDoorGnMZ
import Derived.Test.YtgpchkobjgglhaaGreatDoorIntMapZ
import Derived.Test.YtgpchkobjgglhaaGreatDoorHAZ
set_option linter.unusedVariables false
set_option linter.unusedSimpArgs false
namespace Go.Proofs.YtgpchkobjgglhaaGreatDoor
open Go.RowKit

theorem mapMet : Tryz.prog.underlying 53 = some (.map 3 3) := Tryz.underlying53
theorem zeroMet (w : World) : (zeroValue 3).run Tryz.prog w = .ok (.int .i64 0) w := by kernel_rfl
/-- What the map has: each number that was met, some times. -/
structure MetM (w : World) (mb : Nat) (n : Nat) (M : List DR) : Prop where
  own : OwnZ w 3 3 mb M
  len : M.length ≤ n
  cnt : ∀ d ∈ M, 1 ≤ d.u ∧ d.u ≤ n
theorem MetM.still {w w' : World} {mb n : Nat} {M : List DR} (h : MetM w mb n M) (t : Touch w w' (fun _ => False)) : MetM w' mb n M := ⟨h.own.still t, h.len, h.cnt⟩
theorem timeD_met {M : List DR} {n : Nat} (hn : (M.map DR.b).Nodup) (hc : ∀ d ∈ M, 1 ≤ d.u ∧ d.u ≤ n) (id : Int) : 0 ≤ timeD M id ∧ timeD M id ≤ n ∧ decide (1 < timeD M id + 1) = hasD M id := by
  cases hh : hasD M id with
  | false => rw [timeD_none hh]; exact ⟨Int.le_refl 0, Int.natCast_nonneg _, by decide⟩
  | true =>
    obtain ⟨d, hd, rfl⟩ := List.mem_map.1 ((hasD_iff _ _).1 hh)
    rw [timeD_of hn hd]
    have := hc d hd
    exact ⟨by omega, this.2, decide_eq_true (by omega)⟩
set_option maxRecDepth 20000 in
set_option maxHeartbeats 1000000 in
theorem again_any (w : World) (mb n : Nat) (M : List DR) (hM : MetM w mb n M) (hn : n ≤ 1000) (id : Int) (hid : i64D id) :
    Calls Tryz.prog 31 #[.map (some mb), .int .i64 id] w fun e w' => e = .returned (.bool (hasD M id)) ∧ ∃ M', MetM w' mb (n + 1) M' ∧ (∀ c, hasD M' c = (decide (id = c) || hasD M c)) ∧ Touch w w' (fun k => k = mb) := by
  obtain ⟨b0, b1, b2⟩ := timeD_met hM.own.nd hM.cnt id
  have h1 := hM.own.get Tryz.underlying3 Tryz.underlying3 mapMet (zeroMet w) hid
  rw [← b2]
  obtain ⟨x, hx⟩ : ∃ x, timeD M id = x := ⟨_, rfl⟩
  rw [hx] at h1 b0 b1 ⊢
  have hl := hM.len
  obtain ⟨w5, r1, o5, t5⟩ := hM.own.store Tryz.underlying3 Tryz.underlying3 mapMet (by omega) ⟨id, x + 1⟩ hid ⟨by show -9223372036854775808 ≤ x + 1; omega, by show x + 1 ≤ 9223372036854775807; omega⟩
  have h2 := o5.get Tryz.underlying3 Tryz.underlying3 mapMet (zeroMet w5) hid
  rw [show timeD (⟨id, x + 1⟩ :: delD M id) id = x + 1 by unfold timeD; simp] at h2
  have HX : RowKit.Hid (∃ M', MetM w5 mb (n + 1) M' ∧ (∀ c, hasD M' c = (decide (id = c) || hasD M c)) ∧ Touch w w5 (fun k => k = mb)) := Lib.hid (by
    refine ⟨_, ⟨o5, ?_, ?_⟩, ?_, t5⟩
    · have := delD_len hM.own.nd id
      simp only [List.length_cons]; omega
    · intro d hd
      rcases List.mem_cons.1 hd with rfl | hd
      · show 1 ≤ x + 1 ∧ x + 1 ≤ ((n + 1 : Nat) : Int)
        omega
      · have := hM.cnt d (List.mem_filter.1 hd).1
        omega
    · intro c
      by_cases e : id = c
      · subst e
        simp [hasD]
      · have : hasD (delD M id) c = hasD M c := by
          rw [Bool.eq_iff_iff, hasD_iff, hasD_iff, List.mem_map, List.mem_map]
          constructor
          · rintro ⟨d, hd, h⟩
            exact ⟨d, (List.mem_filter.1 hd).1, h⟩
          · rintro ⟨d, hd, h⟩
            refine ⟨d, List.mem_filter.2 ⟨hd, ?_⟩, h⟩
            have : ¬ d.b = id := fun h2 => e (h2.symm.trans h)
            simp [this]
        rw [← this]
        rfl)
  clear o5 t5 hM hx b2
  go_enter Tryz.func31, Tryz.ntmps31
  go_wp2
  go_ret
  exact ⟨rfl, HX.out⟩
theorem says_met (w : World) (mb n : Nat) (M : List DR) (hM : MetM w mb n M) (hn : n ≤ 1000) (id : Int) (hid : i64D id) :
    Calls Tryz.prog 35 #[.func (.func 31) #[.map (some mb)] #[], .int .i64 id] w fun e w' => e = .returned (.bool (hasD M id)) ∧ ∃ M', MetM w' mb (n + 1) M' ∧ (∀ c, hasD M' c = (decide (id = c) || hasD M c)) ∧ Touch w w' (fun k => k = mb) := by
  obtain ⟨W1, hW1⟩ : ∃ W, w.alloc (.cells #[.bool false] 4) = W := ⟨_, rfl⟩
  have t1 : Touch w W1 (fun _ => False) := hW1 ▸ (Touch.refl w (fun _ => False)).alloc _
  have g1 : W1.heap[w.heap.size]? = some (.cells #[.bool false] 4 (0, 0)) := hW1 ▸ heap_alloc_new ..
  have hlt := hM.own.lt
  have HG := Lib.hid (again_any W1 mb n M (hM.still t1) hn id hid)
  have HG1 := Lib.hid g1
  have HT1 := Lib.hid t1
  have hnf : ∀ W : World, (binOp BinOp.neq 33 (.func (.func 31) #[.map (some mb)] #[]) Value.nilFunc).run Tryz.prog W = .ok (.bool true) W := fun W => by kernel_rfl
  clear hM t1 g1
  generalize hasD M id = x at *
  go_enter_defers Tryz.func35, Tryz.ntmps35
  go_wp2_with (go_at_call 31; (with_reducible refine HG.out.mono ?_); rintro e w9 ⟨rfl, M', m9, h9, t9⟩; have HM9 := Lib.hid m9; have H9 := Lib.hid h9; have HT9 := Lib.hid t9; have g9 := t9.keeps HG1.out (by omega); have HG9 := Lib.hid g9; have f9 := free_of_cells g9 0; have c9 := cell_of_cells g9 0; clear m9 h9 t9 g9)
  refine leaves_cons (f := 50) (args := #[.pointer (some ⟨w.heap.size, 0, none⟩)]) (by simp) (by simp [go_sem]) ?_
  refine (catch_idle ⟨w.heap.size, 0, none⟩ _).mono ?_
  rintro e u' w'' ⟨rfl, rfl, rfl⟩
  have hc : (w9.setCell ⟨w.heap.size, 0, none⟩ (.bool x)).cell? ⟨w.heap.size, 0, none⟩ = some (.bool x) := cell_of_cells (heap_setCell_same w9 w.heap.size 0 _ _ _ HG9.out) 0
  have ts : Touch w9 (w9.setCell ⟨w.heap.size, 0, none⟩ (.bool x)) (fun k => k = w.heap.size) := (Touch.refl w9 (fun k => k = w.heap.size)).setCell _ _ (fun _ => rfl)
  simp [Leaves, settle, results, Tryz.results35, go_sem, hc]
  refine ⟨M', ⟨HM9.out.own.touch ts (by omega), HM9.out.len, HM9.out.cnt⟩, H9.out, ?_⟩
  exact ((HT1.out.mono (fun _ _ h => h.elim)).trans HT9.out (fun _ _ h => h)).trans ts (fun k h1 h2 => by have h2 : k = w.heap.size := h2; omega)
set_option maxRecDepth 20000 in
set_option maxHeartbeats 2000000 in
/-- Of each number the first. -/
theorem without_met (mb : Nat) (a : Option Addr) (len cap : Nat) (bs : List BkD) (w : World) (hr : RowK w a len cap bs) (hlen : len ≤ 100) (hbk : ∀ b ∈ bs, i64D b.id) (hM : MetM w mb 0 []) (hne : ∀ x, a = some x → len = 0 ∨ x.block ≠ mb) :
    Calls Tryz.prog 15 #[.slice a len cap, .func (.func 31) #[.map (some mb)] #[]] w fun e w' => ∃ a' c', e = .returned (.slice a' (metF [] bs).length c') ∧ OwnK w' w.heap.size (.slice a' (metF [] bs).length c') (metF [] bs) ∧ Touch w w' (fun k => k = mb) := by
  have hl := hr.len
  have hcap := hr.hmax
  have hcap1 := hr.hcap
  have hmlt := hM.own.lt
  have HR := Lib.hid hr
  have HL := Lib.hid hl
  have HII := Lib.hid infoBk
  have HBK := Lib.hid hbk
  have HM0 := Lib.hid hM
  have HNE := Lib.hid hne
  clear hr hl hbk hM hne
  go_enter Tryz.func15, Tryz.ntmps15
  go_wp2_with fail
  go_loopw [5, 10] (fun s i wr => ∃ (k n : Nat) (a' : Option Addr) (c' : Nat) (M : List DR), k ≤ len ∧ n ≤ k ∧ i = .int .i64 k ∧ s = .slice a' n c' ∧ n = (metF [] (bs.take k)).length ∧ OwnK wr w.heap.size (.slice a' n c') (metF [] (bs.take k)) ∧ MetM wr mb k M ∧ (∀ c, hasD M c = decide (c ∈ (bs.take k).map BkD.id)) ∧ Touch w wr (fun k => k = mb)) (fun _ i _ => len - (RowKit.intOf i).toNat)
  case atStart => exact ⟨0, 0, none, 0, [], Nat.zero_le _, Nat.le_refl _, rfl, rfl, rfl, OwnS.nil _ _ _ _, HM0.out, fun _ => rfl, Touch.refl _ _⟩
  case round =>
    obtain ⟨k, n, a', c', M, hk, hnk, rfl, rfl, hn, ho, hm, hh, ht⟩ := hrel
    have HN := Lib.hid hn
    have HO := Lib.hid ho
    have HT := Lib.hid ht
    have HM := Lib.hid hm
    have HH := Lib.hid hh
    clear ho ht hn hm hh
    by_cases hlt : k < len
    case neg =>
      obtain rfl : len = k := by omega
      have hlt' : ¬ (len : Int) < len := by omega
      go_wp2
      go_ret
      have e : bs.take len = bs := by rw [← HL.out, List.take_length]
      have h1 := HO.out
      have h2 := HN.out
      rw [e] at h1 h2
      exact ⟨a', c', by rw [← h2]; rfl, by rw [← h2]; exact h1, HT.out⟩
    case pos =>
    have hr := HR.out.touch HT.out (fun x hx => (HNE.out x hx).imp (fun h => h) (fun h e => h e))
    obtain ⟨b, off, rfl⟩ := hr.some (by omega)
    have hk1 : k < bs.length := by rw [HL.out]; exact hlt
    obtain ⟨c0, c1, c2⟩ := hr.cells k hk1
    have HS : RowKit.Hid (metF [] (bs.take (k + 1)) = metF [] (bs.take k) ++ (if hasD M bs[k].id then [] else [bs[k]])) := Lib.hid (by
      rw [List.take_succ_eq_append_getElem hk1, metF_snoc, HH.out]
      simp)
    have HT9 : RowKit.Hid ((bs.take (k + 1)).map BkD.id = (bs.take k).map BkD.id ++ [bs[k].id]) := Lib.hid (by rw [List.take_succ_eq_append_getElem hk1, List.map_append]; rfl)
    have hi := HBK.out _ (List.getElem_mem hk1)
    generalize bs[k] = f at *
    obtain ⟨W2, hW2⟩ : ∃ W, wr.alloc (.cells #[.int .i64 f.id, .int .u32 f.addr, .int .i64 f.weight] 27) = W := ⟨_, rfl⟩
    have t1 : Touch wr W2 (fun _ => False) := hW2 ▸ (Touch.refl wr _).alloc _
    have g2 : W2.heap[wr.heap.size]? = some (.cells #[.int .i64 f.id, .int .u32 f.addr, .int .i64 f.weight] 27 (0, 0)) := hW2 ▸ heap_alloc_new ..
    have HG2 := Lib.hid g2
    have hsz := HT.out.size
    have HT2 := Lib.hid (HT.out.trans t1 (fun _ _ h => h.elim))
    have HO2 := Lib.hid (OwnS.still HO.out.toS t1)
    have HSF := Lib.hid (says_met W2 mb k M (HM.out.still t1) (by omega) f.id hi)
    have HW2 := Lib.hid hW2
    have hlI : (k : Int) < len := by omega
    clear hr t1 g2 hW2
    obtain ⟨x, hx⟩ : ∃ x, hasD M f.id = x := ⟨_, rfl⟩
    rw [hx] at HSF HS
    clear hx
    go_wp2_with fail
    rw [HW2.out]
    refine HSF.out.mono ?_
    rintro e w4 ⟨rfl, M4, m4, h4, t4⟩
    have g4 := t4.keeps HG2.out (by omega)
    have x0 : w4.cell? ⟨wr.heap.size, 0, none⟩ = some (.int .i64 f.id) := cell_of_cells g4 0
    have x1 : w4.cell? ⟨wr.heap.size, 1, none⟩ = some (.int .u32 f.addr) := cell_of_cells g4 1
    have x2 : w4.cell? ⟨wr.heap.size, 2, none⟩ = some (.int .i64 f.weight) := cell_of_cells g4 2
    have HM4 := Lib.hid m4
    have HH4 : RowKit.Hid (∀ c, hasD M4 c = decide (c ∈ (bs.take (k + 1)).map BkD.id)) := Lib.hid (fun c => by
      rw [h4, HH.out, HT9.out, Bool.eq_iff_iff]
      simp only [Bool.or_eq_true, decide_eq_true_eq, List.mem_append, List.mem_singleton]
      exact ⟨fun h => h.elim (fun h => .inr h.symm) (fun h => .inl h), fun h => h.elim (fun h => .inr h) (fun h => .inl h.symm)⟩)
    have HO4 := Lib.hid (OwnS.touch HO2.out t4 (fun x hx e => by have h1 := ((OwnS.own HO2.out).lt x hx).1; have e : x = mb := e; omega))
    clear m4 h4
    cases x with
    | true =>
      have HT4 := Lib.hid (HT2.out.trans t4 (fun _ _ h => h))
      have HS' : RowKit.Hid (metF [] (bs.take (k + 1)) = metF [] (bs.take k)) := Lib.hid (by rw [HS.out]; simp)
      clear t4 g4 HS
      go_wp2_with fail
      exact ⟨⟨k + 1, n, a', c', M4, hlt, by omega, by go_num, rfl, by rw [HS'.out]; exact HN.out, by rw [HS'.out]; exact HO4.out, HM4.out, HH4.out, HT4.out⟩, by simp [RowKit.intOf]; omega⟩
    | false =>
    have HS' : RowKit.Hid (metF [] (bs.take (k + 1)) = metF [] (bs.take k) ++ [f]) := Lib.hid (by rw [HS.out]; simp)
    clear HS
    obtain ⟨W5, hW5⟩ : ∃ W, w4.alloc (.cells #[.int .i64 f.id, .int .u32 f.addr, .int .i64 f.weight] 27) = W := ⟨_, rfl⟩
    have HT4 := Lib.hid (HT2.out.trans t4 (fun _ _ h => h))
    have t5 : Touch w4 W5 (fun _ => False) := hW5 ▸ (Touch.refl w4 _).alloc _
    have HON : RowKit.Hid (OwnS W5 w.heap.size 27 3 (.slice a' n c') ((metF [] (bs.take k)).map BkD.cells)) := Lib.hid (OwnS.still HO4.out t5)
    have hb4 := HT4.out.size
    have HW5 := Lib.hid hW5
    clear t4 g4 HO2 HO t5
    go_wp2_with (at_builtin; (with_reducible refine wp_add1 (w := w4) HON.out hW5 rfl rfl (by simp [Value.oneCell']) (by omega) 22 Tryz.underlying22 _ 24 HII.out rfl (by decide) (by decide) hb4 rfl _ _ rfl rfl rfl ?_); intro a6 c6 w6 ho6 t6 hb6; have HO6 := Lib.hid ho6; have HT6 := Lib.hid t6; clear ho6 t6 hb6)
    have HO7 : RowKit.Hid (OwnK w6 w.heap.size (.slice a6 (n + 1) c6) (metF [] (bs.take (k + 1)))) := Lib.hid (by
      rw [HS'.out]
      unfold OwnK
      rw [List.map_append, List.map_cons, List.map_nil]
      exact HO6.out)
    have hown : ∀ x, (Value.slice a' n c').ownBlock = some x → w.heap.size ≤ x := fun x hx => ((OwnS.own HON.out).lt x hx).1
    exact ⟨⟨k + 1, n + 1, a6, c6, M4, hlt, by omega, by go_num, rfl, by rw [HS'.out, List.length_append, ← HN.out]; rfl, HO7.out, ⟨HM4.out.own.touch HT6.out (fun e => by have := hown _ e; omega), HM4.out.len, HM4.out.cnt⟩, HH4.out, HT4.out.trans HT6.out (fun q hq e => by have := hown _ e; omega)⟩, by simp [RowKit.intOf]; omega⟩
end Go.Proofs.YtgpchkobjgglhaaGreatDoor
