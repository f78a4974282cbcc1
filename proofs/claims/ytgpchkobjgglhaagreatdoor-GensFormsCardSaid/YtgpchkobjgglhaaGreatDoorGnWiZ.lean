/- Who is not out, for GensForms' own function and for none. -/
import Derived.Test.YtgpchkobjgglhaaGreatDoorHFZ
set_option linter.unusedVariables false
set_option linter.unusedSimpArgs false
namespace Go.Proofs.YtgpchkobjgglhaaGreatDoor
open Go.RowKit

set_option maxRecDepth 20000 in
set_option maxHeartbeats 1000000 in
theorem gforms1_any (g : Nat) (a : Option Addr) (len cap : Nat) (xs : List Int) (id : Int) (w : World) (hg : w.cell? ⟨g, 0, none⟩ = some (.slice a len cap)) (hr : RowI w a len cap xs) :
    Calls Tryz.prog 10 #[.int .i64 id, .pointer (some ⟨g, 0, none⟩)] w fun e w' => e = .returned (.bool (outB xs id)) ∧ w = w' := by
  have hl := hr.1
  have hcap := hr.2.2.1
  have hcap1 := hr.2.1
  have HR := Lib.hid hr
  have HL := Lib.hid hl
  clear hr hl
  go_enter Tryz.func10, Tryz.ntmps10
  go_wp2_with fail
  go_loopw [8] (fun i wr => ∃ k : Nat, k ≤ len ∧ i = .int .i64 k ∧ wr = w ∧ outB (xs.take k) id = false) (fun i _ => len - (intOf i).toNat)
  case atStart => exact ⟨0, Nat.zero_le _, rfl, rfl, outB_nil _⟩
  case round =>
    obtain ⟨k, hk, rfl, rfl, hf⟩ := hrel
    have HF := Lib.hid hf
    clear hf
    by_cases hlt : k < len
    case neg =>
      obtain rfl : len = k := by omega
      have hlt' : ¬ (len : Int) < len := by omega
      have HE : RowKit.Hid (outB xs id = false) := Lib.hid (by have := HF.out; rwa [← HL.out, List.take_length] at this)
      go_wp2
      go_ret
      exact ⟨by rw [HE.out]; rfl, rfl⟩
    case pos =>
    obtain ⟨b, off, rfl, hc⟩ := HR.out.some (by omega)
    have hk1 : k < xs.length := by rw [HL.out]; exact hlt
    have c0 := hc k hk1
    have HS : RowKit.Hid (xs.take (k + 1) = xs.take k ++ [xs[k]]) := Lib.hid (List.take_succ_eq_append_getElem hk1)
    have HM : RowKit.Hid (xs[k] ∈ xs) := Lib.hid (List.getElem_mem hk1)
    generalize xs[k] = x at *
    have hlI : (k : Int) < len := by omega
    clear hc
    by_cases hx : x = id
    · subst hx
      have HE : RowKit.Hid (outB xs x = true) := Lib.hid (outB_mem HM.out)
      go_wp2
      go_ret
      exact ⟨by rw [HE.out]; rfl, rfl⟩
    · have hb : (x == id) = false := beq_eq_false_iff_ne.2 hx
      go_wp2
      exact ⟨⟨k + 1, hlt, by go_num, trivial, by rw [HS.out, outB_snoc, HF.out, hb]; rfl⟩, by simp [intOf]; omega⟩

theorem says_gforms (g : Nat) (a : Option Addr) (len cap : Nat) (xs : List Int) (id : Int) (w : World) (hg : w.cell? ⟨g, 0, none⟩ = some (.slice a len cap)) (hr : RowI w a len cap xs) :
    Calls Tryz.prog 35 #[.func (.func 10) #[] #[.pointer (some ⟨g, 0, none⟩)], .int .i64 id] w fun e w' => e = .returned (.bool (outB xs id)) ∧ Touch w w' (fun _ => False) := by
  have t1 := (Touch.refl w (fun _ => False)).alloc (.cells #[.bool false] 4)
  have HG := Lib.hid (gforms1_any g a len cap xs id (w.alloc (.cells #[.bool false] 4)) ((t1.cell (block_lt_of_cell hg) (fun h => h)).trans hg) (hr.still t1))
  have hnf : ∀ W : World, (binOp BinOp.neq 33 (.func (.func 10) #[] #[.pointer (some ⟨g, 0, none⟩)]) Value.nilFunc).run Tryz.prog W = .ok (.bool true) W := fun W => by kernel_rfl
  clear hg hr
  generalize outB xs id = x at *
  go_enter_defers Tryz.func35, Tryz.ntmps35
  go_wp2_with (go_at_call 10; (with_reducible refine HG.out.mono ?_); rintro e w9 ⟨rfl, rfl⟩)
  refine leaves_cons (f := 50) (args := #[.pointer (some ⟨w.heap.size, 0, none⟩)]) (by simp) (by simp [go_sem]) ?_
  refine (catch_idle ⟨w.heap.size, 0, none⟩ _).mono ?_
  rintro e u' w'' ⟨rfl, rfl, rfl⟩
  simp [Leaves, settle, results, Tryz.results35, go_sem]
  exact (Touch.refl w _).alloc _

theorem says_nilF (id : Int) (w : World) :
    Calls Tryz.prog 35 #[.nilFunc, .int .i64 id] w fun e w' => e = .returned (.bool false) ∧ Touch w w' (fun _ => False) := by
  have t1 := (Touch.refl w (fun _ => False)).alloc (.cells #[.bool false] 4)
  have hnf : ∀ W : World, (binOp BinOp.neq 33 Value.nilFunc Value.nilFunc).run Tryz.prog W = .ok (.bool false) W := fun W => by kernel_rfl
  go_enter_defers Tryz.func35, Tryz.ntmps35
  go_wp2_with fail
  refine leaves_cons (f := 50) (args := #[.pointer (some ⟨w.heap.size, 0, none⟩)]) (by simp) (by simp [go_sem]) ?_
  refine (catch_idle ⟨w.heap.size, 0, none⟩ _).mono ?_
  rintro e u' w'' ⟨rfl, rfl, rfl⟩
  simp [Leaves, settle, results, Tryz.results35, go_sem]
  exact t1

set_option maxRecDepth 20000 in
set_option maxHeartbeats 2000000 in
theorem without_nilF (out : Int → Bool) (a : Option Addr) (len cap : Nat) (bs : List BkD) (w : World) (hr : RowK w a len cap bs) (hlen : len ≤ 1000)
    (hsy : ∀ (W : World) (id : Int), Touch w W (fun _ => False) → Calls Tryz.prog 35 #[.nilFunc, .int .i64 id] W fun e w' => e = .returned (.bool (out id)) ∧ Touch W w' (fun _ => False)) :
    Calls Tryz.prog 15 #[.slice a len cap, .nilFunc] w fun e w' => ∃ a' c', e = .returned (.slice a' (keepF out bs).length c') ∧ OwnK w' w.heap.size (.slice a' (keepF out bs).length c') (keepF out bs) ∧ Touch w w' (fun _ => False) := by
  have hl := hr.len
  have hcap := hr.hmax
  have hcap1 := hr.hcap
  have HR := Lib.hid hr
  have HL := Lib.hid hl
  have HII := Lib.hid infoBk
  have HSY := Lib.hid hsy
  clear hr hl hsy
  go_enter Tryz.func15, Tryz.ntmps15
  go_wp2_with fail
  go_loopw [5, 10] (fun s i wr => ∃ (k n : Nat) (a' : Option Addr) (c' : Nat), k ≤ len ∧ n ≤ k ∧ i = .int .i64 k ∧ s = .slice a' n c' ∧ n = (keepF out (bs.take k)).length ∧ OwnK wr w.heap.size (.slice a' n c') (keepF out (bs.take k)) ∧ Touch w wr (fun _ => False)) (fun _ i _ => len - (intOf i).toNat)
  case atStart => exact ⟨0, 0, none, 0, Nat.zero_le _, Nat.le_refl _, rfl, rfl, rfl, OwnS.nil _ _ _ _, Touch.refl _ _⟩
  case round =>
    obtain ⟨k, n, a', c', hk, hnk, rfl, rfl, hn, ho, ht⟩ := hrel
    have HN := Lib.hid hn
    have HO := Lib.hid ho
    have HT := Lib.hid ht
    clear ho ht hn
    by_cases hlt : k < len
    case neg =>
      obtain rfl : len = k := by omega
      have hlt' : ¬ (len : Int) < len := by omega
      go_wp2
      go_ret
      have e : bs.take len = bs := by rw [← HL.out, List.take_length]
      have h1 := HO.out
      have h2 := HN.out
      rw [e] at h1 h2
      exact ⟨a', c', by rw [← h2]; rfl, by rw [← h2]; exact h1, HT.out⟩
    case pos =>
    have hr := HR.out.still HT.out
    obtain ⟨b, off, rfl⟩ := hr.some (by omega)
    have hk1 : k < bs.length := by rw [HL.out]; exact hlt
    obtain ⟨c0, c1, c2⟩ := hr.cells k hk1
    have HS : RowKit.Hid (keepF out (bs.take (k + 1)) = keepF out (bs.take k) ++ (if out bs[k].id then [] else [bs[k]])) := Lib.hid (by rw [List.take_succ_eq_append_getElem hk1, keepF_snoc])
    generalize bs[k] = f at *
    obtain ⟨W2, hW2⟩ : ∃ W, wr.alloc (.cells #[.int .i64 f.id, .int .u32 f.addr, .int .i64 f.weight] 27) = W := ⟨_, rfl⟩
    have t1 : Touch wr W2 (fun _ => False) := hW2 ▸ (Touch.refl wr _).alloc _
    have g2 : W2.heap[wr.heap.size]? = some (.cells #[.int .i64 f.id, .int .u32 f.addr, .int .i64 f.weight] 27 (0, 0)) := hW2 ▸ heap_alloc_new ..
    have HG2 := Lib.hid g2
    have HT2 := Lib.hid (HT.out.trans t1 (fun _ _ h => h))
    have HO2 := Lib.hid (OwnS.still HO.out.toS t1)
    have HSF := Lib.hid (HSY.out W2 f.id (HT.out.trans t1 (fun _ _ h => h)))
    have HW2 := Lib.hid hW2
    have hlI : (k : Int) < len := by omega
    clear hr t1 g2 hW2
    obtain ⟨x, hx⟩ : ∃ x, out f.id = x := ⟨_, rfl⟩
    rw [hx] at HSF HS
    clear hx
    go_wp2_with fail
    rw [HW2.out]
    refine HSF.out.mono ?_
    rintro e w4 ⟨rfl, t4⟩
    have g4 := t4.keeps HG2.out (fun h => h)
    have x0 : w4.cell? ⟨wr.heap.size, 0, none⟩ = some (.int .i64 f.id) := cell_of_cells g4 0
    have x1 : w4.cell? ⟨wr.heap.size, 1, none⟩ = some (.int .u32 f.addr) := cell_of_cells g4 1
    have x2 : w4.cell? ⟨wr.heap.size, 2, none⟩ = some (.int .i64 f.weight) := cell_of_cells g4 2
    cases x with
    | true =>
      have HT4 := Lib.hid (HT2.out.trans t4 (fun _ _ h => h))
      have HO4 := Lib.hid (OwnS.still HO2.out t4)
      have HS' : RowKit.Hid (keepF out (bs.take (k + 1)) = keepF out (bs.take k)) := Lib.hid (by rw [HS.out]; simp)
      clear t4 g4 HS
      go_wp2_with fail
      exact ⟨⟨k + 1, n, a', c', hlt, by omega, by go_num, rfl, by rw [HS'.out]; exact HN.out, by rw [HS'.out]; exact HO4.out, HT4.out⟩, by simp [intOf]; omega⟩
    | false =>
    have HS' : RowKit.Hid (keepF out (bs.take (k + 1)) = keepF out (bs.take k) ++ [f]) := Lib.hid (by rw [HS.out]; simp)
    clear HS
    have t5 := (Touch.refl w4 (fun _ => False)).alloc (.cells #[.int .i64 f.id, .int .u32 f.addr, .int .i64 f.weight] 27)
    have HT5 := Lib.hid ((HT2.out.trans t4 (fun _ _ h => h)).trans t5 (fun _ _ h => h))
    have HO5 := Lib.hid (OwnS.still (OwnS.still HO2.out t4) t5)
    have hown : (w4.alloc (.cells #[.int .i64 f.id, .int .u32 f.addr, .int .i64 f.weight] 27)).ownsRow w.heap.size 27 3 (.slice a' n c') n ((keepF out (bs.take k)).map BkD.cells).flatten := by
      have := HO5.out.own
      rwa [List.length_map, ← HN.out] at this
    have HOWN := Lib.hid hown
    have HQ := Lib.hid (news_of (heap_alloc_new w4 (.cells #[.int .i64 f.id, .int .u32 f.addr, .int .i64 f.weight] 27)))
    clear hown t4 t5 g4
    go_wp2_with (at_builtin; (with_reducible refine wp_appR HOWN.out 22 Tryz.underlying22 _ 24 HII.out rfl (by decide) ⟨w4.heap.size, 0, none⟩ 1 1 _ rfl HQ.out (by simp [Value.oneCell']) (by simp only [maxLen]; omega) (by omega) (HT5.out.under (Nat.le_refl _)) (Nat.le_refl _) HT5.out.size rfl _ _ rfl rfl rfl ?_); intro a4 c4 w6 ho4 hg4 hb4 hp4; have HO4 := Lib.hid ho4; have HT4 := Lib.hid (Touch.ofBelow (S := fun _ => False) hb4 (fun k h1 h2 => by omega)); clear ho4 hg4 hb4 hp4)
    have HO6 : RowKit.Hid (OwnK w6 w.heap.size (.slice a4 (n + 1) c4) (keepF out (bs.take (k + 1)))) := Lib.hid (by
      rw [HS'.out]
      unfold OwnK
      rw [List.map_append, List.map_cons, List.map_nil]
      refine HO5.out.add (L2 := [f.cells]) (by simp [BkD.cells]) ?_
      have := HO4.out
      rw [List.length_map, ← HN.out]
      simpa [BkD.cells] using this)
    exact ⟨⟨k + 1, n + 1, a4, c4, hlt, by omega, by go_num, rfl, by rw [HS'.out, List.length_append, ← HN.out]; rfl, HO6.out, HT4.out⟩, by simp [intOf]; omega⟩

end Go.Proofs.YtgpchkobjgglhaaGreatDoor
