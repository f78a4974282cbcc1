/- The reference: a backend by its number, who stays; a pick of any tuple. -/
import Derived.Test.YtfjnhaoiecndpaaChoG
import Derived.Test.YtfjnhaoiecndpaaMagB
set_option linter.unusedVariables false
namespace Go.Proofs.Ytfjnhaoiecndpaa
open Go.RowKit

set_option maxRecDepth 20000 in
set_option maxHeartbeats 2000000 in
theorem rfind_any (a : Option Addr) (len cap : Nat) (bs : List BkD) (id : Int) (w : World) (hr : RowK w a len cap bs) :
    Calls Try.prog 16 #[.slice a len cap, .int .i64 id] w fun e w' => e = .returned (findV bs id) ∧ Touch w w' (fun _ => False) := by
  have hl := hr.len
  have hcap := hr.hmax
  have hcap1 := hr.hcap
  obtain ⟨W0, hW0⟩ : ∃ W, w.alloc (.cells #[.int .i64 0, .int .u32 0, .int .i64 0] 28) = W := ⟨_, rfl⟩
  have t0 : Touch w W0 (fun _ => False) := hW0 ▸ (Touch.refl w _).alloc _
  have g0 : W0.heap[w.heap.size]? = some (.cells #[.int .i64 0, .int .u32 0, .int .i64 0] 28 (0, 0)) := hW0 ▸ heap_alloc_new ..
  have HR := Lib.hid (hr.still t0)
  have HL := Lib.hid hl
  have HT0 := Lib.hid t0
  have HG0 := Lib.hid g0
  have HII := Lib.hid infoBk3
  have HW0 := Lib.hid hW0
  clear hr hl t0 g0 hW0
  go_enter Try.func16, Try.ntmps16
  go_upto_region 1 with (fail)
  rw [HW0.out]
  go_wp2_with fail
  go_loopw [10] (fun i wr => ∃ k : Nat, k ≤ len ∧ i = .int .i64 k ∧ findF (bs.take k) id = none ∧ Touch W0 wr (fun _ => False)) (fun i _ => len - (intOf i).toNat)
  case atStart => exact ⟨0, Nat.zero_le _, rfl, rfl, Touch.refl _ _⟩
  case round =>
    obtain ⟨k, hk, rfl, hf, ht⟩ := hrel
    have HT := Lib.hid ht
    have HF := Lib.hid hf
    have HG := Lib.hid (ht.keeps HG0.out (fun h => h))
    clear ht hf
    by_cases hlt : k < len
    case neg =>
      obtain rfl : len = k := by omega
      have hlt' : ¬ (len : Int) < len := by omega
      go_wp2_with (refine store_row rfl 28 (.tmp 4) (.tmp 20) rfl w.heap.size _ rfl rfl _ _ HG.out HII.out rfl rfl ?_)
      refine ret_row1 rfl rfl w.heap.size ?t ?cs ?fr _ rfl ?hg Try.underlying28 rfl ?hi _ rfl ?hR
      case hg => exact setRow_heap _ _ _ _ _ _ HG.out
      case hi => exact HII.out
      case hR =>
        refine ⟨?_, (HT0.out.trans HT.out (fun _ _ h => h)).setRow _ _ (fun h => absurd h (Nat.lt_irrefl _))⟩
        have e := HF.out
        rw [← HL.out, List.take_length] at e
        unfold findV
        rw [e]; rfl
    case pos =>
    have hr := HR.out.still HT.out
    obtain ⟨b, off, rfl⟩ := hr.some (by omega)
    have hk1 : k < bs.length := by rw [HL.out]; exact hlt
    obtain ⟨c0, c1, c2⟩ := hr.cells k hk1
    have HS1 : RowKit.Hid (findF (bs.take (k + 1)) id = if bs[k].id == id then some bs[k] else none) := Lib.hid (by
      rw [List.take_succ_eq_append_getElem hk1]
      unfold findF
      rw [List.find?_append]
      have := HF.out
      unfold findF at this
      rw [this]
      simp only [Option.none_or, List.find?_cons, List.find?_nil]
      split <;> simp_all)
    have HS2 : RowKit.Hid (bs[k].id = id → findF bs id = some bs[k]) := Lib.hid (fun h => by
      have key : bs.find? (fun b => b.id == id) = (bs.take (k + 1) ++ bs.drop (k + 1)).find? (fun b => b.id == id) := by rw [List.take_append_drop]
      have h2 := HS1.out
      unfold findF at h2 ⊢
      rw [key, List.find?_append, h2, if_pos (beq_iff_eq.2 h)]
      rfl)
    generalize bs[k] = f at *
    obtain ⟨W2, hW2⟩ : ∃ W, wr.alloc (.cells #[.int .i64 f.id, .int .u32 f.addr, .int .i64 f.weight] 28) = W := ⟨_, rfl⟩
    have t2 : Touch wr W2 (fun _ => False) := hW2 ▸ (Touch.refl wr _).alloc _
    have g2 : W2.heap[wr.heap.size]? = some (.cells #[.int .i64 f.id, .int .u32 f.addr, .int .i64 f.weight] 28 (0, 0)) := hW2 ▸ heap_alloc_new ..
    have HX0 : RowKit.Hid (W2.cell? ⟨wr.heap.size, 0, none⟩ = some (.int .i64 f.id)) := Lib.hid (cell_of_cells g2 0)
    have HX1 : RowKit.Hid (W2.cell? ⟨wr.heap.size, 1, none⟩ = some (.int .u32 f.addr)) := Lib.hid (cell_of_cells g2 1)
    have HX2 : RowKit.Hid (W2.cell? ⟨wr.heap.size, 2, none⟩ = some (.int .i64 f.weight)) := Lib.hid (cell_of_cells g2 2)
    have HT2 := Lib.hid (HT.out.trans t2 (fun _ _ h => h))
    have HG2 := Lib.hid (t2.keeps HG.out (fun h => h))
    have HW2 := Lib.hid hW2
    have hkI : (k : Int) < len := by omega
    clear hr t2 g2 hW2
    by_cases hid : f.id = id
    · have HV := Lib.hid (HS2.out hid)
      subst hid
      clear HS1 HS2
      go_upto_region 4 with (fail)
      rw [HW2.out]
      have x0 := HX0.out
      have x1 := HX1.out
      have x2 := HX2.out
      go_wp2_with (refine store_row rfl 28 (.tmp 4) (.tmp 18) rfl w.heap.size _ rfl rfl _ _ HG2.out HII.out rfl rfl ?_)
      refine ret_row1 rfl rfl w.heap.size _ #[.int .i64 f.id, .int .u32 f.addr, .int .i64 f.weight] _ _ rfl (setRow_heap _ _ _ _ _ _ HG2.out) Try.underlying28 rfl HII.out (.bool true) rfl ?_
      refine ⟨?_, (HT0.out.trans HT2.out (fun _ _ h => h)).setRow _ _ (fun h => absurd h (Nat.lt_irrefl _))⟩
      unfold findV
      rw [HV.out]
      rfl
    · have hb : (f.id == id) = false := beq_eq_false_iff_ne.2 hid
      go_upto_region 4 with (fail)
      rw [HW2.out]
      have x0 := HX0.out
      go_wp2_with fail
      exact ⟨⟨k + 1, hlt, by go_num, by rw [HS1.out]; simp [hid], HT2.out⟩, by simp [intOf]; omega⟩

set_option maxRecDepth 20000 in
set_option maxHeartbeats 2000000 in
theorem rwithout_any (a ax : Option Addr) (len cap lx cx : Nat) (bs : List BkD) (xs : List Int) (w : World) (hr : RowK w a len cap bs) (hlen : len ≤ 1000) (hx : RowI w ax lx cx xs) :
    Calls Try.prog 14 #[.slice a len cap, .slice ax lx cx] w fun e w' => ∃ a' c', e = .returned (.slice a' (keepF (outB xs) bs).length c') ∧ OwnK w' w.heap.size (.slice a' (keepF (outB xs) bs).length c') (keepF (outB xs) bs) ∧ Touch w w' (fun _ => False) := by
  have hl := hr.len
  have hcap := hr.hmax
  have hcap1 := hr.hcap
  have hcx := hx.2.2.1
  have hcx1 := hx.2.1
  have HR := Lib.hid hr
  have HL := Lib.hid hl
  have HX := Lib.hid hx
  have HLX := Lib.hid hx.1
  have HII := Lib.hid infoBk
  clear hr hl hx
  go_enter Try.func14, Try.ntmps14
  go_wp2_with fail
  go_loopw [5, 13] (fun s i wr => ∃ (k n : Nat) (a' : Option Addr) (c' : Nat), k ≤ len ∧ n ≤ k ∧ i = .int .i64 k ∧ s = .slice a' n c' ∧ n = (keepF (outB xs) (bs.take k)).length ∧ OwnK wr w.heap.size (.slice a' n c') (keepF (outB xs) (bs.take k)) ∧ Touch w wr (fun _ => False)) (fun _ i _ => len - (intOf i).toNat)
  case atStart => exact ⟨0, 0, none, 0, Nat.zero_le _, Nat.le_refl _, rfl, rfl, rfl, OwnS.nil _ _ _ _, Touch.refl _ _⟩
  case round =>
    obtain ⟨k, n, a', c', hk, hnk, rfl, rfl, hn, ho, ht⟩ := hrel
    have HN := Lib.hid hn
    have HO := Lib.hid ho
    have HT := Lib.hid ht
    clear ho ht hn
    by_cases hlt : k < len
    case neg =>
      obtain rfl : len = k := by omega
      have hlt' : ¬ (len : Int) < len := by omega
      go_wp2
      go_ret
      have e : bs.take len = bs := by rw [← HL.out, List.take_length]
      have h1 := HO.out
      have h2 := HN.out
      rw [e] at h1 h2
      exact ⟨a', c', by rw [← h2]; rfl, by rw [← h2]; exact h1, HT.out⟩
    case pos =>
    have hr := HR.out.still HT.out
    obtain ⟨b, off, rfl⟩ := hr.some (by omega)
    have hk1 : k < bs.length := by rw [HL.out]; exact hlt
    obtain ⟨c0, c1, c2⟩ := hr.cells k hk1
    have HS : RowKit.Hid (keepF (outB xs) (bs.take (k + 1)) = keepF (outB xs) (bs.take k) ++ (if outB xs bs[k].id then [] else [bs[k]])) := Lib.hid (by rw [List.take_succ_eq_append_getElem hk1, keepF_snoc])
    generalize bs[k] = f at *
    obtain ⟨W2, hW2⟩ : ∃ W, wr.alloc (.cells #[.int .i64 f.id, .int .u32 f.addr, .int .i64 f.weight] 28) = W := ⟨_, rfl⟩
    have t1 : Touch wr W2 (fun _ => False) := hW2 ▸ (Touch.refl wr _).alloc _
    have g2 : W2.heap[wr.heap.size]? = some (.cells #[.int .i64 f.id, .int .u32 f.addr, .int .i64 f.weight] 28 (0, 0)) := hW2 ▸ heap_alloc_new ..
    have x0 : W2.cell? ⟨wr.heap.size, 0, none⟩ = some (.int .i64 f.id) := cell_of_cells g2 0
    have x1 : W2.cell? ⟨wr.heap.size, 1, none⟩ = some (.int .u32 f.addr) := cell_of_cells g2 1
    have x2 : W2.cell? ⟨wr.heap.size, 2, none⟩ = some (.int .i64 f.weight) := cell_of_cells g2 2
    have HX0 := Lib.hid x0
    have HX1 := Lib.hid x1
    have HX2 := Lib.hid x2
    have HT2 := Lib.hid (HT.out.trans t1 (fun _ _ h => h))
    have HO2 := Lib.hid (OwnS.still HO.out.toS t1)
    have HXR := Lib.hid (HX.out.still HT2.out)
    have HW2 := Lib.hid hW2
    have hlI : (k : Int) < len := by omega
    clear hr t1 g2 hW2 x0 x1 x2
    go_upto_region 5 with (fail)
    rw [HW2.out]
    go_wp2_with fail
    go_loopw [8, 19] (fun s i wv => ∃ (j : Nat), j ≤ lx ∧ i = .int .i64 j ∧ s = .bool (outB (xs.take j) f.id) ∧ wv = W2) (fun _ i _ => lx - (intOf i).toNat)
    case atStart => exact ⟨0, Nat.zero_le _, rfl, by rw [List.take_zero, outB_nil], rfl⟩
    case round =>
      obtain ⟨j, hj, rfl, rfl, hwv⟩ := hrel
      subst hwv
      by_cases hjt : j < lx
      case pos =>
        obtain ⟨bx, ox, rfl, hcj⟩ := HXR.out.some (by omega)
        have hj1 : j < xs.length := by rw [HLX.out]; exact hjt
        have cj := hcj j hj1
        have x0 := HX0.out
        have hjI : (j : Int) < lx := by omega
        have HSN : RowKit.Hid (outB (xs.take (j + 1)) f.id = (outB (xs.take j) f.id || (xs[j] == f.id))) := Lib.hid (by rw [List.take_succ_eq_append_getElem hj1, outB_snoc])
        generalize xs[j] = x at *
        generalize outB (xs.take j) f.id = p at *
        obtain ⟨q, hq⟩ : ∃ q, (x == f.id) = q := ⟨_, rfl⟩
        rw [hq] at HSN
        clear hcj
        cases p with
        | true =>
          go_wp2
          exact ⟨⟨j + 1, hjt, by go_num, by rw [HSN.out]; rfl, trivial⟩, by simp [intOf]; omega⟩
        | false =>
          go_wp2
          exact ⟨⟨j + 1, hjt, by go_num, by rw [HSN.out]; rfl, trivial⟩, by simp [intOf]; omega⟩
      case neg =>
      obtain rfl : lx = j := by omega
      have hjt' : ¬ (lx : Int) < lx := by omega
      have e : xs.take lx = xs := by rw [← HLX.out, List.take_length]
      rw [e]
      obtain ⟨x, hx⟩ : ∃ x, outB xs f.id = x := ⟨_, rfl⟩
      rw [hx] at HS ⊢
      clear hx e
      cases x with
      | true =>
        have HS' : RowKit.Hid (keepF (outB xs) (bs.take (k + 1)) = keepF (outB xs) (bs.take k)) := Lib.hid (by rw [HS.out]; simp)
        clear HS
        go_wp2_with fail
        exact ⟨⟨k + 1, n, a', c', hlt, by omega, by go_num, rfl, by rw [HS'.out]; exact HN.out, by rw [HS'.out]; exact HO2.out, HT2.out⟩, by simp [intOf]; omega⟩
      | false =>
      have HS' : RowKit.Hid (keepF (outB xs) (bs.take (k + 1)) = keepF (outB xs) (bs.take k) ++ [f]) := Lib.hid (by rw [HS.out]; simp)
      clear HS
      have t5 := (Touch.refl wr (fun _ => False)).alloc (.cells #[.int .i64 f.id, .int .u32 f.addr, .int .i64 f.weight] 28)
      have HT5 := Lib.hid (HT2.out.trans t5 (fun _ _ h => h))
      have HO5 := Lib.hid (OwnS.still HO2.out t5)
      have hown : (wr.alloc (.cells #[.int .i64 f.id, .int .u32 f.addr, .int .i64 f.weight] 28)).ownsRow w.heap.size 28 3 (.slice a' n c') n ((keepF (outB xs) (bs.take k)).map BkD.cells).flatten := by
        have := HO5.out.own
        rwa [List.length_map, ← HN.out] at this
      have HOWN := Lib.hid hown
      have HQ := Lib.hid (news_of (heap_alloc_new wr (.cells #[.int .i64 f.id, .int .u32 f.addr, .int .i64 f.weight] 28)))
      have x0 := HX0.out
      have x1 := HX1.out
      have x2 := HX2.out
      clear hown t5
      go_wp2_with (at_builtin; (with_reducible refine wp_appR HOWN.out 22 Try.underlying22 _ 24 HII.out rfl (by decide) ⟨wr.heap.size, 0, none⟩ 1 1 _ rfl HQ.out (by simp [Value.oneCell']) (by simp only [maxLen]; omega) (by omega) (HT5.out.under (Nat.le_refl _)) (Nat.le_refl _) HT5.out.size rfl _ _ rfl rfl rfl ?_); intro a4 c4 w6 ho4 hg4 hb4 hp4; have HO4 := Lib.hid ho4; have HT4 := Lib.hid (Touch.ofBelow (S := fun _ => False) hb4 (fun k h1 h2 => by omega)); clear ho4 hg4 hb4 hp4)
      have HO6 : RowKit.Hid (OwnK w6 w.heap.size (.slice a4 (n + 1) c4) (keepF (outB xs) (bs.take (k + 1)))) := Lib.hid (by
        rw [HS'.out]
        unfold OwnK
        rw [List.map_append, List.map_cons, List.map_nil]
        refine HO5.out.add (L2 := [f.cells]) (by simp [BkD.cells]) ?_
        have := HO4.out
        rw [List.length_map, ← HN.out]
        simpa [BkD.cells] using this)
      exact ⟨⟨k + 1, n + 1, a4, c4, hlt, by omega, by go_num, rfl, by rw [HS'.out, List.length_append, ← HN.out]; rfl, HO6.out, HT4.out⟩, by simp [intOf]; omega⟩
end Go.Proofs.Ytfjnhaoiecndpaa
