/- MaglevOwn answers true for any backends, any number to change their addresses by, any choice of how many slots: a table hangs on numbers and weights alone, and one backend by itself has all slots. No condition. -/
import Derived.Test.YtcfiaflcgphgbaaMagA
import Derived.Test.YtcfiaflcgphgbaaRecArgs
import Derived.Deep.DeepCutAuto
import Derived.Test.YtcfiaflcgphgbaaFrMaglevOwn
set_option linter.unusedVariables false
namespace Go.Proofs.Ytcfiaflcgphgbaa
open Go.RowKit

def prO (j : Nat) : Nat := [3, 7, 13, 61].getD j 0
theorem prO_ok (j : Nat) (h : j < 4) : Prm (prO j) := by
  rcases (by omega : j = 0 ∨ j = 1 ∨ j = 2 ∨ j = 3) with rfl | rfl | rfl | rfl
  · exact prm3
  · exact prm7
  · exact prm13
  · exact prm61
/-- With another address. -/
def flipA (y : Nat) (b : BkD) : BkD := ⟨b.id, (b.addr.toNat ^^^ y : Nat), b.weight⟩
theorem mayKB_flip (y : Nat) (b : BkD) : mayKB (flipA y b) = mayKB b := rfl
theorem okAt_flip (y : Nat) (bs : List BkD) (i : Nat) : okAt (bs.map (flipA y)) i = okAt bs i := by
  unfold okAt
  rw [List.getElem?_map, List.getElem?_map]
  cases bs[i]? with
  | none => rfl
  | some b =>
    simp only [Option.map_some, mayKB_flip]
    cases bs[i - 1]? <;> rfl
theorem gmay_flip (y : Nat) (bs : List BkD) : gmay (bs.map (flipA y)) = gmay bs := by
  unfold gmay
  rw [List.length_map]
  congr 1
  have : okAt (bs.map (flipA y)) = okAt bs := funext (okAt_flip y bs)
  rw [this]
theorem rowsF_flip (y : Nat) (bs : List BkD) (n : Nat) : rowsF (bs.map (flipA y)) n = rowsF bs n := by
  unfold rowsF; rw [List.map_map]; rfl
theorem tab_flip (y : Nat) (bs : List BkD) (n : Nat) : tabF (bs.map (flipA y)) n = tabF bs n := by
  unfold tabF; rw [gmay_flip, rowsF_flip, List.length_map]
theorem tab_one {b : BkD} {n : Nat} (hp : Prm n) (h : mayKB b = true) : ∀ x ∈ tabF [b] n, x = b.id := by
  have hg : gmay [b] = true := by rw [gmay_iff]; exact ⟨by simp, fun i hi => by simp at hi; subst hi; rw [okAt_zero (b := b) rfl]; exact h⟩
  intro x hx
  unfold tabF at hx
  rw [if_neg (by simp [hg])] at hx
  have hI := inv_all (rows_fine hp hg) (by simp [rowsF]) n (Nat.le_refl _)
  rcases hI.mem x hx with h1 | ⟨r, hr, h1⟩
  · have h2 := hI.free
    have h3 : 0 < (stM (rowsF [b] n) n n).1.count (-1) := List.count_pos_iff.2 (h1 ▸ hx)
    omega
  · simp [rowsF] at hr
    rw [h1, hr]; rfl

set_option maxRecDepth 20000 in
set_option maxHeartbeats 4000000 in
theorem own_walk (a : Option Addr) (cap : Nat) (bs : List BkD) (y : Nat) (pick : Int) (w : World) (hr : RowK w a bs.length cap bs) (hok : ∀ b ∈ bs, BkOk b) (hy : y < 4294967296) (hpk : i64 pick) :
    Calls Try.prog 5 #[.slice a bs.length cap, .int .u32 y, .int .i64 pick] w fun e w' => e = .returned (.bool true) ∧ Touch w w' (fun _ => False) := by
  obtain ⟨len, hlen⟩ : ∃ n, bs.length = n := ⟨_, rfl⟩
  rw [hlen] at hr ⊢
  have hcap := hr.hmax
  have hcap1 := hr.hcap
  have HR := Lib.hid hr
  have HL := Lib.hid hlen
  have HOK := Lib.hid hok
  clear hr hlen hok
  by_cases h16 : len ≤ 16
  case neg =>
    have hb : (len : Int) > 16 := by omega
    go_enter Try.func5, Try.ntmps5
    go_wp2_with (go_at_call 8; (with_reducible refine (awake18 _).mono ?_); rintro e w9 ⟨rfl, t9⟩; have HT9 := Lib.hid t9; clear t9)
    go_ret
    exact ⟨rfl, HT9.out⟩
  case pos =>
  have hb16 : ¬ (len : Int) > 16 := by omega
  obtain ⟨U, hU⟩ : ∃ U, u64N pick = U := ⟨_, rfl⟩
  have hu : IntKind.u64.wrap pick = (U : Int) := by rw [u64N_wrap, hU]
  have hUl : U < 18446744073709551616 := by rw [← hU]; exact u64N_lt pick
  obtain ⟨j, hj⟩ : ∃ j, U % 4 = j := ⟨_, rfl⟩
  have hj4 : j < 4 := by omega
  have e1 : (U : Int) % 4 = (j : Int) := by omega
  have e2 : (U : Int).tmod 4 = (j : Int) := by rw [Int.tmod_eq_emod_of_nonneg (by omega)]; exact e1
  obtain ⟨W1, hW1⟩ : ∃ W, w.alloc (.cells #[.int .i64 3, .int .i64 7, .int .i64 13, .int .i64 61] 36) = W := ⟨_, rfl⟩
  obtain ⟨n, hn⟩ : ∃ n, prO j = n := ⟨_, rfl⟩
  have hp : Prm n := hn ▸ prO_ok j hj4
  have g1 : W1.heap[w.heap.size]? = some (.cells #[.int .i64 3, .int .i64 7, .int .i64 13, .int .i64 61] 36 (0, 0)) := hW1 ▸ heap_alloc_new ..
  have c1 : W1.cell? ⟨w.heap.size, j, none⟩ = some (.int .i64 (n : Nat)) := by
    rw [cell_of_cells g1 j, ← hn]
    rcases (by omega : j = 0 ∨ j = 1 ∨ j = 2 ∨ j = 3) with rfl | rfl | rfl | rfl <;> rfl
  have HT1 : RowKit.Hid (Touch w W1 (fun _ => False)) := Lib.hid (hW1 ▸ (Touch.refl w _).alloc _)
  have HC1 := Lib.hid c1
  have HW1 := Lib.hid hW1
  have HP := Lib.hid hp
  have hn3 := hp.lo
  have hn251 := hp.hi
  have HII := Lib.hid infoBk
  clear hn g1 c1 hW1 hp hj
  go_enter Try.func5, Try.ntmps5
  go_upto_region 4 with (fail)
  rw [HW1.out]
  have c1 := HC1.out
  go_wp2_with fail
  clear hu e1 e2 hUl c1
  go_loopw [9, 30] (fun s i wr => ∃ (k : Nat) (a' : Option Addr) (c' : Nat), k ≤ len ∧ i = .int .i64 k ∧ s = .slice a' k c' ∧ OwnK wr w.heap.size (.slice a' k c') ((bs.take k).map (flipA y)) ∧ Touch w wr (fun _ => False)) (fun _ i _ => len - (intOf i).toNat)
  case atStart => exact ⟨0, none, 0, Nat.zero_le _, rfl, rfl, OwnS.nil _ _ _ _, HT1.out⟩
  case round =>
    obtain ⟨k, a', c', hk, rfl, rfl, ho, ht⟩ := hrel
    have HO := Lib.hid ho
    have HT := Lib.hid ht
    clear ho ht
    by_cases hlt : k < len
    case neg =>
      obtain rfl : len = k := by omega
      have hlt' : ¬ (len : Int) < len := by omega
      have HO : RowKit.Hid (OwnK wr w.heap.size (.slice a' len c') (bs.map (flipA y))) := Lib.hid (by have := HO.out; rwa [← HL.out, List.take_length, HL.out] at this)
      go_wp2_with fail
      refine (table_any a len cap n bs wr HP.out (HR.out.still HT.out)).mono ?_
      rintro e w3 ⟨G1, rfl, ho3, t3⟩
      have HT3 := Lib.hid (HT.out.trans t3 (fun _ _ h => h))
      have HK3 := Lib.hid (HO.out.row.2.1.still t3)
      have HI3 := Lib.hid (ho3.rowI (tab_i64 HP.out))
      have HTF : RowKit.Hid (decide (tabF bs n = tabF (bs.map (flipA y)) n) = true) := Lib.hid (decide_eq_true (tab_flip y bs n).symm)
      clear ho3 t3
      go_wp2_with (first
        | (go_at_call 11; (with_reducible refine (table_any a' len c' n (bs.map (flipA y)) _ HP.out HK3.out).mono ?_); rintro e w4 ⟨G2, rfl, ho4, t4⟩; have HT4 := Lib.hid (HT3.out.trans t4 (fun _ _ h => h)); have HI4 := Lib.hid (HI3.out.still t4); have HJ4 := Lib.hid (ho4.rowI (tab_i64 HP.out)); clear ho4 t4)
        | (go_at_call 12; have _u := HJ4; (with_reducible refine (ints_any _ _ _ _ _ _ _ _ _ HI4.out HJ4.out).mono ?_); rintro e w5 ⟨rfl, t5⟩; rw [HTF.out]; have HT5 := Lib.hid (HT4.out.trans t5 (fun _ _ h => h)); clear t5))
      go_loopw [54] (fun i wr => ∃ k : Nat, k ≤ len ∧ i = .int .i64 k ∧ Touch w wr (fun _ => False)) (fun i _ => len - (intOf i).toNat)
      case atStart => exact ⟨0, Nat.zero_le _, rfl, HT5.out⟩
      case round =>
        obtain ⟨k, hk, rfl, ht⟩ := hrel
        have HT := Lib.hid ht
        clear ht
        by_cases hlt : k < len
        case neg =>
          obtain rfl : len = k := by omega
          have hlt' : ¬ (len : Int) < len := by omega
          go_wp2_with (go_at_call 8; (with_reducible refine (awake18 _).mono ?_); rintro e w9 ⟨rfl, t9⟩; have HT9 := Lib.hid (HT.out.trans t9 (fun _ _ h => h)); clear t9)
          go_ret
          exact ⟨rfl, HT9.out⟩
        case pos =>
        have hr := HR.out.still HT.out
        obtain ⟨b, off, rfl⟩ := hr.some (by omega)
        have hk1 : k < bs.length := by rw [HL.out]; exact hlt
        obtain ⟨c0, c1, c2⟩ := hr.cells k hk1
        generalize bs[k] = f at *
        have hlI : (k : Int) < len := by omega
        obtain ⟨W2, hW2⟩ : ∃ W, wr.alloc (.cells #[.int .i64 f.id, .int .u32 f.addr, .int .i64 f.weight] 32) = W := ⟨_, rfl⟩
        have t1 : Touch wr W2 (fun _ => False) := hW2 ▸ (Touch.refl wr _).alloc _
        have g2 : W2.heap[wr.heap.size]? = some (.cells #[.int .i64 f.id, .int .u32 f.addr, .int .i64 f.weight] 32 (0, 0)) := hW2 ▸ heap_alloc_new ..
        have HG2 := Lib.hid g2
        have HT2 := Lib.hid (HT.out.trans t1 (fun _ _ h => h))
        have HW2 := Lib.hid hW2
        have HZ2 : RowKit.Hid (w.heap.size ≤ wr.heap.size) := Lib.hid HT.out.size
        clear hr t1 g2 hW2
        by_cases hm : mayKB f = true
        case neg =>
          have hm : mayKB f = false := by simpa using hm
          have HMK : RowKit.Hid (∀ W, Calls Try.prog 13 #[.agg #[.int .i64 f.id, .int .u32 f.addr, .int .i64 f.weight]] W fun e w' => e = .returned (.bool false) ∧ Touch W w' (fun _ => False)) := Lib.hid (fun W => by rw [← hm]; exact rmayK_any f W)
          clear hm
          go_wp2_with (go_at_call 13; rw [HW2.out]; (with_reducible refine (HMK.out _).mono ?_); rintro e w6 ⟨rfl, t6⟩; have HT6 := Lib.hid (HT2.out.trans t6 (fun _ _ h => h)); clear t6)
          exact ⟨⟨k + 1, hlt, by go_num, HT6.out⟩, by simp [intOf]; omega⟩
        case pos =>
          have HMK : RowKit.Hid (∀ W, Calls Try.prog 13 #[.agg #[.int .i64 f.id, .int .u32 f.addr, .int .i64 f.weight]] W fun e w' => e = .returned (.bool true) ∧ Touch W w' (fun _ => False)) := Lib.hid (fun W => by rw [← hm]; exact rmayK_any f W)
          have HONE := Lib.hid (tab_one HP.out hm)
          clear hm
          go_wp2_with fail
          rw [HW2.out]
          refine (HMK.out W2).mono ?_
          rintro e w6 ⟨rfl, t6⟩
          have g6 := t6.keeps HG2.out (fun h => h)
          have x0 : w6.cell? ⟨wr.heap.size, 0, none⟩ = some (.int .i64 f.id) := cell_of_cells g6 0
          have x1 : w6.cell? ⟨wr.heap.size, 1, none⟩ = some (.int .u32 f.addr) := cell_of_cells g6 1
          have x2 : w6.cell? ⟨wr.heap.size, 2, none⟩ = some (.int .i64 f.weight) := cell_of_cells g6 2
          have HK6 : RowKit.Hid (RowK (w6.alloc (.cells #[.int .i64 f.id, .int .u32 f.addr, .int .i64 f.weight] 32)) (some ⟨w6.heap.size, 0, none⟩) 1 1 [f]) := Lib.hid
            ((OwnS.lit w6 w6.heap.size (Nat.le_refl _) 32 3 1 ([f].map BkD.cells) _ rfl rfl (by simp [BkD.cells]) (by omega)).row').2.1
          have t7 := (Touch.refl w6 (fun _ => False)).alloc (.cells #[.int .i64 f.id, .int .u32 f.addr, .int .i64 f.weight] 32)
          have HT7 := Lib.hid ((HT2.out.trans t6 (fun _ _ h => h)).trans t7 (fun _ _ h => h))
          have HG7 := Lib.hid (t7.keeps g6 (fun h => h))
          clear t6 g6 t7
          go_wp2_with fail
          refine (table_any _ _ _ n [f] _ HP.out HK6.out).mono ?_
          rintro e w7 ⟨G7, rfl, ho7, t7⟩
          have HT7 := Lib.hid (HT7.out.trans t7 (fun _ _ h => h))
          have HG7 := Lib.hid (t7.keeps HG7.out (fun h => h))
          have HI7 := Lib.hid (ho7.rowI (tab_i64 HP.out))
          clear ho7 t7 x0 x1 x2
          have hbn : ((n : Int) != n) = false := bne_eq_false_iff_eq.2 rfl
          go_wp2_with fail
          go_loopw [71] (fun i wv => ∃ q : Nat, q ≤ n ∧ i = .int .i64 q ∧ wv = w7) (fun i _ => n - (intOf i).toNat)
          case atStart => exact ⟨0, Nat.zero_le _, rfl, rfl⟩
          case round =>
            obtain ⟨q, hq, rfl, rfl⟩ := hrel
            by_cases hqn : q < n
            case pos =>
              have hqI : (q : Int) < n := by omega
              obtain ⟨b7, off7, hb7, hc7⟩ := HI7.out.some (by omega)
              cases hb7
              have hql : q < (tabF [f] n).length := by rw [HI7.out.1]; exact hqn
              have d0 := hc7 q hql
              rw [HONE.out _ (List.getElem_mem hql), Nat.zero_add] at d0
              have x0 := cell_of_cells HG7.out 0
              simp only [List.getElem?_toArray, List.getElem?_cons_zero] at x0
              have hbf : (f.id != f.id) = false := bne_eq_false_iff_eq.2 rfl
              clear hc7
              go_wp2_with fail
              exact ⟨⟨q + 1, hqn, by go_num, trivial⟩, by simp [intOf]; omega⟩
            case neg =>
              obtain rfl : n = q := by omega
              have hqI : ¬ (n : Int) < n := by omega
              go_wp2_with fail
              exact ⟨⟨k + 1, hlt, by go_num, HT7.out⟩, by simp [intOf]; omega⟩
    case pos =>
    have hr := HR.out.still HT.out
    obtain ⟨b, off, rfl⟩ := hr.some (by omega)
    have hk1 : k < bs.length := by rw [HL.out]; exact hlt
    obtain ⟨c0, c1, c2⟩ := hr.cells k hk1
    have HS : RowKit.Hid ((bs.take (k + 1)).map (flipA y) = (bs.take k).map (flipA y) ++ [flipA y bs[k]]) := Lib.hid (by rw [List.take_succ_eq_append_getElem hk1, List.map_append]; rfl)
    have HLN : RowKit.Hid (((bs.take k).map (flipA y)).length = k) := Lib.hid (by rw [List.length_map, List.length_take]; omega)
    have hbk := HOK.out _ (List.getElem_mem hk1)
    generalize bs[k] = f at *
    obtain ⟨fi, fa, fw⟩ := f
    obtain ⟨hf1, hf2, hf3⟩ := hbk
    obtain ⟨an, rfl⟩ : ∃ an : Nat, fa = (an : Int) := ⟨fa.toNat, by have := hf2.1; simp only at this; omega⟩
    have han : an < 4294967296 := by have := hf2.2; simp only at this; omega
    have hxo := u32_xor_nat an y han hy
    have hxl := xor_lt32 an y han hy
    have HFC : RowKit.Hid ((flipA y ⟨fi, an, fw⟩).cells = [.int .i64 fi, .int .u32 ((an ^^^ y : Nat)), .int .i64 fw]) := Lib.hid rfl
    simp only at c0 c1 c2
    generalize an ^^^ y = z at *
    have hlI : (k : Int) < len := by omega
    have t5 := ((Touch.refl wr (fun _ => False)).alloc (.cells #[.int .i64 fi, .int .u32 (z : Nat), .int .i64 fw] 32)).alloc (.cells #[.int .i64 fi, .int .u32 (z : Nat), .int .i64 fw] 32)
    have HT5 := Lib.hid (HT.out.trans t5 (fun _ _ h => h))
    have HO5 := Lib.hid (OwnS.still HO.out.toS t5)
    have hown : ((wr.alloc (.cells #[.int .i64 fi, .int .u32 (z : Nat), .int .i64 fw] 32)).alloc (.cells #[.int .i64 fi, .int .u32 (z : Nat), .int .i64 fw] 32)).ownsRow w.heap.size 32 3 (.slice a' k c') k (((bs.take k).map (flipA y)).map BkD.cells).flatten := by
      have := HO5.out.own
      rwa [List.length_map, HLN.out] at this
    have HOWN := Lib.hid hown
    have hq : ((wr.alloc (.cells #[.int .i64 fi, .int .u32 (z : Nat), .int .i64 fw] 32)).alloc (.cells #[.int .i64 fi, .int .u32 (z : Nat), .int .i64 fw] 32)).heap[wr.heap.size + 1]? = some (.cells #[.int .i64 fi, .int .u32 (z : Nat), .int .i64 fw] 32 (0, 0)) := by
      have := heap_alloc_new (wr.alloc (.cells #[.int .i64 fi, .int .u32 (z : Nat), .int .i64 fw] 32)) (.cells #[.int .i64 fi, .int .u32 (z : Nat), .int .i64 fw] 32)
      simpa using this
    have HQ := Lib.hid (news_of hq)
    clear hr hown t5 hq hf1 hf2 hf3
    go_wp2_with (at_builtin; (with_reducible refine wp_appR HOWN.out 28 Try.underlying28 _ 24 HII.out rfl (by decide) ⟨wr.heap.size + 1, 0, none⟩ 1 1 _ rfl HQ.out (by simp [Value.oneCell']) (by simp only [maxLen]; omega) (by omega) (HT5.out.under (Nat.le_refl _)) (Nat.le_refl _) HT5.out.size rfl _ _ rfl rfl rfl ?_); intro a4 c4 w6 ho4 hg4 hb4 hp4; have HO4 := Lib.hid ho4; have HT4 := Lib.hid (Touch.ofBelow (S := fun _ => False) hb4 (fun k h1 h2 => by omega)); clear ho4 hg4 hb4 hp4)
    have HO6 : RowKit.Hid (OwnK w6 w.heap.size (.slice a4 (k + 1) c4) ((bs.take (k + 1)).map (flipA y))) := Lib.hid (by
      rw [HS.out]
      unfold OwnK
      rw [List.map_append, List.map_cons, List.map_nil, HFC.out]
      refine HO5.out.add (L2 := [[.int .i64 fi, .int .u32 (z : Nat), .int .i64 fw]]) (by simp) ?_
      have := HO4.out
      rw [List.length_map, HLN.out]
      simpa using this)
    exact ⟨⟨k + 1, a4, c4, hlt, by go_num, rfl, HO6.out, HT4.out⟩, by simp [intOf]; omega⟩

open Go.ChangeShapes Go.WideShapes Go.ChangeAt in
theorem maglevOwn_holds : Rows.MaglevOwnSaid := by
  refine maglevOwn.said fun H enc W base v0 v1 v2 d0 d1 d2 p0 p1 p2 h0 h1 h2 => ?_
  obtain ⟨a, cap, bs, hv, hr, hok⟩ := h0.tr.backs
  obtain ⟨a', len', cap', rfl⟩ := okWide_slice Try.underlying28 h0.ok
  simp only [Value.cells, List.cons.injEq, Value.slice.injEq, and_true] at hv
  obtain ⟨rfl, rfl, rfl⟩ := hv
  obtain ⟨y, rfl, y1, y2, _⟩ := h1.u32 Try.underlying30
  obtain ⟨p, rfl, m1, m2, _⟩ := h2.i64 Try.underlying3
  obtain ⟨yn, rfl⟩ : ∃ yn : Nat, y = (yn : Int) := ⟨y.toNat, by omega⟩
  exact (own_walk a' cap' bs yn p W hr hok (by omega) ⟨m1, m2⟩).mono fun e w' h => ⟨h.1, h.2.below (fun _ _ h => h.elim) (Nat.le_refl _)⟩
end Go.Proofs.Ytcfiaflcgphgbaa
