/- OctetBack answers true for any calls that hold together at most 1048576 values: what is written is read. -/
import Derived.Test.YtpbcglbjgahilaaOctAwake
import Derived.Test.YtpbcglbjgahilaaOctBackMath
import Derived.Test.YtpbcglbjgahilaaOctBackRead
import Derived.Test.YtpbcglbjgahilaaOctTwo
import Derived.Test.YtpbcglbjgahilaaFrOctetBackU
import Derived.Deep.RegionWith
set_option linter.unusedVariables false
namespace Go.Proofs.Ytpbcglbjgahilaa
open Go.RowKit

theorem left_whole (l : List CallD) (k : Nat) (hr : ∀ c ∈ l, c.raw.length = c.rl) : (encs (l.take k)).length = wsum (l.take k) := encs_length _ (fun c hc => hr c (List.mem_of_mem_take hc))
theorem end_full (l : List CallD) (k : Nat) (hr : ∀ c ∈ l, c.raw.length = c.rl) : endOf (leftX l k (encs (l.take k))).length (leftE l k (encs (l.take k))) = 0 := by
  have h := left_whole l k hr
  unfold leftX leftE
  rw [runs_ok _ _ _ (by omega)]
  simp [endOf, ← h]
theorem end_short (l : List CallD) (k : Nat) (hr : ∀ c ∈ l, c.raw.length = c.rl) (h0 : 0 < (encs (l.take k)).length) :
    endOf (leftX l k ((encs (l.take k)).take ((encs (l.take k)).length - 1))).length (leftE l k ((encs (l.take k)).take ((encs (l.take k)).length - 1))) = 2 := by
  have h := left_whole l k hr
  unfold leftX leftE
  rw [runs_bad _ _ _ (by simp; omega)]
  simp [endOf]
theorem end_more (l : List CallD) (k : Nat) (hr : ∀ c ∈ l, c.raw.length = c.rl) : endOf (leftX l k (encs (l.take k) ++ [0])).length (leftE l k (encs (l.take k) ++ [0])) = 3 := by
  have h := left_whole l k hr
  unfold leftX leftE
  rw [runs_ok _ _ _ (by simp; omega), ← h]
  simp [endOf]

set_option maxRecDepth 20000 in
set_option maxHeartbeats 4000000 in
theorem back_walk (la : Option Addr) (len cap : Nat) (l : List CallD) (w : World) (hl : l.length = len) (hlc : len ≤ cap) (hcm : cap ≤ 9223372036854775807) (hlen : len ≤ 1048576) (hsum : rawSum l ≤ 1048576)
    (hc : len = 0 ∨ ∃ b off, la = some ⟨b, off, none⟩ ∧ ∀ i (hi : i < l.length), CallAt w ⟨b, off, none⟩ i l[i]) :
    Calls Try.prog 6 #[.slice la len cap] w fun e w' => e = .returned (.bool true) ∧ Below w.heap.size w w' := by
  have HC := Lib.hid hc
  have HL := Lib.hid hl
  clear hc hl
  go_enter Try.func6, Try.ntmps6
  go_wp2_with fail
  obtain ⟨W0, hW0⟩ : ∃ W0, ((w.alloc (.cells #[.slice la len cap] 22)).alloc (.cells #[.slice none 0 0] 26)).alloc (.cells #[.int .i64 0] 3) = W0 := ⟨_, rfl⟩
  have hsz0 : W0.heap.size = w.heap.size + 3 := by rw [← hW0]; simp
  have hL0 : W0.cell? ⟨w.heap.size, 0, none⟩ = some (.slice la len cap) := by
    have h := cell_of_cells (heap_alloc_new w (.cells #[.slice la len cap] 22)) 0
    have t : Touch (w.alloc (.cells #[.slice la len cap] 22)) W0 (fun _ => False) := hW0 ▸ ((Touch.refl _ _).alloc _).alloc _
    rw [t.cell (p := ⟨w.heap.size, 0, none⟩) (by simp) (fun h => h)]
    simp
  have hN0 : W0.heap[w.heap.size + 1 + 1]? = some (.cells #[.int .i64 0] 3 (0, 0)) := by
    have h := heap_alloc_new ((w.alloc (.cells #[.slice la len cap] 22)).alloc (.cells #[.slice none 0 0] 26)) (.cells #[.int .i64 0] 3)
    rw [hW0] at h
    simpa using h
  have hw0 : WrB W0 w.heap.size (w.heap.size + 1) (.slice none 0 0) [] := by
    have h := WrB.new (w.alloc (.cells #[.slice la len cap] 22)) _ rfl
    have t : Touch ((w.alloc (.cells #[.slice la len cap] 22)).alloc (.cells #[.slice none 0 0] 26)) W0 (fun _ => False) := hW0 ▸ (Touch.refl _ _).alloc _
    have h2 := h.touch t (fun h => h) (fun _ _ h => h)
    have e : (w.alloc (.cells #[.slice la len cap] 22)).heap.size = w.heap.size + 1 := by simp
    rw [e] at h2
    exact ⟨h2.head, by omega, OwnB.nil _ _ _, h2.apart⟩
  have hb0 : Below w.heap.size w W0 := by
    have t : Touch w W0 (fun _ => False) := hW0 ▸ (((Touch.refl _ _).alloc _).alloc _).alloc _
    exact t.below (fun _ _ h => h.elim) (Nat.le_refl _)
  rw [hW0]
  clear hW0
  have hcN0 := cell_of_cells hN0 0
  simp at hcN0
  go_loopw [5] (fun i wr => ∃ (k : Nat) (v : Value) (xs : List Nat), k ≤ len ∧ k ≤ 40 ∧ i = .int .i64 k ∧ xs = encs (l.take k) ∧ WrB wr w.heap.size (w.heap.size + 1) v xs ∧ (∀ j, v.ownBlock = some j → w.heap.size + 3 ≤ j) ∧ wr.cell? ⟨w.heap.size, 0, none⟩ = some (.slice la len cap) ∧ wr.heap[w.heap.size + 1 + 1]? = some (.cells #[.int .i64 k] 3 (0, 0)) ∧ Below w.heap.size w wr ∧ w.heap.size + 3 ≤ wr.heap.size) (fun i _ => len - (intOf i).toNat)
  case atStart => exact ⟨0, _, [], Nat.zero_le _, by omega, rfl, by simp [encs], hw0, by simp [Value.ownBlock], hL0, hN0, hb0, by omega⟩
  case round =>
    obtain ⟨k, v, xs, hk, hk40, rfl, hxs, hwr, hv, hL, hN, hbel, hsz⟩ := hrel
    clear hw0 hb0 hL0 hN0 hcN0 hsz0
    have hcN := cell_of_cells hN 0
    have hfN := free_of_cells hN 0
    simp at hcN
    have hrsk : rawSum (l.take k) ≤ rawSum l := by
      conv => rhs; rw [← List.take_append_drop k l]
      rw [rawSum_append]; omega
    have hraw : ∀ c ∈ l, c.raw.length = c.rl := by
      intro c hcm
      obtain ⟨i, hi, rfl⟩ := List.mem_iff_getElem.1 hcm
      obtain hz | ⟨b, off, _, hc⟩ := HC.out
      · have := HL.out; omega
      · exact (hc i hi).row.1
    have HRAW := Lib.hid hraw
    have HCA : RowKit.Hid (∀ W' : World, Below w.heap.size w W' → (len = 0 ∨ ∃ b off, la = some ⟨b, off, none⟩ ∧ ∀ i (hi : i < l.length), CallAt W' ⟨b, off, none⟩ i l[i])) := Lib.hid (fun W' hb => HC.out.imp id (fun ⟨b, off, e, h⟩ => ⟨b, off, e, fun i hi => (h i hi).old hb⟩))
    have hxl : xs.length ≤ 8 * k + rawSum (l.take k) := by
      rw [hxs, encs_length _ (fun c hc => hraw c (List.mem_of_mem_take hc))]
      have := wsum_le (l.take k)
      rw [List.length_take] at this
      omega
    clear hraw
    by_cases hk0 : 40 ≤ k
    · have hg : ¬ (k : Int) < 40 := by omega
      by_cases hlt0 : (k : Int) < len
      all_goals (
      have HXS := Lib.hid hxs
      have hEF := Lib.hid (end_full l k HRAW.out)
      have hES := Lib.hid (end_short l k HRAW.out)
      have hEM := Lib.hid (end_more l k HRAW.out)
      rw [← hxs] at hEF hES hEM
      have hkk := hk
      clear hxs hN
      go_wp2_with fail
      refine (wbytes_any _ _ _ _ _ hwr (by omega)).mono ?_
      rintro e w3 ⟨a3, c3, rfl, hf⟩
      have hown3 := hf.1
      have t3 := hf.2
      obtain ⟨a3', c3', hv3, hr3⟩ := hf.row
      simp only [Value.slice.injEq, true_and] at hv3
      obtain ⟨rfl, rfl⟩ := hv3
      have hL3 := (t3.cell (p := ⟨w.heap.size, 0, none⟩) (cell_lt hL) (fun h => h)).trans hL
      have hN3 := (t3.cell (p := ⟨w.heap.size + 1 + 1, 0, none⟩) (cell_lt hcN) (fun h => h)).trans hcN
      have hb3 : Below w.heap.size w w3 := hbel.trans (t3.below (fun _ _ h => h.elim) hbel.size)
      have H1 := Lib.hid (read_any w.heap.size (w.heap.size + 1 + 1) la _ cap l k a3 _ c3 xs w3 hr3 (by omega) hL3 hN3 hkk HL.out hlc hcm hsum (HCA.out w3 hb3))
      have hsz3 := t3.size
      have HX := Lib.hid hxl
      clear hwr hv hL hcN hfN hf t3 hxl
      go_wp2_with fail
      refine H1.out.mono ?_
      rintro e w4 ⟨bk, rfl, hbk, t4⟩
      obtain rfl : bk = true := hbk ⟨[], by rw [← HXS.out]; simp⟩
      rw [hEF.out]
      clear H1 hbk
      have hr4 := hr3.touch t4 (fun _ _ => .inr (fun h => h))
      have hL4 := (t4.cell (p := ⟨w.heap.size, 0, none⟩) (cell_lt hL3) (fun h => h)).trans hL3
      have hN4 := (t4.cell (p := ⟨w.heap.size + 1 + 1, 0, none⟩) (cell_lt hN3) (fun h => h)).trans hN3
      have hown4 := hown3.touch t4 (fun _ _ h => h)
      have hb4 : Below w.heap.size w w4 := hb3.trans (t4.below (fun _ _ h => h.elim) hb3.size)
      have hsz4 := t4.size
      clear hr3 hL3 hN3 hown3 hb3 t4
      by_cases hz : xs.length = 0
      · rw [hz]
        go_wp2_with (go_at_call 19; refine (awake_any _).mono ?_; rintro e w9 ⟨rfl, hbz⟩)
        go_ret
        exact ⟨rfl, hb4.trans (hbz.mono hb4.size)⟩
      have hz' : (xs.length == 0) = false := beq_eq_false_iff_ne.2 hz
      have hpos : 0 < xs.length := by omega
      obtain ⟨m, hm⟩ : ∃ m, xs.length = m + 1 := ⟨xs.length - 1, by omega⟩
      have hrt := hr4.take m (by omega)
      rw [hm] at hr4 hown4
      rw [hm]
      have H2 := Lib.hid (read_any w.heap.size (w.heap.size + 1 + 1) la _ cap l k a3 m c3 (xs.take m) w4 hrt (by have := HX.out; omega) hL4 hN4 hkk HL.out hlc hcm hsum (HCA.out w4 hb4))
      have hcap := hr4.2.1
      have hcap2 := hr4.2.2.1
      have hES2 := hES.out
      rw [hm, Nat.add_sub_cancel] at hES2
      have hES3 := Lib.hid (hES2 (by omega))
      clear hES2 hrt hz' hES hEF
      go_wp2_with fail
      refine H2.out.mono ?_
      rintro e w5 ⟨bk2, rfl, -, t5⟩
      rw [hES3.out]
      clear H2
      have hown5 := hown4.touch t5 (fun _ _ h => h)
      have hL5 := (t5.cell (p := ⟨w.heap.size, 0, none⟩) (cell_lt hL4) (fun h => h)).trans hL4
      have hN5 := (t5.cell (p := ⟨w.heap.size + 1 + 1, 0, none⟩) (cell_lt hN4) (fun h => h)).trans hN4
      have hb5 : Below w.heap.size w w5 := hb4.trans (t5.below (fun _ _ h => h.elim) hb4.size)
      have hsz5 := t5.size
      have hrl := row_lit w5 #[.int .u8 0] 1 [0] rfl rfl (by simp) (by decide)
      have hown6 := hown5.touch ((Touch.refl w5 (fun _ => False)).alloc (.cells #[.int .u8 0] 5)) (fun _ _ h => h)
      have hbase : wr.heap.size ≤ (w5.alloc (.cells #[.int .u8 0] 5)).heap.size := by simp; omega
      have hbw6 : Below wr.heap.size w5 (w5.alloc (.cells #[.int .u8 0] 5)) := (Below.refl _ _).alloc (by omega) _
      have hlen6 : (xs ++ [0]).length = m + 1 + 1 := by simp; omega
      have hlen7 : m + 1 + 1 ≤ 140737488355328 := by have := HX.out; omega
      have hLl : w.heap.size < w5.heap.size := cell_lt hL5
      clear hr4 hown4 hL4 hN4 hb4 t5 hown5
      go_wp2_with (at_builtin; refine wpList_appendB rfl _ _ 24 rfl 5 Try.underlying24 infoB wr.heap.size (.slice a3 (m + 1) c3) xs rfl hown6 _ _ _ [0] rfl hrl (m + 1 + 1) (xs ++ [0]) rfl hlen6 hlen7 hbase wr.heap.size w5 hbw6 (Nat.le_refl _) ?_; intro a6 c6 w6 hown7 hr6 hg6 hb6 hs6 hp6 hl6; have hL6 := (hb6.cell (p := ⟨w.heap.size, 0, none⟩) (by show w.heap.size < wr.heap.size; omega)).trans hL5; have hN6 := (hb6.cell (p := ⟨w.heap.size + 1 + 1, 0, none⟩) (by show w.heap.size + 1 + 1 < wr.heap.size; omega)).trans hN5; have hb7 : Below w.heap.size w w6 := hb5.trans (hb6.mono (by omega)); clear hown7 hg6 hs6 hp6 hl6 hb6)
      refine (read_any w.heap.size (w.heap.size + 1 + 1) la _ cap l k a6 (m + 1 + 1) c6 (xs ++ [0]) w6 hr6 hlen7 hL6 hN6 hkk HL.out hlc hcm hsum (HCA.out w6 hb7)).mono ?_
      rintro e w8 ⟨bk3, rfl, -, t8⟩
      rw [hEM.out]
      have hb8 : Below w.heap.size w w8 := hb7.trans (t8.below (fun _ _ h => h.elim) hb7.size)
      clear hr6 hL6 hN6 t8 hL5 hN5 hrl hown6 hbw6
      go_wp2_with (go_at_call 19; refine (awake_any _).mono ?_; rintro e w9 ⟨rfl, hbz⟩)
      go_ret
      exact ⟨rfl, hb8.trans (hbz.mono hb8.size)⟩)
    by_cases hlt : k < len
    · have hkl : k < l.length := by rw [HL.out]; exact hlt
      obtain hz | ⟨b, off, rfl, hc⟩ := HC.out
      · omega
      have hcall := hc k hkl
      clear hc
      have ea : ∀ j, (⟨b, off, none⟩ : Addr).add j = ⟨b, off + j, none⟩ := by intro j; simp only [Addr.add]; split <;> simp_all
      have c0 := hcall.act
      have c1 := hcall.num
      have c2 := hcall.raw
      rw [ea] at c0 c1 c2
      have hbw : b < w.heap.size := cell_lt (p := ⟨b, off + (k * 3 + 0), none⟩) c0
      rw [← hbel.cell (p := ⟨b, off + (k * 3 + 0), none⟩) hbw] at c0
      rw [← hbel.cell (p := ⟨b, off + (k * 3 + 1), none⟩) hbw] at c1
      rw [← hbel.cell (p := ⟨b, off + (k * 3 + 2), none⟩) hbw] at c2
      rw [Nat.add_zero] at c0
      rw [← Nat.add_assoc] at c1 c2
      have ca := hcall.act64
      have cn := hcall.num64
      have hrow := Lib.hid hcall.row
      have hrk : rawSum (l.take (k + 1)) = rawSum (l.take k) + l[k].rl := by
        rw [List.take_succ_eq_append_getElem hkl, rawSum_append]; simp [rawSum]
      have hrsl : rawSum (l.take (k + 1)) ≤ rawSum l := by
        conv => rhs; rw [← List.take_append_drop (k + 1) l]
        rw [rawSum_append]; omega
      rw [hrk] at hrsl
      have HET := Lib.hid (encs_take l k hkl)
      clear hcall ea hrk
      generalize l[k] = c at *
      obtain ⟨act, num, ra, rl, rc, raw⟩ := c
      dsimp only at *
      have hkI : (k : Int) < len := by omega
      have hg : (k : Int) < 40 := by omega
      obtain ⟨Wa, hWa⟩ : ∃ Wa, wr.alloc (.cells #[.int .i64 act, .int .i64 num, .slice ra rl rc] 28) = Wa := ⟨_, rfl⟩
      have ta : Touch wr Wa (fun _ => False) := hWa ▸ (Touch.refl _ _).alloc _
      have hsa : Wa.heap.size = wr.heap.size + 1 := by rw [← hWa]; simp
      have hha : Wa.heap[wr.heap.size]? = some (.cells #[.int .i64 act, .int .i64 num, .slice ra rl rc] 28 (0, 0)) := hWa ▸ heap_alloc_new wr _
      have hNa : Wa.heap[w.heap.size + 1 + 1]? = some (.cells #[.int .i64 k] 3 (0, 0)) := (ta.block (w.heap.size + 1 + 1) (by omega) (fun h => h)).trans hN
      have hcNa := cell_of_cells hNa 0
      have hfNa := free_of_cells hNa 0
      simp at hcNa
      obtain ⟨W1, hW1⟩ : ∃ W1, Wa.setCell ⟨w.heap.size + 1 + 1, 0, none⟩ (.int .i64 ((k : Int) + 1)) = W1 := ⟨_, rfl⟩
      have tb : Touch Wa W1 (fun j => j = w.heap.size + 1 + 1) := hW1 ▸ (Touch.refl _ _).setCell ⟨w.heap.size + 1 + 1, 0, none⟩ _ (fun _ => rfl)
      have t1 : Touch wr W1 (fun j => j = w.heap.size + 1 + 1) := (ta.mono (fun _ _ h => h.elim)).trans tb (fun _ _ h => h)
      have hs1 : W1.heap.size = wr.heap.size + 1 := by rw [← hW1]; simpa using hsa
      have hh1 : W1.heap[wr.heap.size]? = some (.cells #[.int .i64 act, .int .i64 num, .slice ra rl rc] 28 (0, 0)) := (tb.block wr.heap.size (by omega) (by show ¬ wr.heap.size = _; omega)).trans hha
      have hN1 : W1.heap[w.heap.size + 1 + 1]? = some (.cells #[.int .i64 ((k + 1 : Nat) : Int)] 3 (0, 0)) := by
        have h := heap_setCell_same Wa (w.heap.size + 1 + 1) 0 _ _ (.int .i64 ((k : Int) + 1)) hNa
        rw [hW1] at h
        simpa using h
      clear ta tb hsa hha hNa hN hcN hfN
      have hL1 : W1.cell? ⟨w.heap.size, 0, none⟩ = some (.slice (some ⟨b, off, none⟩) len cap) := (t1.cell (p := ⟨w.heap.size, 0, none⟩) (by show w.heap.size < _; omega) (by show ¬ w.heap.size = _; omega)).trans hL
      have d0 := cell_of_cells hh1 0
      have d1 := cell_of_cells hh1 1
      have d2 := cell_of_cells hh1 2
      simp at d0 d1 d2
      have hwr1 : WrB W1 w.heap.size (w.heap.size + 1) v xs := hwr.touch t1 (by show ¬ w.heap.size + 1 = _; omega) (fun j hj => by have := hv j hj; show ¬ j = _; omega)
      have hbel1 : Below w.heap.size w W1 := hbel.trans (t1.below (fun j _ h => by have h : j = w.heap.size + 1 + 1 := h; omega) hbel.size)
      clear hh1 t1 hwr
      have hfin : ∀ (W2 : World) (zs : List Nat), zs = encs (l.take k) ++ enc ⟨act, num, ra, rl, rc, raw⟩ → PutB w.heap.size (w.heap.size + 1) v W1 zs W2 → ∃ v2, WrB W2 w.heap.size (w.heap.size + 1) v2 (encs (l.take (k + 1))) ∧ (∀ j, v2.ownBlock = some j → w.heap.size + 3 ≤ j) ∧ W2.cell? ⟨w.heap.size, 0, none⟩ = some (.slice (some ⟨b, off, none⟩) len cap) ∧ W2.heap[w.heap.size + 1 + 1]? = some (.cells #[.int .i64 ((k + 1 : Nat) : Int)] 3 (0, 0)) ∧ Below w.heap.size w W2 ∧ w.heap.size + 3 ≤ W2.heap.size := by
        intro W2 zs hzs hp
        have hb2 := hbel1.trans (hp.below hwr1 hbel1.size)
        obtain ⟨v2, hw2, t2, hv2⟩ := hp
        refine ⟨v2, ?_, ?_, ?_, ?_, hb2, by have := t2.size; omega⟩
        · rw [HET.out, ← hzs]; exact hw2
        · intro j hj
          rcases hv2 j hj with h | h
          · exact hv j h
          · omega
        · refine (t2.cell (p := ⟨w.heap.size, 0, none⟩) (by show w.heap.size < _; omega) ?_).trans hL1
          rintro (h | h)
          · have h : w.heap.size = w.heap.size + 1 := h; omega
          · have := hv _ h; simp at this; omega
        · refine (t2.block (w.heap.size + 1 + 1) (by omega) ?_).trans hN1
          rintro (h | h)
          · omega
          · have := hv _ h; omega
      have HF := Lib.hid hfin
      clear hfin hL1 hN1
      by_cases h0 : act = 0
      · subst h0
        go_wp2_with fail
        refine (wU8_any _ _ _ _ num _ hwr1 cn (by omega) hbel1.size).mono ?_
        rintro e W2 ⟨rfl, hp⟩
        obtain ⟨v2, q1, q2, q3, q4, q5, q6⟩ := HF.out W2 _ (by rw [hxs]; simp [enc]) hp
        clear hp hwr1 hbel1 d0 d1 d2 hL hcNa hfNa hWa hv hbel hW1 hs1
        go_wp2_with fail
        refine ⟨⟨k + 1, v2, _, by omega, by omega, by go_num, rfl, q1, q2, q3, q4, q5, q6⟩, by simp [intOf]; omega⟩
      have n0 : (act == 0) = false := beq_eq_false_iff_ne.2 h0
      by_cases h1 : act = 1
      · subst h1
        go_wp2_with fail
        refine (wU16_any _ _ _ _ num _ hwr1 cn (by omega) hbel1.size).mono ?_
        rintro e W2 ⟨rfl, hp⟩
        obtain ⟨v2, q1, q2, q3, q4, q5, q6⟩ := HF.out W2 _ (by rw [hxs]; simp [enc]) hp
        clear hp hwr1 hbel1 d0 d1 d2 hL hcNa hfNa hWa hv hbel hW1 hs1
        go_wp2_with fail
        refine ⟨⟨k + 1, v2, _, by omega, by omega, by go_num, rfl, q1, q2, q3, q4, q5, q6⟩, by simp [intOf]; omega⟩
      have n1 : (act == 1) = false := beq_eq_false_iff_ne.2 h1
      by_cases h2 : act = 2
      · subst h2
        have hu : 0 ≤ IntKind.u32.wrap num ∧ IntKind.u32.wrap num ≤ 4294967295 := by rw [IntKind.wrap_u32]; omega
        go_wp2_with fail
        refine (wU32_any _ _ _ _ _ _ hwr1 (by first | exact hu | omega) (by omega) hbel1.size).mono ?_
        rintro e W2 ⟨rfl, hp⟩
        obtain ⟨v2, q1, q2, q3, q4, q5, q6⟩ := HF.out W2 _ (by rw [hxs]; simp [enc]) hp
        clear hp hwr1 hbel1 d0 d1 d2 hL hcNa hfNa hWa hv hbel hW1 hs1
        go_wp2_with fail
        refine ⟨⟨k + 1, v2, _, by omega, by omega, by go_num, rfl, q1, q2, q3, q4, q5, q6⟩, by simp [intOf]; omega⟩
      have n2 : (act == 2) = false := beq_eq_false_iff_ne.2 h2
      by_cases h3 : act = 3
      · subst h3
        go_wp2_with fail
        refine (wI64_any _ _ _ _ num _ hwr1 cn (by omega) hbel1.size).mono ?_
        rintro e W2 ⟨rfl, hp⟩
        obtain ⟨v2, q1, q2, q3, q4, q5, q6⟩ := HF.out W2 _ (by rw [hxs]; simp [enc]) hp
        clear hp hwr1 hbel1 d0 d1 d2 hL hcNa hfNa hWa hv hbel hW1 hs1
        go_wp2_with fail
        refine ⟨⟨k + 1, v2, _, by omega, by omega, by go_num, rfl, q1, q2, q3, q4, q5, q6⟩, by simp [intOf]; omega⟩
      have n3 : (act == 3) = false := beq_eq_false_iff_ne.2 h3
      have m0 := h0
      have m1 := h1
      have m2 := h2
      have m3 := h3
      clear h0 h1 h2 h3
      have crow1 := hrow.out.old hbel1
      have hrl := hrow.out.1
      go_wp2_with fail
      refine (raw_any _ _ _ _ _ _ _ raw _ hwr1 crow1 (by omega) hbel1.size).mono ?_
      rintro e W2 ⟨rfl, hp⟩
      obtain ⟨v2, q1, q2, q3, q4, q5, q6⟩ := HF.out W2 _ (by rw [hxs]; simp [enc, m0, m1, m2, m3]) hp
      clear hp hwr1 hbel1 d0 d1 d2 hL hcNa hfNa hWa hv hbel hW1 hs1 crow1
      go_wp2_with fail
      refine ⟨⟨k + 1, v2, _, by omega, by omega, by go_num, rfl, q1, q2, q3, q4, q5, q6⟩, by simp [intOf]; omega⟩
    · obtain rfl : k = len := by omega
      have hkI : ¬ (k : Int) < k := by omega
      have HXS := Lib.hid hxs
      have hEF := Lib.hid (end_full l k HRAW.out)
      have hES := Lib.hid (end_short l k HRAW.out)
      have hEM := Lib.hid (end_more l k HRAW.out)
      rw [← hxs] at hEF hES hEM
      have hkk := hk
      clear hxs hN
      go_wp2_with fail
      refine (wbytes_any _ _ _ _ _ hwr (by omega)).mono ?_
      rintro e w3 ⟨a3, c3, rfl, hf⟩
      have hown3 := hf.1
      have t3 := hf.2
      obtain ⟨a3', c3', hv3, hr3⟩ := hf.row
      simp only [Value.slice.injEq, true_and] at hv3
      obtain ⟨rfl, rfl⟩ := hv3
      have hL3 := (t3.cell (p := ⟨w.heap.size, 0, none⟩) (cell_lt hL) (fun h => h)).trans hL
      have hN3 := (t3.cell (p := ⟨w.heap.size + 1 + 1, 0, none⟩) (cell_lt hcN) (fun h => h)).trans hcN
      have hb3 : Below w.heap.size w w3 := hbel.trans (t3.below (fun _ _ h => h.elim) hbel.size)
      have H1 := Lib.hid (read_any w.heap.size (w.heap.size + 1 + 1) la _ cap l k a3 _ c3 xs w3 hr3 (by omega) hL3 hN3 hkk HL.out hlc hcm hsum (HCA.out w3 hb3))
      have hsz3 := t3.size
      have HX := Lib.hid hxl
      clear hwr hv hL hcN hfN hf t3 hxl
      go_wp2_with fail
      refine H1.out.mono ?_
      rintro e w4 ⟨bk, rfl, hbk, t4⟩
      obtain rfl : bk = true := hbk ⟨[], by rw [← HXS.out]; simp⟩
      rw [hEF.out]
      clear H1 hbk
      have hr4 := hr3.touch t4 (fun _ _ => .inr (fun h => h))
      have hL4 := (t4.cell (p := ⟨w.heap.size, 0, none⟩) (cell_lt hL3) (fun h => h)).trans hL3
      have hN4 := (t4.cell (p := ⟨w.heap.size + 1 + 1, 0, none⟩) (cell_lt hN3) (fun h => h)).trans hN3
      have hown4 := hown3.touch t4 (fun _ _ h => h)
      have hb4 : Below w.heap.size w w4 := hb3.trans (t4.below (fun _ _ h => h.elim) hb3.size)
      have hsz4 := t4.size
      clear hr3 hL3 hN3 hown3 hb3 t4
      by_cases hz : xs.length = 0
      · rw [hz]
        go_wp2_with (go_at_call 19; refine (awake_any _).mono ?_; rintro e w9 ⟨rfl, hbz⟩)
        go_ret
        exact ⟨rfl, hb4.trans (hbz.mono hb4.size)⟩
      have hz' : (xs.length == 0) = false := beq_eq_false_iff_ne.2 hz
      have hpos : 0 < xs.length := by omega
      obtain ⟨m, hm⟩ : ∃ m, xs.length = m + 1 := ⟨xs.length - 1, by omega⟩
      have hrt := hr4.take m (by omega)
      rw [hm] at hr4 hown4
      rw [hm]
      have H2 := Lib.hid (read_any w.heap.size (w.heap.size + 1 + 1) la _ cap l k a3 m c3 (xs.take m) w4 hrt (by have := HX.out; omega) hL4 hN4 hkk HL.out hlc hcm hsum (HCA.out w4 hb4))
      have hcap := hr4.2.1
      have hcap2 := hr4.2.2.1
      have hES2 := hES.out
      rw [hm, Nat.add_sub_cancel] at hES2
      have hES3 := Lib.hid (hES2 (by omega))
      clear hES2 hrt hz' hES hEF
      go_wp2_with fail
      refine H2.out.mono ?_
      rintro e w5 ⟨bk2, rfl, -, t5⟩
      rw [hES3.out]
      clear H2
      have hown5 := hown4.touch t5 (fun _ _ h => h)
      have hL5 := (t5.cell (p := ⟨w.heap.size, 0, none⟩) (cell_lt hL4) (fun h => h)).trans hL4
      have hN5 := (t5.cell (p := ⟨w.heap.size + 1 + 1, 0, none⟩) (cell_lt hN4) (fun h => h)).trans hN4
      have hb5 : Below w.heap.size w w5 := hb4.trans (t5.below (fun _ _ h => h.elim) hb4.size)
      have hsz5 := t5.size
      have hrl := row_lit w5 #[.int .u8 0] 1 [0] rfl rfl (by simp) (by decide)
      have hown6 := hown5.touch ((Touch.refl w5 (fun _ => False)).alloc (.cells #[.int .u8 0] 5)) (fun _ _ h => h)
      have hbase : wr.heap.size ≤ (w5.alloc (.cells #[.int .u8 0] 5)).heap.size := by simp; omega
      have hbw6 : Below wr.heap.size w5 (w5.alloc (.cells #[.int .u8 0] 5)) := (Below.refl _ _).alloc (by omega) _
      have hlen6 : (xs ++ [0]).length = m + 1 + 1 := by simp; omega
      have hlen7 : m + 1 + 1 ≤ 140737488355328 := by have := HX.out; omega
      have hLl : w.heap.size < w5.heap.size := cell_lt hL5
      clear hr4 hown4 hL4 hN4 hb4 t5 hown5
      go_wp2_with (at_builtin; refine wpList_appendB rfl _ _ 24 rfl 5 Try.underlying24 infoB wr.heap.size (.slice a3 (m + 1) c3) xs rfl hown6 _ _ _ [0] rfl hrl (m + 1 + 1) (xs ++ [0]) rfl hlen6 hlen7 hbase wr.heap.size w5 hbw6 (Nat.le_refl _) ?_; intro a6 c6 w6 hown7 hr6 hg6 hb6 hs6 hp6 hl6; have hL6 := (hb6.cell (p := ⟨w.heap.size, 0, none⟩) (by show w.heap.size < wr.heap.size; omega)).trans hL5; have hN6 := (hb6.cell (p := ⟨w.heap.size + 1 + 1, 0, none⟩) (by show w.heap.size + 1 + 1 < wr.heap.size; omega)).trans hN5; have hb7 : Below w.heap.size w w6 := hb5.trans (hb6.mono (by omega)); clear hown7 hg6 hs6 hp6 hl6 hb6)
      refine (read_any w.heap.size (w.heap.size + 1 + 1) la _ cap l k a6 (m + 1 + 1) c6 (xs ++ [0]) w6 hr6 hlen7 hL6 hN6 hkk HL.out hlc hcm hsum (HCA.out w6 hb7)).mono ?_
      rintro e w8 ⟨bk3, rfl, -, t8⟩
      rw [hEM.out]
      have hb8 : Below w.heap.size w w8 := hb7.trans (t8.below (fun _ _ h => h.elim) hb7.size)
      clear hr6 hL6 hN6 t8 hL5 hN5 hrl hown6 hbw6
      go_wp2_with (go_at_call 19; refine (awake_any _).mono ?_; rintro e w9 ⟨rfl, hbz⟩)
      go_ret
      exact ⟨rfl, hb8.trans (hbz.mono hb8.size)⟩

theorem octetBack_holds : Rows.OctetBackUptoSaid := by
  refine octetBackU.said fun H enc W base v0 d0 p0 h0 hk => ?_
  obtain ⟨a, len, cap, l, rfl, hl, hlc, hcm, hlen, hsum, hc⟩ := h0.calls (S := 0) Try.underlying22 Try.underlying28 (by kernel_rfl) Try.underlying3 Try.underlying2 Try.underlying24 Try.underlying5 (by kernel_rfl) rfl rfl rfl (by kernel_rfl) (by kernel_rfl) (by kernel_rfl) (by simpa [Rows.uptoBulkAll] using hk)
  refine back_walk a len cap l W hl hlc hcm hlen hsum ?_
  by_cases h00 : len = 0
  · exact .inl h00
  · right
    obtain h | ⟨x, rfl, hc⟩ := hc
    · exact absurd h h00
    · obtain ⟨b, off, spot⟩ := x
      have hs : spot = none := by
        have := (hc 0 (by omega)).act
        simpa [Addr.add] using World.cell?_spot this
      subst hs
      exact ⟨b, off, rfl, hc⟩
end Go.Proofs.Ytpbcglbjgahilaa
