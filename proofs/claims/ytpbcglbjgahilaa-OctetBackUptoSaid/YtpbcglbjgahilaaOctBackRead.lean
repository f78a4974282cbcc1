/- What the function inside OctetBack answers, that reads by the calls. -/
import Derived.Test.YtpbcglbjgahilaaOctAwake
import Derived.Test.YtpbcglbjgahilaaOctBackMath
import Derived.Deep.RegionWith
import Derived.IntWalk
set_option linter.unusedVariables false
namespace Go.Proofs.Ytpbcglbjgahilaa
open Go.RowKit

theorem CallAt.old {w wr : World} {b off : Nat} {i : Nat} {c : CallD} (h : CallAt w ⟨b, off, none⟩ i c) (hb : Below w.heap.size w wr) : CallAt wr ⟨b, off, none⟩ i c := by
  have ea : ∀ j, (⟨b, off, none⟩ : Addr).add j = ⟨b, off + j, none⟩ := by intro j; simp only [Addr.add]; split <;> simp_all
  have hlt : b < w.heap.size := by have h0 := h.act; rw [ea] at h0; exact cell_lt (p := ⟨b, off + (i * 3 + 0), none⟩) h0
  refine ⟨?_, ?_, ?_, h.row.old hb, h.act64, h.num64⟩
  · have h0 := h.act; rw [ea] at h0 ⊢; exact (hb.cell (p := ⟨b, off + (i * 3 + 0), none⟩) hlt).trans h0
  · have h0 := h.num; rw [ea] at h0 ⊢; exact (hb.cell (p := ⟨b, off + (i * 3 + 1), none⟩) hlt).trans h0
  · have h0 := h.raw; rw [ea] at h0 ⊢; exact (hb.cell (p := ⟨b, off + (i * 3 + 2), none⟩) hlt).trans h0

/-- What is left behind n calls. -/
def leftX (l : List CallD) (n : Nat) (ys : List Nat) : List Nat := (runs (l.take n) ys 0).1
def leftE (l : List CallD) (n : Nat) (ys : List Nat) : Int := (runs (l.take n) ys 0).2
theorem leftX_step (l : List CallD) (k : Nat) (h : k < l.length) (ys : List Nat) : leftX l (k + 1) ys = nxtX (wid l[k]) (leftX l k ys) := by
  unfold leftX; rw [runs_take l k h]
theorem leftE_step (l : List CallD) (k : Nat) (h : k < l.length) (ys : List Nat) : leftE l (k + 1) ys = nxtE (wid l[k]) (leftX l k ys) (leftE l k ys) := by
  unfold leftX leftE; rw [runs_take l k h]

theorem pref_step (l : List CallD) (n k : Nat) (hk : k < n) (hkl : k < l.length) (hn : n ≤ l.length) (hr : ∀ c ∈ l, c.raw.length = c.rl) (ys : List Nat) (hp : ∃ tail, ys = encs (l.take n) ++ tail) : ∃ rest, leftX l k ys = enc l[k] ++ rest := by
  obtain ⟨tail, rfl⟩ := hp
  have hl : (l.take n).length = n := by simp; omega
  obtain ⟨rest, h⟩ := runs_pref (l.take n) k (by omega) (fun c hc => hr c (List.mem_of_mem_take hc)) tail
  refine ⟨rest, ?_⟩
  have e : (l.take n).take k = l.take k := by rw [List.take_take, Nat.min_eq_left (by omega)]
  rw [e] at h
  unfold leftX
  rw [h]; simp
theorem rd_RawN (G M : Nat) (xs : List Nat) (err : Int) (n : Nat) (w : World) (h : Rd w G M xs err) (hGM : G ≠ M) (hM : M < w.heap.size) (hlen : xs.length ≤ 140737488355328) :
    Calls Try.prog 29 #[.pointer (some ⟨G, 0, none⟩), .int .i64 n] w fun e w' => ∃ a c, e = .returned (.slice a (rawN n xs).length c) ∧ RowB w' a (rawN n xs).length c (rawN n xs) ∧ Rd w' G M (nxtX n xs) (nxtE n xs err) ∧ Touch w w' (fun k => k = G) := by
  refine (rd_Raw G M xs err n w h hGM hM hlen).mono ?_
  rintro e w' ⟨v, rfl, ⟨a, c, rfl, hr, _⟩, h2, h3⟩
  rw [Int.toNat_natCast] at *
  exact ⟨a, c, rfl, hr, h2, h3⟩

set_option maxRecDepth 20000 in
set_option maxHeartbeats 4000000 in
theorem read_any (L NB : Nat) (la : Option Addr) (len cap : Nat) (l : List CallD) (n : Nat) (a : Option Addr) (bl bc : Nat) (ys : List Nat) (w : World) (hr : RowB w a bl bc ys) (hbl : bl ≤ 140737488355328)
    (hL : w.cell? ⟨L, 0, none⟩ = some (.slice la len cap)) (hN : w.cell? ⟨NB, 0, none⟩ = some (.int .i64 n)) (hn : n ≤ len) (hl : l.length = len) (hlc : len ≤ cap) (hcm : cap ≤ 9223372036854775807) (hrs : rawSum l ≤ 1048576)
    (hc : len = 0 ∨ ∃ b off, la = some ⟨b, off, none⟩ ∧ ∀ i (hi : i < l.length), CallAt w ⟨b, off, none⟩ i l[i]) :
    Calls Try.prog 34 #[.slice a bl bc, .pointer (some ⟨NB, 0, none⟩), .pointer (some ⟨L, 0, none⟩)] w fun e w' =>
      ∃ bk : Bool, e = .returned (.tuple #[.bool bk, .int .i64 (endOf (leftX l n ys).length (leftE l n ys))]) ∧ ((∃ tail, ys = encs (l.take n) ++ tail) → bk = true) ∧ Touch w w' (fun _ => False) := by
  have HC := Lib.hid hc
  have HL := Lib.hid hl
  have H := Lib.hid (newreader_any a bl bc ys w hr hbl)
  have hyl := hr.1
  clear hc hl hr
  go_enter Try.func34, Try.ntmps34
  go_wp2_with fail
  refine H.out.mono ?_
  rintro e w1 ⟨v, rfl, hnew⟩
  obtain ⟨G, a1, c1, rfl, hrd, t1, hG, hax⟩ := hnew
  have hL1 := (t1.cell (p := ⟨L, 0, none⟩) (cell_lt hL) (fun h => h)).trans hL
  have hN1 := (t1.cell (p := ⟨NB, 0, none⟩) (cell_lt hN) (fun h => h)).trans hN
  go_wp2_with fail
  have hyl2 := hyl
  subst hyl
  have hrd0 : Rd w1 G w1.heap.size ys 0 := ⟨a1, c1, hrd, fun x hx => by
    rcases hrd.row.lt x hx with h | h
    · exact .inl h
    · right; omega⟩
  have hG1 := hrd.lt
  obtain ⟨M, hM⟩ : ∃ M, w1.heap.size = M := ⟨_, rfl⟩
  rw [hM] at hrd0 hG1
  have hGM : G ≠ M := by omega
  have hMs : M ≤ w1.heap.size := by omega
  have hsz := t1.size
  clear hrd hax H hN hL1 hN1 hM hyl2
  go_loopw [7, 13] (fun ok i wr => ∃ (k : Nat) (bk : Bool), k ≤ n ∧ ok = .bool bk ∧ i = .int .i64 k ∧ Rd wr G M (leftX l k ys) (leftE l k ys) ∧ (leftX l k ys).length ≤ ys.length ∧ ((∃ tail, ys = encs (l.take n) ++ tail) → bk = true) ∧ Touch w wr (fun _ => False) ∧ M ≤ wr.heap.size) (fun _ i _ => n - (intOf i).toNat)
  case atStart => exact ⟨0, true, Nat.zero_le _, rfl, rfl, hrd0, Nat.le_refl _, fun _ => rfl, t1, hMs⟩
  case round =>
    obtain ⟨k, bk, hk, rfl, rfl, hrd, hzl, hpre, ht, hMw⟩ := hrel
    clear hrd0 t1 hMs
    have hL2 := (ht.cell (p := ⟨L, 0, none⟩) (cell_lt hL) (fun h => h)).trans hL
    by_cases hlt : k < n
    · have hkl : k < l.length := by rw [HL.out]; omega
      obtain hz | ⟨b, off, rfl, hc⟩ := HC.out
      · omega
      have hraw : ∀ c ∈ l, c.raw.length = c.rl := by
        intro c hcm
        obtain ⟨i, hi, rfl⟩ := List.mem_iff_getElem.1 hcm
        exact (hc i hi).row.1
      have hcall := (hc k hkl).old (ht.below (B := w.heap.size) (fun _ _ h => h.elim) (Nat.le_refl _))
      have hc0 := hc
      clear hc
      have ea : ∀ j, (⟨b, off, none⟩ : Addr).add j = ⟨b, off + j, none⟩ := by intro j; simp only [Addr.add]; split <;> simp_all
      have c0 := hcall.act
      have c1 := hcall.num
      have c2 := hcall.raw
      rw [ea] at c0 c1 c2
      rw [Nat.add_zero] at c0
      rw [← Nat.add_assoc] at c1 c2
      have cn := hcall.num64
      have hrow := hcall.row
      have hsep : ∀ x, l[k].ra = some x → l[k].rl = 0 ∨ ¬ x.block = G := fun x hx => ((hc0 k hkl).row.lt x hx).imp id (fun h e => by omega)
      clear hc0
      have HS1 := Lib.hid (leftX_step l k hkl ys)
      have HS2 := Lib.hid (leftE_step l k hkl ys)
      have HP := Lib.hid (pref_step l n k hlt hkl (by rw [HL.out]; exact hn) hraw ys)
      clear hcall ea hraw
      generalize leftX l k ys = zs at *
      generalize leftE l k ys = err at *
      generalize l[k] = c at *
      obtain ⟨act, num, ra, rl, rc, raw⟩ := c
      dsimp only at *
      have HSEP := Lib.hid hsep
      clear hsep
      have hkI : (k : Int) < n := by omega
      have hkI2 : (k : Int) < len := by omega
      obtain ⟨W1, hW1⟩ : ∃ W1, wr.alloc (.cells #[.int .i64 act, .int .i64 num, .slice ra rl rc] 28) = W1 := ⟨_, rfl⟩
      have ta : Touch wr W1 (fun _ => False) := hW1 ▸ (Touch.refl _ _).alloc _
      have hs1 : W1.heap.size = wr.heap.size + 1 := by rw [← hW1]; simp
      have hh1 : W1.heap[wr.heap.size]? = some (.cells #[.int .i64 act, .int .i64 num, .slice ra rl rc] 28 (0, 0)) := hW1 ▸ heap_alloc_new wr _
      have d0 := cell_of_cells hh1 0
      have d1 := cell_of_cells hh1 1
      have d2 := cell_of_cells hh1 2
      simp at d0 d1 d2
      have HR1 : RowKit.Hid (Rd W1.drew G M zs err) := Lib.hid ((hrd.still ta).still ((Touch.refl W1 (fun _ => False)).drewN 1))
      have ht1 : Touch w W1.drew (fun _ => False) := (ht.trans ta (fun _ _ h => h)).drewN 1
      have HT := Lib.hid ht1
      have hGw : G < wr.heap.size := by obtain ⟨_, _, h, _⟩ := hrd; exact h.lt
      have hMd : M < W1.drew.heap.size := by show M < W1.heap.size; omega
      have hzb : zs.length ≤ 140737488355328 := by omega
      have hrow1 : RowB W1.drew ra rl rc raw := ((hrow.touch ta (fun _ _ => .inr (fun h => h))).touch ((Touch.refl W1 (fun _ => False)).drewN 1) (fun _ _ => .inr (fun h => h)))
      have HB : RowKit.Hid (∀ W2 : World, Touch W1.drew W2 (fun j => j = G) → (W2.cell? ⟨wr.heap.size, 1, none⟩ = some (.int .i64 num) ∧ W2.cell? ⟨wr.heap.size, 2, none⟩ = some (.slice ra rl rc)) ∧ Touch w W2 (fun _ => False) ∧ M ≤ W2.heap.size) := Lib.hid (fun W2 t => by
        refine ⟨⟨(t.cell (p := ⟨wr.heap.size, 1, none⟩) (by show wr.heap.size < W1.heap.size; omega) (by show ¬ wr.heap.size = G; omega)).trans d1, (t.cell (p := ⟨wr.heap.size, 2, none⟩) (by show wr.heap.size < W1.heap.size; omega) (by show ¬ wr.heap.size = G; omega)).trans d2⟩, ht1.trans t (fun j hj h => by have h : j = G := h; omega), ?_⟩
        have := t.size
        omega)
      clear hh1 ta hs1 hrd ht hMw ht1
      by_cases h0 : act = 0
      · subst h0
        have hw : wid ⟨0, num, ra, rl, rc, raw⟩ = 1 := by simp [wid]
        have HQ : RowKit.Hid ((∃ tail, ys = encs (l.take n) ++ tail) → (((valN 1 zs : Nat) : Int) == num % 256) = true) := Lib.hid (fun hp => by
          obtain ⟨rest, hz⟩ := HP.out hp
          rw [hz]
          have := back1 num rest
          simpa [enc] using this)
        have HW := Lib.hid hw
        clear hw HP hrow hrow1
        go_wp2_with fail
        clear c0 c1 c2 hW1
        have ew1 : IntKind.u8.wrap num = num % 256 := by rw [IntKind.wrap_u8]
        have ew2 : IntKind.i64.wrap (num % 256) = num % 256 := IntWalk.i64_in _ (by omega)
        cases hq : (((valN 1 zs : Nat) : Int) == num % 256)
        all_goals (
          first | (go_region_with (go_at_call 21; refine (rd_U8 G M zs err _ HR1.out).mono ?_; rintro e W2 ⟨rfl, hrd2, t2⟩; have hx := HB.out W2 t2; have e1 := hx.1.1; have HX := Lib.hid hx.2; clear hx t2)) | fail
          all_goals (
            clear ew1 ew2; go_wp2
            refine ⟨⟨k + 1, _, by omega, rfl, by go_num, by rw [HS1.out, HS2.out, HW.out]; exact hrd2, by rw [HS1.out, HW.out]; exact Nat.le_trans (nxt_short _ _) hzl, ?_, HX.out.1, HX.out.2⟩, by simp [intOf]; omega⟩
            first | exact hpre | exact fun hp => absurd (HQ.out hp) (by rw [hq]; simp)))
      have n0 : (act == 0) = false := beq_eq_false_iff_ne.2 h0
      by_cases h1 : act = 1
      · subst h1
        have hw : wid ⟨1, num, ra, rl, rc, raw⟩ = 2 := by simp [wid]
        have HQ : RowKit.Hid ((∃ tail, ys = encs (l.take n) ++ tail) → (((valN 2 zs : Nat) : Int) == num % 65536) = true) := Lib.hid (fun hp => by
          obtain ⟨rest, hz⟩ := HP.out hp
          rw [hz]
          have := back2 num rest
          simpa [enc] using this)
        have HW := Lib.hid hw
        clear hw HP hrow hrow1
        go_wp2_with fail
        clear c0 c1 c2 hW1
        have ew1 : IntKind.u16.wrap num = num % 65536 := by rw [IntKind.wrap_u16]
        have ew2 : IntKind.i64.wrap (num % 65536) = num % 65536 := IntWalk.i64_in _ (by omega)
        cases hq : (((valN 2 zs : Nat) : Int) == num % 65536)
        all_goals (
          first | (go_region_with (go_at_call 23; refine (rd_U16 G M zs err _ HR1.out).mono ?_; rintro e W2 ⟨rfl, hrd2, t2⟩; have hx := HB.out W2 t2; have e1 := hx.1.1; have HX := Lib.hid hx.2; clear hx t2)) | fail
          all_goals (
            clear ew1 ew2; go_wp2
            refine ⟨⟨k + 1, _, by omega, rfl, by go_num, by rw [HS1.out, HS2.out, HW.out]; exact hrd2, by rw [HS1.out, HW.out]; exact Nat.le_trans (nxt_short _ _) hzl, ?_, HX.out.1, HX.out.2⟩, by simp [intOf]; omega⟩
            first | exact hpre | exact fun hp => absurd (HQ.out hp) (by rw [hq]; simp)))
      have n1 : (act == 1) = false := beq_eq_false_iff_ne.2 h1
      by_cases h2 : act = 2
      · subst h2
        have hw : wid ⟨2, num, ra, rl, rc, raw⟩ = 4 := by simp [wid]
        have HQ : RowKit.Hid ((∃ tail, ys = encs (l.take n) ++ tail) → (((valN 4 zs : Nat) : Int) == num % 4294967296) = true) := Lib.hid (fun hp => by
          obtain ⟨rest, hz⟩ := HP.out hp
          rw [hz]
          have := back4 num rest
          simpa [enc] using this)
        have HW := Lib.hid hw
        clear hw HP hrow hrow1
        go_wp2_with fail
        clear c0 c1 c2 hW1
        have ew1 : IntKind.u32.wrap num = num % 4294967296 := by rw [IntKind.wrap_u32]
        cases hq : (((valN 4 zs : Nat) : Int) == num % 4294967296)
        all_goals (
          first | (go_region_with (go_at_call 25; refine (rd_U32 G M zs err _ HR1.out).mono ?_; rintro e W2 ⟨rfl, hrd2, t2⟩; have hx := HB.out W2 t2; have e1 := hx.1.1; have HX := Lib.hid hx.2; clear hx t2)) | fail
          all_goals (
            clear ew1; go_wp2
            refine ⟨⟨k + 1, _, by omega, rfl, by go_num, by rw [HS1.out, HS2.out, HW.out]; exact hrd2, by rw [HS1.out, HW.out]; exact Nat.le_trans (nxt_short _ _) hzl, ?_, HX.out.1, HX.out.2⟩, by simp [intOf]; omega⟩
            first | exact hpre | exact fun hp => absurd (HQ.out hp) (by rw [hq]; simp)))
      have n2 : (act == 2) = false := beq_eq_false_iff_ne.2 h2
      by_cases h3 : act = 3
      · subst h3
        have hw : wid ⟨3, num, ra, rl, rc, raw⟩ = 8 := by simp [wid]
        have HQ : RowKit.Hid ((∃ tail, ys = encs (l.take n) ++ tail) → (sgn (valN 8 zs) == num) = true) := Lib.hid (fun hp => by
          obtain ⟨rest, hz⟩ := HP.out hp
          rw [hz]
          have := back8 num rest cn
          simpa [enc] using this)
        have HW := Lib.hid hw
        clear hw HP hrow hrow1
        go_wp2_with fail
        clear c0 c1 c2 hW1
        cases hq : (sgn (valN 8 zs) == num)
        all_goals (
          first | (go_region_with (go_at_call 27; refine (rd_I64 G M zs err _ HR1.out).mono ?_; rintro e W2 ⟨rfl, hrd2, t2⟩; have hx := HB.out W2 t2; have e1 := hx.1.1; have HX := Lib.hid hx.2; clear hx t2)) | fail
          all_goals (
            go_wp2
            refine ⟨⟨k + 1, _, by omega, rfl, by go_num, by rw [HS1.out, HS2.out, HW.out]; exact hrd2, by rw [HS1.out, HW.out]; exact Nat.le_trans (nxt_short _ _) hzl, ?_, HX.out.1, HX.out.2⟩, by simp [intOf]; omega⟩
            first | exact hpre | exact fun hp => absurd (HQ.out hp) (by rw [hq]; simp)))
      have n3 : (act == 3) = false := beq_eq_false_iff_ne.2 h3
      have m0 := h0
      have m1 := h1
      have m2 := h2
      have m3 := h3
      clear h0 h1 h2 h3
      have hw : wid ⟨act, num, ra, rl, rc, raw⟩ = rl := by simp [wid, m0, m1, m2, m3]
      have hrl := hrow.1
      have HQ : RowKit.Hid ((∃ tail, ys = encs (l.take n) ++ tail) → ((strB (rawN rl zs)).toList == (strB raw).toList) = true) := Lib.hid (fun hp => by
        obtain ⟨rest, hz⟩ := HP.out hp
        have he : enc ⟨act, num, ra, rl, rc, raw⟩ = raw := by simp [enc, m0, m1, m2, m3]
        rw [hz, he, rawN_pref rl raw rest hrl]
        simp)
      have HW := Lib.hid hw
      have st0 : Sem.run Try.prog (convert 24 9 (.slice ra rl rc)) W1.drew = .ok (.string (strB raw)) W1.drew := run_string_of (P := Try.prog) hrow1 24 9 5 Try.underlying24 Try.underlying5 Try.underlying9
      have HRW := Lib.hid hrow1
      clear hw HP hrow hrow1 hrl
      go_wp2_with fail
      clear c0 c1 c2 hW1
      cases hq : ((strB (rawN rl zs)).toList == (strB raw).toList)
      all_goals (
        first | (go_region_with (go_at_call 29; refine (rd_RawN G M zs err rl _ HR1.out hGM hMd hzb).mono ?_; rintro e W2 ⟨a5, c5, rfl, hrow5, hrd2, t2⟩; have hx := HB.out W2 t2; have e2 := hx.1.2; have HX := Lib.hid hx.2; have st5 : Sem.run Try.prog (convert 24 9 (.slice a5 (rawN rl zs).length c5)) W2 = .ok (.string (strB (rawN rl zs))) W2 := run_string_of (P := Try.prog) hrow5 24 9 5 Try.underlying24 Try.underlying5 Try.underlying9; have st6 : Sem.run Try.prog (convert 24 9 (.slice ra rl rc)) W2 = .ok (.string (strB raw)) W2 := run_string_of (P := Try.prog) (HRW.out.touch t2 (fun x hx => HSEP.out x hx)) 24 9 5 Try.underlying24 Try.underlying5 Try.underlying9; clear hx t2 hrow5)) | fail
        all_goals (
          go_wp2
          refine ⟨⟨k + 1, _, by omega, rfl, by go_num, by rw [HS1.out, HS2.out, HW.out]; exact hrd2, by rw [HS1.out, HW.out]; exact Nat.le_trans (nxt_short _ _) hzl, ?_, HX.out.1, HX.out.2⟩, by simp [intOf]; omega⟩
          first | exact hpre | exact fun hp => absurd (HQ.out hp) (by rw [hq]; simp)))
    · obtain rfl : n = k := by omega
      have hkI : ¬ (n : Int) < n := by omega
      go_wp2_with (go_at_call 32; refine (rd_End G M _ _ _ hrd).mono ?_; rintro e w' ⟨rfl, rfl⟩)
      go_ret2
      exact ⟨bk, rfl, hpre, ht⟩
end Go.Proofs.Ytpbcglbjgahilaa
