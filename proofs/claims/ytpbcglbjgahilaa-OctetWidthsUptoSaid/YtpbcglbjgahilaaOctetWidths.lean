/- OctetWidths answers true for any calls that hold together at most 1048576 values: each call has its own width, whatever the number is; bytes are written as they are. -/
import Derived.Test.YtpbcglbjgahilaaOctAwake
import Derived.Test.YtpbcglbjgahilaaOctArgs
import Derived.Test.YtpbcglbjgahilaaFrOctetWidthsU
set_option linter.unusedVariables false
namespace Go.Proofs.Ytpbcglbjgahilaa
open Go.RowKit

/-- How many bytes the first calls write. -/
def widthOf (c : CallD) : Nat := if c.act = 0 then 1 else if c.act = 1 then 2 else if c.act = 2 then 4 else if c.act = 3 then 8 else c.rl

theorem CallAt.cells {w wr : World} {b off : Nat} {i : Nat} {c : CallD} (h : CallAt w ⟨b, off, none⟩ i c) (hb : Below w.heap.size w wr) :
    wr.cell? ⟨b, off + i * 3, none⟩ = some (.int .i64 c.act) ∧ wr.cell? ⟨b, off + i * 3 + 1, none⟩ = some (.int .i64 c.num) ∧ wr.cell? ⟨b, off + i * 3 + 2, none⟩ = some (.slice c.ra c.rl c.rc) := by
  have ea : ∀ j, (⟨b, off, none⟩ : Addr).add j = ⟨b, off + j, none⟩ := by intro j; simp only [Addr.add]; split <;> simp_all
  have h0 := h.act
  have h1 := h.num
  have h2 := h.raw
  rw [ea] at h0 h1 h2
  have hlt : b < w.heap.size := cell_lt (p := ⟨b, off + (i * 3 + 0), none⟩) h0
  rw [← hb.cell (p := ⟨b, off + (i * 3 + 0), none⟩) hlt] at h0
  rw [← hb.cell (p := ⟨b, off + (i * 3 + 1), none⟩) hlt] at h1
  rw [← hb.cell (p := ⟨b, off + (i * 3 + 2), none⟩) hlt] at h2
  exact ⟨h0, h1, h2⟩
theorem rawSum_take (l : List CallD) (k : Nat) (h : k < l.length) : rawSum (l.take (k + 1)) = rawSum (l.take k) + l[k].rl := by
  rw [List.take_succ_eq_append_getElem h, rawSum_append]; simp [rawSum]
theorem rawSum_le (l : List CallD) (k : Nat) : rawSum (l.take k) ≤ rawSum l := by
  conv => rhs; rw [← List.take_append_drop k l]
  rw [rawSum_append]; omega

set_option maxHeartbeats 4000000 in
theorem widths_walk (b off : Nat) (len cap : Nat) (l : List CallD) (w : World) (hl : l.length = len) (hlc : len ≤ cap) (hcm : cap ≤ 9223372036854775807) (hlen : len ≤ 1048576) (hsum : rawSum l ≤ 1048576)
    (hc : ∀ i (hi : i < l.length), CallAt w ⟨b, off, none⟩ i l[i]) :
    Calls Try.prog 8 #[.slice (some ⟨b, off, none⟩) len cap] w fun e w' => e = .returned (.bool true) ∧ Below w.heap.size w w' := by
  obtain ⟨W0, hW0⟩ : ∃ W0, w.alloc (.cells #[.slice none 0 0] 26) = W0 := ⟨_, rfl⟩
  have hw0 : WrB W0 w.heap.size w.heap.size (.slice none 0 0) [] := hW0 ▸ WrB.new w _ rfl
  have hb0 : Below w.heap.size w W0 := hW0 ▸ (Below.refl _ _).alloc (Nat.le_refl _) _
  have HC := Lib.hid hc
  have HL := Lib.hid hl
  clear hc hl
  go_enter Try.func8, Try.ntmps8
  go_wp2_with fail
  clear hW0
  go_loopw [4, 11] (fun n i wr => ∃ (k N : Nat) (v : Value) (xs : List Nat), k ≤ len ∧ k ≤ 60 ∧ i = .int .i64 k ∧ n = .int .i64 N ∧ xs.length = N ∧ N ≤ 8 * k + rawSum (l.take k) ∧ WrB wr w.heap.size w.heap.size v xs ∧ Below w.heap.size w wr) (fun _ i _ => len - (intOf i).toNat)
  case atStart => exact ⟨0, 0, _, [], Nat.zero_le _, by omega, rfl, rfl, rfl, by omega, hw0, hb0⟩
  case round =>
    obtain ⟨k, N, v, xs, hk, hk60, rfl, rfl, hxl, hN, hwr, hbel⟩ := hrel
    by_cases hlt : k < len
    · have hkl : k < l.length := by rw [HL.out]; exact hlt
      have hcall := HC.out k hkl
      obtain ⟨c0, c1, c2⟩ := hcall.cells hbel
      have crow := hcall.row.old hbel
      have ca := hcall.act64
      have cn := hcall.num64
      have HRS := Lib.hid (rawSum_take l k hkl)
      have hrsl := rawSum_le l (k + 1)
      rw [HRS.out] at hrsl
      clear hcall
      generalize l[k] = c at *
      obtain ⟨act, num, ra, rl, rc, raw⟩ := c
      dsimp only at *
      have hkI : (k : Int) < len := by omega
      obtain ⟨W1, hW1⟩ : ∃ W1, wr.alloc (.cells #[.int .i64 act, .int .i64 num, .slice ra rl rc] 28) = W1 := ⟨_, rfl⟩
      have hs1 : W1.heap.size = wr.heap.size + 1 := by rw [← hW1]; simp
      have t1 : Touch wr W1 (fun _ => False) := hW1 ▸ (Touch.refl _ _).alloc _
      have hh1 : W1.heap[wr.heap.size]? = some (.cells #[.int .i64 act, .int .i64 num, .slice ra rl rc] 28 (0, 0)) := hW1 ▸ heap_alloc_new wr _
      have d0 := cell_of_cells hh1 0
      have d1 := cell_of_cells hh1 1
      have d2 := cell_of_cells hh1 2
      simp at d0 d1 d2
      have hwr1 : WrB W1 w.heap.size w.heap.size v xs := hwr.touch t1 (fun h => h) (fun _ _ h => h)
      have hbel1 : Below w.heap.size w W1 := hbel.trans (t1.below (fun _ _ h => h.elim) hbel.size)
      have HS1 := Lib.hid hs1
      clear hs1 hh1
      by_cases hk0 : 60 ≤ k
      · have hg : (60 : Int) ≤ k := by omega
        go_wp2_with (go_at_call 19; refine (awake_any _).mono ?_; rintro e w' ⟨rfl, hbz⟩)
        go_ret
        exact ⟨rfl, hbel1.trans (hbz.mono hbel1.size)⟩
      have hg : ¬ (60 : Int) ≤ k := by omega
      by_cases h0 : act = 0
      · subst h0
        go_wp2_with fail
        refine (wU8_any _ _ _ _ num _ hwr1 cn (by omega) hbel1.size).mono ?_
        rintro e W2 ⟨rfl, hp⟩
        have hbel2 := hbel1.trans (hp.below hwr1 hbel1.size)
        obtain ⟨v2, hwr2, tp, _⟩ := hp
        skip
        have hl2 : (xs ++ beB 1 (u64N num)).length = N + 1 := by rw [List.length_append, beB_length]; omega
        generalize xs ++ beB 1 (u64N num) = ys at *
        clear hwr1 hbel1 d0 d1 d2 t1 c0 c1 c2 hW1 crow tp
        go_wp2_with fail
        refine (wlen_any _ _ _ _ _ hwr2).mono ?_
        rintro e w' ⟨rfl, rfl⟩
        rw [hl2]
        have HL2 := Lib.hid hl2
        clear hl2
        go_wp2_with fail
        refine (wbytes_any _ _ _ _ _ hwr2 (by rw [HL2.out]; omega)).mono ?_
        rintro e W3 ⟨a9, c9, rfl, hf⟩
        have hwr3 := hwr2.touch hf.2 (fun h => h) (fun _ _ h => h)
        have hbel3 := hbel2.trans (hf.2.below (fun _ _ h => h.elim) hbel2.size)
        clear hf hwr2 hbel2
        rw [HL2.out]
        go_wp2_with fail
        refine ⟨⟨k + 1, N + 1, v2, ys, by omega, by omega, by go_num, by go_num, HL2.out, by rw [HRS.out]; omega, hwr3, hbel3⟩, by simp [intOf]; omega⟩
      have n0 : (act == 0) = false := beq_eq_false_iff_ne.2 h0
      by_cases h1 : act = 1
      · subst h1
        go_wp2_with fail
        refine (wU16_any _ _ _ _ num _ hwr1 cn (by omega) hbel1.size).mono ?_
        rintro e W2 ⟨rfl, hp⟩
        have hbel2 := hbel1.trans (hp.below hwr1 hbel1.size)
        obtain ⟨v2, hwr2, tp, _⟩ := hp
        skip
        have hl2 : (xs ++ beB 2 (u64N num)).length = N + 2 := by rw [List.length_append, beB_length]; omega
        generalize xs ++ beB 2 (u64N num) = ys at *
        clear hwr1 hbel1 d0 d1 d2 t1 c0 c1 c2 hW1 crow tp
        go_wp2_with fail
        refine (wlen_any _ _ _ _ _ hwr2).mono ?_
        rintro e w' ⟨rfl, rfl⟩
        rw [hl2]
        have HL2 := Lib.hid hl2
        clear hl2
        go_wp2_with fail
        refine (wbytes_any _ _ _ _ _ hwr2 (by rw [HL2.out]; omega)).mono ?_
        rintro e W3 ⟨a9, c9, rfl, hf⟩
        have hwr3 := hwr2.touch hf.2 (fun h => h) (fun _ _ h => h)
        have hbel3 := hbel2.trans (hf.2.below (fun _ _ h => h.elim) hbel2.size)
        clear hf hwr2 hbel2
        rw [HL2.out]
        go_wp2_with fail
        refine ⟨⟨k + 1, N + 2, v2, ys, by omega, by omega, by go_num, by go_num, HL2.out, by rw [HRS.out]; omega, hwr3, hbel3⟩, by simp [intOf]; omega⟩
      have n1 : (act == 1) = false := beq_eq_false_iff_ne.2 h1
      by_cases h2 : act = 2
      · subst h2
        have hu : 0 ≤ IntKind.u32.wrap num ∧ IntKind.u32.wrap num ≤ 4294967295 := by rw [IntKind.wrap_u32]; omega
        go_wp2_with fail
        refine (wU32_any _ _ _ _ _ _ hwr1 (by first | exact hu | omega) (by omega) hbel1.size).mono ?_
        rintro e W2 ⟨rfl, hp⟩
        have hbel2 := hbel1.trans (hp.below hwr1 hbel1.size)
        obtain ⟨v2, hwr2, tp, _⟩ := hp
        skip
        have hl2 : (xs ++ beB 4 (u64N (num % 4294967296))).length = N + 4 := by rw [List.length_append, beB_length]; omega
        generalize xs ++ beB 4 (u64N (num % 4294967296)) = ys at *
        clear hwr1 hbel1 d0 d1 d2 t1 c0 c1 c2 hW1 crow tp
        go_wp2_with fail
        refine (wlen_any _ _ _ _ _ hwr2).mono ?_
        rintro e w' ⟨rfl, rfl⟩
        rw [hl2]
        have HL2 := Lib.hid hl2
        clear hl2
        go_wp2_with fail
        refine (wbytes_any _ _ _ _ _ hwr2 (by rw [HL2.out]; omega)).mono ?_
        rintro e W3 ⟨a9, c9, rfl, hf⟩
        have hwr3 := hwr2.touch hf.2 (fun h => h) (fun _ _ h => h)
        have hbel3 := hbel2.trans (hf.2.below (fun _ _ h => h.elim) hbel2.size)
        clear hf hwr2 hbel2
        rw [HL2.out]
        go_wp2_with fail
        refine ⟨⟨k + 1, N + 4, v2, ys, by omega, by omega, by go_num, by go_num, HL2.out, by rw [HRS.out]; omega, hwr3, hbel3⟩, by simp [intOf]; omega⟩
      have n2 : (act == 2) = false := beq_eq_false_iff_ne.2 h2
      by_cases h3 : act = 3
      · subst h3
        go_wp2_with fail
        refine (wI64_any _ _ _ _ num _ hwr1 cn (by omega) hbel1.size).mono ?_
        rintro e W2 ⟨rfl, hp⟩
        have hbel2 := hbel1.trans (hp.below hwr1 hbel1.size)
        obtain ⟨v2, hwr2, tp, _⟩ := hp
        skip
        have hl2 : (xs ++ beB 8 (u64N num)).length = N + 8 := by rw [List.length_append, beB_length]; omega
        generalize xs ++ beB 8 (u64N num) = ys at *
        clear hwr1 hbel1 d0 d1 d2 t1 c0 c1 c2 hW1 crow tp
        go_wp2_with fail
        refine (wlen_any _ _ _ _ _ hwr2).mono ?_
        rintro e w' ⟨rfl, rfl⟩
        rw [hl2]
        have HL2 := Lib.hid hl2
        clear hl2
        go_wp2_with fail
        refine (wbytes_any _ _ _ _ _ hwr2 (by rw [HL2.out]; omega)).mono ?_
        rintro e W3 ⟨a9, c9, rfl, hf⟩
        have hwr3 := hwr2.touch hf.2 (fun h => h) (fun _ _ h => h)
        have hbel3 := hbel2.trans (hf.2.below (fun _ _ h => h.elim) hbel2.size)
        clear hf hwr2 hbel2
        rw [HL2.out]
        go_wp2_with fail
        refine ⟨⟨k + 1, N + 8, v2, ys, by omega, by omega, by go_num, by go_num, HL2.out, by rw [HRS.out]; omega, hwr3, hbel3⟩, by simp [intOf]; omega⟩
      have n3 : (act == 3) = false := beq_eq_false_iff_ne.2 h3
      have crow1 : RowB W1 ra rl rc raw := crow.touch t1 (fun _ _ => .inr (fun h => h))
      have hrl := crow.1
      have m0 := h0
      have m1 := h1
      have m2 := h2
      have m3 := h3
      clear h0 h1 h2 h3
      go_wp2_with fail
      refine (raw_any _ _ _ _ _ _ _ raw _ hwr1 crow1 (by omega) hbel1.size).mono ?_
      rintro e W2 ⟨rfl, hp⟩
      have hbel2 := hbel1.trans (hp.below hwr1 hbel1.size)
      obtain ⟨v2, hwr2, tp, _⟩ := hp
      have d2x : W2.cell? ⟨wr.heap.size, 2, none⟩ = some (.slice ra rl rc) := by
        rw [tp.cell (p := ⟨wr.heap.size, 2, none⟩) (by have := HS1.out; show wr.heap.size < W1.heap.size; omega) (by
          rintro (h | h)
          · have := hwr.foot.1; simp at h; omega
          · have := (hwr.foot.2 _ h).2; simp at this)]
        exact d2
      have hl2 : (xs ++ raw).length = N + rl := by rw [List.length_append, hrl]; omega
      generalize xs ++ raw = ys at *
      clear hwr1 hbel1 d0 d1 d2 t1 c0 c1 c2 hW1 crow tp
      go_wp2_with fail
      refine (wlen_any _ _ _ _ _ hwr2).mono ?_
      rintro e w' ⟨rfl, rfl⟩
      rw [hl2]
      have HL2 := Lib.hid hl2
      clear hl2
      go_wp2_with fail
      refine (wbytes_any _ _ _ _ _ hwr2 (by rw [HL2.out]; omega)).mono ?_
      rintro e W3 ⟨a9, c9, rfl, hf⟩
      have hwr3 := hwr2.touch hf.2 (fun h => h) (fun _ _ h => h)
      have hbel3 := hbel2.trans (hf.2.below (fun _ _ h => h.elim) hbel2.size)
      clear hf hwr2 hbel2
      rw [HL2.out]
      go_wp2_with fail
      refine ⟨⟨k + 1, N + rl, v2, ys, by omega, by omega, by go_num, by go_num, HL2.out, by rw [HRS.out]; omega, hwr3, hbel3⟩, by simp [intOf]; omega⟩
    · obtain rfl : len = k := by omega
      have hkI : ¬ (len : Int) < len := by omega
      go_wp2_with (go_at_call 19; refine (awake_any _).mono ?_; rintro e w' ⟨rfl, hbz⟩)
      go_ret
      exact ⟨rfl, hbel.trans (hbz.mono hbel.size)⟩

set_option maxHeartbeats 1000000 in
theorem widths_empty (a : Option Addr) (cap : Nat) (w : World) :
    Calls Try.prog 8 #[.slice a 0 cap] w fun e w' => e = .returned (.bool true) ∧ Below w.heap.size w w' := by
  obtain ⟨W0, hW0⟩ : ∃ W0, w.alloc (.cells #[.slice none 0 0] 26) = W0 := ⟨_, rfl⟩
  have hb0 : Below w.heap.size w W0 := hW0 ▸ (Below.refl _ _).alloc (Nat.le_refl _) _
  go_enter Try.func8, Try.ntmps8
  go_wp2_with fail
  clear hW0
  go_loop [11] (fun i => i = .int .i64 0) (fun _ => 0)
  case atStart => rfl
  case round =>
    subst hrel
    go_wp2_with (go_at_call 19; refine (awake_any _).mono ?_; rintro e w' ⟨rfl, hbz⟩)
    go_ret
    exact ⟨rfl, hb0.trans (hbz.mono hb0.size)⟩

theorem octetWidths_holds : Rows.OctetWidthsUptoSaid := by
  refine octetWidthsU.said fun H enc W base v0 d0 p0 h0 hk => ?_
  obtain ⟨a, len, cap, l, rfl, hl, hlc, hcm, hlen, hsum, hc⟩ := h0.calls (S := 0) Try.underlying22 Try.underlying28 (by kernel_rfl) Try.underlying3 Try.underlying2 Try.underlying24 Try.underlying5 (by kernel_rfl) rfl rfl rfl (by kernel_rfl) (by kernel_rfl) (by kernel_rfl) (by simpa [Rows.uptoBulkAll] using hk)
  rcases hc with rfl | ⟨x, rfl, hc⟩
  · exact widths_empty a cap W
  · by_cases h00 : len = 0
    · subst h00; exact widths_empty _ cap W
    · obtain ⟨b, off, spot⟩ := x
      have hs : spot = none := by
        have := (hc 0 (by omega)).act
        simpa [Addr.add] using World.cell?_spot this
      subst hs
      exact widths_walk b off len cap l W hl hlc hcm hlen hsum hc
end Go.Proofs.Ytpbcglbjgahilaa
