/- OctetWrites answers true for any calls that hold together at most 1048576 values: what is written is what the reference appends. -/
import Derived.Test.YtpbcglbjgahilaaOctAwake
import Derived.Test.YtpbcglbjgahilaaOctArgs
import Derived.Test.YtpbcglbjgahilaaOctTwo
import Derived.Test.YtpbcglbjgahilaaFrOctetWritesU
import Derived.Deep.RegionWith
set_option linter.unusedVariables false
namespace Go.Proofs.Ytpbcglbjgahilaa
open Go.RowKit

theorem CallAt.cells2 {w wr : World} {b off : Nat} {i : Nat} {c : CallD} (h : CallAt w ⟨b, off, none⟩ i c) (hb : Below w.heap.size w wr) :
    wr.cell? ⟨b, off + i * 3, none⟩ = some (.int .i64 c.act) ∧ wr.cell? ⟨b, off + i * 3 + 1, none⟩ = some (.int .i64 c.num) ∧ wr.cell? ⟨b, off + i * 3 + 2, none⟩ = some (.slice c.ra c.rl c.rc) := by
  have ea : ∀ j, (⟨b, off, none⟩ : Addr).add j = ⟨b, off + j, none⟩ := by intro j; simp only [Addr.add]; split <;> simp_all
  have h0 := h.act
  have h1 := h.num
  have h2 := h.raw
  rw [ea] at h0 h1 h2
  have hlt : b < w.heap.size := cell_lt (p := ⟨b, off + (i * 3 + 0), none⟩) h0
  rw [← hb.cell (p := ⟨b, off + (i * 3 + 0), none⟩) hlt] at h0
  rw [← hb.cell (p := ⟨b, off + (i * 3 + 1), none⟩) hlt] at h1
  rw [← hb.cell (p := ⟨b, off + (i * 3 + 2), none⟩) hlt] at h2
  exact ⟨h0, h1, h2⟩
theorem rawSum_take2 (l : List CallD) (k : Nat) (h : k < l.length) : rawSum (l.take (k + 1)) = rawSum (l.take k) + l[k].rl := by
  rw [List.take_succ_eq_append_getElem h, rawSum_append]; simp [rawSum]
theorem rawSum_le2 (l : List CallD) (k : Nat) : rawSum (l.take k) ≤ rawSum l := by
  conv => rhs; rw [← List.take_append_drop k l]
  rw [rawSum_append]; omega

set_option maxHeartbeats 4000000 in
theorem writes_walk (la : Option Addr) (len cap : Nat) (l : List CallD) (w : World) (hl : l.length = len) (hlc : len ≤ cap) (hcm : cap ≤ 9223372036854775807) (hlen : len ≤ 1048576) (hsum : rawSum l ≤ 1048576)
    (hc : len = 0 ∨ ∃ b off, la = some ⟨b, off, none⟩ ∧ ∀ i (hi : i < l.length), CallAt w ⟨b, off, none⟩ i l[i]) :
    Calls Try.prog 3 #[.slice la len cap] w fun e w' => e = .returned (.bool true) ∧ Below w.heap.size w w' := by
  obtain ⟨W0, hW0⟩ : ∃ W0, w.alloc (.cells #[.slice none 0 0] 26) = W0 := ⟨_, rfl⟩
  have hw0 : WrB W0 w.heap.size w.heap.size (.slice none 0 0) [] := hW0 ▸ WrB.new w _ rfl
  have hb0 : Below w.heap.size w W0 := hW0 ▸ (Below.refl _ _).alloc (Nat.le_refl _) _
  have HC := Lib.hid hc
  have HL := Lib.hid hl
  clear hc hl
  go_enter Try.func3, Try.ntmps3
  go_wp2_with fail
  clear hW0
  go_loopw [4, 5] (fun want i wr => ∃ (k N : Nat) (v : Value) (aw : Option Addr) (cw : Nat) (xs : List Nat), k ≤ len ∧ k ≤ 60 ∧ i = .int .i64 k ∧ want = .slice aw N cw ∧ xs.length = N ∧ N ≤ 8 * k + rawSum (l.take k) ∧ Two wr w.heap.size w.heap.size v (.slice aw N cw) xs xs ∧ Below w.heap.size w wr) (fun _ i _ => len - (intOf i).toNat)
  case atStart => exact ⟨0, 0, _, none, 0, [], Nat.zero_le _, by omega, rfl, rfl, rfl, by omega, ⟨hw0, OwnB.nil _ _ _, by simp [Value.ownBlock], by simp [Value.ownBlock]⟩, hb0⟩
  case round =>
    obtain ⟨k, N, v, aw, cw, xs, hk, hk60, rfl, rfl, hxl, hN, h2, hbel⟩ := hrel
    have hrsk := rawSum_le2 l k
    by_cases hk0 : 60 ≤ k
    · have hg : ¬ (k : Int) < 60 := by omega
      have hin : (k : Int) ≤ len := by omega
      by_cases hlt0 : (k : Int) < len
      all_goals (
      have hwd := h2.wr.drewN 1
      have hod := h2.own.drewN 1
      obtain ⟨a4, c4, hv, hr4, _⟩ := hod.row
      simp only [Value.slice.injEq] at hv
      obtain ⟨rfl, hN4, rfl⟩ := hv
      rw [← hN4] at hr4
      have hbeld : Below w.heap.size w (wr.drewN 1) := below_drewN' hbel 1
      have hvd : ∀ k, (Value.slice aw N cw).ownBlock = some k → True := fun _ _ => trivial
      have st0 : Sem.run Try.prog (convert 24 9 (.slice aw N cw)) wr.drew = .ok (.string (strB xs)) wr.drew := run_string_of (P := Try.prog) hr4 24 9 5 Try.underlying24 Try.underlying5 Try.underlying9
      have hlx : xs.length ≤ 140737488355328 := by omega
      have HW := Lib.hid hwd
      have HR := Lib.hid hr4
      have HN := Lib.hid hN4
      clear hwd hod hr4 h2 hN4 hxl
      go_wp2_with fail
      go_region_with (first | (go_at_call 18; refine (wbytes_any _ _ _ _ _ HW.out hlx).mono ?_; rintro e w3 ⟨a3, c3, rfl, hf⟩; have st1 : Sem.run Try.prog (convert 24 9 (.slice a3 xs.length c3)) w3 = .ok (.string (strB xs)) w3 := (by obtain ⟨a3', c3', hv, hr3⟩ := hf.row; simp only [Value.slice.injEq, true_and] at hv; obtain ⟨rfl, rfl⟩ := hv; exact run_string_of (P := Try.prog) hr3 24 9 5 Try.underlying24 Try.underlying5 Try.underlying9); have st2 : Sem.run Try.prog (convert 24 9 (.slice aw N cw)) w3 = .ok (.string (strB xs)) w3 := run_string_of (P := Try.prog) (HR.out.touch hf.2 (fun _ _ => .inr (fun h => h))) 24 9 5 Try.underlying24 Try.underlying5 Try.underlying9; have hb3 := hbeld.trans (hf.2.below (fun _ _ h => h.elim) hbeld.size); clear hf) | (go_at_call 19; refine (awake_any _).mono ?_; rintro e w4 ⟨rfl, hbz⟩))
      all_goals (go_wp2; go_ret; exact ⟨rfl, hb3.trans (hbz.mono hb3.size)⟩))
    by_cases hlt : k < len
    · have hkl : k < l.length := by rw [HL.out]; exact hlt
      obtain hz | ⟨b, off, rfl, hc⟩ := HC.out
      · omega
      have hcall := hc k hkl
      clear hc
      obtain ⟨c0, c1, c2⟩ := hcall.cells2 hbel
      have ca := hcall.act64
      have cn := hcall.num64
      have hrow := Lib.hid hcall.row
      have HRS := Lib.hid (rawSum_take2 l k hkl)
      have hrsl := rawSum_le2 l (k + 1)
      rw [HRS.out] at hrsl
      clear hcall
      generalize l[k] = c at *
      obtain ⟨act, num, ra, rl, rc, raw⟩ := c
      dsimp only at *
      have hkI : (k : Int) < len := by omega
      have hg : (k : Int) < 60 := by omega
      obtain ⟨W1, hW1⟩ : ∃ W1, wr.alloc (.cells #[.int .i64 act, .int .i64 num, .slice ra rl rc] 28) = W1 := ⟨_, rfl⟩
      have hs1 : W1.heap.size = wr.heap.size + 1 := by rw [← hW1]; simp
      have t1 : Touch wr W1 (fun _ => False) := hW1 ▸ (Touch.refl _ _).alloc _
      have hh1 : W1.heap[wr.heap.size]? = some (.cells #[.int .i64 act, .int .i64 num, .slice ra rl rc] 28 (0, 0)) := hW1 ▸ heap_alloc_new wr _
      have d0 := cell_of_cells hh1 0
      have d1 := cell_of_cells hh1 1
      have d2 := cell_of_cells hh1 2
      simp at d0 d1 d2
      have h21 : Two W1 w.heap.size w.heap.size v (.slice aw N cw) xs xs := h2.still t1
      have hbel1 : Below w.heap.size w W1 := hbel.trans (t1.below (fun _ _ h => h.elim) hbel.size)
      have hG : w.heap.size < wr.heap.size := h2.wr.foot.1
      have hvk : ∀ k, v.ownBlock = some k → k < wr.heap.size := fun k hk => (h2.wr.foot.2 k hk).2
      have HX := Lib.hid hxl
      clear hh1 h2 t1
      have hold : ∀ (W2 : World) (j : Nat) (u : Value), W1.cell? ⟨wr.heap.size, j, none⟩ = some u → Touch W1 W2 (fun k => k = w.heap.size ∨ v.ownBlock = some k) → W2.cell? ⟨wr.heap.size, j, none⟩ = some u := by
        intro W2 j u hu t
        rw [t.cell (p := ⟨wr.heap.size, j, none⟩) (by show wr.heap.size < W1.heap.size; omega) (by
          rintro (h | h)
          · simp at h; omega
          · have := hvk _ h; simp at this)]
        exact hu
      have HO := Lib.hid hold
      clear hold hvk
      by_cases h0 : act = 0
      · subst h0
        go_wp2_with fail
        refine (wU8_any _ _ _ _ num _ h21.wr cn (by omega) hbel1.size).mono ?_
        rintro e W2 ⟨rfl, hp⟩
        have hbel2 := hbel1.trans (hp.below h21.wr hbel1.size)
        obtain ⟨v2, h22, t2⟩ := h21.put hp
        have e1 := HO.out _ _ _ d1 t2
        clear d0 d1 d2 hW1 c0 c1 c2 hp
        have hrl := row_lit W2 #[.int .u8 (num % 256)] 1 _ (be_one num) (beB_length _ _) (beB_small _ _) (by decide)
        have h22' := h22.still ((Touch.refl W2 _).alloc (.cells #[.int .u8 (num % 256)] 5))
        have hb2' : Below w.heap.size w (W2.alloc (.cells #[.int .u8 (num % 256)] 5)) := hbel2.alloc hbel2.size _
        go_wp2_with (at_builtin; refine wpList_appendB rfl _ _ 24 rfl 5 Try.underlying24 infoB w.heap.size (.slice aw N cw) xs rfl h22'.own _ _ _ (beB 1 (u64N num)) rfl hrl (N + 1) (xs ++ beB 1 (u64N num)) rfl (by rw [List.length_append, beB_length, HX.out]) (by omega) hb2'.size w.heap.size w hb2' (Nat.le_refl _) ?_; intro a3 c3 w3 hown3 hr3 hg3 hb3 hs3 hp3 hl3; have h23 := h22'.add hown3 hg3 hl3; have hsz3 := Lib.hid (show (xs ++ beB 1 (u64N num)).length = N + 1 by rw [List.length_append, beB_length, HX.out]))
        clear h22 t2 hown3 hr3 hg3 hs3 hp3 hl3 hs1
        generalize xs ++ beB 1 (u64N num) = zs at *
        go_wp2_with fail
        refine (wlen_any _ _ _ _ _ h23.wr).mono ?_
        rintro e w' ⟨rfl, rfl⟩
        rw [hsz3.out]
        try clear h22'
        try clear hb2'
        try clear hrl
        try clear hr9
        try clear crow2
        try clear e1
        clear hbel2 h21 hbel1
        set_option maxRecDepth 20000 in go_wp2_with fail
        refine ⟨⟨k + 1, N + 1, v2, a3, c3, zs, by omega, by omega, by go_num, rfl, hsz3.out, by rw [HRS.out]; omega, h23, hb3⟩, by simp [intOf]; omega⟩
      have n0 : (act == 0) = false := beq_eq_false_iff_ne.2 h0
      by_cases h1 : act = 1
      · subst h1
        go_wp2_with fail
        refine (wU16_any _ _ _ _ _ _ h21.wr cn (by omega) hbel1.size).mono ?_
        rintro e W2 ⟨rfl, hp⟩
        have hbel2 := hbel1.trans (hp.below h21.wr hbel1.size)
        obtain ⟨v2, h22, t2⟩ := h21.put hp
        have e1 := HO.out _ _ _ d1 t2
        clear d0 d1 d2 hW1 c0 c1 c2 hp
        go_wp2_with fail
        refine (ref_u16 _ W2 cn).mono ?_
        rintro e W3 ⟨a9, c9, rfl, hf⟩
        obtain ⟨a9', c9', hv9, hr9⟩ := hf.row
        simp only [beB_length, Value.slice.injEq, true_and] at hv9 hr9
        obtain ⟨rfl, rfl⟩ := hv9
        have h22' := h22.still hf.2
        have hb2' := hbel2.trans (hf.2.below (fun _ _ h => h.elim) hbel2.size)
        clear hf
        go_wp2_with (at_builtin; refine wpList_appendB rfl _ _ 24 rfl 5 Try.underlying24 infoB w.heap.size (.slice aw N cw) xs rfl h22'.own _ _ _ (beB 2 (u64N num)) rfl hr9 (N + 2) (xs ++ beB 2 (u64N num)) rfl (by rw [List.length_append, beB_length, HX.out]) (by omega) hb2'.size w.heap.size w hb2' (Nat.le_refl _) ?_; intro a3 c3 w3 hown3 hr3 hg3 hb3 hs3 hp3 hl3; have h23 := h22'.add hown3 hg3 hl3; have hsz3 := Lib.hid (show (xs ++ beB 2 (u64N num)).length = N + 2 by rw [List.length_append, beB_length, HX.out]))
        clear h22 t2 hown3 hr3 hg3 hs3 hp3 hl3 hs1
        generalize xs ++ beB 2 (u64N num) = zs at *
        go_wp2_with fail
        refine (wlen_any _ _ _ _ _ h23.wr).mono ?_
        rintro e w' ⟨rfl, rfl⟩
        rw [hsz3.out]
        try clear h22'
        try clear hb2'
        try clear hrl
        try clear hr9
        try clear crow2
        try clear e1
        clear hbel2 h21 hbel1
        set_option maxRecDepth 20000 in go_wp2_with fail
        refine ⟨⟨k + 1, N + 2, v2, a3, c3, zs, by omega, by omega, by go_num, rfl, hsz3.out, by rw [HRS.out]; omega, h23, hb3⟩, by simp [intOf]; omega⟩
      have n1 : (act == 1) = false := beq_eq_false_iff_ne.2 h1
      by_cases h2 : act = 2
      · subst h2
        have hu : 0 ≤ IntKind.u32.wrap num ∧ IntKind.u32.wrap num ≤ 4294967295 := by rw [IntKind.wrap_u32]; omega
        go_wp2_with fail
        refine (wU32_any _ _ _ _ _ _ h21.wr (by first | exact hu | omega) (by omega) hbel1.size).mono ?_
        rintro e W2 ⟨rfl, hp⟩
        have hbel2 := hbel1.trans (hp.below h21.wr hbel1.size)
        obtain ⟨v2, h22, t2⟩ := h21.put hp
        have e1 := HO.out _ _ _ d1 t2
        clear d0 d1 d2 hW1 c0 c1 c2 hp
        go_wp2_with fail
        refine (ref_u32 _ W2 (by first | exact hu | omega)).mono ?_
        rintro e W3 ⟨a9, c9, rfl, hf⟩
        obtain ⟨a9', c9', hv9, hr9⟩ := hf.row
        simp only [beB_length, Value.slice.injEq, true_and] at hv9 hr9
        obtain ⟨rfl, rfl⟩ := hv9
        have h22' := h22.still hf.2
        have hb2' := hbel2.trans (hf.2.below (fun _ _ h => h.elim) hbel2.size)
        clear hf
        go_wp2_with (at_builtin; refine wpList_appendB rfl _ _ 24 rfl 5 Try.underlying24 infoB w.heap.size (.slice aw N cw) xs rfl h22'.own _ _ _ (beB 4 (u64N (num % 4294967296))) rfl hr9 (N + 4) (xs ++ beB 4 (u64N (num % 4294967296))) rfl (by rw [List.length_append, beB_length, HX.out]) (by omega) hb2'.size w.heap.size w hb2' (Nat.le_refl _) ?_; intro a3 c3 w3 hown3 hr3 hg3 hb3 hs3 hp3 hl3; have h23 := h22'.add hown3 hg3 hl3; have hsz3 := Lib.hid (show (xs ++ beB 4 (u64N (num % 4294967296))).length = N + 4 by rw [List.length_append, beB_length, HX.out]))
        clear h22 t2 hown3 hr3 hg3 hs3 hp3 hl3 hs1
        generalize xs ++ beB 4 (u64N (num % 4294967296)) = zs at *
        go_wp2_with fail
        refine (wlen_any _ _ _ _ _ h23.wr).mono ?_
        rintro e w' ⟨rfl, rfl⟩
        rw [hsz3.out]
        try clear h22'
        try clear hb2'
        try clear hrl
        try clear hr9
        try clear crow2
        try clear e1
        clear hbel2 h21 hbel1
        set_option maxRecDepth 20000 in go_wp2_with fail
        refine ⟨⟨k + 1, N + 4, v2, a3, c3, zs, by omega, by omega, by go_num, rfl, hsz3.out, by rw [HRS.out]; omega, h23, hb3⟩, by simp [intOf]; omega⟩
      have n2 : (act == 2) = false := beq_eq_false_iff_ne.2 h2
      by_cases h3 : act = 3
      · subst h3
        go_wp2_with fail
        refine (wI64_any _ _ _ _ _ _ h21.wr cn (by omega) hbel1.size).mono ?_
        rintro e W2 ⟨rfl, hp⟩
        have hbel2 := hbel1.trans (hp.below h21.wr hbel1.size)
        obtain ⟨v2, h22, t2⟩ := h21.put hp
        have e1 := HO.out _ _ _ d1 t2
        clear d0 d1 d2 hW1 c0 c1 c2 hp
        go_wp2_with fail
        refine (ref_i64 _ W2 cn).mono ?_
        rintro e W3 ⟨a9, c9, rfl, hf⟩
        obtain ⟨a9', c9', hv9, hr9⟩ := hf.row
        simp only [beB_length, Value.slice.injEq, true_and] at hv9 hr9
        obtain ⟨rfl, rfl⟩ := hv9
        have h22' := h22.still hf.2
        have hb2' := hbel2.trans (hf.2.below (fun _ _ h => h.elim) hbel2.size)
        clear hf
        go_wp2_with (at_builtin; refine wpList_appendB rfl _ _ 24 rfl 5 Try.underlying24 infoB w.heap.size (.slice aw N cw) xs rfl h22'.own _ _ _ (beB 8 (u64N num)) rfl hr9 (N + 8) (xs ++ beB 8 (u64N num)) rfl (by rw [List.length_append, beB_length, HX.out]) (by omega) hb2'.size w.heap.size w hb2' (Nat.le_refl _) ?_; intro a3 c3 w3 hown3 hr3 hg3 hb3 hs3 hp3 hl3; have h23 := h22'.add hown3 hg3 hl3; have hsz3 := Lib.hid (show (xs ++ beB 8 (u64N num)).length = N + 8 by rw [List.length_append, beB_length, HX.out]))
        clear h22 t2 hown3 hr3 hg3 hs3 hp3 hl3 hs1
        generalize xs ++ beB 8 (u64N num) = zs at *
        go_wp2_with fail
        refine (wlen_any _ _ _ _ _ h23.wr).mono ?_
        rintro e w' ⟨rfl, rfl⟩
        rw [hsz3.out]
        try clear h22'
        try clear hb2'
        try clear hrl
        try clear hr9
        try clear crow2
        try clear e1
        clear hbel2 h21 hbel1
        set_option maxRecDepth 20000 in go_wp2_with fail
        refine ⟨⟨k + 1, N + 8, v2, a3, c3, zs, by omega, by omega, by go_num, rfl, hsz3.out, by rw [HRS.out]; omega, h23, hb3⟩, by simp [intOf]; omega⟩
      have n3 : (act == 3) = false := beq_eq_false_iff_ne.2 h3
      have m0 := h0
      have m1 := h1
      have m2 := h2
      have m3 := h3
      clear h0 h1 h2 h3
      have hrl := hrow.out.1
      have crow1 := hrow.out.old hbel1
      go_wp2_with fail
      refine (raw_any _ _ _ _ _ _ _ raw _ h21.wr crow1 (by omega) hbel1.size).mono ?_
      rintro e W2 ⟨rfl, hp⟩
      have hbel2 := hbel1.trans (hp.below h21.wr hbel1.size)
      obtain ⟨v2, h22, t2⟩ := h21.put hp
      have e2 := HO.out _ _ _ d2 t2
      have crow2 := hrow.out.old hbel2
      clear d0 d1 d2 hW1 c0 c1 c2 hp crow1
      go_wp2_with (at_builtin; refine wpList_appendB rfl _ _ 24 rfl 5 Try.underlying24 infoB w.heap.size (.slice aw N cw) xs rfl h22.own _ _ _ (raw) rfl crow2 (N + rl) (xs ++ raw) rfl (by rw [List.length_append, hrl, HX.out]) (by omega) hbel2.size w.heap.size w hbel2 (Nat.le_refl _) ?_; intro a3 c3 w3 hown3 hr3 hg3 hb3 hs3 hp3 hl3; have h23 := h22.add hown3 hg3 hl3; have hsz3 := Lib.hid (show (xs ++ raw).length = N + rl by rw [List.length_append, hrl, HX.out]))
      clear h22 t2 hown3 hr3 hg3 hs3 hp3 hl3 hs1
      generalize xs ++ raw = zs at *
      go_wp2_with fail
      refine (wlen_any _ _ _ _ _ h23.wr).mono ?_
      rintro e w' ⟨rfl, rfl⟩
      rw [hsz3.out]
      try clear h22'
      try clear hb2'
      try clear hrl
      try clear hr9
      try clear crow2
      try clear e1
      clear hbel2 h21 hbel1
      set_option maxRecDepth 20000 in go_wp2_with fail
      refine ⟨⟨k + 1, N + rl, v2, a3, c3, zs, by omega, by omega, by go_num, rfl, hsz3.out, by rw [HRS.out]; omega, h23, hb3⟩, by simp [intOf]; omega⟩
    · obtain rfl : len = k := by omega
      have hkI : ¬ (len : Int) < len := by omega
      have hwd := h2.wr.drewN 1
      have hod := h2.own.drewN 1
      obtain ⟨a4, c4, hv, hr4, _⟩ := hod.row
      simp only [Value.slice.injEq] at hv
      obtain ⟨rfl, hN4, rfl⟩ := hv
      rw [← hN4] at hr4
      have hbeld : Below w.heap.size w (wr.drewN 1) := below_drewN' hbel 1
      have hvd : ∀ k, (Value.slice aw N cw).ownBlock = some k → True := fun _ _ => trivial
      have st0 : Sem.run Try.prog (convert 24 9 (.slice aw N cw)) wr.drew = .ok (.string (strB xs)) wr.drew := run_string_of (P := Try.prog) hr4 24 9 5 Try.underlying24 Try.underlying5 Try.underlying9
      have hlx : xs.length ≤ 140737488355328 := by omega
      have HW := Lib.hid hwd
      have HR := Lib.hid hr4
      have HN := Lib.hid hN4
      clear hwd hod hr4 h2 hN4 hxl
      go_wp2_with fail
      go_region_with (first | (go_at_call 18; refine (wbytes_any _ _ _ _ _ HW.out hlx).mono ?_; rintro e w3 ⟨a3, c3, rfl, hf⟩; have st1 : Sem.run Try.prog (convert 24 9 (.slice a3 xs.length c3)) w3 = .ok (.string (strB xs)) w3 := (by obtain ⟨a3', c3', hv, hr3⟩ := hf.row; simp only [Value.slice.injEq, true_and] at hv; obtain ⟨rfl, rfl⟩ := hv; exact run_string_of (P := Try.prog) hr3 24 9 5 Try.underlying24 Try.underlying5 Try.underlying9); have st2 : Sem.run Try.prog (convert 24 9 (.slice aw N cw)) w3 = .ok (.string (strB xs)) w3 := run_string_of (P := Try.prog) (HR.out.touch hf.2 (fun _ _ => .inr (fun h => h))) 24 9 5 Try.underlying24 Try.underlying5 Try.underlying9; have hb3 := hbeld.trans (hf.2.below (fun _ _ h => h.elim) hbeld.size); clear hf) | (go_at_call 19; refine (awake_any _).mono ?_; rintro e w4 ⟨rfl, hbz⟩))
      all_goals (go_wp2; go_ret; exact ⟨rfl, hb3.trans (hbz.mono hb3.size)⟩)

theorem octetWrites_holds : Rows.OctetWritesUptoSaid := by
  refine octetWritesU.said fun H enc W base v0 d0 p0 h0 hk => ?_
  obtain ⟨a, len, cap, l, rfl, hl, hlc, hcm, hlen, hsum, hc⟩ := h0.calls (S := 0) Try.underlying22 Try.underlying28 (by kernel_rfl) Try.underlying3 Try.underlying2 Try.underlying24 Try.underlying5 (by kernel_rfl) rfl rfl rfl (by kernel_rfl) (by kernel_rfl) (by kernel_rfl) (by simpa [Rows.uptoBulkAll] using hk)
  refine writes_walk a len cap l W hl hlc hcm hlen hsum ?_
  by_cases h00 : len = 0
  · exact .inl h00
  · right
    obtain h | ⟨x, rfl, hc⟩ := hc
    · exact absurd h h00
    · obtain ⟨b, off, spot⟩ := x
      have hs : spot = none := by
        have := (hc 0 (by omega)).act
        simpa [Addr.add] using World.cell?_spot this
      subst hs
      exact ⟨b, off, rfl, hc⟩
end Go.Proofs.Ytpbcglbjgahilaa
