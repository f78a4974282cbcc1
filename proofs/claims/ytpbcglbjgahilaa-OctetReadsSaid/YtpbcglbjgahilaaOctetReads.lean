/- OctetReads answers true for any bytes and any calls: each answer is the reference's, and so is the error. No condition. -/
import Derived.Test.YtpbcglbjgahilaaOctAwake
import Derived.Test.YtpbcglbjgahilaaOctArgs
import Derived.Test.YtpbcglbjgahilaaOctRaw
import Derived.Test.YtpbcglbjgahilaaFrOctetReads
import Derived.Deep.RegionWith
set_option linter.unusedVariables false
namespace Go.Proofs.Ytpbcglbjgahilaa
open Go.RowKit

theorem GotR.get {w w' : World} {a : Option Addr} {n c : Nat} {ys : List Nat} (h : GotR w w' (.slice a n c) ys) : RowB w' a n c ys := by
  obtain ⟨a', c', hv, hr, _⟩ := h
  simp only [Value.slice.injEq] at hv
  obtain ⟨rfl, rfl, rfl⟩ := hv
  exact hr
theorem Rd.drewN {w : World} {G M : Nat} {xs : List Nat} {err : Int} (h : Rd w G M xs err) (n : Nat) : Rd (w.drewN n) G M xs err := h.still ((Touch.refl _ _).drewN n)
theorem Rf.drewN {w : World} {G M : Nat} {xs : List Nat} {err : Int} (h : Rf w M G xs err) (n : Nat) : Rf (w.drewN n) M G xs err := h.still ((Touch.refl _ _).drewN n)
theorem nxt_inv (n : Nat) (xs : List Nat) (err : Int) (h : err = 0 ∨ err = 2 ∧ xs = []) : nxtE n xs err = 0 ∨ nxtE n xs err = 2 ∧ nxtX n xs = [] := by
  unfold nxtE nxtX; split
  · rcases h with h | ⟨h1, h2⟩
    · exact .inl h
    · right; subst h2; simp [h1]
  · exact .inr ⟨rfl, rfl⟩

set_option maxRecDepth 20000 in
set_option maxHeartbeats 4000000 in
theorem reads_walk (a : Option Addr) (n cap : Nat) (xs : List Nat) (la : Option Addr) (len lcap : Nat) (w : World) (hr : RowB w a n cap xs) (hn : n ≤ 140737488351232) (hlc : len ≤ lcap) (hcm : lcap ≤ 9223372036854775807)
    (hc : len = 0 ∨ ∃ b off, la = some ⟨b, off, none⟩ ∧ ∀ i, i < len → ∃ act num raw, CallIn w b off i act num raw) :
    Calls Try.prog 4 #[.slice a n cap, .slice la len lcap] w fun e w' => e = .returned (.bool true) ∧ Below w.heap.size w w' := by
  have HC := Lib.hid hc
  clear hc
  have HR := Lib.hid hr
  have hxn := Lib.hid hr.1
  have hca := Lib.hid hr.2.2.1
  have H := Lib.hid (newreader_any a n cap xs w hr (by omega))
  clear hr
  go_enter Try.func4, Try.ntmps4
  go_wp2_with fail
  refine H.out.mono ?_
  rintro e w1 ⟨v, rfl, hnew⟩
  obtain ⟨G, a1, c1, rfl, hrd, t1, hG, hax⟩ := hnew
  have hb1 : Below w.heap.size w w1 := t1.below (fun _ _ h => h.elim) (Nat.le_refl _)
  have hr1 := HR.out.old hb1
  have hG1 := hrd.lt
  have hn2 : n ≤ 140737488355328 := by omega
  go_wp2_with (at_builtin; refine wpList_appendB rfl _ _ 24 rfl 5 Try.underlying24 infoB w1.heap.size (.slice none 0 0) [] rfl (OwnB.nil _ _ _) _ _ _ xs rfl hr1 n xs rfl hxn.out hn2 (Nat.le_refl _) w.heap.size w hb1 hb1.size ?_; intro a3 c3 w3 hown3 hr3 hg3 hb3 hs3 hp3 hl3)
  have t3 : Touch w1 w3 (fun _ => False) := (Touch.refl _ _).grown hg3 (fun k h1 _ => by simp [Value.ownBlock] at h1)
  obtain ⟨W4, hW4⟩ : ∃ W4, w3.alloc (.cells #[.slice a3 n c3, .int .i64 0] 46) = W4 := ⟨_, rfl⟩
  have t4 : Touch w3 W4 (fun _ => False) := hW4 ▸ (Touch.refl _ _).alloc _
  have hh4 : W4.heap[w3.heap.size]? = some (.cells #[.slice a3 n c3, .int .i64 0] 46 (0, 0)) := hW4 ▸ heap_alloc_new w3 _
  obtain ⟨M, hM⟩ : ∃ M, w3.heap.size = M := ⟨_, rfl⟩
  have hxl := hxn.out
  subst hxl
  have hlast := HC.out
  have hrd4 : Rd W4 G M xs 0 := ⟨a1, c1, (hrd.touch t3 (fun h => h) (fun _ _ => .inr (fun h => h))).touch t4 (fun h => h) (fun _ _ => .inr (fun h => h)), fun x hx => by
    by_cases h0 : xs.length = 0
    · exact .inl h0
    · right
      have := hrd.row.lt x hx
      omega⟩
  have hrf4 : Rf W4 M G xs 0 := ⟨a3, c3, ⟨hM ▸ hh4, hr3.touch t4 (fun _ _ => .inr (fun h => h)), fun x hx => by
      rcases hp3 with h | ⟨g, h, _, hg⟩
      · rw [hx] at h; cases h
      · rw [hx] at h; cases h; right; simp; omega⟩, fun x hx => by
      rcases hp3 with h | ⟨g, h, hg, _⟩
      · rw [hx] at h; cases h
      · rw [hx] at h; cases h; right; simp; omega⟩
  have hb4 : Below w.heap.size w W4 := hb3.trans (t4.below (fun _ _ h => h.elim) hb3.size)
  have hGM : G ≠ M := by omega
  have hMb : w.heap.size ≤ M := by have := hb1.size; omega
  have hn3 : xs.length ≤ 140737488355328 := hn2
  have hMs : M < W4.heap.size := by obtain ⟨_, _, h, _⟩ := hrf4; exact h.lt
  rw [hM]
  rw [hW4]
  clear hW4 t3 t4 hh4 hrd t1 hax hr1 hown3 hr3 hg3 hp3 hl3 hb1 hb3 hs3 hlast HR hM H
  go_loopw [7] (fun i wr => ∃ (k : Nat) (ys : List Nat) (err : Int), k ≤ len ∧ k ≤ 60 ∧ i = .int .i64 k ∧ Rd wr G M ys err ∧ Rf wr M G ys err ∧ (err = 0 ∨ err = 2 ∧ ys = []) ∧ ys.length ≤ 140737488355328 ∧ M < wr.heap.size ∧ Below w.heap.size w wr) (fun i _ => len - (intOf i).toNat)
  case atStart => exact ⟨0, xs, 0, Nat.zero_le _, by omega, rfl, hrd4, hrf4, .inl rfl, hn3, hMs, hb4⟩
  case round =>
    obtain ⟨k, ys, err, hk, hk60, rfl, hrd, hrf, hinv, hys, hMw, hbel⟩ := hrel
    clear hrd4 hrf4 hb4 hMs
    by_cases hk0 : 60 ≤ k
    · have hg : ¬ (k : Int) < 60 := by omega
      by_cases hlt0 : (k : Int) < len
      all_goals (
      go_wp2_with (first | (go_at_call 32; refine (rd_End G M _ _ _ hrd).mono ?_; rintro e w' ⟨rfl, rfl⟩) | (go_at_call 33; refine (rf_End M G _ _ _ hrf).mono ?_; rintro e w' ⟨rfl, rfl⟩) | (go_at_call 19; refine (awake_any _).mono ?_; rintro e w9 ⟨rfl, hbz⟩))
      go_ret
      exact ⟨rfl, hbel.trans (hbz.mono hbel.size)⟩)
    by_cases hlt : k < len
    · obtain hz | ⟨b, off, rfl, hc⟩ := HC.out
      · omega
      obtain ⟨act, num, raw, hcall⟩ := hc k hlt
      clear hc
      have hbw : b < w.heap.size := cell_lt (p := ⟨b, off + k * 3, none⟩) hcall.act
      obtain ⟨c0, c1', c2, ca, cn, ra, rl, rc, rfl⟩ := hcall.old hbel
      clear hcall
      have hkI : (k : Int) < len := by omega
      have hg : (k : Int) < 60 := by omega
      by_cases h0 : act = 0
      · subst h0
        go_wp2_with fail
        refine (rd_U8 G M ys err _ hrd).mono ?_
        rintro e W2 ⟨rfl, hrd2, t2⟩
        have hrf2 := hrf.touch t2 hGM
        go_wp2_with fail
        refine (rf_U8 M G ys err _ hrf2 (hinv.imp id And.right) hys).mono ?_
        rintro e W3 ⟨rfl, hrf3, t3⟩
        have hrd3 := hrd2.touch t3 hGM
        have hbel3 := (hbel.trans (t2.below (fun k _ h => by omega) hbel.size)).trans (t3.below (fun k _ h => by omega) (Nat.le_trans hbel.size t2.size))
        have hinv3 := nxt_inv 1 ys err hinv
        have hys3 := Nat.le_trans (nxt_short 1 ys) hys
        have hMw3 := Nat.lt_of_lt_of_le hMw (Nat.le_trans t2.size t3.size)
        clear hrd hrf hrd2 hrf2 hinv hys hbel hMw t2 t3 c0 c1' c2
        generalize nxtX 1 ys = zs at *
        generalize nxtE 1 ys err = err3 at *
        have HRD := Lib.hid hrd3
        have HRF := Lib.hid hrf3
        have HI := Lib.hid hinv3
        obtain ⟨a2, c2, hb2, ha2⟩ := hrf3
        have hcM := cell_of_cells hb2.head 0
        simp at hcM
        clear hb2 ha2 hrd3 hinv3
        go_wp2_with fail
        go_quiet ((first | (go_at_call 31; exact Calls.quiet_of_same (rd_Left G M _ _ _ (HRD.out.drewN _))) | (go_at_call 32; exact Calls.quiet_of_same (rd_End G M _ _ _ (HRD.out.drewN _))) | (go_at_call 33; exact Calls.quiet_of_same (rf_End M G _ _ _ (HRF.out.drewN _)))))
        go_wp2
        refine ⟨⟨k + 1, zs, err3, by omega, by omega, by go_num, HRD.out.drewN _, HRF.out.drewN _, HI.out, hys3, hMw3, below_drewN' hbel3 _⟩, by simp [intOf]; omega⟩
      have n0 : (act == 0) = false := beq_eq_false_iff_ne.2 h0
      by_cases h1 : act = 1
      · subst h1
        go_wp2_with fail
        refine (rd_U16 G M ys err _ hrd).mono ?_
        rintro e W2 ⟨rfl, hrd2, t2⟩
        have hrf2 := hrf.touch t2 hGM
        go_wp2_with fail
        refine (rf_U16 M G ys err _ hrf2 (hinv.imp id And.right) hys).mono ?_
        rintro e W3 ⟨rfl, hrf3, t3⟩
        have hrd3 := hrd2.touch t3 hGM
        have hbel3 := (hbel.trans (t2.below (fun k _ h => by omega) hbel.size)).trans (t3.below (fun k _ h => by omega) (Nat.le_trans hbel.size t2.size))
        have hinv3 := nxt_inv 2 ys err hinv
        have hys3 := Nat.le_trans (nxt_short 2 ys) hys
        have hMw3 := Nat.lt_of_lt_of_le hMw (Nat.le_trans t2.size t3.size)
        clear hrd hrf hrd2 hrf2 hinv hys hbel hMw t2 t3 c0 c1' c2
        generalize nxtX 2 ys = zs at *
        generalize nxtE 2 ys err = err3 at *
        have HRD := Lib.hid hrd3
        have HRF := Lib.hid hrf3
        have HI := Lib.hid hinv3
        obtain ⟨a2, c2, hb2, ha2⟩ := hrf3
        have hcM := cell_of_cells hb2.head 0
        simp at hcM
        clear hb2 ha2 hrd3 hinv3
        go_wp2_with fail
        go_quiet ((first | (go_at_call 31; exact Calls.quiet_of_same (rd_Left G M _ _ _ (HRD.out.drewN _))) | (go_at_call 32; exact Calls.quiet_of_same (rd_End G M _ _ _ (HRD.out.drewN _))) | (go_at_call 33; exact Calls.quiet_of_same (rf_End M G _ _ _ (HRF.out.drewN _)))))
        go_wp2
        refine ⟨⟨k + 1, zs, err3, by omega, by omega, by go_num, HRD.out.drewN _, HRF.out.drewN _, HI.out, hys3, hMw3, below_drewN' hbel3 _⟩, by simp [intOf]; omega⟩
      have n1 : (act == 1) = false := beq_eq_false_iff_ne.2 h1
      by_cases h2 : act = 2
      · subst h2
        go_wp2_with fail
        refine (rd_U32 G M ys err _ hrd).mono ?_
        rintro e W2 ⟨rfl, hrd2, t2⟩
        have hrf2 := hrf.touch t2 hGM
        go_wp2_with fail
        refine (rf_U32 M G ys err _ hrf2 (hinv.imp id And.right) hys).mono ?_
        rintro e W3 ⟨rfl, hrf3, t3⟩
        have hrd3 := hrd2.touch t3 hGM
        have hbel3 := (hbel.trans (t2.below (fun k _ h => by omega) hbel.size)).trans (t3.below (fun k _ h => by omega) (Nat.le_trans hbel.size t2.size))
        have hinv3 := nxt_inv 4 ys err hinv
        have hys3 := Nat.le_trans (nxt_short 4 ys) hys
        have hMw3 := Nat.lt_of_lt_of_le hMw (Nat.le_trans t2.size t3.size)
        clear hrd hrf hrd2 hrf2 hinv hys hbel hMw t2 t3 c0 c1' c2
        generalize nxtX 4 ys = zs at *
        generalize nxtE 4 ys err = err3 at *
        have HRD := Lib.hid hrd3
        have HRF := Lib.hid hrf3
        have HI := Lib.hid hinv3
        obtain ⟨a2, c2, hb2, ha2⟩ := hrf3
        have hcM := cell_of_cells hb2.head 0
        simp at hcM
        clear hb2 ha2 hrd3 hinv3
        go_wp2_with fail
        go_quiet ((first | (go_at_call 31; exact Calls.quiet_of_same (rd_Left G M _ _ _ (HRD.out.drewN _))) | (go_at_call 32; exact Calls.quiet_of_same (rd_End G M _ _ _ (HRD.out.drewN _))) | (go_at_call 33; exact Calls.quiet_of_same (rf_End M G _ _ _ (HRF.out.drewN _)))))
        go_wp2
        refine ⟨⟨k + 1, zs, err3, by omega, by omega, by go_num, HRD.out.drewN _, HRF.out.drewN _, HI.out, hys3, hMw3, below_drewN' hbel3 _⟩, by simp [intOf]; omega⟩
      have n2 : (act == 2) = false := beq_eq_false_iff_ne.2 h2
      by_cases h3 : act = 3
      · subst h3
        go_wp2_with fail
        refine (rd_I64 G M ys err _ hrd).mono ?_
        rintro e W2 ⟨rfl, hrd2, t2⟩
        have hrf2 := hrf.touch t2 hGM
        go_wp2_with fail
        refine (rf_I64 M G ys err _ hrf2 (hinv.imp id And.right) hys).mono ?_
        rintro e W3 ⟨rfl, hrf3, t3⟩
        have hrd3 := hrd2.touch t3 hGM
        have hbel3 := (hbel.trans (t2.below (fun k _ h => by omega) hbel.size)).trans (t3.below (fun k _ h => by omega) (Nat.le_trans hbel.size t2.size))
        have hinv3 := nxt_inv 8 ys err hinv
        have hys3 := Nat.le_trans (nxt_short 8 ys) hys
        have hMw3 := Nat.lt_of_lt_of_le hMw (Nat.le_trans t2.size t3.size)
        clear hrd hrf hrd2 hrf2 hinv hys hbel hMw t2 t3 c0 c1' c2
        generalize nxtX 8 ys = zs at *
        generalize nxtE 8 ys err = err3 at *
        have HRD := Lib.hid hrd3
        have HRF := Lib.hid hrf3
        have HI := Lib.hid hinv3
        obtain ⟨a2, c2, hb2, ha2⟩ := hrf3
        have hcM := cell_of_cells hb2.head 0
        simp at hcM
        clear hb2 ha2 hrd3 hinv3
        go_wp2_with fail
        go_quiet ((first | (go_at_call 31; exact Calls.quiet_of_same (rd_Left G M _ _ _ (HRD.out.drewN _))) | (go_at_call 32; exact Calls.quiet_of_same (rd_End G M _ _ _ (HRD.out.drewN _))) | (go_at_call 33; exact Calls.quiet_of_same (rf_End M G _ _ _ (HRF.out.drewN _)))))
        go_wp2
        refine ⟨⟨k + 1, zs, err3, by omega, by omega, by go_num, HRD.out.drewN _, HRF.out.drewN _, HI.out, hys3, hMw3, below_drewN' hbel3 _⟩, by simp [intOf]; omega⟩
      have n3 : (act == 3) = false := beq_eq_false_iff_ne.2 h3
      have m0 := h0
      have m1 := h1
      have m2 := h2
      have m3 := h3
      clear h0 h1 h2 h3
      go_wp2_with fail
      have HR1 : RowKit.Hid (Rd wr.drew G M ys err) := Lib.hid (hrd.drewN 1)
      have HF1 : RowKit.Hid (Rf wr.drew M G ys err) := Lib.hid (hrf.drewN 1)
      have hsz : w.heap.size ≤ wr.drew.heap.size := hbel.size
      have hbG : ¬ (fun k => k = G) b := fun h => by have : b = G := h; omega
      have ys140 := hys
      have hinv0 := Lib.hid hinv
      have HSZ : RowKit.Hid (M < wr.drew.heap.size) := Lib.hid hMw
      clear hrd hrf hinv
      go_region_with (first | (go_at_call 29; refine (rd_Raw G M ys err num _ HR1.out hGM hMw ys140).mono ?_; rintro e W2 ⟨v5, rfl, hg5, hrd2, t2⟩; obtain ⟨a5, c5, rfl, hrow5, hb5⟩ := hg5; have st5 : Sem.run Try.prog (convert 24 9 (.slice a5 (rawN num.toNat ys).length c5)) W2 = .ok (.string (strB (rawN num.toNat ys))) W2 := run_string_of (P := Try.prog) hrow5 24 9 5 Try.underlying24 Try.underlying5 Try.underlying9; have HG5 := Lib.hid hrow5; have HB5 := Lib.hid hb5; have HR2 := Lib.hid hrd2; have HT2 := Lib.hid t2; have hrf2 := Lib.hid (HF1.out.touch t2 hGM); have e0 : W2.cell? ⟨b, off + k * 3 + 1, none⟩ = some (.int .i64 num) := (t2.cell (p := ⟨b, off + k * 3 + 1, none⟩) (Nat.lt_of_lt_of_le hbw hsz) hbG).trans c1'; clear hrow5 hb5 hrd2 t2) | (go_at_call 30; refine (rf_Raw M G ys err num _ hrf2.out hinv0.out ys140).mono ?_; rintro e W3 ⟨v6, rfl, hg6, hrf3, t3⟩; obtain ⟨a6, c6, rfl, hrow6, hb6⟩ := hg6; have st6 : Sem.run Try.prog (convert 24 9 (.slice a6 (rawN num.toNat ys).length c6)) W3 = .ok (.string (strB (rawN num.toNat ys))) W3 := run_string_of (P := Try.prog) hrow6 24 9 5 Try.underlying24 Try.underlying5 Try.underlying9; have st7 : Sem.run Try.prog (convert 24 9 (.slice a5 (rawN num.toNat ys).length c5)) W3 = .ok (.string (strB (rawN num.toNat ys))) W3 := run_string_of (P := Try.prog) (HG5.out.touch t3 (fun x hx => .inr (fun h => by have := HB5.out x hx; have := HSZ.out; omega))) 24 9 5 Try.underlying24 Try.underlying5 Try.underlying9; have hrd3 := HR2.out.touch t3 hGM; have HT3 := Lib.hid t3; clear hrow6 hb6 t3))
      all_goals (
        have hinv3 := nxt_inv num.toNat ys err hinv0.out
        have hys3 := Nat.le_trans (nxt_short num.toNat ys) hys
        have hbel2 : Below w.heap.size w W2 := (below_drewN' hbel 1).trans (HT2.out.below (fun k _ h => by omega) hsz)
        have hbel3 := hbel2.trans (HT3.out.below (fun k _ h => by omega) hbel2.size)
        have hMw3 : M < W3.heap.size := Nat.lt_of_lt_of_le (Nat.lt_of_lt_of_le hMw HT2.out.size) HT3.out.size
        try clear st5
        try clear st6
        try clear st7
        try clear e0
        clear HR1 HF1 hbG HSZ hbel2 HT2 HT3 HG5 HB5 HR2 hrf2 c0 c1' c2
        generalize nxtX num.toNat ys = zs at *
        generalize nxtE num.toNat ys err = err3 at *
        have HRD := Lib.hid hrd3
        have HRF := Lib.hid hrf3
        have HI := Lib.hid hinv3
        obtain ⟨a2, c2, hb2, ha2⟩ := hrf3
        have hcM := cell_of_cells hb2.head 0
        simp at hcM
        clear hb2 ha2 hrd3 hinv3
        go_wp2_with fail
        go_quiet ((first | (go_at_call 31; exact Calls.quiet_of_same (rd_Left G M _ _ _ (HRD.out.drewN _))) | (go_at_call 32; exact Calls.quiet_of_same (rd_End G M _ _ _ (HRD.out.drewN _))) | (go_at_call 33; exact Calls.quiet_of_same (rf_End M G _ _ _ (HRF.out.drewN _)))))
        go_wp2
        refine ⟨⟨k + 1, zs, err3, by omega, by omega, by go_num, HRD.out.drewN _, HRF.out.drewN _, HI.out, hys3, hMw3, below_drewN' hbel3 _⟩, by simp [intOf]; omega⟩)
    · obtain rfl : len = k := by omega
      have hkI : ¬ (len : Int) < len := by omega
      go_wp2_with (first | (go_at_call 32; refine (rd_End G M _ _ _ hrd).mono ?_; rintro e w' ⟨rfl, rfl⟩) | (go_at_call 33; refine (rf_End M G _ _ _ hrf).mono ?_; rintro e w' ⟨rfl, rfl⟩) | (go_at_call 19; refine (awake_any _).mono ?_; rintro e w9 ⟨rfl, hbz⟩))
      go_ret
      exact ⟨rfl, hbel.trans (hbz.mono hbel.size)⟩

theorem octetReads_holds : Rows.OctetReadsSaid := by
  refine octetReads.said fun H enc W base v0 v1 d0 d1 p0 p1 h0 h1 => ?_
  obtain ⟨a, len, cap, xs, rfl, hr, hcap, _⟩ := h0.bytes Try.underlying24 Try.underlying5 (by kernel_rfl) (by kernel_rfl)
  obtain ⟨la, ln, lcap, rfl, hlc, hcm, hc⟩ := h1.callsIn Try.underlying22 Try.underlying28 (by kernel_rfl) Try.underlying3 Try.underlying2 Try.underlying24 rfl rfl rfl (by kernel_rfl) (by kernel_rfl) (by kernel_rfl)
  exact reads_walk a len cap xs la ln lcap W hr (by have := hr.2.1; omega) hlc hcm hc
end Go.Proofs.Ytpbcglbjgahilaa
