/- Rows of names that are the same; calls that are short. -/
import Derived.Test.YtmokcfmlolohaaaDskAwkZ
import Derived.Test.YtmokcfmlolohaaaDskArgsZ
set_option linter.unusedVariables false
set_option linter.unusedSimpArgs false
namespace Go.Proofs.Ytmokcfmlolohaaa
open Go.RowKit

theorem enter_same (a b : Value) (w : World) : (callFunc 35 #[a, b]).run Try.prog w = .ok (.enter 35 #[a, b]) w := by kernel_rfl
def strs (K : List ByteArray) : List (List Value) := K.map (fun k => [Value.string k])
theorem strRow_strs (M : List NmD) : strRow M = strs (M.map NmD.n) := by unfold strRow strs; rw [List.map_map]; rfl
theorem strs_cell {w : World} {b off n c : Nat} {K : List ByteArray} (r : RowS w (some ⟨b, off, none⟩) n c 1 (strs K)) (k : Nat) (hk : k < K.length) : w.cell? ⟨b, off + k, none⟩ = some (.string K[k]) := by
  have hk' : k < (strs K).length := by unfold strs; simpa using hk
  have e : (strs K)[k] = [Value.string K[k]] := by simp [strs]
  have := RowS.cell r k hk' 0 (.string K[k]) (by rw [e]; rfl)
  simpa using this
set_option maxRecDepth 20000 in
set_option maxHeartbeats 8000000 in
theorem dsame_any (w : World) (a b : Option Addr) (n c c2 : Nat) (K : List ByteArray) (hr : RowS w a n c 1 (strs K)) (hr2 : RowS w b n c2 1 (strs K)) :
    Calls Try.prog 35 #[.slice a n c, .slice b n c2] w fun e w' => e = .returned (.bool true) ∧ Touch w w' (fun _ => False) := by
  have hKl : K.length = n := by have := hr.hlen; unfold strs at this; simpa using this
  have hnc := hr.hcap
  have hnm := hr.hmax
  have HR := Lib.hid hr
  have HR2 := Lib.hid hr2
  have HKL := Lib.hid hKl
  clear hr hr2 hKl
  go_enter Try.func35, Try.ntmps35
  go_wp2_with fail
  go_loopw [13] (fun s13 wr => ∃ k : Nat, k ≤ n ∧ s13 = .int .i64 k ∧ Touch w wr (fun _ => False)) (fun s13 _ => n - (RowKit.intOf s13).toNat)
  case atStart => exact ⟨0, Nat.zero_le _, rfl, Touch.refl _ _⟩
  case round =>
    obtain ⟨k, hk, rfl, ht⟩ := hrel
    have HT := Lib.hid ht
    clear ht
    by_cases hlt : k < n
    case neg =>
      obtain rfl : n = k := by omega
      go_wp2_with fail
      go_ret
      exact ⟨rfl, HT.out⟩
    case pos =>
      have hlI : (k : Int) < n := by omega
      have hkK : k < K.length := by rw [HKL.out]; exact hlt
      have r1 := HR.out.still HT.out
      have r2 := HR2.out.still HT.out
      obtain ⟨b1, o1, e1⟩ := r1.some (by omega)
      obtain ⟨b2, o2, e2⟩ := r2.some (by omega)
      rw [e1] at r1
      rw [e2] at r2
      have x1 := strs_cell r1 k hkK
      have x2 := strs_cell r2 k hkK
      have hwk : wrap64 ((k : Int) + 1) = (k : Int) + 1 := by unfold wrap64; omega
      have HWK := Lib.hid hwk
      obtain ⟨s, hs⟩ : ∃ s, K[k] = s := ⟨_, rfl⟩
      rw [hs] at x1 x2
      rw [e1, e2]
      have HX : RowKit.Hid (∀ wx, Touch wr wx (fun _ => False) → ∃ k' : Nat, k' ≤ n ∧ Value.int .i64 ((k : Int) + 1) = .int .i64 k' ∧ Touch w wx (fun _ => False)) := Lib.hid (fun wx t => ⟨k + 1, by omega, by go_num, HT.out.trans t (fun _ _ h => h)⟩)
      clear r1 r2 hs hwk hkK
      go_upto_region 6 with (fail)
      go_cut [24] (fun s24 wx => s24 = .bool false ∧ ∃ nq, wx = wr.drewN nq)
      case first =>
        go_quiet (fail)
        all_goals (go_wp2_with fail; go_meet; exact ⟨rfl, _, rfl⟩)
      case rest =>
        obtain ⟨rfl, nq, rfl⟩ := hcut
        go_wp2_with fail
        try rw [HWK.out]
        go_roundw
        · exact HX.out _ ((Touch.refl _ _).drewN nq)
        · simp only [RowKit.intOf]; omega
def shortOk (L : List CallB) : Bool := decide (L.length ≤ 120) && L.all (fun k => decide (k.l ≤ 3000 ∧ k.c.name.size ≤ 40 ∧ k.c.tn.size ≤ 40))
theorem callB_cells {w : World} {b off n c : Nat} {L : List CallB} (r : RowS w (some ⟨b, off, none⟩) n c 5 (L.map CallB.cells)) (k : Nat) (hk : k < L.length) :
    w.cell? ⟨b, off + k * 5, none⟩ = some (.int .i64 L[k].c.do_) ∧ w.cell? ⟨b, off + k * 5 + 1, none⟩ = some (.int .i64 L[k].c.n) ∧ w.cell? ⟨b, off + k * 5 + 2, none⟩ = some (.string L[k].c.name) ∧ w.cell? ⟨b, off + k * 5 + 3, none⟩ = some (.string L[k].c.tn) ∧ w.cell? ⟨b, off + k * 5 + 4, none⟩ = some (.slice L[k].a L[k].l L[k].cp) := by
  have hk' : k < (L.map CallB.cells).length := by simpa using hk
  have e : (L.map CallB.cells)[k] = L[k].cells := by simp
  have h0 := RowS.cell r k hk' 0 (.int .i64 L[k].c.do_) (by rw [e]; rfl)
  have h1 := RowS.cell r k hk' 1 (.int .i64 L[k].c.n) (by rw [e]; rfl)
  have h2 := RowS.cell r k hk' 2 (.string L[k].c.name) (by rw [e]; rfl)
  have h3 := RowS.cell r k hk' 3 (.string L[k].c.tn) (by rw [e]; rfl)
  have h4 := RowS.cell r k hk' 4 (.slice L[k].a L[k].l L[k].cp) (by rw [e]; rfl)
  rw [Nat.add_zero] at h0
  exact ⟨h0, h1, h2, h3, h4⟩
set_option maxRecDepth 20000 in
set_option maxHeartbeats 8000000 in
theorem dshort_any (w : World) (a : Option Addr) (n c : Nat) (L : List CallB) (hr : RowS w a n c 5 (L.map CallB.cells)) (hsm : ∀ k ∈ L, k.l ≤ 281474976710656 ∧ k.c.name.size ≤ 281474976710656 ∧ k.c.tn.size ≤ 281474976710656) :
    Calls Try.prog 12 #[.slice a n c] w fun e w' => e = .returned (.bool (shortOk L)) ∧ Touch w w' (fun _ => False) := by
  have hLl : L.length = n := by have := hr.hlen; simpa using this
  have hnc := hr.hcap
  have hnm := hr.hmax
  have HR := Lib.hid hr
  have HLL := Lib.hid hLl
  have HSM := Lib.hid hsm
  clear hr hLl hsm
  go_enter Try.func12, Try.ntmps12
  go_wp2_with fail
  go_loopw [7] (fun s7 wr => ∃ k : Nat, k ≤ n ∧ s7 = .int .i64 k ∧ Touch w wr (fun _ => False) ∧ k ≤ 120 ∧ ∀ i (h : i < L.length), i < k → L[i].l ≤ 3000 ∧ L[i].c.name.size ≤ 40 ∧ L[i].c.tn.size ≤ 40) (fun s7 _ => n - (RowKit.intOf s7).toNat)
  case atStart => exact ⟨0, Nat.zero_le _, rfl, Touch.refl _ _, Nat.zero_le _, fun i h h2 => absurd h2 (Nat.not_lt_zero _)⟩
  case round =>
    obtain ⟨k, hk, rfl, ht, h120, hgd⟩ := hrel
    have HT := Lib.hid ht
    have HGD := Lib.hid hgd
    clear ht hgd
    by_cases hlt : k < n
    case neg =>
      obtain rfl : n = k := by omega
      have HOK : RowKit.Hid (shortOk L = true) := Lib.hid (by
        unfold shortOk
        rw [Bool.and_eq_true]
        refine ⟨decide_eq_true (by rw [HLL.out]; exact h120), List.all_eq_true.2 fun x hx => ?_⟩
        obtain ⟨i, hi, rfl⟩ := List.getElem_of_mem hx
        exact decide_eq_true (HGD.out i hi (by rw [HLL.out] at hi; exact hi)))
      go_wp2_with fail
      go_ret
      exact ⟨by rw [HOK.out]; rfl, HT.out⟩
    case pos =>
      have hlI : (k : Int) < n := by omega
      have hkL : k < L.length := by rw [HLL.out]; exact hlt
      have r1 := HR.out.still HT.out
      obtain ⟨b1, o1, e1⟩ := r1.some (by omega)
      rw [e1] at r1
      obtain ⟨p0, p1, p2, p3, p4⟩ := callB_cells r1 k hkL
      have HMEM := Lib.hid (List.getElem_mem hkL)
      have hsm := HSM.out _ (List.getElem_mem hkL)
      have HGK := Lib.hid (fun (h : L[k].l ≤ 3000 ∧ L[k].c.name.size ≤ 40 ∧ L[k].c.tn.size ≤ 40) i (hi : i < L.length) (hik : i < k + 1) => show L[i].l ≤ 3000 ∧ L[i].c.name.size ≤ 40 ∧ L[i].c.tn.size ≤ 40 from by
        by_cases e : i = k
        · subst e; exact h
        · exact HGD.out i hi (by omega))
      obtain ⟨q, hq⟩ : ∃ q, L[k] = q := ⟨_, rfl⟩
      rw [hq] at p0 p1 p2 p3 p4 HMEM hsm HGK
      obtain ⟨⟨q0, q1, q2, q3⟩, qa, ql, qc, qx⟩ := q
      simp only at p0 p1 p2 p3 p4 hsm HGK
      obtain ⟨z2, hz2⟩ : ∃ z, q2.size = z := ⟨_, rfl⟩
      obtain ⟨z3, hz3⟩ : ∃ z, q3.size = z := ⟨_, rfl⟩
      rw [hz2, hz3] at hsm HGK
      have HZ := Lib.hid (And.intro hz2 hz3)
      have hwk : wrap64 ((k : Int) + 1) = (k : Int) + 1 := by unfold wrap64; omega
      have HWK := Lib.hid hwk
      obtain ⟨W4, hW4⟩ : ∃ W, wr.alloc (.cells #[.int .i64 q0, .int .i64 q1, .string q2, .string q3, .slice qa ql qc] 31) = W := ⟨_, rfl⟩
      have g4 : W4.heap[wr.heap.size]? = some (.cells #[.int .i64 q0, .int .i64 q1, .string q2, .string q3, .slice qa ql qc] 31 (0, 0)) := hW4 ▸ heap_alloc_new ..
      have HT4 := Lib.hid (HT.out.trans (show Touch wr W4 (fun _ => False) from hW4 ▸ (Touch.refl wr _).alloc _) (fun _ _ h => h))
      have y2 : W4.cell? ⟨wr.heap.size, 2, none⟩ = some (.string q2) := cell_of_cells g4 2
      have y3 : W4.cell? ⟨wr.heap.size, 3, none⟩ = some (.string q3) := cell_of_cells g4 3
      have y4 : W4.cell? ⟨wr.heap.size, 4, none⟩ = some (.slice qa ql qc) := cell_of_cells g4 4
      have HW4 := Lib.hid hW4
      have HQQ : RowKit.Hid (True) := Lib.hid trivial
      rw [e1]
      clear r1 hq hW4 g4 hwk
      go_upto_region 4 with (fail)
      rw [HW4.out]
      clear p0 p1 p2 p3 p4
      by_cases h0 : k < 120
      case neg =>
        have i0 : (120 : Int) ≤ k := by omega
        have HBAD : RowKit.Hid (shortOk L = false) := Lib.hid (by
          rw [Bool.eq_false_iff]
          intro h
          unfold shortOk at h
          rw [Bool.and_eq_true] at h
          have ha := of_decide_eq_true h.1
          have hb := of_decide_eq_true (List.all_eq_true.1 h.2 _ HMEM.out)
          simp only at hb
          rw [HZ.out.1, HZ.out.2] at hb
          rw [HLL.out] at ha
          omega)
        go_wp2_with fail
        go_ret
        exact ⟨by rw [HBAD.out]; rfl, HT4.out⟩
      have i0 : ¬ (120 : Int) ≤ k := by omega
      by_cases h1 : ql ≤ 3000
      case neg =>
        have i1 : (3000 : Int) < ql := by omega
        have HBAD : RowKit.Hid (shortOk L = false) := Lib.hid (by
          rw [Bool.eq_false_iff]
          intro h
          unfold shortOk at h
          rw [Bool.and_eq_true] at h
          have ha := of_decide_eq_true h.1
          have hb := of_decide_eq_true (List.all_eq_true.1 h.2 _ HMEM.out)
          simp only at hb
          rw [HZ.out.1, HZ.out.2] at hb
          rw [HLL.out] at ha
          omega)
        go_wp2_with fail
        go_ret
        exact ⟨by rw [HBAD.out]; rfl, HT4.out⟩
      have i1 : ¬ (3000 : Int) < ql := by omega
      by_cases h2 : z2 ≤ 40
      case neg =>
        have i2 : (40 : Int) < z2 := by omega
        have HBAD : RowKit.Hid (shortOk L = false) := Lib.hid (by
          rw [Bool.eq_false_iff]
          intro h
          unfold shortOk at h
          rw [Bool.and_eq_true] at h
          have ha := of_decide_eq_true h.1
          have hb := of_decide_eq_true (List.all_eq_true.1 h.2 _ HMEM.out)
          simp only at hb
          rw [HZ.out.1, HZ.out.2] at hb
          rw [HLL.out] at ha
          omega)
        go_wp2_with fail
        go_ret
        exact ⟨by rw [HBAD.out]; rfl, HT4.out⟩
      have i2 : ¬ (40 : Int) < z2 := by omega
      by_cases h3 : z3 ≤ 40
      case neg =>
        have i3 : (40 : Int) < z3 := by omega
        have HBAD : RowKit.Hid (shortOk L = false) := Lib.hid (by
          rw [Bool.eq_false_iff]
          intro h
          unfold shortOk at h
          rw [Bool.and_eq_true] at h
          have ha := of_decide_eq_true h.1
          have hb := of_decide_eq_true (List.all_eq_true.1 h.2 _ HMEM.out)
          simp only at hb
          rw [HZ.out.1, HZ.out.2] at hb
          rw [HLL.out] at ha
          omega)
        go_wp2_with fail
        go_ret
        exact ⟨by rw [HBAD.out]; rfl, HT4.out⟩
      have i3 : ¬ (40 : Int) < z3 := by omega
      have HX : RowKit.Hid (∃ k' : Nat, k' ≤ n ∧ Value.int .i64 ((k : Int) + 1) = .int .i64 k' ∧ Touch w W4 (fun _ => False) ∧ k' ≤ 120 ∧ ∀ i (h : i < L.length), i < k' → L[i].l ≤ 3000 ∧ L[i].c.name.size ≤ 40 ∧ L[i].c.tn.size ≤ 40) := Lib.hid ⟨k + 1, by omega, by go_num, HT4.out, by omega, fun i hi hik => HGK.out ⟨h1, h2, h3⟩ i hi hik⟩
      go_wp2_with fail
      try rw [HWK.out]
      go_roundw
      · exact HX.out
      · simp only [RowKit.intOf]; omega
end Go.Proofs.Ytmokcfmlolohaaa
