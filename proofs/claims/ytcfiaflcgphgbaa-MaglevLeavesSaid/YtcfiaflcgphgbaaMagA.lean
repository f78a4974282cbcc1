/- The known table: awake answers true. Two rows of numbers are held against one another. -/
import Derived.Test.YtcfiaflcgphgbaaMagS
set_option linter.unusedVariables false
namespace Go.Proofs.Ytcfiaflcgphgbaa
open Go.RowKit Go.Maps

def bsA : List BkD := [⟨1, 0, 1⟩, ⟨2, 0, 1⟩]
theorem tabA1 : (tabF bsA 7).count 1 = 4 := by decide +kernel
theorem tabA2 : (tabF bsA 7).count 2 = 3 := by decide +kernel
theorem may251 : mayS 251 = true := by decide +kernel
theorem may9 : mayS 9 = false := by decide +kernel
theorem Shr.look {w : World} {b k : Nat} {T : List Int} (h : Shr w b T k) (hk : T.length = k) (x : Int) (hx : 0 ≤ x) (hx2 : x ≤ 9223372036854775807) :
    (Instr.lookup 24 (.map (some b)) (.int .i64 x) false).run Try.prog w = .ok (.int .i64 (T.count x : Nat)) w := by
  obtain ⟨c, hrun, hat, _⟩ := World.ownsMap.lookup_int h keyedI Try.underlying24 Try.underlying3 (zeroI w) (keyOf_int_mk (a := x) Try.underlying3 (WalkArith.wf_i64 ⟨by omega, hx2⟩))
  subst hk
  have h2 := shD_at T x hx T.length (Nat.le_refl _)
  rw [List.take_length] at h2
  have := num_inj (hat.symm.trans h2)
  rw [this] at hrun; exact hrun
/-- A table's slots are small numbers. -/
theorem tab_small {bs : List BkD} {n : Nat} (hp : Prm n) : ∀ x ∈ tabF bs n, -1 ≤ x ∧ x ≤ 65535 := by
  intro x hx
  unfold tabF at hx
  split at hx
  · simp at hx; omega
  · rename_i hc
    have hg : gmay bs = true := by
      cases h : gmay bs with
      | true => rfl
      | false => exact absurd (.inr h) hc
    have hR := rows_fine hp hg
    have hI := inv_all hR (by rw [rowsF_length]; omega) n (Nat.le_refl _)
    rcases hI.mem x hx with h | ⟨r, hr, h⟩
    · omega
    · have := hR.each r hr; omega
theorem tab_len {bs : List BkD} {n : Nat} (hp : Prm n) : (tabF bs n).length = n := by
  unfold tabF
  split
  · simp
  · rename_i hc
    have hg : gmay bs = true := by
      cases h : gmay bs with
      | true => rfl
      | false => exact absurd (.inr h) hc
    exact (inv_all (rows_fine hp hg) (by rw [rowsF_length]; omega) n (Nat.le_refl _)).tl
theorem tab_i64 {bs : List BkD} {n : Nat} (hp : Prm n) : ∀ x ∈ tabF bs n, -9223372036854775808 ≤ x ∧ x ≤ 9223372036854775807 := fun x hx => by have := tab_small hp x hx; omega

set_option maxRecDepth 20000 in
set_option maxHeartbeats 2000000 in
theorem awake18 (w : World) : Calls Try.prog 8 #[] w fun e w' => e = .returned (.bool true) ∧ Touch w w' (fun _ => False) := by
  have HK : RowKit.Hid (RowK (w.alloc (.cells #[.int .i64 1, .int .u32 0, .int .i64 1, .int .i64 2, .int .u32 0, .int .i64 1] 32)) (some ⟨w.heap.size, 0, none⟩) 2 2 bsA) := Lib.hid
    ((OwnS.lit w w.heap.size (Nat.le_refl _) 32 3 2 (bsA.map BkD.cells) _ rfl rfl (by simp [bsA, BkD.cells]) (by omega)).row').2.1
  have HM9 : RowKit.Hid (∀ W, Calls Try.prog 16 #[.int .i64 9] W fun e w' => e = .returned (.bool false) ∧ W = w') := Lib.hid (fun W => by rw [← may9]; exact mayS_any 9 W (by omega) (by omega))
  have HM251 : RowKit.Hid (∀ W, Calls Try.prog 16 #[.int .i64 251] W fun e w' => e = .returned (.bool true) ∧ W = w') := Lib.hid (fun W => by rw [← may251]; exact mayS_any 251 W (by omega) (by omega))
  go_enter Try.func8, Try.ntmps8
  go_wp2_with fail
  refine (table_any _ _ _ 7 bsA _ prm7 HK.out).mono ?_
  rintro e w2 ⟨G, rfl, ho, t2⟩
  have HT := Lib.hid (((Touch.refl w (fun _ => False)).alloc (.cells #[.int .i64 1, .int .u32 0, .int .i64 1, .int .i64 2, .int .u32 0, .int .i64 1] 32)).trans t2 (fun _ _ h => h))
  have HR := Lib.hid (ho.rowI (tab_i64 prm7))
  clear ho t2 HK
  go_wp2_with fail
  refine (shares_any _ _ _ _ _ HR.out (by omega)).mono ?_
  rintro e w3 ⟨rfl, hs, t3⟩
  have HT3 := Lib.hid (HT.out.trans t3 (fun _ _ h => h))
  have hl : (tabF bsA 7).length = 7 := tab_len prm7
  have k1 := hs.look hl 1 (by omega) (by omega)
  have k2 := hs.look hl 2 (by omega) (by omega)
  rw [tabA1] at k1
  rw [tabA2] at k2
  clear hs t3 hl HR
  go_wp2_with (first
    | (go_at_call 16; (with_reducible refine (HM251.out _).mono ?_); rintro e w9 ⟨rfl, rfl⟩)
    | (go_at_call 16; (with_reducible refine (HM9.out _).mono ?_); rintro e w9 ⟨rfl, rfl⟩))
  go_ret
  exact ⟨rfl, HT3.out⟩

set_option maxRecDepth 20000 in
set_option maxHeartbeats 2000000 in
theorem ints_any (a a2 : Option Addr) (l1 c1 l2 c2 : Nat) (A B : List Int) (w : World) (hr : RowI w a l1 c1 A) (hr2 : RowI w a2 l2 c2 B) :
    Calls Try.prog 12 #[.slice a l1 c1, .slice a2 l2 c2] w fun e w' => e = .returned (.bool (decide (A = B))) ∧ Touch w w' (fun _ => False) := by
  have hl := hr.1
  have hcap := hr.2.2.1
  have hcap1 := hr.2.1
  have hl2 := hr2.1
  have hcap2 := hr2.2.2.1
  have hcap3 := hr2.2.1
  have HR := Lib.hid hr
  have HR2 := Lib.hid hr2
  have HL := Lib.hid hl
  have HL2 := Lib.hid hl2
  clear hr hl hr2 hl2
  by_cases hs : l1 = l2
  case neg =>
    have HF : RowKit.Hid (decide (A = B) = false) := Lib.hid (decide_eq_false (fun e => hs (by rw [← HL.out, ← HL2.out, e])))
    have hb : ((l1 : Int) != l2) = true := bne_iff_ne.2 (by omega)
    go_enter Try.func12, Try.ntmps12
    go_wp2
    go_ret
    exact ⟨by rw [HF.out]; rfl, Touch.refl _ _⟩
  case pos =>
    subst hs
    have hb : ((l1 : Int) != l1) = false := bne_eq_false_iff_eq.2 rfl
    go_enter Try.func12, Try.ntmps12
    go_wp2_with fail
    go_loopw [13] (fun i wr => ∃ k : Nat, k ≤ l1 ∧ i = .int .i64 k ∧ A.take k = B.take k ∧ Touch w wr (fun _ => False)) (fun i _ => l1 - (intOf i).toNat)
    case atStart => exact ⟨0, Nat.zero_le _, rfl, rfl, Touch.refl _ _⟩
    case round =>
      obtain ⟨k, hk, rfl, he, ht⟩ := hrel
      have HT := Lib.hid ht
      have HE := Lib.hid he
      clear he
      by_cases hlt : k < l1
      case neg =>
        obtain rfl : l1 = k := by omega
        have hlt' : ¬ (l1 : Int) < l1 := by omega
        have HF : RowKit.Hid (decide (A = B) = true) := Lib.hid (decide_eq_true (by have := HE.out; rwa [← HL.out, List.take_length, HL.out, ← HL2.out, List.take_length] at this))
        clear ht
        go_wp2
        go_ret
        exact ⟨by rw [HF.out]; rfl, HT.out⟩
      case pos =>
      obtain ⟨b, off, rfl, hc⟩ := (HR.out.still HT.out).some (by omega)
      obtain ⟨b2, off2, rfl, hc2⟩ := (HR2.out.still HT.out).some (by omega)
      have hk1 : k < A.length := by rw [HL.out]; exact hlt
      have hk2 : k < B.length := by rw [HL2.out]; omega
      have d1 := hc k hk1
      have d2 := hc2 k hk2
      have HA := Lib.hid (List.take_succ_eq_append_getElem hk1)
      have HB := Lib.hid (List.take_succ_eq_append_getElem hk2)
      have HN : RowKit.Hid (A = B → A[k] = B[k]) := Lib.hid (fun e => by subst e; rfl)
      generalize A[k] = x at *
      generalize B[k] = y at *
      have hlI : (k : Int) < l1 := by omega
      clear hc hc2 ht
      by_cases hxy : x = y
      · subst hxy
        have hb : (x != x) = false := bne_eq_false_iff_eq.2 rfl
        go_wp2_with fail
        go_quiet (fail)
        go_wp2
        exact ⟨⟨k + 1, hlt, by go_num, by rw [HA.out, HB.out, HE.out], HT.out.drewN _⟩, by simp [intOf]; omega⟩
      · have hb : (x != y) = true := bne_iff_ne.2 hxy
        have HF : RowKit.Hid (decide (A = B) = false) := Lib.hid (decide_eq_false (fun e => hxy (HN.out e)))
        go_wp2_with fail
        go_quiet (fail)
        go_wp2
        go_ret
        exact ⟨by rw [HF.out]; rfl, HT.out.drewN _⟩
end Go.Proofs.Ytcfiaflcgphgbaa
