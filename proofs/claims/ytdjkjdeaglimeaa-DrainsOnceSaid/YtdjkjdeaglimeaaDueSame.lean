/- Two rows of keys are held against one another. -/
import Derived.Test.YtdjkjdeaglimeaaDueDue
set_option linter.unusedVariables false
set_option linter.unusedSimpArgs false
namespace Go.Proofs.Ytdjkjdeaglimeaa
open Go.RowKit

theorem take_ext_ne {α : Type} [DecidableEq α] {A B : List α} (hl : A.length = B.length) (k : Nat) (h1 : k < A.length) (h2 : k < B.length) (hne : A[k] ≠ B[k]) : A ≠ B := by
  intro e; subst e; exact hne rfl
set_option maxRecDepth 20000 in
set_option maxHeartbeats 4000000 in
theorem same_any (w : World) (a a2 : Option Addr) (n c n2 c2 : Nat) (A B : List QR) (hA : RowS w a n c 1 (kcells A)) (hB : RowS w a2 n2 c2 1 (kcells B)) (hn : A.length = n) (hn2 : B.length = n2) (hs : n ≤ 1024) (hs2 : n2 ≤ 1024) :
    Calls Try.prog 17 #[.slice a n c, .slice a2 n2 c2] w fun e w' => e = .returned (.bool (decide (A.map QR.key = B.map QR.key))) ∧ Touch w w' (fun _ => False) := by
  by_cases hl : n = n2
  case neg =>
    have hlI : ¬ (n : Int) = (n2 : Int) := by omega
    have hd : decide (A.map QR.key = B.map QR.key) = false := by
      rw [decide_eq_false_iff_not]; intro e
      have := congrArg List.length e
      simp at this; omega
    rw [hd]
    clear hA hB
    go_enter Try.func17, Try.ntmps17
    go_wp2_with fail
    go_ret
    exact ⟨rfl, Touch.refl _ _⟩
  case pos =>
  subst hl
  have HA := Lib.hid hA
  have HB := Lib.hid hB
  clear hA hB
  go_enter Try.func17, Try.ntmps17
  go_wp2_with fail
  go_loopw [13] (fun s13 wr => ∃ k : Nat, k ≤ n ∧ s13 = .int .i64 k ∧ (A.map QR.key).take k = (B.map QR.key).take k ∧ Touch w wr (fun _ => False)) (fun s13 _ => n - (intOf s13).toNat)
  case atStart => exact ⟨0, Nat.zero_le _, rfl, rfl, Touch.refl _ _⟩
  case round =>
    obtain ⟨k, hk, rfl, htk, ht⟩ := hrel
    have HTK := Lib.hid htk
    have HT := Lib.hid ht
    clear htk ht
    by_cases hlt : k < n
    case neg =>
      obtain rfl : n = k := by omega
      have hd : decide (A.map QR.key = B.map QR.key) = true := by
        rw [decide_eq_true_iff]
        have := HTK.out
        rwa [List.take_of_length_le (by simp; omega), List.take_of_length_le (by simp; omega)] at this
      have HE := Lib.hid hd
      clear hd
      go_wp2_with fail
      go_ret
      exact ⟨by rw [HE.out]; rfl, HT.out⟩
    case pos =>
      have hkA : k < (kcells A).length := by simp [kcells]; omega
      have hkB : k < (kcells B).length := by simp [kcells]; omega
      have rA := HA.out.still HT.out
      have rB := HB.out.still HT.out
      obtain ⟨b1, o1, ea⟩ := rA.some (by omega)
      obtain ⟨b2, o2, eb⟩ := rB.some (by omega)
      subst ea eb
      have hhA : ∀ W, Touch wr W (fun _ => False) → W.cell? ⟨b1, o1 + k, none⟩ = some (.string (gq A k).key) := fun W t => by
        have := (rA.still t).cell k hkA 0 (.string (gq A k).key) (by simp [kcells, gq_get A k (by omega)])
        simpa using this
      have hhB : ∀ W, Touch wr W (fun _ => False) → W.cell? ⟨b2, o2 + k, none⟩ = some (.string (gq B k).key) := fun W t => by
        have := (rB.still t).cell k hkB 0 (.string (gq B k).key) (by simp [kcells, gq_get B k (by omega)])
        simpa using this
      have c1 := hhA wr (Touch.refl _ _)
      have c2' := hhB wr (Touch.refl _ _)
      have hlI : (k : Int) < n := by omega
      have hcA := rA.hcap
      have hcB := rB.hcap
      have hmA := rA.hmax
      have hmB := rB.hmax
      have gA : (A.map QR.key)[k]'(by simp; omega) = (gq A k).key := by rw [List.getElem_map, gq_get A k (by omega)]
      have gB : (B.map QR.key)[k]'(by simp; omega) = (gq B k).key := by rw [List.getElem_map, gq_get B k (by omega)]
      by_cases he : (gq A k).key = (gq B k).key
      · have HS : RowKit.Hid ((A.map QR.key).take (k + 1) = (B.map QR.key).take (k + 1)) := Lib.hid (by
          rw [List.take_succ_eq_append_getElem (by simp; omega), List.take_succ_eq_append_getElem (by simp; omega), HTK.out, gA, gB, he])
        clear gA gB rA rB hhA hhB
        rw [he] at c1
        clear he
        generalize (gq B k).key = kk at *
        go_upto_region 6 with (fail)
        go_quiet (fail)
        all_goals (go_wp2_with fail)
        all_goals (go_roundw)
        all_goals first
          | exact ⟨k + 1, by omega, by go_num, HS.out, HT.out.drewN _⟩
          | (simp only [intOf]; omega)
      · have HE : RowKit.Hid (decide (A.map QR.key = B.map QR.key) = false) := Lib.hid (by
          rw [decide_eq_false_iff_not]
          intro e
          apply he
          rw [← gA, ← gB]
          simp only [e])
        clear gA gB rA rB hhA hhB
        generalize (gq B k).key = kk at *
        generalize (gq A k).key = kj at *
        have hq : (kj.toList == kk.toList) = false := by rw [beq_eq_false_iff_ne]; intro e; exact he (toList_inj e)
        go_upto_region 6 with (fail)
        go_quiet (fail)
        all_goals (go_wp2_with fail)
        all_goals (go_ret)
        all_goals (exact ⟨by rw [HE.out]; rfl, HT.out.drewN _⟩)
end Go.Proofs.Ytdjkjdeaglimeaa
