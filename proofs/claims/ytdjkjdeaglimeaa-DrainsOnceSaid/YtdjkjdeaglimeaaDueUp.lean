/- container/heap's up, over a queue. -/
import Derived.Test.YtdjkjdeaglimeaaDueLess
import Derived.Test.YtdjkjdeaglimeaaDueSwap
import Derived.Handy
set_option linter.unusedVariables false
set_option linter.unusedSimpArgs false
namespace Go.Proofs.Ytdjkjdeaglimeaa
open Go.RowKit

/-- A step that changes places among the first N rows. -/
def Moved (N : Nat) (l l' : List QR) : Prop := l'.Perm l ∧ ∀ m, N ≤ m → gq l' m = gq l m
theorem Moved.refl (N : Nat) (l : List QR) : Moved N l l := ⟨.refl _, fun _ _ => rfl⟩
theorem Moved.length {N : Nat} {l l' : List QR} (h : Moved N l l') : l'.length = l.length := h.1.length_eq
theorem Moved.trans {N : Nat} {l l' l'' : List QR} (h : Moved N l l') (h2 : Moved N l' l'') : Moved N l l'' := ⟨h2.1.trans h.1, fun m hm => (h2.2 m hm).trans (h.2 m hm)⟩
theorem Moved.swap {N : Nat} {l : List QR} (hN : N ≤ l.length) (i j : Nat) (hi : i < N) (hj : j < N) : Moved N l (swapQ l i j) :=
  ⟨perm_swap l i j (by omega) (by omega), fun m hm => by rw [gq_swap l i j m (by omega) (by omega), if_neg (by omega), if_neg (by omega)]⟩
set_option maxRecDepth 20000 in
set_option maxHeartbeats 8000000 in
theorem up_any (w : World) (b : Nat) (h : QH) (l : List QR) (q : QB w b h l) (N j : Nat) (hN : N ≤ l.length) (hj : j < N) (hu : HeapUp N j l) :
    Calls Try.prog 51 #[.iface 90 (.pointer (some ⟨b, 0, none⟩)), .int .i64 j] w fun e w' => e = .returned (.tuple #[]) ∧ ∃ l', QStep w w' b h l' ∧ Moved N l l' ∧ HeapQ N l' := by
  have hl4 := q.len
  go_enter Try.func51, Try.ntmps51
  go_wp2_with fail
  go_loopw [1] (fun s1 wr => ∃ (m : Nat) (l1 : List QR), s1 = .int .i64 m ∧ m < N ∧ QStep w wr b h l1 ∧ Moved N l l1 ∧ HeapUp N m l1) (fun s1 _ => (intOf s1).toNat)
  case atStart => exact ⟨j, l, rfl, hj, QStep.refl q, Moved.refl N l, hu⟩
  case round =>
    obtain ⟨m, l1, rfl, hm, hs, hmv, hu1⟩ := hrel
    obtain ⟨h1, q1, t1, f1⟩ := hs
    have hlen := hmv.length
    have hpar : (par m : Nat) ≤ m := by unfold par; omega
    have e8 : ((m : Int) - 1).tdiv 2 = ((par m : Nat) : Int) := by
      unfold par
      by_cases h0 : m = 0
      · subst h0; rfl
      · rw [Int.tdiv_eq_ediv_of_nonneg (by omega)]; omega
    have HU := Lib.hid hu1
    have HQ := Lib.hid q1
    have HM := Lib.hid hmv
    have HT := Lib.hid t1
    have HF := Lib.hid f1
    clear hu1 q1 hmv t1 f1 hu
    by_cases h0 : m = 0
    · subst h0
      have p0 : par 0 = 0 := rfl
      rw [p0] at e8
      go_wp2_with fail
      go_end0
      exact ⟨rfl, l1, ⟨h1, HQ.out, HT.out, HF.out⟩, HM.out, up_done HU.out (.inl rfl)⟩
    have hpm : par m < m := by unfold par; omega
    have hne : ¬ ((par m : Nat) : Int) = (m : Int) := by omega
    have hm1 : m < l1.length := by omega
    have hp1 : par m < l1.length := by omega
    cases hB : ltQ (gq l1 m) (gq l1 (par m)) with
    | false =>
      have HL := Lib.hid (kless_any wr b h1 l1 HQ.out m (par m) hm1 hp1)
      rw [hB] at HL
      go_wp2_with fail
      refine HL.out.mono ?_
      rintro e w9 ⟨rfl, t9⟩
      go_wp2_with fail
      go_end0
      exact ⟨rfl, l1, QStep.trans HT.out HF.out (QStep.still HQ.out t9), HM.out, up_done HU.out (.inr hB)⟩
    | true =>
      have HL := Lib.hid (kless_any wr b h1 l1 HQ.out m (par m) hm1 hp1)
      rw [hB] at HL
      go_wp2_with fail
      refine HL.out.mono ?_
      rintro e w9 ⟨rfl, t9⟩
      have HS := Lib.hid (kswap_any w9 b h1 l1 (HQ.out.still t9) (par m) m hp1 hm1)
      go_wp2_with fail
      refine HS.out.mono ?_
      rintro e w8 ⟨rfl, s8⟩
      have HX : RowKit.Hid (∃ (m' : Nat) (l' : List QR), (Value.int .i64 (par m : Nat)) = .int .i64 m' ∧ m' < N ∧ QStep w w8 b h l' ∧ Moved N l l' ∧ HeapUp N m' l') := Lib.hid ⟨par m, _, rfl, by omega, QStep.trans HT.out HF.out (QStep.trans (t9.mono (fun _ _ h => h.elim)) (fun k hk => .inl hk) s8), HM.out.trans (Moved.swap (by omega) _ _ (by omega) hm), up_step HU.out (by omega) hm (by omega) hB⟩
      clear s8
      go_wp2_with fail
      go_roundw
      · exact HX.out
      · simp only [intOf]; omega
end Go.Proofs.Ytdjkjdeaglimeaa
