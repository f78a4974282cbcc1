/- The known bytes: awake answers true. -/
import Derived.Test.YtpbcglbjgahilaaOctS
set_option linter.unusedVariables false
namespace Go.Proofs.Ytpbcglbjgahilaa
open Go.RowKit

/-- A writer that was just made. -/
theorem WrB.new (w : World) (g : Nat) (hg : g = w.heap.size) : WrB (w.alloc (.cells #[.slice none 0 0] 26)) w.heap.size g (.slice none 0 0) [] := by
  subst hg
  exact ⟨heap_alloc_new w _, Nat.le_refl _, OwnB.nil _ _ _, by simp [Value.ownBlock]⟩

theorem PutB.below {base G : Nat} {v : Value} {w w' : World} {xs zs : List Nat} (h : WrB w base G v xs) (p : PutB base G v w zs w') (hb : base ≤ w.heap.size) : Below base w w' := by
  obtain ⟨v', _, ht, _⟩ := p
  exact ht.below (fun k _ hk => by rcases hk with rfl | hk; exact h.low; exact (h.foot.2 k hk).1) hb

theorem be_known : beB 2 (u64N 258) = [1, 2] := by decide

set_option maxHeartbeats 1000000 in
theorem awake_any (w : World) :
    Calls Try.prog 19 #[] w fun e w' => e = .returned (.bool true) ∧ Below w.heap.size w w' := by
  have hw0 := WrB.new w _ rfl
  have hb0 : Below w.heap.size w (w.alloc (.cells #[.slice none 0 0] 26)) := (Below.refl _ _).alloc (Nat.le_refl _) _
  have hs0 : w.heap.size ≤ (w.alloc (.cells #[.slice none 0 0] 26)).heap.size := by simp
  have H := Lib.hid (wU16_any w.heap.size _ _ _ 258 _ hw0 (by omega) (by simp) hs0)
  go_enter Try.func19, Try.ntmps19
  go_wp2_with fail
  refine H.out.mono ?_
  rintro e w1 ⟨rfl, hp⟩
  have hb1 := hb0.trans (hp.below hw0 hs0)
  obtain ⟨v1, hw1, _, _⟩ := hp
  rw [be_known] at hw1
  go_wp2_with fail
  refine (wbytes_any _ _ _ _ _ hw1 (by simp)).mono ?_
  rintro e w2 ⟨a', cap', rfl, hf⟩
  obtain ⟨a2, c2, hv, hr⟩ := hf.row
  simp only [Value.slice.injEq, true_and] at hv
  obtain ⟨rfl, rfl⟩ := hv
  have hb2 := hb1.trans (hf.2.below (fun k _ h => h.elim) hb1.size)
  obtain ⟨_, _, hcap, _, _, hc⟩ := hr
  obtain h0 | ⟨b, off, rfl, hc⟩ := hc
  · simp at h0
  have c0 := hc 0 (by simp)
  have c1 := hc 1 (by simp)
  simp at c0 c1
  clear hc hw1
  go_wp2_with fail
  go_ret
  exact ⟨rfl, hb2⟩
end Go.Proofs.Ytpbcglbjgahilaa
