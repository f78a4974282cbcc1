/- Both Parse's answers as one; Whole. -/
import Derived.Test.YthjdebcjfpokoaaIpRef
import Derived.Test.YthjdebcjfpokoaaIpBuild
set_option linter.unusedVariables false
namespace Go.Proofs.Ythjdebcjfpokoaa
open Go.RowKit

/-- The header, the bytes behind it, that Parse tells. -/
def tellH (xs : List Nat) : Hdr := if whyF xs = 0 then hdr xs else hdr0
def tellY (xs : List Nat) : List Nat := if whyF xs = 0 then (xs.take (hdr xs).len).drop (4 * (hdr xs).ihl) else []
/-- What Parse hands back. -/
def ParseIs (w w' : World) (h : Hdr) (n : Nat) (ys : List Nat) (why : Nat) (e : Ending) : Prop :=
  ∃ a c, e = .returned (.tuple #[hv h, .slice a n c, .int .i64 (why : Nat)]) ∧ RowB w' a n c ys ∧ Touch w w' (fun _ => False) ∧ (∀ x, a = some x → w.heap.size ≤ x.block)

theorem ParseIs.bad {w w' : World} {xs : List Nat} {e : Ending} (hy : whyF xs ≠ 0) (he : e = .returned (.tuple #[hv hdr0, .slice none 0 0, .int .i64 (whyF xs)])) (t : Touch w w' (fun _ => False)) : ParseIs w w' (tellH xs) (tellY xs).length (tellY xs) (whyF xs) e := by
  unfold tellH tellY
  rw [if_neg hy, if_neg hy]
  exact ⟨none, 0, he, RowB.nil _ _ _ (by omega), t, fun x hx => by cases hx⟩
theorem ParseIs.good {w w' : World} {xs : List Nat} {e : Ending} (hy : whyF xs = 0) (hp : Parsed w w' xs e) : ParseIs w w' (tellH xs) (tellY xs).length (tellY xs) (whyF xs) e := by
  unfold tellH tellY
  rw [if_pos hy, if_pos hy, hy]
  obtain ⟨z1, z2, z3, z4, z5, z6, z7⟩ := why_zero hy
  have hl : ((xs.take (hdr xs).len).drop (4 * (hdr xs).ihl)).length = (hdr xs).len - 4 * (hdr xs).ihl := by
    have : (hdr xs).len ≤ xs.length := z7
    simp; omega
  obtain ⟨a', c', rfl, ho, t⟩ := hp
  obtain ⟨a2, c2, hv2, hr, hp⟩ := ho.row
  rw [hl] at hv2 hr ⊢
  simp only [Value.slice.injEq, true_and] at hv2
  obtain ⟨rfl, rfl⟩ := hv2
  refine ⟨_, _, rfl, hr, t, fun x hx => ?_⟩
  rcases hp with h1 | ⟨g, h1, h2, _⟩
  · rw [hx] at h1; cases h1
  · rw [hx] at h1; cases h1; exact h2

theorem parse_is (a : Option Addr) (len cap : Nat) (xs : List Nat) (w : World) (hr : RowB w a len cap xs) :
    Calls Try.prog 15 #[.slice a len cap] w fun e w' => ParseIs w w' (tellH xs) (tellY xs).length (tellY xs) (whyF xs) e := by
  by_cases hy : whyF xs = 0
  · exact (parse_ok a len cap xs w hr hy).mono fun e w' h => ParseIs.good hy h
  · exact (parse_bad a len cap xs w hr hy).mono fun e w' h => ParseIs.bad hy h.1 h.2
theorem rparse_is (a : Option Addr) (len cap : Nat) (xs : List Nat) (w : World) (hr : RowB w a len cap xs) (hlen : len ≤ 140737488351232) :
    Calls Try.prog 16 #[.slice a len cap] w fun e w' => ParseIs w w' (tellH xs) (tellY xs).length (tellY xs) (whyF xs) e := by
  by_cases hl : len < 20
  · have hw : whyF xs = 1 := why_short (by rw [hr.1]; exact hl)
    exact (rparse_short a len cap xs w hr hl).mono fun e w' h => ParseIs.bad (by omega) (by rw [hw]; exact h.1) h.2
  · refine (rparse_long a len cap xs w hr (by omega) hlen).mono ?_
    rintro e w' (⟨h1, h2, h3⟩ | ⟨h1, h2⟩)
    · exact ParseIs.bad h1 h2 h3
    · exact ParseIs.good h1 h2

/-- No fragment? -/
def wholeB (flags off : Int) : Bool := if flags % 2 = 0 then decide (off = 0) else false
theorem whole_any' (a b c d f o g i j k m : Int) (w : World) :
    Calls Try.prog 19 #[.agg #[.int .i64 a, .int .i64 b, .int .i64 c, .int .i64 d, .int .i64 f, .int .i64 o, .int .i64 g, .int .i64 i, .int .i64 j, .int .u32 k, .int .u32 m]] w fun e w' => e = .returned (.bool (wholeB f o)) ∧ Touch w w' (fun _ => False) := by
  have m1 : bits BinOp.and IntKind.i64 f 1 = f % 2 := mask_i64 _ 1 (by decide) 1 rfl
  by_cases hf : f % 2 = 0
  · have hfb : (f % 2 == 0) = true := beq_iff_eq.2 hf
    have e : wholeB f o = (o == 0) := by unfold wholeB; rw [if_pos hf]; rw [Bool.eq_iff_iff]; simp
    rw [e]
    clear hf e
    go_enter Try.func19, Try.ntmps19
    go_wp2
    all_goals (go_ret; exact ⟨rfl, (Touch.refl _ _).alloc _⟩)
  · have hfb : (f % 2 == 0) = false := beq_eq_false_iff_ne.2 hf
    have e : wholeB f o = false := by unfold wholeB; rw [if_neg hf]
    rw [e]
    clear hf e
    go_enter Try.func19, Try.ntmps19
    go_wp2
    all_goals (go_ret; exact ⟨rfl, (Touch.refl _ _).alloc _⟩)
theorem rwhole_any' (a b c d f o g i j k m : Int) (w : World) :
    Calls Try.prog 20 #[.agg #[.int .i64 a, .int .i64 b, .int .i64 c, .int .i64 d, .int .i64 f, .int .i64 o, .int .i64 g, .int .i64 i, .int .i64 j, .int .u32 k, .int .u32 m]] w fun e w' => e = .returned (.bool (wholeB f o)) ∧ Touch w w' (fun _ => False) := by
  have m1 : bits BinOp.and IntKind.i64 f 1 = f % 2 := mask_i64 _ 1 (by decide) 1 rfl
  by_cases hf : f % 2 = 0
  · have hfb : (f % 2 == 0) = true := beq_iff_eq.2 hf
    have e : wholeB f o = (o == 0) := by unfold wholeB; rw [if_pos hf]; rw [Bool.eq_iff_iff]; simp
    rw [e]
    clear hf e
    go_enter Try.func20, Try.ntmps20
    go_wp2
    all_goals (go_ret; exact ⟨rfl, (Touch.refl _ _).alloc _⟩)
  · have hfb : (f % 2 == 0) = false := beq_eq_false_iff_ne.2 hf
    have e : wholeB f o = false := by unfold wholeB; rw [if_neg hf]
    rw [e]
    clear hf e
    go_enter Try.func20, Try.ntmps20
    go_wp2
    all_goals (go_ret; exact ⟨rfl, (Touch.refl _ _).alloc _⟩)
end Go.Proofs.Ythjdebcjfpokoaa
