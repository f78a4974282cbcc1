/- What the calls of an octet.Writer answer: U8, U16, U32, I64, Bytes, Len; of one that there isn't, too. -/
import Derived.Test.YtmokcfmlolohaaaOctN
import Derived.WalkSpells
set_option linter.unusedVariables false
namespace Go.Proofs.Ytmokcfmlolohaaa
open Go.RowKit

/-- A number as 64 bits. -/
def u64N (n : Int) : Nat := (n % 18446744073709551616).toNat
theorem u64N_lt (n : Int) : u64N n < 18446744073709551616 := by unfold u64N; omega
theorem u64N_wrap (n : Int) : IntKind.u64.wrap n = (u64N n : Nat) := by rw [IntKind.wrap_u64]; unfold u64N; omega

/-- A slice that is a row of its own, all of it new: what a call hands back. -/
def FreshB (w w' : World) (v : Value) (xs : List Nat) : Prop :=
  OwnB w' w.heap.size 5 v xs ∧ Touch w w' (fun _ => False)

theorem FreshB.touch {w w' : World} {v : Value} {xs : List Nat} (h : FreshB w w' v xs) : Touch w w' (fun _ => False) := h.2
theorem FreshB.row {w w' : World} {v : Value} {xs : List Nat} (h : FreshB w w' v xs) : ∃ a cap, v = .slice a xs.length cap ∧ RowB w' a xs.length cap xs := by
  obtain ⟨a, cap, hv, hr, _⟩ := h.1.row
  exact ⟨a, cap, hv, hr⟩

set_option maxHeartbeats 1000000 in
theorem clone_any (a : Option Addr) (len cap : Nat) (xs : List Nat) (w : World) (hr : RowB w a len cap xs) (hlen : len ≤ 140737488355328) :
    Calls Try.prog 46 #[.slice a len cap] w fun e w' => ∃ a' cap', e = .returned (.slice a' len cap') ∧ FreshB w w' (.slice a' len cap') xs := by
  have hq := fun (w : World) (a : Option Addr) (n c : Nat) => Lib.run_eql_slice_nil (P := Try.prog) w 29 5 a n c 0 0 Try.underlying29
  have hxl := hr.1
  have hlt := hr.lt
  cases a with
  | none =>
    have hl : len = 0 := by
      rcases hr.2.2.2.2.2 with h | ⟨b, off, h, _⟩
      · exact h
      · cases h
    subst hl
    have hx : xs = [] := List.length_eq_zero_iff.1 hxl
    subst hx
    go_enter Try.func46, Try.ntmps46
    go_wp2
    go_ret
    exact ⟨none, 0, rfl, ⟨OwnB.nil _ _ _, Touch.refl _ _⟩⟩
  | some ad =>
    go_enter Try.func46, Try.ntmps46
    go_wp2_with (at_builtin; refine wpList_appendB rfl _ _ 29 rfl 5 Try.underlying29 infoB w.heap.size (.slice (some ⟨w.heap.size, 0, none⟩) 0 0) [] rfl (OwnB.lit w _ rfl _ (Nat.le_refl _) _ _ _ _ rfl rfl (by decide) (by decide)) _ _ _ xs rfl (hr.old (Below.alloc (Below.refl _ _) (Nat.le_refl _) _)) len xs rfl hxl (by omega) (by simp) w.heap.size w (Below.alloc (Below.refl _ _) (Nat.le_refl _) _) (Nat.le_refl _) ?_; intro a3 c3 w3 hown3 hr3 hg3 hb3 hs3 hp3 hl3)
    go_ret
    exact ⟨a3, c3, rfl, ⟨hown3, Touch.ofBelow hb3 (fun k h1 h2 => by omega)⟩⟩

theorem clone_nil (w : World) : Calls Try.prog 46 #[.slice none 0 0] w fun e w' => e = .returned (.slice none 0 0) ∧ w' = w := by
  have hq := fun (w : World) (a : Option Addr) (n c : Nat) => Lib.run_eql_slice_nil (P := Try.prog) w 29 5 a n c 0 0 Try.underlying29
  go_enter Try.func46, Try.ntmps46
  go_wp2
  go_ret
  exact ⟨rfl, rfl⟩

end Go.Proofs.Ytmokcfmlolohaaa
