/- The slots, the rows as cells; a row takes the next free slot; all slots are filled. -/
import Derived.Test.YtgmimdnebgncoaaMagZ
import Derived.Test.YtgmimdnebgncoaaGAZ
import Derived.Test.YtgmimdnebgncoaaMakeBZ
import Derived.Deep.LoopGhost
import Derived.StillTailTactics
set_option linter.unusedVariables false
namespace Go.Proofs.Ytgmimdnebgncoaa
open Go.RowKit

def cI (x : Int) : List Value := [.int .i64 x]
def Rw.cells (r : Rw) : List Value := [.int .i64 r.id, .int .i64 r.wt, .int .i64 r.pos, .int .i64 r.sk]
/-- The slots, of the call's own. -/
def OwnT (w : World) (base : Nat) (v : Value) (T : List Int) : Prop := OwnS w base 3 1 v (T.map cI)
section
variable {w w' : World} {B G n c : Nat} {T : List Int} {rs : List Rw} {v : Value}
theorem OwnT.touch {S : Nat → Prop} (h : OwnT w B v T) (t : Touch w w' S) (h1 : ∀ x, v.ownBlock = some x → ¬ S x) : OwnT w' B v T := OwnS.touch h t h1
theorem OwnT.drew1 (h : OwnT w B v T) : OwnT w.drew B v T := h.touch (Touch.refl w (fun _ => False)).drew (fun _ _ h => h)
theorem OwnT.len (h : OwnT w B (.slice (some ⟨G, 0, none⟩) n c) T) : T.length = n := by have := (OwnS.row' h).1; simpa using this
theorem OwnT.at_ (h : OwnT w B (.slice (some ⟨G, 0, none⟩) n c) T) (i : Nat) (hi : i < T.length) : w.cell? ⟨G, i, none⟩ = some (.int .i64 T[i]) := by
  have := (OwnS.row' h).2.1.cell i (by simpa using hi) 0 (.int .i64 T[i]) (by simp [cI])
  simpa using this
theorem OwnT.free (h : OwnT w B (.slice (some ⟨G, 0, none⟩) n c) T) (i : Nat) : w.frozen? ⟨G, i, none⟩ = false := OwnS.free h i
theorem OwnT.stored (h : OwnT w B (.slice (some ⟨G, 0, none⟩) n c) T) (i : Nat) (hi : i < T.length) (x : Int) : OwnT (w.setCell ⟨G, i, none⟩ (.int .i64 x)) B (.slice (some ⟨G, 0, none⟩) n c) (T.set i x) := by
  have := OwnS.stored h i (by simpa using hi) 0 (by omega) (.int .i64 x)
  simp only [Nat.mul_one, Nat.add_zero] at this
  unfold OwnT
  rw [List.map_set]
  simpa [cI] using this
theorem OwnT.lt (h : OwnT w B (.slice (some ⟨G, 0, none⟩) n c) T) : B ≤ G ∧ G < w.heap.size := (OwnS.row' h).2.2 _ rfl
end

theorem mod_turn {q all x : Nat} (h : x < all) : (q * all + x) % all = x := by
  rw [Nat.mul_comm, Nat.mul_add_mod, Nat.mod_eq_of_lt h]

end Go.Proofs.Ytgmimdnebgncoaa
