/- What the calls of an octet.Reader answer and leave. -/
import Derived.Test.YthjdebcjfpokoaaOctC
set_option linter.unusedVariables false
namespace Go.Proofs.Ythjdebcjfpokoaa
open Go.RowKit

/-- The reader in block G has the bytes xs left, and the error err. -/
structure RdB (w : World) (G : Nat) (a : Option Addr) (len cap : Nat) (xs : List Nat) (err : Int) : Prop where
  head : w.heap[G]? = some (.cells #[.slice a len cap, .int .i64 err] 91 (0, 0))
  row : RowB w a len cap xs
  apart : ∀ x, a = some x → len = 0 ∨ x.block ≠ G

theorem RdB.lt {w : World} {G : Nat} {a : Option Addr} {len cap : Nat} {xs : List Nat} {err : Int} (h : RdB w G a len cap xs err) : G < w.heap.size := (Array.getElem?_eq_some_iff.1 h.head).1
theorem RdB.touch {w w' : World} {G : Nat} {a : Option Addr} {len cap : Nat} {xs : List Nat} {err : Int} {S : Nat → Prop} (h : RdB w G a len cap xs err) (t : Touch w w' S) (hG : ¬ S G) (ha : ∀ x, a = some x → len = 0 ∨ ¬ S x.block) : RdB w' G a len cap xs err :=
  ⟨(t.block G h.lt hG).trans h.head, h.row.touch t ha, h.apart⟩

set_option maxHeartbeats 1000000 in
theorem take_nil (n : Int) (w : World) :
    Calls Try.prog 62 #[.pointer none, .int .i64 n] w fun e w' => e = .returned (.slice none 0 0) ∧ w' = w := by
  go_enter Try.func62, Try.ntmps62
  go_wp2
  go_ret
  exact ⟨rfl, rfl⟩

set_option maxHeartbeats 1000000 in
theorem take_none (G : Nat) (a : Option Addr) (len cap : Nat) (xs : List Nat) (err n : Int) (w : World) (h : RdB w G a len cap xs err) (hn : n ≤ 0) :
    Calls Try.prog 62 #[.pointer (some ⟨G, 0, none⟩), .int .i64 n] w fun e w' => e = .returned (.slice none 0 0) ∧ w' = w := by
  go_enter Try.func62, Try.ntmps62
  go_wp2
  go_ret
  exact ⟨rfl, rfl⟩

set_option maxHeartbeats 1000000 in
theorem take_short (G : Nat) (a : Option Addr) (len cap : Nat) (xs : List Nat) (err n : Int) (w : World) (h : RdB w G a len cap xs err) (hn : (len : Int) < n) :
    Calls Try.prog 62 #[.pointer (some ⟨G, 0, none⟩), .int .i64 n] w fun e w' => e = .returned (.slice none 0 0) ∧ RdB w' G none 0 0 [] 2 ∧ Touch w w' (fun k => k = G) := by
  obtain ⟨hh, hrow, hap⟩ := h
  have hc0 := cell_of_cells hh 0
  have hc1 := cell_of_cells hh 1
  have hf0 := free_of_cells hh 0
  have hf1 := free_of_cells hh 1
  simp at hc0 hc1
  have hn0 : 0 < n := by omega
  go_enter Try.func62, Try.ntmps62
  go_wp2
  go_ret
  refine ⟨rfl, ⟨?_, RowB.nil _ _ _ (by omega), by simp⟩, ?_⟩
  · have e := heap_setCell_same _ G 1 _ _ (.int .i64 2) (heap_setCell_same w G 0 _ _ (.slice none 0 0) hh)
    simpa using e
  · have T : Touch w (w.setCell ⟨G, 0, none⟩ (.slice none 0 0)) (fun k => k = G) := (Touch.refl _ _).setCell ⟨G, 0, none⟩ _ (fun _ => rfl)
    exact T.setCell ⟨G, 1, none⟩ _ (fun _ => rfl)

/-- What taking n bytes leaves. -/
def TookB (G : Nat) (a : Option Addr) (len cap : Nat) (xs : List Nat) (err : Int) (n : Nat) (w w' : World) : Prop :=
  ∃ a', RdB w' G a' (len - n) (cap - n) (xs.drop n) err ∧ RowB w' a n cap (xs.take n) ∧ Touch w w' (fun k => k = G) ∧ (∀ x, a' = some x → ∃ y, a = some y ∧ x.block = y.block)

set_option maxHeartbeats 1000000 in
theorem take_some (G : Nat) (a : Option Addr) (len cap : Nat) (xs : List Nat) (err : Int) (n : Nat) (w : World) (h : RdB w G a len cap xs err) (hn0 : 0 < n) (hn : n ≤ len) :
    Calls Try.prog 62 #[.pointer (some ⟨G, 0, none⟩), .int .i64 n] w fun e w' => e = .returned (.slice a n cap) ∧ TookB G a len cap xs err n w w' := by
  obtain ⟨hh, hrow, hap⟩ := h
  have hc0 := cell_of_cells hh 0
  have hc1 := cell_of_cells hh 1
  have hf0 := free_of_cells hh 0
  have hf1 := free_of_cells hh 1
  simp at hc0 hc1
  have hle := hrow.2.1
  have hcm := hrow.2.2.1
  have i1 : (0 : Int) < n := by omega
  have i2 : (n : Int) ≤ (len : Int) := by omega
  have i3 : n ≤ cap := by omega
  by_cases hcn : cap = n
  · subst hcn
    have hln : len = cap := by omega
    subst hln
    go_enter Try.func62, Try.ntmps62
    go_wp2
    go_ret
    refine ⟨rfl, ?_⟩
    have T : Touch w (w.setCell ⟨G, 0, none⟩ (.slice a 0 0)) (fun k => k = G) := (Touch.refl _ _).setCell ⟨G, 0, none⟩ _ (fun _ => rfl)
    refine ⟨a, ⟨?_, ?_, fun x hx => .inl (by omega)⟩, ?_, by simpa using T, fun x hx => ⟨x, hx, rfl⟩⟩
    · have e := heap_setCell_same w G 0 _ _ (.slice a 0 0) hh
      simpa using e
    · have e : xs.drop len = [] := List.drop_of_length_le (by have := hrow.1; omega)
      rw [e, Nat.sub_self]
      exact RowB.nil _ _ _ (by omega)
    · rw [List.take_of_length_le (by have := hrow.1; omega)]
      have := hrow.touch T (fun x hx => by rcases hap x hx with h | h; exact .inl h; exact .inr h)
      simpa using this
  · have hcn' : ¬ n = cap := fun h => hcn h.symm
    go_enter Try.func62, Try.ntmps62
    go_wp2
    go_ret
    refine ⟨rfl, ?_⟩
    have T : Touch w (w.setCell ⟨G, 0, none⟩ (.slice (a.map (fun x => x.add n)) (len - n) (cap - n))) (fun k => k = G) := (Touch.refl _ _).setCell ⟨G, 0, none⟩ _ (fun _ => rfl)
    have hro : RowB (w.setCell ⟨G, 0, none⟩ (.slice (a.map (fun x => x.add n)) (len - n) (cap - n))) a len cap xs := hrow.touch T (fun x hx => by rcases hap x hx with h | h; exact .inl h; exact .inr h)
    have hblk : ∀ x, a.map (fun x => x.add n) = some x → ∃ y, a = some y ∧ x.block = y.block := by
      intro x hx
      cases a with
      | none => simp at hx
      | some y =>
        simp only [Option.map_some, Option.some.injEq] at hx
        exact ⟨y, rfl, by rw [← hx]; unfold Addr.add; split <;> rfl⟩
    refine ⟨a.map (fun x => x.add n), ⟨?_, hro.dropMap n hn, fun x hx => ?_⟩, hro.take n hn, T, hblk⟩
    · have e := heap_setCell_same w G 0 _ _ (.slice (a.map (fun x => x.add n)) (len - n) (cap - n)) hh
      simpa using e
    · obtain ⟨y, hy, hxy⟩ := hblk x hx
      rcases hap y hy with h | h
      · exact .inl (by omega)
      · right; rw [hxy]; exact h
end Go.Proofs.Ythjdebcjfpokoaa
