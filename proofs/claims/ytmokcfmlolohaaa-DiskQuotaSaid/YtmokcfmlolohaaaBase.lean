/- Words that all walks of this seat use: a row of bytes, worlds behind draws. -/
import Derived.Test.YtmokcfmlolohaaaRows
import Derived.WalkKit
import Derived.WalkLawsBesides
import Derived.LoopTactic
import Derived.Outline
import Derived.Below
import Derived.Lib.Hide
import Derived.Deep.QuietTactic
import Derived.BigQuiet
set_option linter.unusedVariables false
namespace Go.Proofs.Ytmokcfmlolohaaa
open Go.RowKit

/-- A slice of bytes reads as the list xs: where it is not empty it leads to a row of cells. -/
def RowB (w : World) (a : Option Addr) (len cap : Nat) (xs : List Nat) : Prop :=
  xs.length = len ∧ len ≤ cap ∧ cap ≤ 9223372036854775807 ∧ len ≤ 281474976710656 ∧ (∀ x ∈ xs, x < 256) ∧
    (len = 0 ∨ ∃ b off, a = some ⟨b, off, none⟩ ∧ ∀ i, (h : i < xs.length) → w.cell? ⟨b, off + i, none⟩ = some (.int .u8 (xs[i] : Nat)))

/-- The world w' is w behind some draws. -/
def Drew (w w' : World) : Prop := ∃ n, w' = w.drewN n
theorem Drew.refl (w : World) : Drew w w := ⟨0, rfl⟩
theorem Drew.mk (w : World) (n : Nat) : Drew w (w.drewN n) := ⟨n, rfl⟩
theorem Drew.more {w w' : World} (h : Drew w w') (n : Nat) : Drew w (w'.drewN n) := by
  obtain ⟨m, rfl⟩ := h; exact ⟨m + n, by rw [World.drewN_drewN]⟩
theorem Drew.trans {a b c : World} (h : Drew a b) (k : Drew b c) : Drew a c := by
  obtain ⟨n, rfl⟩ := k; exact h.more n
theorem RowB.drewN {w : World} {a : Option Addr} {len cap : Nat} {xs : List Nat} (h : RowB w a len cap xs) (n : Nat) : RowB (w.drewN n) a len cap xs := by
  obtain ⟨h1, h2, h3, h6, h4, h5⟩ := h
  refine ⟨h1, h2, h3, h6, h4, ?_⟩
  rcases h5 with h5 | ⟨b, off, ha, hc⟩
  · exact .inl h5
  · exact .inr ⟨b, off, ha, fun i hi => by have := hc i hi; simpa using this⟩
theorem RowB.drew {w w' : World} {a : Option Addr} {len cap : Nat} {xs : List Nat} (h : RowB w a len cap xs) (hd : Drew w w') : RowB w' a len cap xs := by
  obtain ⟨n, rfl⟩ := hd; exact h.drewN n

/-- What is left behind the first k bytes, as the walk writes it. -/
theorem RowB.drop {w : World} {b off : Nat} {len cap : Nat} {xs : List Nat} (h : RowB w (some ⟨b, off, none⟩) len cap xs) (k : Nat) (hk : k ≤ len) :
    RowB w (if cap = k then some ⟨b, off, none⟩ else some ⟨b, off + k, none⟩) (len - k) (cap - k) (xs.drop k) := by
  obtain ⟨h1, h2, h3, h6, h4, h5⟩ := h
  refine ⟨by simp [h1], by omega, by omega, by omega, fun x hx => h4 x (List.mem_of_mem_drop hx), ?_⟩
  rcases h5 with h5 | ⟨b', off', ha, hc⟩
  · exact .inl (by omega)
  · simp only [Option.some.injEq, Addr.mk.injEq] at ha
    obtain ⟨rfl, rfl, _⟩ := ha
    by_cases hl : len = k
    · exact .inl (by omega)
    · refine .inr ⟨b, off + k, by rw [if_neg (by omega)], fun i hi => ?_⟩
      simp at hi
      have := hc (k + i) (by omega)
      rw [List.getElem_drop]; rw [Nat.add_assoc]; exact this

theorem RowB.dropMap {w : World} {a : Option Addr} {len cap : Nat} {xs : List Nat} (h : RowB w a len cap xs) (k : Nat) (hk : k ≤ len) :
    RowB w (a.map (fun x => x.add k)) (len - k) (cap - k) (xs.drop k) := by
  obtain ⟨h1, h2, h3, h6, h4, h5⟩ := h
  refine ⟨by simp [h1], by omega, by omega, by omega, fun x hx => h4 x (List.mem_of_mem_drop hx), ?_⟩
  rcases h5 with h5 | ⟨b, off, ha, hc⟩
  · exact .inl (by omega)
  · subst ha
    refine .inr ⟨b, off + k, ?_, fun i hi => ?_⟩
    · simp only [Option.map_some, Addr.add]
      split <;> simp_all
    · simp at hi
      have := hc (k + i) (by omega)
      rw [List.getElem_drop]; rw [Nat.add_assoc]; exact this

/-- The first k bytes. -/
theorem RowB.take {w : World} {a : Option Addr} {len cap : Nat} {xs : List Nat} (h : RowB w a len cap xs) (k : Nat) (hk : k ≤ len) : RowB w a k cap (xs.take k) := by
  obtain ⟨h1, h2, h3, h6, h4, h5⟩ := h
  refine ⟨by simp; omega, by omega, h3, by omega, fun x hx => h4 x (List.mem_of_mem_take hx), ?_⟩
  rcases h5 with h5 | ⟨b, off, ha, hc⟩
  · exact .inl (by omega)
  · refine .inr ⟨b, off, ha, fun i hi => ?_⟩
    simp at hi
    rw [List.getElem_take]
    exact hc i (by omega)

/-- The length of a slice's value: for a loop's measure. -/
def lenOf : Value → Nat | .slice _ n _ => n | _ => 0

theorem below_drewN' {B : Nat} {a w : World} (h : Below B a w) (n : Nat) : Below B a (w.drewN n) := h.trans ⟨rfl, rfl, rfl, Nat.le_refl _, fun _ _ => rfl⟩
theorem Drew.below {w w' : World} (h : Drew w w') (B : Nat) : Below B w w' := by
  obtain ⟨n, rfl⟩ := h; exact below_drewN' (Below.refl _ _) n
theorem drewN_size (w : World) (n : Nat) : (w.drewN n).heap.size = w.heap.size := rfl

/-- A row of bytes reads as it did behind whatever only makes new memory. -/
theorem RowB.below {w w' : World} {B : Nat} {a : Option Addr} {len cap : Nat} {xs : List Nat} (h : RowB w a len cap xs) (hb : Below B w w') (hB : ∀ x, a = some x → len = 0 ∨ x.block < B) : RowB w' a len cap xs := by
  obtain ⟨h1, h2, h3, h6, h4, h5⟩ := h
  refine ⟨h1, h2, h3, h6, h4, ?_⟩
  rcases h5 with h5 | ⟨b, off, ha, hc⟩
  · exact .inl h5
  · rcases hB _ ha with h0 | h0
    · exact .inl h0
    · exact .inr ⟨b, off, ha, fun i hi => by rw [hb.cell (p := ⟨b, off + i, none⟩) h0]; exact hc i hi⟩

theorem cell_lt {w : World} {p : Addr} {v : Value} (h : w.cell? p = some v) : p.block < w.heap.size := by
  unfold World.cell? at h
  cases hb : w.heap[p.block]? with
  | none => rw [hb] at h; cases h
  | some o => exact (Array.getElem?_eq_some_iff.1 hb).1

/-- Where a row lies is an old block. -/
theorem RowB.lt {w : World} {a : Option Addr} {len cap : Nat} {xs : List Nat} (h : RowB w a len cap xs) : ∀ x, a = some x → len = 0 ∨ x.block < w.heap.size := by
  obtain ⟨h1, h2, h3, h6, h4, h5⟩ := h
  intro x hx
  rcases h5 with h5 | ⟨b, off, ha, hc⟩
  · exact .inl h5
  · by_cases h0 : len = 0
    · exact .inl h0
    · right
      rw [ha] at hx; cases hx
      have := hc 0 (by omega)
      exact cell_lt (p := ⟨b, off + 0, none⟩) this

theorem RowB.old {w w' : World} {a : Option Addr} {len cap : Nat} {xs : List Nat} (h : RowB w a len cap xs) (hb : Below w.heap.size w w') : RowB w' a len cap xs := h.below hb h.lt

/-- A block of bytes that was just made. -/
theorem RowB.new (w : World) (g : Nat) (hg : g = w.heap.size) (cs : Array Value) (t : TypeId) (m : Nat × Nat) (len : Nat) (xs : List Nat) (hl : xs.length = len) (hn : len ≤ 281474976710656) (hx : ∀ x ∈ xs, x < 256)
    (hc : ∀ i, (h : i < xs.length) → cs[i]? = some (.int .u8 (xs[i] : Nat))) : RowB (w.alloc (.cells cs t m)) (some ⟨g, 0, none⟩) len len xs := by
  subst hg
  refine ⟨hl, Nat.le_refl _, by omega, hn, hx, .inr ⟨w.heap.size, 0, rfl, fun i hi => ?_⟩⟩
  have e : (w.alloc (.cells cs t m)).heap[w.heap.size]? = some (.cells cs t m) := by
    show (w.heap.push (.cells cs t m))[w.heap.size]? = _
    simp
  unfold World.cell?
  rw [e]
  simp only [Nat.zero_add]
  simpa using hc i hi

/-- .. with room behind it. -/
theorem RowB.new' (w : World) (g : Nat) (hg : g = w.heap.size) (cs : Array Value) (t : TypeId) (m : Nat × Nat) (len cap : Nat) (xs : List Nat) (hl : xs.length = len) (hn : len ≤ 281474976710656) (hc1 : len ≤ cap) (hc2 : cap ≤ 9223372036854775807) (hx : ∀ x ∈ xs, x < 256)
    (hc : ∀ i, (h : i < xs.length) → cs[i]? = some (.int .u8 (xs[i] : Nat))) : RowB (w.alloc (.cells cs t m)) (some ⟨g, 0, none⟩) len cap xs := by
  obtain ⟨h1, h2, h3, h6, h4, h5⟩ := RowB.new w g hg cs t m len xs hl hn hx hc
  exact ⟨h1, hc1, hc2, h6, h4, h5⟩

theorem RowB.nil (w : World) (a : Option Addr) (cap : Nat) (h : cap ≤ 9223372036854775807) : RowB w a 0 cap [] :=
  ⟨rfl, Nat.zero_le _, h, Nat.zero_le _, by simp, .inl rfl⟩
end Go.Proofs.Ytmokcfmlolohaaa
