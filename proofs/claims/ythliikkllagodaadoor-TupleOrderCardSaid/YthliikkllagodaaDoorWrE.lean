/- A writer by what it has put: what its calls leave. -/
import Derived.Test.YthliikkllagodaaDoorOctC
set_option linter.unusedVariables false
namespace Go.Proofs.YthliikkllagodaaDoor
open Go.RowKit

/-- A writer that was just made. -/
theorem WrB.fresh (w : World) : WrB (w.alloc (.cells #[.slice none 0 0] 58)) w.heap.size w.heap.size (.slice none 0 0) [] :=
  ⟨⟨_, heap_alloc_new w _⟩, Nat.le_refl _, OwnB.nil _ _ _, by simp [Value.ownBlock]⟩
theorem PutB.under {base G : Nat} {v : Value} {w w' : World} {xs zs : List Nat} (h : WrB w base G v xs) (p : PutB base G v w zs w') (hb : base ≤ w.heap.size) : Below base w w' := by
  obtain ⟨v', _, ht, _⟩ := p
  exact ht.below (fun k _ hk => by rcases hk with rfl | hk; exact h.low; exact (h.foot.2 k hk).1) hb

/-- The writer in block G has put xs; all that is its own lies from base on. -/
def WrE (w : World) (base G : Nat) (xs : List Nat) : Prop := base ≤ w.heap.size ∧ ∃ v, WrB w base G v xs
theorem WrE.fresh (w : World) : WrE (w.alloc (.cells #[.slice none 0 0] 58)) w.heap.size w.heap.size [] := ⟨by simp, _, WrB.fresh w⟩
theorem WrE.lt {w : World} {base G : Nat} {xs : List Nat} (h : WrE w base G xs) : base ≤ G ∧ G < w.heap.size := by obtain ⟨_, _, h⟩ := h; exact ⟨h.low, h.foot.1⟩
theorem WrE.still {w w' : World} {base G : Nat} {xs : List Nat} (h : WrE w base G xs) (t : Touch w w' (fun _ => False)) : WrE w' base G xs := by
  obtain ⟨hb, v, h⟩ := h
  exact ⟨Nat.le_trans hb t.size, v, h.touch t (fun h => h) (fun _ _ h => h)⟩
theorem WrE.put {base G : Nat} {v : Value} {w w' : World} {xs zs : List Nat} (hb : base ≤ w.heap.size) (h : WrB w base G v xs) (p : PutB base G v w zs w') : WrE w' base G zs ∧ Below base w w' := by
  have hb' := p.under h hb
  obtain ⟨v', h', _, _⟩ := p
  exact ⟨⟨Nat.le_trans hb hb'.size, v', h'⟩, hb'⟩
theorem e_wU8 (base G : Nat) (xs : List Nat) (n : Int) (w : World) (h : WrE w base G xs) (hn : -9223372036854775808 ≤ n ∧ n ≤ 9223372036854775807) (hlen : xs.length ≤ 1000000) :
    Calls Tryd.prog 81 #[.pointer (some ⟨G, 0, none⟩), .int .i64 n] w fun e w' => e = .returned (.tuple #[]) ∧ WrE w' base G (xs ++ beB 1 (u64N n)) ∧ Below base w w' := by
  obtain ⟨hb, v, h⟩ := h
  refine (wU8_any G v xs base n w h hn (by omega) hb).mono ?_
  rintro e w' ⟨rfl, p⟩
  exact ⟨rfl, WrE.put hb h p⟩
theorem e_wU16 (base G : Nat) (xs : List Nat) (n : Int) (w : World) (h : WrE w base G xs) (hn : -9223372036854775808 ≤ n ∧ n ≤ 9223372036854775807) (hlen : xs.length ≤ 1000000) :
    Calls Tryd.prog 54 #[.pointer (some ⟨G, 0, none⟩), .int .i64 n] w fun e w' => e = .returned (.tuple #[]) ∧ WrE w' base G (xs ++ beB 2 (u64N n)) ∧ Below base w w' := by
  obtain ⟨hb, v, h⟩ := h
  refine (wU16_any G v xs base n w h hn (by omega) hb).mono ?_
  rintro e w' ⟨rfl, p⟩
  exact ⟨rfl, WrE.put hb h p⟩
theorem e_wU32 (base G : Nat) (xs : List Nat) (n : Int) (w : World) (h : WrE w base G xs) (hn : 0 ≤ n ∧ n ≤ 4294967295) (hlen : xs.length ≤ 1000000) :
    Calls Tryd.prog 53 #[.pointer (some ⟨G, 0, none⟩), .int .u32 n] w fun e w' => e = .returned (.tuple #[]) ∧ WrE w' base G (xs ++ beB 4 (u64N n)) ∧ Below base w w' := by
  obtain ⟨hb, v, h⟩ := h
  refine (wU32_any G v xs base n w h hn (by omega) hb).mono ?_
  rintro e w' ⟨rfl, p⟩
  exact ⟨rfl, WrE.put hb h p⟩
theorem e_wRaw (base G : Nat) (xs : List Nat) (a : Option Addr) (len cap : Nat) (ys : List Nat) (w : World) (h : WrE w base G xs) (hr : RowB w a len cap ys) (hlen : xs.length + len ≤ 140737488355328) :
    Calls Tryd.prog 101 #[.pointer (some ⟨G, 0, none⟩), .slice a len cap] w fun e w' => e = .returned (.tuple #[]) ∧ WrE w' base G (xs ++ ys) ∧ Below base w w' := by
  obtain ⟨hb, v, h⟩ := h
  refine (raw_any G v xs base a len cap ys w h hr hlen hb).mono ?_
  rintro e w' ⟨rfl, p⟩
  exact ⟨rfl, WrE.put hb h p⟩
theorem e_wBytes (base G : Nat) (xs : List Nat) (w : World) (h : WrE w base G xs) (hlen : xs.length ≤ 140737488355328) (n : Nat) (hn : xs.length = n) :
    Calls Tryd.prog 37 #[.pointer (some ⟨G, 0, none⟩)] w fun e w' => ∃ a' cap', e = .returned (.slice a' n cap') ∧ FreshB w w' (.slice a' n cap') xs := by
  obtain ⟨hb, v, h⟩ := h
  subst hn
  exact wbytes_any G v xs base w h hlen
end Go.Proofs.YthliikkllagodaaDoor
