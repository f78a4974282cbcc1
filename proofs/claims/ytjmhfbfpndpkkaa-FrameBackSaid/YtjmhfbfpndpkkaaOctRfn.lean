/- What the reference's reader's numbers and End answer; both readers' answers as one. -/
import Derived.Test.YtjmhfbfpndpkkaaOctRfr
set_option linter.unusedVariables false
namespace Go.Proofs.Ytjmhfbfpndpkkaa
open Go.RowKit

/-- The number of the first n bytes, if they are there; what is left, and the error, behind that. -/
def valN (n : Nat) (xs : List Nat) : Nat := if n ≤ xs.length then beN (xs.take n) else 0
def rawN (n : Nat) (xs : List Nat) : List Nat := if n ≤ xs.length then xs.take n else []
def nxtX (n : Nat) (xs : List Nat) : List Nat := if n ≤ xs.length then xs.drop n else []
def nxtE (n : Nat) (xs : List Nat) (err : Int) : Int := if n ≤ xs.length then err else 2
theorem valN_lt (n : Nat) (xs : List Nat) (h : ∀ x ∈ xs, x < 256) : valN n xs < 256 ^ n := by
  unfold valN; split
  · exact beN_lt xs h n (by assumption)
  · exact Nat.pow_pos (by omega)
theorem nxt_small (n : Nat) (xs : List Nat) (h : ∀ x ∈ xs, x < 256) : ∀ x ∈ nxtX n xs, x < 256 := by
  unfold nxtX; split
  · exact fun x hx => h x (List.mem_of_mem_drop hx)
  · simp
theorem nxt_short (n : Nat) (xs : List Nat) : (nxtX n xs).length ≤ xs.length := by
  unfold nxtX; split <;> simp
theorem nxt_err (n : Nat) (xs : List Nat) (err : Int) (h : err = 0 ∨ xs = []) : nxtE n xs err = 0 ∨ nxtX n xs = [] := by
  unfold nxtE nxtX; split
  · rcases h with h | h
    · exact .inl h
    · right; subst h; simp
  · exact .inr rfl

/-- A reader with these bytes left, and this error: its own bytes are not in block M. -/
def Rd (w : World) (G M : Nat) (xs : List Nat) (err : Int) : Prop := ∃ a cap, RdB w G a xs.length cap xs err ∧ ∀ x, a = some x → xs.length = 0 ∨ x.block ≠ M
theorem Rd.touch {w w' : World} {G M : Nat} {xs : List Nat} {err : Int} (h : Rd w G M xs err) (t : Touch w w' (fun k => k = M)) (hG : G ≠ M) : Rd w' G M xs err := by
  obtain ⟨a, cap, h1, h2⟩ := h
  exact ⟨a, cap, h1.touch t hG h2, h2⟩
theorem Rd.still {w w' : World} {G M : Nat} {xs : List Nat} {err : Int} (h : Rd w G M xs err) (t : Touch w w' (fun _ => False)) : Rd w' G M xs err := by
  obtain ⟨a, cap, h1, h2⟩ := h
  exact ⟨a, cap, h1.touch t (fun h => h) (fun _ _ => .inr (fun h => h)), h2⟩
theorem Rd.none {w : World} {G M : Nat} (h : RdB w G none 0 0 [] 2) : Rd w G M [] 2 := ⟨Option.none, 0, h, fun x hx => by cases hx⟩
theorem Rd.took {w w' : World} {G M : Nat} {a : Option Addr} {cap : Nat} {xs : List Nat} {err : Int} {n : Nat} (hn : n ≤ xs.length) (ha : ∀ x, a = some x → xs.length = 0 ∨ x.block ≠ M) (t : TookB G a xs.length cap xs err n w w') :
    Rd w' G M (nxtX n xs) (nxtE n xs err) ∧ Touch w w' (fun k => k = G) := by
  obtain ⟨a', h1, h2, h3, h4⟩ := t
  unfold nxtX nxtE
  rw [if_pos hn, if_pos hn]
  refine ⟨⟨a', cap - n, by simpa using h1, fun x hx => ?_⟩, h3⟩
  obtain ⟨y, hy, hxy⟩ := h4 x hx
  rcases ha y hy with h | h
  · left; simp; omega
  · right; rw [hxy]; exact h
theorem nxt_bad {n : Nat} {xs : List Nat} {err : Int} (hn : ¬ n ≤ xs.length) : nxtX n xs = [] ∧ nxtE n xs err = 2 ∧ valN n xs = 0 ∧ rawN n xs = [] := by
  unfold nxtX nxtE valN rawN; simp [hn]


theorem rd_U8 (G M : Nat) (xs : List Nat) (err : Int) (w : World) (h : Rd w G M xs err) :
    Calls Try.prog 37 #[.pointer (some ⟨G, 0, none⟩)] w fun e w' => e = .returned (.int .i64 ((valN 1 xs) : Nat)) ∧ Rd w' G M (nxtX 1 xs) (nxtE 1 xs err) ∧ Touch w w' (fun k => k = G) := by
  obtain ⟨a, cap, h1, h2⟩ := h
  by_cases hn : 1 ≤ xs.length
  · refine (rU8_any G a _ cap xs err w h1 hn).mono ?_
    rintro e w' ⟨rfl, ht⟩
    exact ⟨by unfold valN; rw [if_pos hn], Rd.took hn h2 ht⟩
  · refine (rU8_short G a _ cap xs err w h1 (by omega)).mono ?_
    rintro e w' ⟨rfl, hr, ht⟩
    obtain ⟨e1, e2, e3, _⟩ := nxt_bad (err := err) hn
    rw [e1, e2, e3]
    exact ⟨rfl, Rd.none hr, ht⟩
theorem rd_U16 (G M : Nat) (xs : List Nat) (err : Int) (w : World) (h : Rd w G M xs err) :
    Calls Try.prog 38 #[.pointer (some ⟨G, 0, none⟩)] w fun e w' => e = .returned (.int .i64 ((valN 2 xs) : Nat)) ∧ Rd w' G M (nxtX 2 xs) (nxtE 2 xs err) ∧ Touch w w' (fun k => k = G) := by
  obtain ⟨a, cap, h1, h2⟩ := h
  by_cases hn : 2 ≤ xs.length
  · refine (rU16_any G a _ cap xs err w h1 hn).mono ?_
    rintro e w' ⟨rfl, ht⟩
    exact ⟨by unfold valN; rw [if_pos hn], Rd.took hn h2 ht⟩
  · refine (rU16_short G a _ cap xs err w h1 (by omega)).mono ?_
    rintro e w' ⟨rfl, hr, ht⟩
    obtain ⟨e1, e2, e3, _⟩ := nxt_bad (err := err) hn
    rw [e1, e2, e3]
    exact ⟨rfl, Rd.none hr, ht⟩
theorem rd_U32 (G M : Nat) (xs : List Nat) (err : Int) (w : World) (h : Rd w G M xs err) :
    Calls Try.prog 39 #[.pointer (some ⟨G, 0, none⟩)] w fun e w' => e = .returned (.int .u32 ((valN 4 xs) : Nat)) ∧ Rd w' G M (nxtX 4 xs) (nxtE 4 xs err) ∧ Touch w w' (fun k => k = G) := by
  obtain ⟨a, cap, h1, h2⟩ := h
  by_cases hn : 4 ≤ xs.length
  · refine (rU32_any G a _ cap xs err w h1 hn).mono ?_
    rintro e w' ⟨rfl, ht⟩
    exact ⟨by unfold valN; rw [if_pos hn], Rd.took hn h2 ht⟩
  · refine (rU32_short G a _ cap xs err w h1 (by omega)).mono ?_
    rintro e w' ⟨rfl, hr, ht⟩
    obtain ⟨e1, e2, e3, _⟩ := nxt_bad (err := err) hn
    rw [e1, e2, e3]
    exact ⟨rfl, Rd.none hr, ht⟩
end Go.Proofs.Ytjmhfbfpndpkkaa
