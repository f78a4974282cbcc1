/- Records: a reader beside blocks that are not its own; what its calls tell and leave. -/
import Derived.Test.YtgmimdnebgncoaaRecMayZ
import Derived.Test.YtgmimdnebgncoaaGBZ
import Derived.StillTailTactics
set_option linter.unusedVariables false
set_option linter.unusedSimpArgs false
namespace Go.Proofs.Ytgmimdnebgncoaa
open Go.RowKit

/-- The reader in block G has the bytes xs left, and the error err; none of its blocks is one of D. -/
structure RdD (w : World) (G : Nat) (D : Nat → Prop) (xs : List Nat) (err : Int) : Prop where
  dg : ¬ D G
  ex : ∃ a cap, RdB w G a xs.length cap xs err ∧ ∀ x, a = some x → xs.length = 0 ∨ ¬ D x.block
section
variable {w w' : World} {G : Nat} {D : Nat → Prop} {xs : List Nat} {err : Int}
theorem RdD.touch (h : RdD w G D xs err) {S : Nat → Prop} (t : Touch w w' S) (hS : ∀ k, k < w.heap.size → S k → D k) : RdD w' G D xs err := by
  obtain ⟨dg, a, c, h1, h2⟩ := h
  refine ⟨dg, a, c, h1.touch t (fun hs => dg (hS _ h1.lt hs)) (fun x hx => ?_), h2⟩
  rcases h1.row.lt x hx with hl | hl
  · exact .inl hl
  · rcases h2 x hx with h3 | h3
    · exact .inl h3
    · exact .inr (fun hs => h3 (hS _ hl hs))
theorem RdD.still (h : RdD w G D xs err) (t : Touch w w' (fun _ => False)) : RdD w' G D xs err := h.touch t (fun _ _ h => h.elim)
theorem RdD.mono {D' : Nat → Prop} (h : RdD w G D xs err) (hd : ∀ k, D' k → D k) : RdD w G D' xs err :=
  ⟨fun hk => h.dg (hd _ hk), by
    obtain ⟨a, c, h1, h2⟩ := h.ex
    exact ⟨a, c, h1, fun x hx => (h2 x hx).imp id (fun h3 h4 => h3 (hd _ h4))⟩⟩
theorem RdD.lt (h : RdD w G D xs err) : G < w.heap.size := by obtain ⟨a, c, h1, _⟩ := h.ex; exact h1.lt
/-- What is laid from now on is not the reader's. -/
theorem RdD.above (h : RdD w G D xs err) : RdD w G (fun k => D k ∨ w.heap.size ≤ k) xs err := by
  obtain ⟨dg, a, c, h1, h2⟩ := h
  refine ⟨fun hk => ?_, a, c, h1, fun x hx => ?_⟩
  · have := h1.lt
    rcases hk with hk | hk
    · exact dg hk
    · omega
  · rcases h1.row.lt x hx with hl | hl
    · exact .inl hl
    · rcases h2 x hx with h5 | h5
      · exact .inl h5
      · refine .inr (fun hk => ?_)
        rcases hk with hk | hk
        · exact h5 hk
        · omega
theorem RdD.drew (h : RdD w G D xs err) : RdD w.drew G D xs err := h.still ((Touch.refl w (fun _ => False)).drew)
theorem RdD.drewN (h : RdD w G D xs err) (n : Nat) : RdD (w.drewN n) G D xs err := h.still ((Touch.refl w (fun _ => False)).drewN n)
theorem RdD.none (hdg : ¬ D G) (h : RdB w G Option.none 0 0 [] 2) : RdD w G D [] 2 := ⟨hdg, Option.none, 0, h, fun x hx => by cases hx⟩
theorem RdD.took {a : Option Addr} {cap n : Nat} (hn : n ≤ xs.length) (hdg : ¬ D G) (ha : ∀ x, a = some x → xs.length = 0 ∨ ¬ D x.block) (t : TookB G a xs.length cap xs err n w w') :
    RdD w' G D (nxtX n xs) (nxtE n xs err) ∧ Touch w w' (fun k => k = G) := by
  obtain ⟨a', h1, h2, h3, h4⟩ := t
  unfold nxtX nxtE
  rw [if_pos hn, if_pos hn]
  refine ⟨⟨hdg, a', cap - n, by simpa using h1, fun x hx => ?_⟩, h3⟩
  obtain ⟨y, hy, hxy⟩ := h4 x hx
  rcases ha y hy with h | h
  · left; simp; omega
  · right; rw [hxy]; exact h
theorem RdD.small (h : RdD w G D xs err) : ∀ x ∈ xs, x < 256 := by obtain ⟨a, c, h1, _⟩ := h.ex; exact h1.row.2.2.2.2.1
/-- What a call leaves that takes n bytes. -/
def TookD (w : World) (G : Nat) (D : Nat → Prop) (xs : List Nat) (err : Int) (n : Nat) (w' : World) : Prop :=
  RdD w' G D (nxtX n xs) (nxtE n xs err) ∧ Touch w w' (fun k => k = G)
end
theorem d_rU8 (G : Nat) (D : Nat → Prop) (xs : List Nat) (err : Int) (w : World) (h : RdD w G D xs err) :
    Calls Try.prog 47 #[.pointer (some ⟨G, 0, none⟩)] w fun e w' => e = .returned (.int .i64 ((valN 1 xs) : Nat)) ∧ RdD w' G D (nxtX 1 xs) (nxtE 1 xs err) ∧ Touch w w' (fun k => k = G) := by
  obtain ⟨dg, a, cap, h1, h2⟩ := h
  by_cases hn : 1 ≤ xs.length
  · refine (rU8_any G a _ cap xs err w h1 hn).mono ?_
    rintro e w' ⟨rfl, ht⟩
    exact ⟨by unfold valN; rw [if_pos hn], RdD.took hn dg h2 ht⟩
  · refine (rU8_short G a _ cap xs err w h1 (by omega)).mono ?_
    rintro e w' ⟨rfl, hr, ht⟩
    obtain ⟨e1, e2, e3, _⟩ := nxt_bad (err := err) hn
    rw [e1, e2, e3]
    exact ⟨rfl, RdD.none dg hr, ht⟩
theorem d_rU16 (G : Nat) (D : Nat → Prop) (xs : List Nat) (err : Int) (w : World) (h : RdD w G D xs err) :
    Calls Try.prog 48 #[.pointer (some ⟨G, 0, none⟩)] w fun e w' => e = .returned (.int .i64 ((valN 2 xs) : Nat)) ∧ RdD w' G D (nxtX 2 xs) (nxtE 2 xs err) ∧ Touch w w' (fun k => k = G) := by
  obtain ⟨dg, a, cap, h1, h2⟩ := h
  by_cases hn : 2 ≤ xs.length
  · refine (rU16_any G a _ cap xs err w h1 hn).mono ?_
    rintro e w' ⟨rfl, ht⟩
    exact ⟨by unfold valN; rw [if_pos hn], RdD.took hn dg h2 ht⟩
  · refine (rU16_short G a _ cap xs err w h1 (by omega)).mono ?_
    rintro e w' ⟨rfl, hr, ht⟩
    obtain ⟨e1, e2, e3, _⟩ := nxt_bad (err := err) hn
    rw [e1, e2, e3]
    exact ⟨rfl, RdD.none dg hr, ht⟩
theorem d_rU32 (G : Nat) (D : Nat → Prop) (xs : List Nat) (err : Int) (w : World) (h : RdD w G D xs err) :
    Calls Try.prog 45 #[.pointer (some ⟨G, 0, none⟩)] w fun e w' => e = .returned (.int .u32 ((valN 4 xs) : Nat)) ∧ RdD w' G D (nxtX 4 xs) (nxtE 4 xs err) ∧ Touch w w' (fun k => k = G) := by
  obtain ⟨dg, a, cap, h1, h2⟩ := h
  by_cases hn : 4 ≤ xs.length
  · refine (rU32_any G a _ cap xs err w h1 hn).mono ?_
    rintro e w' ⟨rfl, ht⟩
    exact ⟨by unfold valN; rw [if_pos hn], RdD.took hn dg h2 ht⟩
  · refine (rU32_short G a _ cap xs err w h1 (by omega)).mono ?_
    rintro e w' ⟨rfl, hr, ht⟩
    obtain ⟨e1, e2, e3, _⟩ := nxt_bad (err := err) hn
    rw [e1, e2, e3]
    exact ⟨rfl, RdD.none dg hr, ht⟩
theorem d_rLeft (G : Nat) (D : Nat → Prop) (xs : List Nat) (err : Int) (w : World) (h : RdD w G D xs err) :
    Calls Try.prog 43 #[.pointer (some ⟨G, 0, none⟩)] w fun e w' => e = .returned (.int .i64 xs.length) ∧ w' = w := by
  obtain ⟨dg, a, cap, h1, h2⟩ := h
  exact rleft_any G a _ cap xs err w h1
theorem nxtX_nxtX (m n : Nat) (xs : List Nat) : nxtX m (nxtX n xs) = nxtX (n + m) xs := by
  unfold nxtX
  by_cases h : n ≤ xs.length
  · rw [if_pos h, List.length_drop, List.drop_drop]
    by_cases h2 : n + m ≤ xs.length
    · rw [if_pos (by omega), if_pos h2]
    · rw [if_neg (by omega), if_neg h2]
  · have h2 : ¬ n + m ≤ xs.length := by omega
    simp [h, h2]
theorem nxtE_nxtE (m n : Nat) (xs : List Nat) (err : Int) : nxtE m (nxtX n xs) (nxtE n xs err) = nxtE (n + m) xs err := by
  unfold nxtE nxtX
  by_cases h : n ≤ xs.length
  · rw [if_pos h, if_pos h, List.length_drop]
    by_cases h2 : n + m ≤ xs.length
    · rw [if_pos (by omega), if_pos h2]
    · rw [if_neg (by omega), if_neg h2]
  · have h2 : ¬ n + m ≤ xs.length := by omega
    simp [h, h2]
theorem nxtX_zero (xs : List Nat) : nxtX 0 xs = xs := by simp [nxtX]
theorem nxtE_zero (xs : List Nat) (err : Int) : nxtE 0 xs err = err := by simp [nxtE]
def tupV (xs : List Nat) : TupD := ⟨(valN 4 xs : Nat), (valN 4 (nxtX 4 xs) : Nat), (valN 1 (nxtX 8 xs) : Nat), (valN 2 (nxtX 9 xs) : Nat), (valN 2 (nxtX 11 xs) : Nat)⟩
/-- Is a tuple read? Which? -/
def rtB (xs : List Nat) : Bool := decide (13 ≤ xs.length) && mayTB (tupV xs)
def rtF (xs : List Nat) : TupD := if rtB xs = true then tupV xs else noT
def bkV (v : Int) (xs : List Nat) : BkD := ⟨(valN 2 xs : Nat), (valN 4 (nxtX 2 xs) : Nat), if v < 2 then 0 else (valN 1 (nxtX 6 xs) : Nat)⟩
def bkW (v : Int) : Nat := if v < 2 then 6 else 7
def bksV (v : Int) : Nat → List Nat → List BkD
  | 0, _ => []
  | n + 1, xs => bkV v xs :: bksV v n (nxtX (bkW v) xs)
theorem bksV_length (v : Int) : ∀ n xs, (bksV v n xs).length = n
  | 0, _ => rfl
  | n + 1, xs => by simp [bksV, bksV_length v n]
theorem bksV_snoc (v : Int) : ∀ n xs, bksV v (n + 1) xs = bksV v n xs ++ [bkV v (nxtX (n * bkW v) xs)]
  | 0, xs => by simp [bksV, nxtX_zero]
  | n + 1, xs => by
    have h := bksV_snoc v n (nxtX (bkW v) xs)
    show bkV v xs :: bksV v (n + 1) (nxtX (bkW v) xs) = _
    rw [h, nxtX_nxtX]
    have e : bkW v + n * bkW v = (n + 1) * bkW v := by rw [Nat.add_mul]; omega
    rw [e]; rfl
def flW (v : Int) : Nat := 15 + (if v < 2 then 0 else 4) + (if v < 3 then 0 else 8)

end Go.Proofs.Ytgmimdnebgncoaa
