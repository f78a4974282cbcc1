/- Sums of bytes as plain functions on numbers: the folding, the sum of 16-bit numbers, and what follows of them. -/
import Derived.Lib.Hide
set_option linter.unusedVariables false
namespace Go.Proofs.Ytaghpjemoofplaa

/-- What folding till nothing is high comes to: 0 of 0, else the one of 1 to 65535 that is alike modulo 65535. -/
def lowF (s : Int) : Int := if s = 0 then 0 else (s - 1) % 65535 + 1

theorem lowF_le (s : Int) : 0 ≤ lowF s ∧ lowF s ≤ 65535 := by unfold lowF; split <;> omega
theorem lowF_pos (s : Int) (h : 0 < s) : 1 ≤ lowF s := by unfold lowF; split <;> omega
theorem lowF_small (s : Int) (h : 0 ≤ s) (h2 : s ≤ 65535) : lowF s = s := by unfold lowF; split <;> omega
theorem lowF_step (t : Int) (h : 65535 < t) : lowF (t / 65536 + t % 65536) = lowF t := by unfold lowF; split <;> split <;> omega
theorem lowF_add (a b : Int) (ha : 0 ≤ a) (hb : 0 ≤ b) : lowF (lowF a + b) = lowF (a + b) := by
  unfold lowF; split <;> split <;> split <;> omega
theorem lowF_idem (a : Int) (ha : 0 ≤ a) : lowF (lowF a) = lowF a := by
  have := lowF_le a; exact lowF_small _ this.1 this.2
theorem lowF_cong (a b k : Int) (h : a = b + 65535 * k) (ha : 0 < a) (hb : 0 < b) : lowF a = lowF b := by
  unfold lowF; split <;> split <;> omega

/-- The sum of the numbers of 16 bits; a last byte by itself is the high one. -/
def sum16 : List Nat → Int
  | [] => 0
  | [a] => (a : Int) * 256
  | a :: b :: r => (a : Int) * 256 + b + sum16 r

theorem sum16_nonneg : ∀ l, 0 ≤ sum16 l
  | [] => by simp [sum16]
  | [a] => by simp [sum16]; omega
  | a :: b :: r => by have := sum16_nonneg r; simp [sum16]; omega

theorem sum16_append : ∀ (a b : List Nat), a.length % 2 = 0 → sum16 (a ++ b) = sum16 a + sum16 b
  | [], b, _ => by simp [sum16]
  | [x], b, h => by simp at h
  | x :: y :: r, b, h => by
    have := sum16_append r b (by simp at h; omega)
    simp [sum16, this]; omega

theorem sum16_pad (a : List Nat) : sum16 (a ++ List.replicate (a.length % 2) 0) = sum16 a := by
  match a with
  | [] => simp [sum16]
  | [x] => simp [sum16]
  | x :: y :: r =>
    have := sum16_pad r
    have e : (x :: y :: r).length % 2 = r.length % 2 := by simp; omega
    rw [e]; simp [sum16, this]

def partF (s : Int) (l : List Nat) : Int := lowF (s + sum16 l)
def foldF (s : Int) : Int := 65535 - lowF s
def netF (l : List Nat) : Int := foldF (partF 0 l)

theorem partF_le (s : Int) (l : List Nat) : 0 ≤ partF s l ∧ partF s l ≤ 65535 := lowF_le _
theorem foldF_le (s : Int) : 0 ≤ foldF s ∧ foldF s ≤ 65535 := by have := lowF_le s; unfold foldF; omega
theorem netF_le (l : List Nat) : 0 ≤ netF l ∧ netF l ≤ 65535 := foldF_le _
theorem netF_eq (l : List Nat) : netF l = 65535 - lowF (sum16 l) := by
  unfold netF foldF partF; rw [Int.zero_add, lowF_idem _ (sum16_nonneg l)]
theorem partF_cons (s : Int) (a b : Nat) (r : List Nat) (hs : 0 ≤ s) : partF (lowF (s + (a : Int) * 256 + b)) r = partF s (a :: b :: r) := by
  unfold partF; have := sum16_nonneg r
  rw [lowF_add _ _ (by omega) this]; simp [sum16]; congr 1; omega
theorem partF_low (s : Int) (l : List Nat) (hs : 0 ≤ s) : partF (lowF s) l = partF s l := by
  unfold partF; exact lowF_add _ _ hs (sum16_nonneg l)
theorem partF_nil (s : Int) (hs : 0 ≤ s) (h : s ≤ 65535) : partF s [] = s := by simp [partF, sum16, lowF_small s hs h]
theorem partF_one (s : Int) (a : Nat) : partF s [a] = lowF (s + (a : Int) * 256) := by simp [partF, sum16]

/-- THE SUM BEHIND EVEN BYTES MAKES 0. -/
theorem netF_zero (a : List Nat) (h : a.length % 2 = 0) (x y : Nat) (hxy : (x : Int) * 256 + y = netF a) : netF (a ++ [x, y]) = 0 := by
  rw [netF_eq, sum16_append _ _ h]
  have e : sum16 [x, y] = netF a := by simp [sum16]; omega
  rw [e, netF_eq]
  have h0 := sum16_nonneg a
  unfold lowF; split <;> split <;> omega

/-- Two parts' sum is put together. -/
theorem netF_two (a b : List Nat) (h : a.length % 2 = 0) : netF (a ++ b) = foldF (partF (partF 0 a) b) := by
  rw [netF_eq, sum16_append _ _ h]
  unfold partF foldF
  have h0 := sum16_nonneg a; have h1 := sum16_nonneg b
  rw [Int.zero_add, lowF_add _ _ h0 h1, lowF_idem _ (by omega)]

theorem netF_pad (a : List Nat) : netF (a ++ List.replicate (a.length % 2) 0) = netF a := by
  rw [netF_eq, netF_eq, sum16_pad]

/-! ### CRC-32C, bit by bit -/
def crcBit (c : Nat) : Nat := c / 2 ^^^ (c % 2 * 2197175160)
def crcBits : Nat → Nat → Nat
  | 0, c => c
  | n + 1, c => crcBits n (crcBit c)
def crcByte (c x : Nat) : Nat := crcBits 8 (c ^^^ x)
def crcAll (c : Nat) (xs : List Nat) : Nat := xs.foldl crcByte c
def crcF (xs : List Nat) : Int := 4294967295 - (crcAll 4294967295 xs : Int)

theorem crcBit_lt (c : Nat) (h : c < 4294967296) : crcBit c < 4294967296 := by
  unfold crcBit
  have h1 : c / 2 < 2 ^ 32 := by omega
  have h2 : c % 2 * 2197175160 < 2 ^ 32 := by omega
  exact Nat.xor_lt_two_pow h1 h2
theorem crcBits_lt : ∀ (n c : Nat), c < 4294967296 → crcBits n c < 4294967296
  | 0, _, h => h
  | n + 1, c, h => crcBits_lt n _ (crcBit_lt c h)
theorem xor_lt32 (a b : Nat) (h1 : a < 4294967296) (h2 : b < 4294967296) : a ^^^ b < 4294967296 := Nat.xor_lt_two_pow (n := 32) h1 h2
theorem crcByte_lt (c x : Nat) (h : c < 4294967296) (hx : x < 256) : crcByte c x < 4294967296 := crcBits_lt _ _ (xor_lt32 _ _ h (by omega))
theorem crcAll_lt : ∀ (xs : List Nat) (c : Nat), c < 4294967296 → (∀ x ∈ xs, x < 256) → crcAll c xs < 4294967296
  | [], _, h, _ => h
  | x :: r, c, h, hx => crcAll_lt r _ (crcByte_lt c x h (hx x (by simp))) (fun y hy => hx y (by simp [hy]))
theorem crcAll_cons (c x : Nat) (r : List Nat) : crcAll c (x :: r) = crcAll (crcByte c x) r := rfl
theorem crcF_le (xs : List Nat) (hx : ∀ x ∈ xs, x < 256) : 0 ≤ crcF xs ∧ crcF xs ≤ 4294967295 := by
  have := crcAll_lt xs 4294967295 (by omega) hx
  unfold crcF; omega

/-! ### Mix -/
def mixByte (h x : Nat) : Nat := (h ^^^ x) * 16777619 % 4294967296
def mixAll (h : Nat) (xs : List Nat) : Nat := xs.foldl mixByte h
def mixEnd (h : Nat) : Nat := (h ^^^ h / 32768) * 2246822507 % 4294967296
def mixF (seed : Nat) (xs : List Nat) : Nat := mixEnd (mixAll (seed ^^^ 2166136261) xs) ^^^ mixEnd (mixAll (seed ^^^ 2166136261) xs) / 8192
theorem mixAll_cons (c x : Nat) (r : List Nat) : mixAll c (x :: r) = mixAll (mixByte c x) r := rfl
theorem mixByte_lt (h x : Nat) : mixByte h x < 4294967296 := Nat.mod_lt _ (by omega)
theorem mixEnd_lt (h : Nat) : mixEnd h < 4294967296 := Nat.mod_lt _ (by omega)
theorem mixAll_lt : ∀ (xs : List Nat) (h : Nat), h < 4294967296 → mixAll h xs < 4294967296
  | [], _, h => h
  | x :: r, h, _ => mixAll_lt r _ (mixByte_lt h x)
theorem mixF_lt (seed : Nat) (xs : List Nat) : mixF seed xs < 4294967296 := by
  have := mixEnd_lt (mixAll (seed ^^^ 2166136261) xs)
  exact xor_lt32 _ _ this (by omega)

theorem drop_cons {xs : List Nat} {k : Nat} (h : k < xs.length) : xs.drop k = xs[k] :: xs.drop (k + 1) := List.drop_eq_getElem_cons h
end Go.Proofs.Ytaghpjemoofplaa
