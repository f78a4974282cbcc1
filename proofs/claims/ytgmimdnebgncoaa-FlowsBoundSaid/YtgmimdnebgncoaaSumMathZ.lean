/- Sums of bytes as plain functions on numbers: the folding, the sum of 16-bit numbers, and what follows of them. -/
import Derived.Lib.Hide
set_option linter.unusedVariables false
namespace Go.Proofs.Ytgmimdnebgncoaa

/-- What folding till nothing is high comes to: 0 of 0, else the one of 1 to 65535 that is alike modulo 65535. -/
def lowF (s : Int) : Int := if s = 0 then 0 else (s - 1) % 65535 + 1

theorem lowF_le (s : Int) : 0 ≤ lowF s ∧ lowF s ≤ 65535 := by unfold lowF; split <;> omega
theorem lowF_pos (s : Int) (h : 0 < s) : 1 ≤ lowF s := by unfold lowF; split <;> omega
theorem lowF_small (s : Int) (h : 0 ≤ s) (h2 : s ≤ 65535) : lowF s = s := by unfold lowF; split <;> omega
theorem lowF_step (t : Int) (h : 65535 < t) : lowF (t / 65536 + t % 65536) = lowF t := by unfold lowF; split <;> split <;> omega
theorem lowF_add (a b : Int) (ha : 0 ≤ a) (hb : 0 ≤ b) : lowF (lowF a + b) = lowF (a + b) := by
  unfold lowF; split <;> split <;> split <;> omega
theorem lowF_idem (a : Int) (ha : 0 ≤ a) : lowF (lowF a) = lowF a := by
  have := lowF_le a; exact lowF_small _ this.1 this.2
theorem lowF_cong (a b k : Int) (h : a = b + 65535 * k) (ha : 0 < a) (hb : 0 < b) : lowF a = lowF b := by
  unfold lowF; split <;> split <;> omega

/-- The sum of the numbers of 16 bits; a last byte by itself is the high one. -/
def sum16 : List Nat → Int
  | [] => 0
  | [a] => (a : Int) * 256
  | a :: b :: r => (a : Int) * 256 + b + sum16 r

theorem sum16_nonneg : ∀ l, 0 ≤ sum16 l
  | [] => by simp [sum16]
  | [a] => by simp [sum16]; omega
  | a :: b :: r => by have := sum16_nonneg r; simp [sum16]; omega

theorem sum16_append : ∀ (a b : List Nat), a.length % 2 = 0 → sum16 (a ++ b) = sum16 a + sum16 b
  | [], b, _ => by simp [sum16]
  | [x], b, h => by simp at h
  | x :: y :: r, b, h => by
    have := sum16_append r b (by simp at h; omega)
    simp [sum16, this]; omega

theorem sum16_pad (a : List Nat) : sum16 (a ++ List.replicate (a.length % 2) 0) = sum16 a := by
  match a with
  | [] => simp [sum16]
  | [x] => simp [sum16]
  | x :: y :: r =>
    have := sum16_pad r
    have e : (x :: y :: r).length % 2 = r.length % 2 := by simp; omega
    rw [e]; simp [sum16, this]

def partF (s : Int) (l : List Nat) : Int := lowF (s + sum16 l)
def foldF (s : Int) : Int := 65535 - lowF s
def netF (l : List Nat) : Int := foldF (partF 0 l)

theorem partF_le (s : Int) (l : List Nat) : 0 ≤ partF s l ∧ partF s l ≤ 65535 := lowF_le _
theorem foldF_le (s : Int) : 0 ≤ foldF s ∧ foldF s ≤ 65535 := by have := lowF_le s; unfold foldF; omega
theorem netF_le (l : List Nat) : 0 ≤ netF l ∧ netF l ≤ 65535 := foldF_le _
theorem netF_eq (l : List Nat) : netF l = 65535 - lowF (sum16 l) := by
  unfold netF foldF partF; rw [Int.zero_add, lowF_idem _ (sum16_nonneg l)]
theorem partF_cons (s : Int) (a b : Nat) (r : List Nat) (hs : 0 ≤ s) : partF (lowF (s + (a : Int) * 256 + b)) r = partF s (a :: b :: r) := by
  unfold partF; have := sum16_nonneg r
  rw [lowF_add _ _ (by omega) this]; simp [sum16]; congr 1; omega
theorem partF_low (s : Int) (l : List Nat) (hs : 0 ≤ s) : partF (lowF s) l = partF s l := by
  unfold partF; exact lowF_add _ _ hs (sum16_nonneg l)
theorem partF_nil (s : Int) (hs : 0 ≤ s) (h : s ≤ 65535) : partF s [] = s := by simp [partF, sum16, lowF_small s hs h]
theorem partF_one (s : Int) (a : Nat) : partF s [a] = lowF (s + (a : Int) * 256) := by simp [partF, sum16]

/-- THE SUM BEHIND EVEN BYTES MAKES 0. -/
theorem netF_zero (a : List Nat) (h : a.length % 2 = 0) (x y : Nat) (hxy : (x : Int) * 256 + y = netF a) : netF (a ++ [x, y]) = 0 := by
  rw [netF_eq, sum16_append _ _ h]
  have e : sum16 [x, y] = netF a := by simp [sum16]; omega
  rw [e, netF_eq]
  have h0 := sum16_nonneg a
  unfold lowF; split <;> split <;> omega

/-- Two parts' sum is put together. -/
theorem netF_two (a b : List Nat) (h : a.length % 2 = 0) : netF (a ++ b) = foldF (partF (partF 0 a) b) := by
  rw [netF_eq, sum16_append _ _ h]
  unfold partF foldF
  have h0 := sum16_nonneg a; have h1 := sum16_nonneg b
  rw [Int.zero_add, lowF_add _ _ h0 h1, lowF_idem _ (by omega)]

theorem netF_pad (a : List Nat) : netF (a ++ List.replicate (a.length % 2) 0) = netF a := by
  rw [netF_eq, netF_eq, sum16_pad]

/-! ### CRC-32C, bit by bit -/
def crcBit (c : Nat) : Nat := c / 2 ^^^ (c % 2 * 2197175160)
def crcBits : Nat → Nat → Nat
  | 0, c => c
  | n + 1, c => crcBits n (crcBit c)
def crcByte (c x : Nat) : Nat := crcBits 8 (c ^^^ x)
def crcAll (c : Nat) (xs : List Nat) : Nat := xs.foldl crcByte c
def crcF (xs : List Nat) : Int := 4294967295 - (crcAll 4294967295 xs : Int)

theorem crcBit_lt (c : Nat) (h : c < 4294967296) : crcBit c < 4294967296 := by
  unfold crcBit
  have h1 : c / 2 < 2 ^ 32 := by omega
  have h2 : c % 2 * 2197175160 < 2 ^ 32 := by omega
  exact Nat.xor_lt_two_pow h1 h2
theorem crcBits_lt : ∀ (n c : Nat), c < 4294967296 → crcBits n c < 4294967296
  | 0, _, h => h
  | n + 1, c, h => crcBits_lt n _ (crcBit_lt c h)
theorem xor_lt32 (a b : Nat) (h1 : a < 4294967296) (h2 : b < 4294967296) : a ^^^ b < 4294967296 := Nat.xor_lt_two_pow (n := 32) h1 h2
theorem crcByte_lt (c x : Nat) (h : c < 4294967296) (hx : x < 256) : crcByte c x < 4294967296 := crcBits_lt _ _ (xor_lt32 _ _ h (by omega))
theorem crcAll_lt : ∀ (xs : List Nat) (c : Nat), c < 4294967296 → (∀ x ∈ xs, x < 256) → crcAll c xs < 4294967296
  | [], _, h, _ => h
  | x :: r, c, h, hx => crcAll_lt r _ (crcByte_lt c x h (hx x (by simp))) (fun y hy => hx y (by simp [hy]))
theorem crcAll_cons (c x : Nat) (r : List Nat) : crcAll c (x :: r) = crcAll (crcByte c x) r := rfl
theorem crcF_le (xs : List Nat) (hx : ∀ x ∈ xs, x < 256) : 0 ≤ crcF xs ∧ crcF xs ≤ 4294967295 := by
  have := crcAll_lt xs 4294967295 (by omega) hx
  unfold crcF; omega

/-! ### Mix -/
def mixByte (h x : Nat) : Nat := (h ^^^ x) * 16777619 % 4294967296
def mixAll (h : Nat) (xs : List Nat) : Nat := xs.foldl mixByte h
def mixEnd (h : Nat) : Nat := (h ^^^ h / 32768) * 2246822507 % 4294967296
def mixF (seed : Nat) (xs : List Nat) : Nat := mixEnd (mixAll (seed ^^^ 2166136261) xs) ^^^ mixEnd (mixAll (seed ^^^ 2166136261) xs) / 8192
theorem mixAll_cons (c x : Nat) (r : List Nat) : mixAll c (x :: r) = mixAll (mixByte c x) r := rfl
theorem mixByte_lt (h x : Nat) : mixByte h x < 4294967296 := Nat.mod_lt _ (by omega)
theorem mixEnd_lt (h : Nat) : mixEnd h < 4294967296 := Nat.mod_lt _ (by omega)
theorem mixAll_lt : ∀ (xs : List Nat) (h : Nat), h < 4294967296 → mixAll h xs < 4294967296
  | [], _, h => h
  | x :: r, h, _ => mixAll_lt r _ (mixByte_lt h x)
theorem mixF_lt (seed : Nat) (xs : List Nat) : mixF seed xs < 4294967296 := by
  have := mixEnd_lt (mixAll (seed ^^^ 2166136261) xs)
  exact xor_lt32 _ _ this (by omega)

/-! ### CRC-32C is made of exclusive ors -/
theorem xor_half (a b : Nat) : (a ^^^ b) / 2 = a / 2 ^^^ b / 2 := by
  apply Nat.eq_of_testBit_eq; intro i
  simp only [Nat.testBit_xor, Nat.testBit_div_two]
theorem xor_mod2 (a b : Nat) : (a ^^^ b) % 2 = (a % 2 + b % 2) % 2 := by
  have h := Nat.testBit_xor (x := a) (y := b) (i := 0)
  simp only [Nat.testBit_zero] at h
  rcases Nat.mod_two_eq_zero_or_one a with ha | ha <;> rcases Nat.mod_two_eq_zero_or_one b with hb | hb <;> rcases Nat.mod_two_eq_zero_or_one (a ^^^ b) with hc | hc <;> simp_all
theorem crcBit_xor (a b : Nat) : crcBit (a ^^^ b) = crcBit a ^^^ crcBit b := by
  unfold crcBit
  rw [xor_half, xor_mod2]
  have e : (a % 2 + b % 2) % 2 * 2197175160 = a % 2 * 2197175160 ^^^ b % 2 * 2197175160 := by
    rcases Nat.mod_two_eq_zero_or_one a with ha | ha <;> rcases Nat.mod_two_eq_zero_or_one b with hb | hb <;> simp [ha, hb]
  rw [e]
  ac_rfl
theorem crcBits_xor : ∀ (n a b : Nat), crcBits n (a ^^^ b) = crcBits n a ^^^ crcBits n b
  | 0, _, _ => rfl
  | n + 1, a, b => by simp only [crcBits]; rw [crcBit_xor, crcBits_xor n]
theorem crcByte_xor3 (s t u x y z : Nat) : crcByte (s ^^^ t ^^^ u) (x ^^^ y ^^^ z) = crcByte s x ^^^ crcByte t y ^^^ crcByte u z := by
  unfold crcByte
  rw [← crcBits_xor, ← crcBits_xor]
  congr 1
  ac_rfl
/-- Three rows as long, changed by one another. -/
def xor3 : List Nat → List Nat → List Nat → List Nat
  | a :: r, b :: s, c :: t => (a ^^^ b ^^^ c) :: xor3 r s t
  | _, _, _ => []
theorem xor3_length : ∀ (a b c : List Nat), a.length = b.length → b.length = c.length → (xor3 a b c).length = a.length
  | [], [], [], _, _ => rfl
  | a :: r, b :: s, c :: t, h, k => by simp only [xor3, List.length_cons]; rw [xor3_length r s t (by simpa using h) (by simpa using k)]
  | [], _ :: _, _, h, _ => by simp at h
  | _ :: _, [], _, h, _ => by simp at h
  | [], [], _ :: _, _, k => by simp at k
  | _ :: _, _ :: _, [], _, k => by simp at k
theorem xor3_small : ∀ (a b c : List Nat), (∀ x ∈ a, x < 256) → (∀ x ∈ b, x < 256) → (∀ x ∈ c, x < 256) → ∀ x ∈ xor3 a b c, x < 256
  | a :: r, b :: s, c :: t, h, k, l => by
    intro x hx
    simp only [xor3, List.mem_cons] at hx
    rcases hx with rfl | hx
    · exact Nat.xor_lt_two_pow (n := 8) (Nat.xor_lt_two_pow (n := 8) (h a (by simp)) (k b (by simp))) (l c (by simp))
    · exact xor3_small r s t (fun x hx => h x (by simp [hx])) (fun x hx => k x (by simp [hx])) (fun x hx => l x (by simp [hx])) x hx
  | [], _, _, _, _, _ => by simp [xor3]
  | _ :: _, [], _, _, _, _ => by simp [xor3]
  | _ :: _, _ :: _, [], _, _, _ => by simp [xor3]
theorem xor3_get : ∀ (a b c : List Nat) (k : Nat) (ha : k < a.length) (hb : k < b.length) (hc : k < c.length), (xor3 a b c)[k]? = some (a[k] ^^^ b[k] ^^^ c[k])
  | a :: r, b :: s, c :: t, 0, _, _, _ => by simp [xor3]
  | a :: r, b :: s, c :: t, k + 1, ha, hb, hc => by
    simp only [xor3, List.getElem?_cons_succ, List.getElem_cons_succ]
    exact xor3_get r s t k (by simpa using ha) (by simpa using hb) (by simpa using hc)
theorem crcAll_xor3 : ∀ (a b c : List Nat) (s t u : Nat), a.length = b.length → b.length = c.length → crcAll (s ^^^ t ^^^ u) (xor3 a b c) = crcAll s a ^^^ crcAll t b ^^^ crcAll u c
  | [], [], [], _, _, _, _, _ => rfl
  | a :: r, b :: s', c :: t', s, t, u, h, k => by
    simp only [xor3, crcAll_cons]
    rw [crcByte_xor3, crcAll_xor3 r s' t' _ _ _ (by simpa using h) (by simpa using k)]
  | [], _ :: _, _, _, _, _, h, _ => by simp at h
  | _ :: _, [], _, _, _, _, h, _ => by simp at h
  | [], [], _ :: _, _, _, _, _, k => by simp at k
  | _ :: _, _ :: _, [], _, _, _, _, k => by simp at k
theorem ones_xor (a : Nat) (h : a < 4294967296) : 4294967295 ^^^ a = 4294967295 - a := by
  have e : 4294967295 ^^^ a = (BitVec.allOnes 32 ^^^ BitVec.ofNat 32 a).toNat := by
    rw [BitVec.toNat_xor, BitVec.toNat_allOnes, BitVec.toNat_ofNat, Nat.mod_eq_of_lt h]
  rw [e, BitVec.allOnes_xor, BitVec.toNat_not, BitVec.toNat_ofNat, Nat.mod_eq_of_lt h]
/-- The CRC as a natural number. -/
def crcN (xs : List Nat) : Nat := 4294967295 ^^^ crcAll 4294967295 xs
theorem crcF_eq (xs : List Nat) (h : ∀ x ∈ xs, x < 256) : crcF xs = (crcN xs : Nat) := by
  have := crcAll_lt xs 4294967295 (by omega) h
  unfold crcF crcN; rw [ones_xor _ this]; omega
theorem crcN_lt (xs : List Nat) (h : ∀ x ∈ xs, x < 256) : crcN xs < 4294967296 := xor_lt32 _ _ (by omega) (crcAll_lt xs _ (by omega) h)
/-- THE SUMS OF THREE ROWS, changed by one another. -/
theorem crcAll_lines (a b c : List Nat) (h : a.length = b.length) (k : b.length = c.length) : crcN (xor3 a b c) = crcN a ^^^ crcN b ^^^ crcN c := by
  unfold crcN
  have e := crcAll_xor3 a b c 4294967295 4294967295 4294967295 h k
  rw [show (4294967295 ^^^ 4294967295 ^^^ 4294967295 : Nat) = 4294967295 from by decide] at e
  rw [e]
  have hx : ∀ p q r m : Nat, m ^^^ (p ^^^ q ^^^ r) = m ^^^ p ^^^ (m ^^^ q) ^^^ (m ^^^ r) := by
    intro p q r m
    apply Nat.eq_of_testBit_eq; intro i
    simp only [Nat.testBit_xor]
    cases m.testBit i <;> cases p.testBit i <;> cases q.testBit i <;> cases r.testBit i <;> rfl
  exact hx _ _ _ _

theorem drop_cons {xs : List Nat} {k : Nat} (h : k < xs.length) : xs.drop k = xs[k] :: xs.drop (k + 1) := List.drop_eq_getElem_cons h
end Go.Proofs.Ytgmimdnebgncoaa
