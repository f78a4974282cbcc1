/- CRC-32C tells any change within four bytes side by side. -/
import Derived.Test.YtibpnlhdpdfhiaaDoorSumMathZ
set_option linter.unusedVariables false
namespace Go.Proofs.YtibpnlhdpdfhiaaDoor

theorem crcBit_inj0 (c : Nat) (h : c < 4294967296) (h0 : crcBit c = 0) : c = 0 := by
  unfold crcBit at h0
  rcases Nat.mod_two_eq_zero_or_one c with h1 | h1
  · rw [h1] at h0; simp at h0; omega
  · rw [h1] at h0
    exfalso
    have e : c / 2 = 2197175160 := by
      have := congrArg (fun z => z ^^^ 2197175160) h0
      simpa [Nat.xor_assoc] using this
    omega
theorem crcBits_inj0 : ∀ (n c : Nat), c < 4294967296 → crcBits n c = 0 → c = 0
  | 0, _, _, h => h
  | n + 1, c, hc, h => crcBit_inj0 c hc (crcBits_inj0 n _ (crcBit_lt c hc) h)
theorem xor_eq_zero (a b : Nat) (h : a ^^^ b = 0) : a = b := by
  have := congrArg (fun z => z ^^^ b) h
  simpa [Nat.xor_assoc] using this
theorem crcBits_inj (n a b : Nat) (ha : a < 4294967296) (hb : b < 4294967296) (h : crcBits n a = crcBits n b) : a = b := by
  apply xor_eq_zero
  apply crcBits_inj0 n _ (xor_lt32 _ _ ha hb)
  rw [crcBits_xor, h, Nat.xor_self]
/-- A number whose lowest n bits are 0 is only halved. -/
theorem crcBits_high : ∀ (n x : Nat), crcBits n (x * 2 ^ n) = x
  | 0, x => by simp [crcBits]
  | n + 1, x => by
    have e : crcBit (x * 2 ^ (n + 1)) = x * 2 ^ n := by
      unfold crcBit
      have h1 : x * 2 ^ (n + 1) = 2 * (x * 2 ^ n) := by rw [Nat.pow_succ]; ac_rfl
      rw [h1]
      have h2 : 2 * (x * 2 ^ n) % 2 = 0 := Nat.mul_mod_right 2 _
      rw [h2]
      simp
    simp only [crcBits]; rw [e]; exact crcBits_high n x
theorem crcBits8_inv (e d : Nat) (he : e < 4294967296) (hd : d < 16777216) (h : crcBits 8 e = d) : e = d * 256 := by
  apply crcBits_inj 8 _ _ he (by omega)
  rw [h]
  have := crcBits_high 8 d
  rw [show (2 : Nat) ^ 8 = 256 from rfl] at this
  exact this.symm

/-- The state's change through bytes that are changed by d. -/
def dStep (s : Nat) (d : List Nat) : Nat := d.foldl (fun s x => crcBits 8 (s ^^^ x)) s
theorem crcAll_diff : ∀ (xs ys : List Nat) (s t : Nat), xs.length = ys.length → crcAll s xs ^^^ crcAll t ys = dStep (s ^^^ t) (List.zipWith (· ^^^ ·) xs ys)
  | [], [], _, _, _ => rfl
  | x :: r, y :: q, s, t, h => by
    rw [crcAll_cons, crcAll_cons, crcAll_diff r q _ _ (by simpa using h)]
    simp only [List.zipWith_cons_cons, dStep, List.foldl_cons]
    congr 1
    unfold crcByte
    rw [← crcBits_xor]; congr 1; ac_rfl
  | [], _ :: _, _, _, h => by simp at h
  | _ :: _, [], _, _, h => by simp at h

theorem dStep_lt : ∀ (d : List Nat) (s : Nat), s < 4294967296 → (∀ x ∈ d, x < 256) → dStep s d < 4294967296
  | [], _, h, _ => h
  | x :: r, s, h, hx => dStep_lt r _ (crcBits_lt _ _ (xor_lt32 _ _ h (by have := hx x (by simp); omega))) (fun y hy => hx y (by simp [hy]))
theorem dStep_zeros : ∀ (n s : Nat), s < 4294967296 → dStep s (List.replicate n 0) = 0 → s = 0
  | 0, s, _, h => h
  | n + 1, s, hs, h => by
    simp only [List.replicate_succ, dStep, List.foldl_cons, Nat.xor_zero] at h
    exact crcBits_inj0 8 s hs (dStep_zeros n _ (crcBits_lt _ _ hs) h)
theorem dStep_zeros0 (n : Nat) : dStep 0 (List.replicate n 0) = 0 := by
  induction n with
  | zero => rfl
  | succ n ih =>
    simp only [List.replicate_succ, dStep, List.foldl_cons, Nat.xor_zero]
    have : crcBits 8 0 = 0 := by decide
    rw [this]; exact ih
theorem xor_small (a b : Nat) (n : Nat) (ha : a < 2 ^ n) (hb : b < 2 ^ n) : a ^^^ b < 2 ^ n := Nat.xor_lt_two_pow ha hb
/-- The low byte of a number that is made of a byte and of multiples of 256. -/
theorem xor_low (d k : Nat) (hd : d < 256) (h : d ^^^ k * 256 = 0) : d = 0 ∧ k = 0 := by
  have := xor_eq_zero _ _ h
  omega
/-- Four bytes of change that leave no change were none. -/
theorem dStep_four (a b c d : Nat) (ha : a < 256) (hb : b < 256) (hc : c < 256) (hd : d < 256) (h : dStep 0 [a, b, c, d] = 0) : a = 0 ∧ b = 0 ∧ c = 0 ∧ d = 0 := by
  simp only [dStep, List.foldl_cons, List.foldl_nil, Nat.zero_xor] at h
  have l0 : crcBits 8 a < 4294967296 := crcBits_lt _ _ (by omega)
  have l1 : crcBits 8 (crcBits 8 a ^^^ b) < 4294967296 := crcBits_lt _ _ (xor_lt32 _ _ l0 (by omega))
  have l2 : crcBits 8 (crcBits 8 (crcBits 8 a ^^^ b) ^^^ c) < 4294967296 := crcBits_lt _ _ (xor_lt32 _ _ l1 (by omega))
  have h3 := xor_eq_zero _ _ (crcBits_inj0 8 _ (xor_lt32 _ _ l2 (by omega)) h)
  have h2 := crcBits8_inv _ d (xor_lt32 _ _ l1 (by omega)) (by omega) h3
  have e2 : crcBits 8 (crcBits 8 a ^^^ b) = c ^^^ d * 256 := by
    have := congrArg (fun z => z ^^^ c) h2
    simp only [Nat.xor_assoc, Nat.xor_self, Nat.xor_zero] at this
    rw [this]; ac_rfl
  have k2 : c ^^^ d * 256 < 65536 := xor_small _ _ 16 (by omega) (by omega)
  have h1 := crcBits8_inv _ _ (xor_lt32 _ _ l0 (by omega)) (by omega) e2
  have e1 : crcBits 8 a = b ^^^ (c ^^^ d * 256) * 256 := by
    have := congrArg (fun z => z ^^^ b) h1
    simp only [Nat.xor_assoc, Nat.xor_self, Nat.xor_zero] at this
    rw [this]; ac_rfl
  have k1 : b ^^^ (c ^^^ d * 256) * 256 < 16777216 := xor_small _ _ 24 (by omega) (by omega)
  have h0 := crcBits8_inv a _ (by omega) (by omega) e1
  have z0 : b ^^^ (c ^^^ d * 256) * 256 = 0 := by omega
  obtain ⟨zb, zc⟩ := xor_low _ _ hb z0
  obtain ⟨zc', zd⟩ := xor_low _ _ hc zc
  have hz : a = 0 := by rw [h0, z0]
  exact ⟨hz, zb, zc', zd⟩
theorem dStep_append (s : Nat) (a b : List Nat) : dStep s (a ++ b) = dStep (dStep s a) b := List.foldl_append
/-- THE CHANGE OF A ROW that is 0 but for at most four side by side. -/
theorem dStep_burst (n m : Nat) (d : List Nat) (hl : d.length ≤ 4) (hd : ∀ x ∈ d, x < 256) (h : dStep 0 (List.replicate n 0 ++ d ++ List.replicate m 0) = 0) : ∀ x ∈ d, x = 0 := by
  rw [dStep_append, dStep_append, dStep_zeros0] at h
  have h1 := dStep_zeros m _ (dStep_lt d 0 (by omega) hd) h
  have pad : dStep 0 (d ++ List.replicate (4 - d.length) 0) = 0 := by rw [dStep_append, h1, dStep_zeros0]
  match d, hl, hd, pad with
  | [], _, _, _ => intro x hx; cases hx
  | [a], _, hd, pad =>
    have := dStep_four a 0 0 0 (hd a (by simp)) (by omega) (by omega) (by omega) pad
    intro x hx; simp at hx; omega
  | [a, b], _, hd, pad =>
    have := dStep_four a b 0 0 (hd a (by simp)) (hd b (by simp)) (by omega) (by omega) pad
    intro x hx; simp at hx; omega
  | [a, b, c], _, hd, pad =>
    have := dStep_four a b c 0 (hd a (by simp)) (hd b (by simp)) (hd c (by simp)) (by omega) pad
    intro x hx; simp at hx; omega
  | [a, b, c, e], _, hd, pad =>
    have := dStep_four a b c e (hd a (by simp)) (hd b (by simp)) (hd c (by simp)) (hd e (by simp)) pad
    intro x hx; simp at hx; omega
  | _ :: _ :: _ :: _ :: _ :: _, hl, _, _ => simp at hl

/-- The row xs with its bytes from P on changed by the first k of Y. -/
def chg (xs : List Nat) (P : Nat) (Y : List Nat) (k : Nat) : List Nat := xs.take P ++ List.zipWith (· ^^^ ·) ((xs.drop P).take k) (Y.take k) ++ xs.drop (P + k)
theorem chg_zero (xs : List Nat) (P : Nat) (Y : List Nat) : chg xs P Y 0 = xs := by simp [chg]
theorem chg_mid (xs : List Nat) (P : Nat) (Y : List Nat) (k : Nat) (h : P + k ≤ xs.length) (hk : k ≤ Y.length) : (List.zipWith (· ^^^ ·) ((xs.drop P).take k) (Y.take k)).length = k := by
  simp; omega
theorem chg_length (xs : List Nat) (P : Nat) (Y : List Nat) (k : Nat) (h : P + k ≤ xs.length) (hk : k ≤ Y.length) : (chg xs P Y k).length = xs.length := by
  simp [chg]; omega
theorem chg_get (xs : List Nat) (P : Nat) (Y : List Nat) (k : Nat) (h : P + k < xs.length) (hk : k ≤ Y.length) : (chg xs P Y k)[P + k]? = some xs[P + k] := by
  have hm := chg_mid xs P Y k (by omega) hk
  unfold chg
  rw [List.getElem?_append_right (by rw [List.length_append, hm]; simp; omega)]
  have e2 : P + k - (xs.take P ++ List.zipWith (· ^^^ ·) ((xs.drop P).take k) (Y.take k)).length = 0 := by
    rw [List.length_append, hm]; simp; omega
  rw [e2, List.drop_eq_getElem_cons h]; rfl
theorem chg_step (xs : List Nat) (P : Nat) (Y : List Nat) (k : Nat) (h : P + k < xs.length) (hk : k < Y.length) :
    (chg xs P Y k).set (P + k) (xs[P + k] ^^^ Y[k]) = chg xs P Y (k + 1) := by
  have hm := chg_mid xs P Y k (by omega) (by omega)
  have e1 : xs.drop (P + k) = xs[P + k] :: xs.drop (P + k + 1) := List.drop_eq_getElem_cons h
  unfold chg
  rw [e1, List.set_append_right _ _ (by simp; omega)]
  have e2 : P + k - (xs.take P ++ List.zipWith (· ^^^ ·) ((xs.drop P).take k) (Y.take k)).length = 0 := by
    rw [List.length_append, hm]; simp; omega
  rw [e2, List.set_cons_zero]
  have e3 : (xs.drop P).take (k + 1) = (xs.drop P).take k ++ [xs[P + k]] := by
    rw [List.take_succ_eq_append_getElem (by simp; omega)]; simp
  have e4 : Y.take (k + 1) = Y.take k ++ [Y[k]] := List.take_succ_eq_append_getElem hk
  rw [e3, e4, List.zipWith_append (by simp; omega)]
  simp [Nat.add_assoc]
theorem zip_same : ∀ (l : List Nat), List.zipWith (· ^^^ ·) l l = List.replicate l.length 0
  | [] => rfl
  | x :: r => by
    rw [List.zipWith_cons_cons, zip_same r, Nat.xor_self]; rfl
theorem zip_zip : ∀ (a y : List Nat), a.length = y.length → List.zipWith (· ^^^ ·) a (List.zipWith (· ^^^ ·) a y) = y
  | [], [], _ => rfl
  | a :: r, y :: q, h => by
    simp only [List.zipWith_cons_cons]
    rw [zip_zip r q (by simpa using h)]
    rw [← Nat.xor_assoc, Nat.xor_self, Nat.zero_xor]
  | [], _ :: _, h => by simp at h
  | _ :: _, [], h => by simp at h
theorem chg_diff (xs : List Nat) (P : Nat) (Y : List Nat) (k : Nat) (h : P + k ≤ xs.length) (hk : k ≤ Y.length) :
    List.zipWith (· ^^^ ·) xs (chg xs P Y k) = List.replicate P 0 ++ Y.take k ++ List.replicate (xs.length - (P + k)) 0 := by
  have e : xs = xs.take P ++ (xs.drop P).take k ++ xs.drop (P + k) := by
    rw [List.append_assoc]
    have : (xs.drop P).take k ++ xs.drop (P + k) = xs.drop P := by
      rw [← List.drop_drop]; exact List.take_append_drop k _
    rw [this]; exact (List.take_append_drop P xs).symm
  have hl1 : (xs.take P).length = (xs.take P).length := rfl
  unfold chg
  conv => lhs; arg 2; rw [e]
  rw [List.zipWith_append (by simp; omega), List.zipWith_append rfl, zip_same, zip_same, zip_zip _ _ (by simp; omega)]
  simp
  congr 1
  congr 1
  omega
/-- THE SUM TELLS THE CHANGE. -/
theorem crc_tells (xs : List Nat) (P : Nat) (Y : List Nat) (k : Nat) (h : P + k ≤ xs.length) (hk : k ≤ Y.length) (hY : ∀ y ∈ Y, y < 256) (hY4 : Y.length ≤ 4) :
    (crcN xs = crcN (chg xs P Y k)) ↔ xs = chg xs P Y k := by
  constructor
  · intro he
    have e1 : crcAll 4294967295 xs = crcAll 4294967295 (chg xs P Y k) := by
      have := congrArg (fun z => 4294967295 ^^^ z) he
      simp only [crcN, ← Nat.xor_assoc, Nat.xor_self, Nat.zero_xor] at this
      exact this
    have e2 := crcAll_diff xs (chg xs P Y k) 4294967295 4294967295 (chg_length xs P Y k h hk).symm
    rw [e1, Nat.xor_self, Nat.xor_self, chg_diff xs P Y k h hk] at e2
    have hz := dStep_burst P (xs.length - (P + k)) (Y.take k) (by simp; omega) (fun x hx => hY x (List.mem_of_mem_take hx)) e2.symm
    have e3 : Y.take k = List.replicate k 0 := by
      apply List.ext_getElem
      · simp; omega
      · intro i h1 h2
        simp at h2
        rw [List.getElem_replicate]
        exact hz _ (List.getElem_mem h1)
    have e4 : List.zipWith (· ^^^ ·) ((xs.drop P).take k) (Y.take k) = (xs.drop P).take k := by
      rw [e3]
      apply List.ext_getElem
      · simp; try omega
      · intro i h1 h2; simp
    unfold chg
    rw [e4, List.append_assoc]
    have : (xs.drop P).take k ++ xs.drop (P + k) = xs.drop P := by
      rw [← List.drop_drop]; exact List.take_append_drop k _
    rw [this]; exact (List.take_append_drop P xs).symm
  · intro he; rw [← he]
end Go.Proofs.YtibpnlhdpdfhiaaDoor
