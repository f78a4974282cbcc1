/- Numbers as text, addresses as text, tuples as text: each tells what it was made of. -/
import Derived.Test.YtgpchkobjgglhaaGreatDoorTupTextZ
import Derived.Test.YtgpchkobjgglhaaGreatDoorGCZ
set_option linter.unusedVariables false
namespace Go.Proofs.YtgpchkobjgglhaaGreatDoor

theorem split_at {α : Type} {c : α} : ∀ {l1 l2 r1 r2 : List α}, c ∉ l1 → c ∉ l2 → l1 ++ c :: r1 = l2 ++ c :: r2 → l1 = l2 ∧ r1 = r2
  | [], [], _, _, _, _, h => by simpa using h
  | [], y :: l2, _, _, _, h2, h => by simp at h h2; exact absurd h.1 h2.1
  | x :: l1, [], _, _, h1, _, h => by simp at h h1; exact absurd h.1.symm h1.1
  | x :: l1, y :: l2, r1, r2, h1, h2, h => by
    simp only [List.cons_append, List.cons.injEq, List.mem_cons, not_or] at h h1 h2
    obtain ⟨rfl, h⟩ := h
    obtain ⟨e, e2⟩ := split_at h1.2 h2.2 h
    exact ⟨by rw [e], e2⟩

/-- Is it a digit, or a minus. -/
def numC (c : UInt8) : Prop := c = 45 ∨ (48 ≤ c.toNat ∧ c.toNat ≤ 57)
theorem dec_digit (u : Nat) : ∀ c ∈ Lib.decDigits u, 48 ≤ c.toNat ∧ c.toNat ≤ 57 := by
  induction u using Nat.strongRecOn with
  | ind u ih =>
    intro c hc
    rw [Lib.decDigits] at hc
    split at hc
    · obtain rfl := List.mem_singleton.1 hc; rw [UInt8.toNat_ofNat']; omega
    · rcases List.mem_append.1 hc with h | h
      · exact ih (u / 10) (by omega) c h
      · obtain rfl := List.mem_singleton.1 h; rw [UInt8.toNat_ofNat']; omega
theorem itoa_num (n : Int) : ∀ c ∈ Lib.itoa n, numC c := by
  intro c hc
  unfold Lib.itoa at hc
  split at hc
  · simp only [List.mem_cons] at hc
    rcases hc with rfl | h
    · exact .inl rfl
    · exact .inr (dec_digit _ c h)
  · exact .inr (dec_digit _ c hc)
def valL (acc : Nat) (l : List UInt8) : Nat := l.foldl (fun a c => a * 10 + (c.toNat - 48)) acc
theorem valL_append (acc : Nat) (a b : List UInt8) : valL acc (a ++ b) = valL (valL acc a) b := by unfold valL; rw [List.foldl_append]
theorem valL_dec (u : Nat) : valL 0 (Lib.decDigits u) = u := by
  induction u using Nat.strongRecOn with
  | ind u ih =>
    rw [Lib.decDigits]
    split
    · simp [valL, UInt8.toNat_ofNat']; omega
    · rw [valL_append, ih (u / 10) (by omega)]
      simp [valL, UInt8.toNat_ofNat']; omega
theorem dec_inj {u v : Nat} (h : Lib.decDigits u = Lib.decDigits v) : u = v := by
  have := congrArg (valL 0) h
  rwa [valL_dec, valL_dec] at this
theorem dec_ne_nil (u : Nat) : Lib.decDigits u ≠ [] := by
  intro h
  rw [Lib.decDigits] at h
  split at h
  · simp at h
  · simp at h
theorem itoa_inj {m n : Int} (h : Lib.itoa m = Lib.itoa n) : m = n := by
  have key : ∀ u v : Nat, Lib.decDigits u ≠ 45 :: Lib.decDigits v := fun u v e => by
    have := dec_digit u 45 (by rw [e]; simp)
    simp at this
  unfold Lib.itoa at h
  split at h <;> split at h
  · simp only [List.cons.injEq, true_and] at h
    have := dec_inj h; omega
  · exact absurd h.symm (key _ _)
  · exact absurd h (key _ _)
  · have := dec_inj h; omega

theorem num_ne {l : List UInt8} {c : UInt8} (h : ∀ x ∈ l, numC x) (h1 : c ≠ 45) (h2 : c.toNat < 48 ∨ 57 < c.toNat) : c ∉ l := fun hc => by
  rcases h c hc with h | h
  · exact h1 h
  · omega
theorem addrL_eq (x : Int) : addrL x = Lib.itoa (x / 16777216) ++ 46 :: (Lib.itoa (x / 65536 % 256) ++ 46 :: (Lib.itoa (x / 256 % 256) ++ 46 :: Lib.itoa (x % 256))) := by
  unfold addrL partsL; rw [Lib.join_cons]; simp [Lib.joinTail]
theorem addrL_no (x : Int) {c : UInt8} (h0 : c ≠ 46) (h1 : c ≠ 45) (h2 : c.toNat < 48 ∨ 57 < c.toNat) : c ∉ addrL x := by
  rw [addrL_eq]
  simp only [List.mem_append, List.mem_cons, not_or]
  exact ⟨num_ne (itoa_num _) h1 h2, h0, num_ne (itoa_num _) h1 h2, h0, num_ne (itoa_num _) h1 h2, h0, num_ne (itoa_num _) h1 h2⟩
theorem addrL_inj {x y : Int} (x0 : 0 ≤ x) (x1 : x ≤ 4294967295) (y0 : 0 ≤ y) (y1 : y ≤ 4294967295) (h : addrL x = addrL y) : x = y := by
  rw [addrL_eq, addrL_eq] at h
  have n46 : ∀ n, (46 : UInt8) ∉ Lib.itoa n := fun n => num_ne (itoa_num n) (by decide) (by decide)
  obtain ⟨a, h⟩ := split_at (n46 _) (n46 _) h
  obtain ⟨b, h⟩ := split_at (n46 _) (n46 _) h
  obtain ⟨c, d⟩ := split_at (n46 _) (n46 _) h
  have := itoa_inj a; have := itoa_inj b; have := itoa_inj c; have := itoa_inj d
  omega
theorem endL_eq (x p : Int) : endL x p = addrL x ++ 58 :: Lib.itoa p := by unfold endL; simp
theorem endL_inj {x y p q : Int} (x0 : 0 ≤ x) (x1 : x ≤ 4294967295) (y0 : 0 ≤ y) (y1 : y ≤ 4294967295) (h : endL x p = endL y q) : x = y ∧ p = q := by
  rw [endL_eq, endL_eq] at h
  obtain ⟨a, b⟩ := split_at (addrL_no x (by decide) (by decide) (by decide)) (addrL_no y (by decide) (by decide) (by decide)) h
  exact ⟨addrL_inj x0 x1 y0 y1 a, itoa_inj b⟩
theorem endL_no (x p : Int) {c : UInt8} (h0 : c ≠ 46) (h1 : c ≠ 45) (h3 : c ≠ 58) (h2 : c.toNat < 48 ∨ 57 < c.toNat) : c ∉ endL x p := by
  rw [endL_eq]
  simp only [List.mem_append, List.mem_cons, not_or]
  exact ⟨addrL_no x h0 h1 h2, h3, num_ne (itoa_num _) h1 h2⟩
theorem textL_eq (t : TupD) : textL t = nameL t.proto ++ 32 :: (endL t.src t.sport ++ 62 :: endL t.dst t.dport) := by unfold textL; simp
theorem nameL_no (p : Int) : (32 : UInt8) ∉ nameL p := by
  unfold nameL; split
  · decide
  · split <;> decide
theorem nameL_inj {p q : Int} (hp : p = 6 ∨ p = 17) (h : nameL p = nameL q) : p = q := by
  unfold nameL at h
  by_cases q6 : q = 6
  · rcases hp with rfl | rfl <;> simp [q6] at h ⊢
  · by_cases q7 : q = 17
    · rcases hp with rfl | rfl <;> simp [q7] at h ⊢
    · rcases hp with rfl | rfl <;> simp [q6, q7] at h
theorem textL_inj {s t : TupD} (os : TupOk s) (ot : TupOk t) (hs : mayTB s = true) (h : textL s = textL t) : s = t := by
  rw [textL_eq, textL_eq] at h
  obtain ⟨a, h⟩ := split_at (nameL_no _) (nameL_no _) h
  obtain ⟨b, c⟩ := split_at (endL_no _ _ (by decide) (by decide) (by decide) (by decide)) (endL_no _ _ (by decide) (by decide) (by decide) (by decide)) h
  have e1 := nameL_inj ((mayTB_iff s).1 hs).1 a
  obtain ⟨e2, e3⟩ := endL_inj os.src.1 os.src.2 ot.src.1 ot.src.2 b
  obtain ⟨e4, e5⟩ := endL_inj os.dst.1 os.dst.2 ot.dst.1 ot.dst.2 c
  cases s; cases t; simp_all
end Go.Proofs.YtgpchkobjgglhaaGreatDoor
