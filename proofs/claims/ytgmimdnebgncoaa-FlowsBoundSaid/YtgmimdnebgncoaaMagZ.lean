/- The Maglev table as lists: rows, turns, how many each has taken. -/
import Derived.Test.YtgmimdnebgncoaaSumMathZ
set_option linter.unusedVariables false
namespace Go.Proofs.Ytgmimdnebgncoaa

/-- A backend's way through the slots. -/
structure Rw where
  id : Int
  wt : Nat
  pos : Nat
  sk : Nat
deriving DecidableEq
/-- A number's four bytes, the high one first. -/
def id4 (id : Int) : List Nat := [(id / 16777216 % 256).toNat, (id / 65536 % 256).toNat, (id / 256 % 256).toNat, (id % 256).toNat]
def offF (id : Int) (s : Nat) : Nat := mixF 1 (id4 id) % s
def skF (id : Int) (s : Nat) : Nat := mixF 2 (id4 id) % (s - 1) + 1
theorem id4_small (id : Int) : ∀ x ∈ id4 id, x < 256 := by
  intro x hx; simp [id4] at hx; omega
/-- Where a row comes to the next free slot. -/
def walkF (T : List Int) (sk : Nat) : Nat → Nat → Nat
  | 0, a => a
  | f + 1, a => if T.getD a 0 = -1 then a else walkF T sk f ((a + sk) % T.length)
/-- Row i takes a slot. -/
def takeT (S : List Int × List Rw) (i : Nat) : List Int × List Rw :=
  match S.2[i]? with
  | none => S
  | some r => (S.1.set (walkF S.1 r.sk S.1.length r.pos) r.id, S.2.set i { r with pos := walkF S.1 r.sk S.1.length r.pos })
/-- Whose turn the x-th of a round is. -/
def who : List Rw → Nat → Nat
  | [], _ => 0
  | r :: rs, x => if x < r.wt then 0 else who rs (x - r.wt) + 1
def allW : List Rw → Nat
  | [] => 0
  | r :: rs => r.wt + allW rs
def pre (rs : List Rw) (i : Nat) : Nat := allW (rs.take i)
/-- The slots, the rows behind k turns. -/
def stM (rs : List Rw) (n : Nat) : Nat → List Int × List Rw
  | 0 => (List.replicate n (-1), rs)
  | k + 1 => takeT (stM rs n k) (who rs (k % allW rs))
/-- How many of the first k turns are i's. -/
def cnt (rs : List Rw) (i : Nat) : Nat → Nat
  | 0 => 0
  | k + 1 => cnt rs i k + (if who rs (k % allW rs) = i then 1 else 0)

/-- What the slots' number must be. -/
structure Prm (n : Nat) : Prop where
  lo : 3 ≤ n
  hi : n ≤ 251
  inv : ∀ k, k < n → 0 < k → ∃ i, i < n ∧ k * i % n = 1
theorem prm3 : Prm 3 := ⟨by decide, by decide, by decide +kernel⟩
theorem prm7 : Prm 7 := ⟨by decide, by decide, by decide +kernel⟩
theorem prm13 : Prm 13 := ⟨by decide, by decide, by decide +kernel⟩
theorem prm61 : Prm 61 := ⟨by decide, by decide, by decide +kernel⟩
theorem prm127 : Prm 127 := ⟨by decide, by decide, by decide +kernel⟩
theorem prm251 : Prm 251 := ⟨by decide, by decide, by decide +kernel⟩

structure Rws (rs : List Rw) (n : Nat) : Prop where
  prm : Prm n
  len : rs.length ≤ 16
  each : ∀ r ∈ rs, 0 ≤ r.id ∧ r.id ≤ 65535 ∧ 1 ≤ r.wt ∧ r.wt ≤ 10 ∧ r.pos < n ∧ 1 ≤ r.sk ∧ r.sk < n
  up : rs.Pairwise (fun a b => a.id < b.id)

/-! ### A row comes by all slots -/
theorem reach (n : Nat) (hp : Prm n) (a sk x : Nat) (ha : a < n) (hs : 0 < sk) (hs2 : sk < n) (hx : x < n) : ∃ j, j < n ∧ (a + j * sk) % n = x := by
  obtain ⟨i, hi, he⟩ := hp.inv sk hs2 hs
  refine ⟨(x + n - a) * i % n, Nat.mod_lt _ (by have := hp.lo; omega), ?_⟩
  have e1 : ((x + n - a) * i % n * sk) % n = (x + n - a) % n := by
    rw [Nat.mul_mod, Nat.mod_mod, ← Nat.mul_mod, Nat.mul_assoc, Nat.mul_comm i sk, Nat.mul_mod, he, Nat.mul_one, Nat.mod_mod]
  rw [Nat.add_mod, e1, ← Nat.add_mod]
  have : a + (x + n - a) = x + n := by omega
  rw [this, Nat.add_mod_right, Nat.mod_eq_of_lt hx]
theorem walk_free (T : List Int) (sk : Nat) (h0 : 0 < T.length) : ∀ (j f a : Nat), j < f → a < T.length → T.getD ((a + j * sk) % T.length) 0 = -1 → walkF T sk f a < T.length ∧ T.getD (walkF T sk f a) 0 = -1
  | _, 0, _, h, _, _ => by omega
  | 0, f + 1, a, _, ha, h => by
    rw [Nat.zero_mul, Nat.add_zero, Nat.mod_eq_of_lt ha] at h
    unfold walkF; rw [if_pos h]; exact ⟨ha, h⟩
  | j + 1, f + 1, a, hj, ha, h => by
    unfold walkF
    by_cases hc : T.getD a 0 = -1
    · rw [if_pos hc]; exact ⟨ha, hc⟩
    · rw [if_neg hc]
      refine walk_free T sk h0 j f _ (by omega) (Nat.mod_lt _ h0) ?_
      rw [Nat.mod_add_mod, show a + sk + j * sk = a + (j + 1) * sk from by rw [Nat.succ_mul]; omega]; exact h
theorem walk_ok {T : List Int} {n sk a : Nat} (hp : Prm n) (hn : T.length = n) (ha : a < n) (hs : 1 ≤ sk) (hs2 : sk < n) (hf : 0 < T.count (-1)) : walkF T sk n a < n ∧ T.getD (walkF T sk n a) 0 = -1 := by
  obtain ⟨x, hx, he⟩ := List.getElem_of_mem (List.count_pos_iff.1 hf)
  obtain ⟨j, hj, hr⟩ := reach n hp a sk x ha hs hs2 (by omega)
  subst hn
  refine walk_free T sk (by omega) j _ a hj ha ?_
  rw [hr, List.getD_eq_getElem?_getD, List.getElem?_eq_getElem hx, he]; rfl

/-! ### Turns -/
theorem who_lt : ∀ (rs : List Rw) (x : Nat), x < allW rs → who rs x < rs.length
  | [], x, h => by simp [allW] at h
  | r :: rs, x, h => by
    unfold who; simp only [allW] at h
    split
    · simp
    · have := who_lt rs (x - r.wt) (by omega)
      simp; omega
theorem who_pre : ∀ (rs : List Rw) (i j : Nat) (r : Rw), rs[i]? = some r → j < r.wt → who rs (pre rs i + j) = i
  | [], i, j, r, h, _ => by simp at h
  | r0 :: rs, 0, j, r, h, hj => by
    simp at h; subst h
    unfold who pre; simp only [List.take_zero, allW, Nat.zero_add, if_pos hj]
  | r0 :: rs, i + 1, j, r, h, hj => by
    have ih := who_pre rs i j r (by simpa using h) hj
    unfold pre at ih
    unfold who pre; simp only [List.take_succ_cons, allW]
    rw [if_neg (by omega), show r0.wt + allW (rs.take i) + j - r0.wt = allW (rs.take i) + j from by omega, ih]
theorem pre_zero (rs : List Rw) : pre rs 0 = 0 := by simp [pre, allW]
theorem pre_succ : ∀ (rs : List Rw) (i : Nat) (r : Rw), rs[i]? = some r → pre rs (i + 1) = pre rs i + r.wt
  | [], i, r, h => by simp at h
  | r0 :: rs, 0, r, h => by simp at h; subst h; simp [pre, allW]
  | r0 :: rs, i + 1, r, h => by
    have ih := pre_succ rs i r (by simpa using h)
    unfold pre at ih ⊢
    simp only [List.take_succ_cons, allW] at ih ⊢
    omega
theorem pre_all (rs : List Rw) : pre rs rs.length = allW rs := by unfold pre; rw [List.take_length]
theorem pre_le : ∀ (rs : List Rw) (i : Nat), pre rs i ≤ allW rs
  | [], i => by simp [pre]
  | r :: rs, 0 => by simp [pre, allW]
  | r :: rs, i + 1 => by have := pre_le rs i; unfold pre at this ⊢; simp only [List.take_succ_cons, allW]; omega
theorem allW_pos {rs : List Rw} (h : ∀ r ∈ rs, 1 ≤ r.wt) (h0 : 0 < rs.length) : 0 < allW rs := by
  cases rs with
  | nil => simp at h0
  | cons r rs => have := h r (List.mem_cons_self ..); simp only [allW]; omega
/-- Of the first x of a round those of i. -/
def cP (rs : List Rw) (i x : Nat) : Nat := min ((rs[i]?.map (·.wt)).getD 0) (x - pre rs i)
theorem who_iff : ∀ (rs : List Rw) (i x : Nat) (r : Rw), rs[i]? = some r → x < allW rs → (who rs x = i ↔ pre rs i ≤ x ∧ x < pre rs i + r.wt)
  | [], i, x, r, h, _ => by simp at h
  | r0 :: rs, 0, x, r, h, hx => by
    simp at h; subst h
    unfold who pre; simp only [List.take_zero, allW]
    split <;> omega
  | r0 :: rs, i + 1, x, r, h, hx => by
    simp only [allW] at hx
    unfold who pre; simp only [List.take_succ_cons, allW]
    by_cases hc : x < r0.wt
    · rw [if_pos hc]; omega
    · rw [if_neg hc]
      have ih := who_iff rs i (x - r0.wt) r (by simpa using h) (by omega)
      unfold pre at ih
      omega
theorem pre_wt_le : ∀ (rs : List Rw) (i : Nat) (r : Rw), rs[i]? = some r → pre rs i + r.wt ≤ allW rs := by
  intro rs i r h
  rw [← pre_succ rs i r h]; exact pre_le rs _
theorem cnt_is (rs : List Rw) (i : Nat) (r : Rw) (h : rs[i]? = some r) (h1 : 1 ≤ r.wt) : ∀ k, cnt rs i k = k / allW rs * r.wt + min r.wt (k % allW rs - pre rs i)
  | 0 => by simp [cnt]
  | k + 1 => by
    have ih := cnt_is rs i r h h1 k
    have hp := pre_wt_le rs i r h
    have hpos : 0 < allW rs := by omega
    have hm : k % allW rs < allW rs := Nat.mod_lt _ hpos
    have hw := who_iff rs i (k % allW rs) r h hm
    unfold cnt
    rw [ih]
    by_cases he : k % allW rs + 1 = allW rs
    · have hd : (k + 1) / allW rs = k / allW rs + 1 := by
        have := Nat.div_add_mod k (allW rs)
        rw [show k + 1 = allW rs * (k / allW rs) + allW rs from by omega, Nat.mul_add_div hpos, Nat.div_self hpos]
      have hmm : (k + 1) % allW rs = 0 := by
        have := Nat.div_add_mod k (allW rs)
        rw [show k + 1 = allW rs * (k / allW rs) + allW rs from by omega, Nat.mul_add_mod, Nat.mod_self]
      rw [hd, hmm, Nat.succ_mul]
      split <;> omega
    · have hd : (k + 1) / allW rs = k / allW rs := by
        have := Nat.div_add_mod k (allW rs)
        rw [show k + 1 = allW rs * (k / allW rs) + (k % allW rs + 1) from by omega, Nat.mul_add_div hpos, Nat.div_eq_of_lt (show k % allW rs + 1 < allW rs by omega)]; omega
      have hmm : (k + 1) % allW rs = k % allW rs + 1 := by
        have := Nat.div_add_mod k (allW rs)
        rw [show k + 1 = allW rs * (k / allW rs) + (k % allW rs + 1) from by omega, Nat.mul_add_mod, Nat.mod_eq_of_lt (by omega)]
      rw [hd, hmm]
      split <;> omega

/-! ### The invariant -/
structure MInv (rs : List Rw) (n k : Nat) (S : List Int × List Rw) : Prop where
  tl : S.1.length = n
  rl : S.2.length = rs.length
  same : ∀ (i : Nat) (r : Rw), S.2[i]? = some r → r.pos < n ∧ ∃ q : Rw, rs[i]? = some q ∧ r.id = q.id ∧ r.wt = q.wt ∧ r.sk = q.sk
  free : S.1.count (-1) + k = n
  mem : ∀ x ∈ S.1, x = -1 ∨ ∃ r ∈ rs, x = r.id
  has : ∀ (i : Nat) (r : Rw), rs[i]? = some r → S.1.count r.id = cnt rs i k
theorem inv0 {rs : List Rw} {n : Nat} (h : Rws rs n) : MInv rs n 0 (stM rs n 0) := by
  refine ⟨by simp [stM], rfl, fun i r hr => ⟨(h.each r (List.mem_of_getElem? hr)).2.2.2.2.1, r, hr, rfl, rfl, rfl⟩, by simp [stM], fun x hx => .inl ?_, fun i r hr => ?_⟩
  · simp [stM] at hx; exact hx.2
  · have := (h.each r (List.mem_of_getElem? hr)).1
    simp only [stM, List.count_replicate, cnt]
    split
    · rename_i he; simp at he; omega
    · rfl
theorem ids_ne {rs : List Rw} (h : rs.Pairwise (fun a b => a.id < b.id)) {i j : Nat} {a b : Rw} (hi : rs[i]? = some a) (hj : rs[j]? = some b) (hne : i ≠ j) : a.id ≠ b.id := by
  obtain ⟨h1, e1⟩ := List.getElem?_eq_some_iff.1 hi
  obtain ⟨h2, e2⟩ := List.getElem?_eq_some_iff.1 hj
  have hp := List.pairwise_iff_getElem.1 h
  rcases Nat.lt_or_ge i j with hl | hl
  · have := hp i j h1 h2 hl; rw [e1, e2] at this; omega
  · have := hp j i h2 h1 (by omega); rw [e1, e2] at this; omega
theorem takeT_some {S : List Int × List Rw} {i : Nat} {r : Rw} (h : S.2[i]? = some r) : takeT S i = (S.1.set (walkF S.1 r.sk S.1.length r.pos) r.id, S.2.set i { r with pos := walkF S.1 r.sk S.1.length r.pos }) := by
  unfold takeT; rw [h]
theorem invS {rs : List Rw} {n k : Nat} {S : List Int × List Rw} (h : Rws rs n) (h0 : 0 < rs.length) (hk : k < n) (hI : MInv rs n k S) : MInv rs n (k + 1) (takeT S (who rs (k % allW rs))) := by
  obtain ⟨i, hi⟩ : ∃ i, i = who rs (k % allW rs) := ⟨_, rfl⟩
  have hlt : i < rs.length := by rw [hi]; exact who_lt rs _ (Nat.mod_lt _ (allW_pos (fun r hr => (h.each r hr).2.2.1) h0))
  have hr : S.2[i]? = some (S.2[i]'(by rw [hI.rl]; exact hlt)) := List.getElem?_eq_getElem _
  generalize S.2[i]'(by rw [hI.rl]; exact hlt) = r at hr
  obtain ⟨hpos, q, hq, e1, e2, e3⟩ := hI.same i r hr
  have hqe := h.each q (List.mem_of_getElem? hq)
  have hw := walk_ok h.prm hI.tl hpos (by omega : 1 ≤ r.sk) (by omega) (by have := hI.free; omega)
  rw [← hi, takeT_some hr]
  rw [hI.tl]
  generalize walkF S.1 r.sk n r.pos = a at hw
  obtain ⟨ha, hfree⟩ := hw
  have hal : a < S.1.length := by rw [hI.tl]; exact ha
  have hge : S.1[a] = -1 := by rw [List.getD_eq_getElem?_getD, List.getElem?_eq_getElem hal] at hfree; simpa using hfree
  refine ⟨by simp [hI.tl], by simp [hI.rl], fun j s hs => ?_, ?_, fun x hx => ?_, fun j s hs => ?_⟩
  · rw [List.getElem?_set] at hs
    split at hs
    · rename_i hij
      subst hij
      split at hs
      · simp only [Option.some.injEq] at hs
        subst hs
        exact ⟨ha, q, hq, e1, e2, e3⟩
      · cases hs
    · exact hI.same j s hs
  · have := hI.free
    have hc := List.count_set (b := (-1 : Int)) (a := r.id) hal
    have hp : 0 < S.1.count (-1) := by omega
    simp only [hge, beq_self_eq_true, if_true] at hc
    have hn : (r.id == (-1 : Int)) = false := by simp; omega
    rw [hn] at hc
    simp only [Bool.false_eq_true, if_false] at hc
    show (S.1.set a r.id).count (-1) + (k + 1) = n
    omega
  · rcases List.mem_or_eq_of_mem_set hx with h1 | h1
    · exact hI.mem x h1
    · exact .inr ⟨q, List.mem_of_getElem? hq, by rw [h1, e1]⟩
  · have hc := List.count_set (b := s.id) (a := r.id) hal
    have hs0 := (h.each s (List.mem_of_getElem? hs)).1
    have hn : (S.1[a] == s.id) = false := by rw [hge]; simp; omega
    rw [hn] at hc
    simp only [Bool.false_eq_true, if_false, Nat.sub_zero] at hc
    show (S.1.set a r.id).count s.id = cnt rs j (k + 1)
    rw [hc, hI.has j s hs, show cnt rs j (k + 1) = cnt rs j k + (if who rs (k % allW rs) = j then 1 else 0) from rfl]
    rw [← hi]
    by_cases hij : i = j
    · subst hij
      rw [hs] at hq
      simp only [Option.some.injEq] at hq
      subst hq
      simp [e1]
    · have := ids_ne h.up hq hs hij
      rw [if_neg hij, if_neg (by rw [e1]; simpa using this)]
theorem inv_all {rs : List Rw} {n : Nat} (h : Rws rs n) (h0 : 0 < rs.length) : ∀ k, k ≤ n → MInv rs n k (stM rs n k)
  | 0, _ => inv0 h
  | k + 1, hk => invS h h0 (by omega) (inv_all h h0 k (by omega))
end Go.Proofs.Ytgmimdnebgncoaa
