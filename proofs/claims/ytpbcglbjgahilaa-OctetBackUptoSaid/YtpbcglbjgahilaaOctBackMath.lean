/- What calls write, and what is left behind calls that read. -/
import Derived.Test.YtpbcglbjgahilaaOctArgs
import Derived.Test.YtpbcglbjgahilaaOctRaw
set_option linter.unusedVariables false
namespace Go.Proofs.Ytpbcglbjgahilaa
open Go.RowKit

def wid (c : CallD) : Nat := if c.act = 0 then 1 else if c.act = 1 then 2 else if c.act = 2 then 4 else if c.act = 3 then 8 else c.rl
def enc (c : CallD) : List Nat := if c.act = 0 then beB 1 (u64N c.num) else if c.act = 1 then beB 2 (u64N c.num) else if c.act = 2 then beB 4 (u64N (c.num % 4294967296)) else if c.act = 3 then beB 8 (u64N c.num) else c.raw
def encs : List CallD → List Nat
  | [] => []
  | c :: r => enc c ++ encs r
def wsum : List CallD → Nat
  | [] => 0
  | c :: r => wid c + wsum r
def runs : List CallD → List Nat → Int → List Nat × Int
  | [], zs, e => (zs, e)
  | c :: r, zs, e => runs r (nxtX (wid c) zs) (nxtE (wid c) zs e)
theorem encs_append (a b : List CallD) : encs (a ++ b) = encs a ++ encs b := by
  induction a with
  | nil => rfl
  | cons x r ih => simp [encs, ih]
theorem wsum_append (a b : List CallD) : wsum (a ++ b) = wsum a + wsum b := by
  induction a with
  | nil => simp [wsum]
  | cons x r ih => simp [wsum, ih]; omega
theorem runs_append (a b : List CallD) : ∀ zs e, runs (a ++ b) zs e = runs b (runs a zs e).1 (runs a zs e).2 := by
  induction a with
  | nil => intro zs e; rfl
  | cons x r ih => intro zs e; simp [runs, ih]
theorem runs_take (l : List CallD) (k : Nat) (h : k < l.length) (zs : List Nat) (e : Int) :
    runs (l.take (k + 1)) zs e = (nxtX (wid l[k]) (runs (l.take k) zs e).1, nxtE (wid l[k]) (runs (l.take k) zs e).1 (runs (l.take k) zs e).2) := by
  rw [List.take_succ_eq_append_getElem h, runs_append]; rfl
theorem encs_take (l : List CallD) (k : Nat) (h : k < l.length) : encs (l.take (k + 1)) = encs (l.take k) ++ enc l[k] := by
  rw [List.take_succ_eq_append_getElem h, encs_append]; simp [encs]
theorem runs_ok : ∀ (l : List CallD) (zs : List Nat) (e : Int), wsum l ≤ zs.length → runs l zs e = (zs.drop (wsum l), e)
  | [], zs, e, _ => by simp [runs, wsum]
  | c :: r, zs, e, h => by
    have h1 : wid c ≤ zs.length := by simp [wsum] at h; omega
    have h2 : wsum r ≤ (zs.drop (wid c)).length := by simp [wsum] at h ⊢; omega
    simp only [runs, nxtX, nxtE, if_pos h1]
    rw [runs_ok r _ _ h2, List.drop_drop]
    simp [wsum]
theorem runs_over : ∀ (l : List CallD), runs l [] 2 = ([], 2)
  | [] => rfl
  | c :: r => by
    have e1 : nxtX (wid c) [] = [] := by unfold nxtX; split <;> simp
    have e2 : nxtE (wid c) [] 2 = 2 := by unfold nxtE; split <;> rfl
    simp only [runs, e1, e2]; exact runs_over r
theorem runs_bad : ∀ (l : List CallD) (zs : List Nat) (e : Int), zs.length < wsum l → runs l zs e = ([], 2)
  | [], zs, e, h => by simp [wsum] at h
  | c :: r, zs, e, h => by
    by_cases h1 : wid c ≤ zs.length
    · have h2 : (zs.drop (wid c)).length < wsum r := by simp [wsum] at h ⊢; omega
      simp only [runs, nxtX, nxtE, if_pos h1]
      exact runs_bad r _ _ h2
    · simp only [runs, nxtX, nxtE, if_neg h1]
      exact runs_over r
theorem enc_length (c : CallD) (h : c.raw.length = c.rl) : (enc c).length = wid c := by
  unfold enc wid
  split
  · exact beB_length _ _
  split
  · exact beB_length _ _
  split
  · exact beB_length _ _
  split
  · exact beB_length _ _
  exact h
theorem encs_length : ∀ (l : List CallD), (∀ c ∈ l, c.raw.length = c.rl) → (encs l).length = wsum l
  | [], _ => rfl
  | c :: r, h => by
    simp only [encs, wsum, List.length_append]
    rw [enc_length c (h c (by simp)), encs_length r (fun x hx => h x (by simp [hx]))]
theorem wid_le (c : CallD) : wid c ≤ 8 + c.rl := by
  unfold wid; repeat (first | omega | split)
theorem wsum_le : ∀ (l : List CallD), wsum l ≤ 8 * l.length + rawSum l
  | [] => by simp [wsum]
  | c :: r => by have := wsum_le r; have := wid_le c; simp [wsum, rawSum]; omega
/-- Where all was written, what is left behind k calls begins with the next call's bytes. -/
theorem runs_pref (l : List CallD) (k : Nat) (h : k < l.length) (hr : ∀ c ∈ l, c.raw.length = c.rl) (tail : List Nat) :
    ∃ rest, runs (l.take k) (encs l ++ tail) 0 = (enc l[k] ++ rest, 0) := by
  have e : l = l.take k ++ l.drop k := (List.take_append_drop k l).symm
  have hk : encs l = encs (l.take k) ++ encs (l.drop k) := by rw [← encs_append, ← e]
  have hl : (encs (l.take k)).length = wsum (l.take k) := encs_length _ (fun c hc => hr c (List.mem_of_mem_take hc))
  have hd : l.drop k = l[k] :: l.drop (k + 1) := (List.getElem_cons_drop h).symm
  refine ⟨encs (l.drop (k + 1)) ++ tail, ?_⟩
  rw [runs_ok _ _ _ (by rw [hk]; simp; omega), hk, ← hl, List.append_assoc, List.drop_left]
  rw [hd]; simp [encs]

theorem beN_two (x : Nat) : beN (beB 1 x) = x % 256 ∧ beN (beB 2 x) = x % 65536 ∧ beN (beB 4 x) = x % 4294967296 := by
  simp [beN, beB, List.range_succ]
  omega
theorem beN_eight (x : Nat) (h : x < 18446744073709551616) : beN (beB 8 x) = x := by
  simp [beN, beB, List.range_succ]
  omega
theorem valN_pref (n : Nat) (a b : List Nat) (h : a.length = n) : valN n (a ++ b) = beN a := by
  unfold valN
  rw [if_pos (by simp; omega), ← h, List.take_left]
theorem rawN_pref (n : Nat) (a b : List Nat) (h : a.length = n) : rawN n (a ++ b) = a := by
  unfold rawN
  rw [if_pos (by simp; omega), ← h, List.take_left]
theorem back1 (num : Int) (rest : List Nat) : ((valN 1 (beB 1 (u64N num) ++ rest) : Nat) : Int) = num % 256 := by
  rw [valN_pref 1 _ _ (beB_length _ _), (beN_two _).1]; unfold u64N; omega
theorem back2 (num : Int) (rest : List Nat) : ((valN 2 (beB 2 (u64N num) ++ rest) : Nat) : Int) = num % 65536 := by
  rw [valN_pref 2 _ _ (beB_length _ _), (beN_two _).2.1]; unfold u64N; omega
theorem back4 (num : Int) (rest : List Nat) : ((valN 4 (beB 4 (u64N (num % 4294967296)) ++ rest) : Nat) : Int) = num % 4294967296 := by
  rw [valN_pref 4 _ _ (beB_length _ _), (beN_two _).2.2]; unfold u64N; omega
theorem back8 (num : Int) (rest : List Nat) (h : -9223372036854775808 ≤ num ∧ num ≤ 9223372036854775807) : sgn (valN 8 (beB 8 (u64N num) ++ rest)) = num := by
  rw [valN_pref 8 _ _ (beB_length _ _), beN_eight _ (u64N_lt _)]; unfold u64N sgn; split <;> omega
end Go.Proofs.Ytpbcglbjgahilaa
