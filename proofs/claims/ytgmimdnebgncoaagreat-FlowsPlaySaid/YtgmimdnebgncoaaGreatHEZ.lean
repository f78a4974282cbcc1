/- HE: DecMath, TupNum, TupRead, TupOne. -/
import Derived.Test.YtgmimdnebgncoaaGreatHDZ
import Derived.Test.YtgmimdnebgncoaaGreatGBZ
import Derived.Test.YtgmimdnebgncoaaGreatGAZ
import Derived.Deep.RegionHeld3
section
/- Records: what is read of a body, by kind and format; what is written is read, what is read is written. -/
set_option linter.unusedVariables false
set_option linter.unusedSimpArgs false
namespace Go.Proofs.YtgmimdnebgncoaaGreat
open Go.RowKit

/-- The record whose kind and body are these, as it is read. -/
def rawD (k v : Int) (xs : List Nat) : RecD :=
  if k = 1 then ⟨1, rtF xs, (valN 2 (nxtX 13 xs) : Nat), if v < 2 then 0 else (valN 4 (nxtX 15 xs) : Nat), if v < 3 then 0 else sgn (valN 8 (nxtX 19 xs)), 0, [], 0, 0, 0⟩
  else if k = 2 then ⟨2, rtF xs, 0, 0, 0, 0, [], 0, 0, 0⟩
  else if k = 3 then ⟨3, noT, 0, 0, 0, (valN 4 xs : Nat), bksV v (valN 1 (nxtX 4 xs)) (nxtX 5 xs), 0, 0, 0⟩
  else if k = 4 then ⟨4, noT, 0, 0, 0, 0, [], (valN 2 xs : Nat), sgn (valN 8 (nxtX 2 xs)), 0⟩
  else if k = 5 then ⟨5, noT, 0, 0, 0, 0, [], (valN 2 xs : Nat), 0, 0⟩
  else if k = 6 then ⟨6, noT, 0, 0, 0, 0, [], 0, 0, (valN 4 xs : Nat)⟩
  else ⟨k, noT, 0, 0, 0, 0, [], 0, 0, 0⟩
def lenD (k v : Int) (xs : List Nat) : Nat :=
  if k = 1 then flW v else if k = 2 then 13 else if k = 3 then 5 + valN 1 (nxtX 4 xs) * bkW v else if k = 4 then 10 else if k = 5 then 2 else if k = 6 then 4 else 0
/-- What Decode tells. -/
def decD (k v : Int) (xs : List Nat) : RecD := inD (rawD k v xs) v
def decB (k v : Int) (xs : List Nat) : Bool := decide (lenD k v xs = xs.length) && mayRB (decD k v xs)
def decE (k v : Int) (xs : List Nat) : Int := if verB v = true then (if decB k v xs = true then 0 else 3) else 10

theorem val_lt {n : Nat} {xs : List Nat} (h : ∀ x ∈ xs, x < 256) : valN 1 xs < 256 ∧ valN 2 xs < 65536 ∧ valN 4 xs < 4294967296 ∧ valN 8 xs < 18446744073709551616 :=
  ⟨valN_lt 1 xs h, valN_lt 2 xs h, valN_lt 4 xs h, valN_lt 8 xs h⟩
theorem sgn_i64 (n : Nat) (h : n < 18446744073709551616) : i64 (sgn n) := by unfold sgn i64; split <;> omega
theorem tupV_ok (xs : List Nat) (h : ∀ x ∈ xs, x < 256) : TupOk (tupV xs) := by
  have h0 := val_lt (n := 0) h
  have h4 := val_lt (n := 0) (nxt_small 4 xs h)
  have h8 := val_lt (n := 0) (nxt_small 8 xs h)
  have h9 := val_lt (n := 0) (nxt_small 9 xs h)
  have h11 := val_lt (n := 0) (nxt_small 11 xs h)
  constructor <;> simp only [tupV, u32, i64] <;> omega
theorem rtF_ok (xs : List Nat) (h : ∀ x ∈ xs, x < 256) : TupOk (rtF xs) := by
  unfold rtF; split
  · exact tupV_ok xs h
  · constructor <;> simp [noT, u32, i64]
theorem bksV_ok (v : Int) : ∀ n xs, (∀ x ∈ xs, x < 256) → ∀ b ∈ bksV v n xs, BkOk b
  | 0, _, _ => by simp [bksV]
  | n + 1, xs, h => by
    intro b hb
    simp only [bksV, List.mem_cons] at hb
    rcases hb with rfl | hb
    · have h0 := val_lt (n := 0) h
      have h2 := val_lt (n := 0) (nxt_small 2 xs h)
      have h6 := val_lt (n := 0) (nxt_small 6 xs h)
      constructor <;> simp only [bkV, u32, i64]
      · omega
      · omega
      · split <;> omega
    · exact bksV_ok v n _ (nxt_small _ xs h) b hb
theorem noT_ok : TupOk noT := by constructor <;> simp [noT, u32, i64]
theorem i64_0 : i64 0 := by simp [i64]
theorem rawD_ok (k v : Int) (xs : List Nat) (hk : i64 k) (h : ∀ x ∈ xs, x < 256) : RecOk (rawD k v xs) := by
  have h0 := val_lt (n := 0) h
  have h2 := val_lt (n := 0) (nxt_small 2 xs h)
  have h4 := val_lt (n := 0) (nxt_small 4 xs h)
  have h13 := val_lt (n := 0) (nxt_small 13 xs h)
  have h15 := val_lt (n := 0) (nxt_small 15 xs h)
  have h19 := val_lt (n := 0) (nxt_small 19 xs h)
  have s2 := sgn_i64 _ h2.2.2.2
  have s19 := sgn_i64 _ h19.2.2.2
  have v0 : ∀ n : Nat, n < 4294967296 → i64 n := fun n hn => by unfold i64; omega
  unfold rawD
  repeat' split
  all_goals constructor
  all_goals simp only [rtF_ok xs h, noT_ok, i64_0, hk, s2, s19, List.not_mem_nil, false_imp_iff, implies_true]
  all_goals first
    | (intro b hb; exact bksV_ok v _ _ (nxt_small _ xs h) b hb)
    | (apply v0; omega)
    | (unfold i64; omega)
theorem plain_raw (k v : Int) (xs : List Nat) : plainD (rawD k v xs) = rawD k v xs := by
  unfold rawD
  repeat' split
  all_goals (unfold plainD; simp_all)
theorem dec_parts (k v : Int) (xs : List Nat) (hv : verB v = true) : decD k v xs = ⟨(rawD k v xs).kind, (rawD k v xs).t, (rawD k v xs).fb, (rawD k v xs).fg, (rawD k v xs).fs, (rawD k v xs).gen, if v < 2 then (rawD k v xs).bs.map w1K else (rawD k v xs).bs, (rawD k v xs).be, (rawD k v xs).un, (rawD k v xs).ct⟩ := by
  unfold decD inD
  rw [if_pos hv, plain_raw]
  congr 1
  · split
    · unfold rawD; repeat' split
      all_goals first | rfl | omega | simp_all
    · rfl
  · split
    · unfold rawD; repeat' split
      all_goals first | rfl | omega | simp_all
    · rfl
theorem w1K_ok {b : BkD} (h : BkOk b) : BkOk (w1K b) := ⟨h.id, h.addr, by simp [w1K, i64]⟩
theorem decD_ok (k v : Int) (xs : List Nat) (hk : i64 k) (h : ∀ x ∈ xs, x < 256) (hv : verB v = true) : RecOk (decD k v xs) := by
  rw [dec_parts k v xs hv]
  obtain ⟨a, b, c, d, e, f, g, i, j, l⟩ := rawD_ok k v xs hk h
  refine ⟨a, b, c, d, e, f, ?_, i, j, l⟩
  intro x hx
  simp only at hx
  split at hx
  · simp only [List.mem_map] at hx
    obtain ⟨y, hy, rfl⟩ := hx
    exact w1K_ok (g y hy)
  · exact g x hx
theorem rawD_kind (k v : Int) (xs : List Nat) : (rawD k v xs).kind = k := by
  unfold rawD; repeat' split
  all_goals simp_all
theorem rawD_len (k v : Int) (xs : List Nat) (h : ∀ x ∈ xs, x < 256) : (rawD k v xs).bs.length ≤ 255 := by
  have h4 := val_lt (n := 0) (nxt_small 4 xs h)
  unfold rawD; repeat' split
  all_goals first | (simp only [bksV_length]; omega) | simp

theorem u64N_nat (n : Nat) (h : n < 18446744073709551616) : u64N (n : Int) = n := by unfold u64N; omega
theorem u64N_sgn (n : Nat) (h : n < 18446744073709551616) : u64N (sgn n) = n := by unfold u64N sgn; split <;> omega
theorem beN_nil : beN [] = 0 := rfl
theorem be_back (n : Nat) (hn : n = 1 ∨ n = 2 ∨ n = 4 ∨ n = 8) (ys : List Nat) (h : ∀ x ∈ ys, x < 256) (hl : ys.length = n) : beB n (beN ys) = ys := by
  rcases hn with rfl | rfl | rfl | rfl
  · match ys, hl with
    | [a], _ => simp at h; simp [beB, beN, List.range_succ]; omega
  · match ys, hl with
    | [a, b], _ => simp at h; simp [beB, beN, List.range_succ]; omega
  · match ys, hl with
    | [a, b, c, d], _ => simp at h; simp [beB, beN, List.range_succ]; omega
  · match ys, hl with
    | [a, b, c, d, e, f, g, i], _ => simp at h; simp [beB, beN, List.range_succ]; omega
/-- The n bytes from i on are those of their number. -/
theorem piece (n i : Nat) (hn : n = 1 ∨ n = 2 ∨ n = 4 ∨ n = 8) (xs : List Nat) (h : ∀ x ∈ xs, x < 256) (hi : i + n ≤ xs.length) : beB n (valN n (nxtX i xs)) = (xs.drop i).take n := by
  have e : nxtX i xs = xs.drop i := by unfold nxtX; rw [if_pos (by omega)]
  rw [e]
  unfold valN
  rw [if_pos (by simp; omega)]
  exact be_back n hn _ (fun x hx => h x (List.mem_of_mem_drop (List.mem_of_mem_take hx))) (by simp; omega)
theorem piece0 (n : Nat) (hn : n = 1 ∨ n = 2 ∨ n = 4 ∨ n = 8) (xs : List Nat) (h : ∀ x ∈ xs, x < 256) (hi : n ≤ xs.length) : beB n (valN n xs) = xs.take n := by
  have := piece n 0 hn xs h (by omega)
  rwa [nxtX_zero] at this
theorem glue (xs : List Nat) (i n : Nat) : xs.take i ++ (xs.drop i).take n = xs.take (i + n) := (List.take_add).symm
theorem tup_bytes (xs : List Nat) (h : ∀ x ∈ xs, x < 256) (hl : 13 ≤ xs.length) : tbF (tupV xs) = xs.take 13 := by
  have h0 := val_lt (n := 0) h
  have h4 := val_lt (n := 0) (nxt_small 4 xs h)
  have h8 := val_lt (n := 0) (nxt_small 8 xs h)
  have h9 := val_lt (n := 0) (nxt_small 9 xs h)
  have h11 := val_lt (n := 0) (nxt_small 11 xs h)
  unfold tbF tupV
  simp only
  rw [u64N_nat _ (by omega), u64N_nat _ (by omega), u64N_nat _ (by omega), u64N_nat _ (by omega), u64N_nat _ (by omega)]
  rw [piece0 4 (by omega) xs h (by omega), piece 4 4 (by omega) xs h (by omega), piece 1 8 (by omega) xs h (by omega), piece 2 9 (by omega) xs h (by omega), piece 2 11 (by omega) xs h (by omega)]
  rw [glue, glue, glue, glue]
theorem bk_bytes (v : Int) (hv : verB v = true) (xs : List Nat) (h : ∀ x ∈ xs, x < 256) (hl : bkW v ≤ xs.length) : bkF v (bkV v xs) = xs.take (bkW v) := by
  have h0 := val_lt (n := 0) h
  have h2 := val_lt (n := 0) (nxt_small 2 xs h)
  have h6 := val_lt (n := 0) (nxt_small 6 xs h)
  unfold bkF bkV
  simp only
  rw [u64N_nat _ (by omega), u64N_nat _ (by omega)]
  by_cases h2 : v < 2
  · have hw : bkW v = 6 := by unfold bkW; rw [if_pos h2]
    rw [hw] at hl ⊢
    rw [if_pos h2, List.append_nil, piece0 2 (by omega) xs h (by omega), piece 4 2 (by omega) xs h (by omega), glue]
  · have hw : bkW v = 7 := by unfold bkW; rw [if_neg h2]
    rw [hw] at hl ⊢
    rw [if_neg h2, if_neg h2, u64N_nat _ (by omega), piece0 2 (by omega) xs h (by omega), piece 4 2 (by omega) xs h (by omega), piece 1 6 (by omega) xs h (by omega), glue, glue]
theorem nxt_drop {n : Nat} {xs : List Nat} (h : n ≤ xs.length) : nxtX n xs = xs.drop n := by unfold nxtX; rw [if_pos h]
theorem bks_bytes (v : Int) (hv : verB v = true) : ∀ n xs, (∀ x ∈ xs, x < 256) → n * bkW v ≤ xs.length → bksF v (bksV v n xs) = xs.take (n * bkW v)
  | 0, xs, _, _ => by simp [bksV, bksF]
  | n + 1, xs, h, hl => by
    have e : (n + 1) * bkW v = bkW v + n * bkW v := by rw [Nat.add_mul]; omega
    rw [e] at hl ⊢
    have h1 := bk_bytes v hv xs h (by omega)
    have h2 := bks_bytes v hv n (nxtX (bkW v) xs) (nxt_small _ xs h) (by rw [nxt_drop (by omega)]; simp; omega)
    rw [nxt_drop (by omega)] at h2
    have e2 : bksF v (bksV v (n + 1) xs) = bkF v (bkV v xs) ++ bksF v (bksV v n (xs.drop (bkW v))) := by
      show ((bksV v (n + 1) xs).map (bkF v)).flatten = _
      rw [bksV, nxt_drop (by omega)]; rfl
    rw [e2, h1, h2, glue]
theorem bksF_w1 (v : Int) (h : v < 2) (bs : List BkD) : bksF v (bs.map w1K) = bksF v bs := by
  unfold bksF; rw [List.map_map]; congr 1
  apply List.map_congr_left
  intro b _
  simp [bkF, w1K, h]
theorem mayRB_1 {r : RecD} (hk : r.kind = 1) : mayRB r = (mayTB r.t && idB r.fb && cntB r.fg && timB r.fs) := by unfold mayRB; rw [if_pos hk]
theorem mayRB_2 {r : RecD} (hk : r.kind = 2) : mayRB r = mayTB r.t := by unfold mayRB; rw [if_neg (by omega), if_pos hk]
theorem noT_may : mayTB noT = false := by decide
theorem rtF_may {xs : List Nat} (h : mayTB (rtF xs) = true) : 13 ≤ xs.length ∧ rtF xs = tupV xs := by
  unfold rtF at h ⊢
  by_cases hb : rtB xs = true
  · rw [if_pos hb] at h ⊢
    simp only [rtB, Bool.and_eq_true, decide_eq_true_eq] at hb
    exact ⟨hb.1, rfl⟩
  · rw [if_neg hb, noT_may] at h; cases h
theorem dec_enc (k v : Int) (xs : List Nat) (h : ∀ x ∈ xs, x < 256) (hv : verB v = true) (hb : decB k v xs = true) : (decD k v xs).kind = k ∧ mayRB (decD k v xs) = true ∧ bodyF (decD k v xs) v = xs := by
  unfold decB at hb
  simp only [Bool.and_eq_true, decide_eq_true_eq] at hb
  obtain ⟨hl, hm⟩ := hb
  have hp := dec_parts k v xs hv
  have hkd : (decD k v xs).kind = k := by rw [hp]; exact rawD_kind k v xs
  refine ⟨hkd, hm, ?_⟩
  have h0 := val_lt (n := 0) h
  have h2 := val_lt (n := 0) (nxt_small 2 xs h)
  have h4 := val_lt (n := 0) (nxt_small 4 xs h)
  have h13 := val_lt (n := 0) (nxt_small 13 xs h)
  have h15 := val_lt (n := 0) (nxt_small 15 xs h)
  have h19 := val_lt (n := 0) (nxt_small 19 xs h)
  have kk := kind_of hm
  rw [hkd] at kk
  have vv := verB_cases v hv
  rcases kk with rfl | rfl | rfl | rfl | rfl | rfl
  · have ht : mayTB (decD 1 v xs).t = true := by
      rw [mayRB_1 hkd] at hm; simp only [Bool.and_eq_true] at hm; exact hm.1.1.1
    rw [hp] at ht
    have ht : mayTB (rtF xs) = true := ht
    obtain ⟨hl13, he⟩ := rtF_may ht
    have hl : flW v = xs.length := hl
    rw [hp]
    show flowF ⟨1, rtF xs, _, _, _, _, _, _, _, _⟩ v = xs
    unfold flowF
    simp only [rawD, if_true]
    rw [he, tup_bytes xs h hl13, u64N_nat _ (by omega)]
    unfold flW at hl
    rcases vv with rfl | rfl | rfl
    · simp only [if_pos (by decide : (1 : Int) < 2), if_pos (by decide : (1 : Int) < 3)] at hl ⊢
      rw [piece 2 13 (by omega) xs h (by omega), glue, List.append_nil, List.append_nil, List.take_of_length_le (by omega)]
    · simp only [if_neg (by decide : ¬ (2 : Int) < 2), if_pos (by decide : (2 : Int) < 3)] at hl ⊢
      rw [u64N_nat _ (by omega), piece 2 13 (by omega) xs h (by omega), piece 4 15 (by omega) xs h (by omega), glue, glue, List.append_nil, List.take_of_length_le (by omega)]
    · simp only [if_neg (by decide : ¬ (3 : Int) < 2), if_neg (by decide : ¬ (3 : Int) < 3)] at hl ⊢
      rw [u64N_nat _ (by omega), u64N_sgn _ (by omega), piece 2 13 (by omega) xs h (by omega), piece 4 15 (by omega) xs h (by omega), piece 8 19 (by omega) xs h (by omega), glue, glue, glue, List.take_of_length_le (by omega)]
  · have ht : mayTB (decD 2 v xs).t = true := by rw [mayRB_2 hkd] at hm; exact hm
    rw [hp] at ht
    have ht : mayTB (rtF xs) = true := ht
    obtain ⟨hl13, he⟩ := rtF_may ht
    have hl : 13 = xs.length := hl
    rw [hp]
    show tbF (rtF xs) = xs
    rw [he, tup_bytes xs h hl13, List.take_of_length_le (by omega)]
  · have hl : 5 + valN 1 (nxtX 4 xs) * bkW v = xs.length := hl
    rw [hp]
    have e : bodyF ⟨3, noT, 0, 0, 0, (valN 4 xs : Nat), if v < 2 then (bksV v (valN 1 (nxtX 4 xs)) (nxtX 5 xs)).map w1K else bksV v (valN 1 (nxtX 4 xs)) (nxtX 5 xs), 0, 0, 0⟩ v = xs := by
      show beB 4 (u64N (valN 4 xs : Nat)) ++ (beB 1 (u64N (List.length (if v < 2 then (bksV v (valN 1 (nxtX 4 xs)) (nxtX 5 xs)).map w1K else bksV v (valN 1 (nxtX 4 xs)) (nxtX 5 xs)))) ++ bksF v (if v < 2 then (bksV v (valN 1 (nxtX 4 xs)) (nxtX 5 xs)).map w1K else bksV v (valN 1 (nxtX 4 xs)) (nxtX 5 xs))) = xs
      have e1 : List.length (if v < 2 then (bksV v (valN 1 (nxtX 4 xs)) (nxtX 5 xs)).map w1K else bksV v (valN 1 (nxtX 4 xs)) (nxtX 5 xs)) = valN 1 (nxtX 4 xs) := by split <;> simp [bksV_length]
      have e2 : bksF v (if v < 2 then (bksV v (valN 1 (nxtX 4 xs)) (nxtX 5 xs)).map w1K else bksV v (valN 1 (nxtX 4 xs)) (nxtX 5 xs)) = bksF v (bksV v (valN 1 (nxtX 4 xs)) (nxtX 5 xs)) := by
        split
        · rw [bksF_w1 v (by assumption)]
        · rfl
      rw [e1, e2, u64N_nat _ (by omega), u64N_nat _ (by omega), bks_bytes v hv _ _ (nxt_small _ xs h) (by rw [nxt_drop (n := 5) (by omega), List.length_drop]; omega), piece0 4 (by omega) xs h (by omega), piece 1 4 (by omega) xs h (by omega), nxt_drop (n := 5) (by omega), ← List.append_assoc, glue, glue, List.take_of_length_le (by omega)]
    exact e
  · have hl : 10 = xs.length := hl
    rw [hp]
    show beB 2 (u64N (valN 2 xs : Nat)) ++ beB 8 (u64N (sgn (valN 8 (nxtX 2 xs)))) = xs
    rw [u64N_nat _ (by omega), u64N_sgn _ (by omega), piece0 2 (by omega) xs h (by omega), piece 8 2 (by omega) xs h (by omega), glue, List.take_of_length_le (by omega)]
  · have hl : 2 = xs.length := hl
    rw [hp]
    show beB 2 (u64N (valN 2 xs : Nat)) = xs
    rw [u64N_nat _ (by omega), piece0 2 (by omega) xs h (by omega), List.take_of_length_le (by omega)]
  · have hl : 4 = xs.length := hl
    rw [hp]
    show beB 4 (u64N (valN 4 xs : Nat)) = xs
    rw [u64N_nat _ (by omega), piece0 4 (by omega) xs h (by omega), List.take_of_length_le (by omega)]

theorem nxt_app {k n m : Nat} (a b : List Nat) (ha : a.length = n) (e : k = n + m) : nxtX k (a ++ b) = nxtX m b := by
  subst e
  rw [← nxtX_nxtX m n]
  congr 1
  unfold nxtX; rw [if_pos (by simp; omega), ← ha, List.drop_left]
theorem val_be1 (x : Nat) (r : List Nat) : valN 1 (beB 1 x ++ r) = x % 256 := by rw [valN_pref 1 _ _ (beB_length _ _), (beN_two _).1]
theorem val_be2 (x : Nat) (r : List Nat) : valN 2 (beB 2 x ++ r) = x % 65536 := by rw [valN_pref 2 _ _ (beB_length _ _), (beN_two _).2.1]
theorem val_be4 (x : Nat) (r : List Nat) : valN 4 (beB 4 x ++ r) = x % 4294967296 := by rw [valN_pref 4 _ _ (beB_length _ _), (beN_two _).2.2]
theorem val_be8 (x : Nat) (r : List Nat) (h : x < 18446744073709551616) : valN 8 (beB 8 x ++ r) = x := by rw [valN_pref 8 _ _ (beB_length _ _), beN_eight _ h]
theorem val_end {n : Nat} {xs : List Nat} : valN n xs = valN n (xs ++ []) := by rw [List.append_nil]
theorem i1 (n : Int) (h : 0 ≤ n ∧ n < 256) : (((u64N n % 256 : Nat)) : Int) = n := by unfold u64N; omega
theorem i2 (n : Int) (h : 0 ≤ n ∧ n < 65536) : (((u64N n % 65536 : Nat)) : Int) = n := by unfold u64N; omega
theorem i4 (n : Int) (h : 0 ≤ n ∧ n < 4294967296) : (((u64N n % 4294967296 : Nat)) : Int) = n := by unfold u64N; omega
theorem i8 (n : Int) (h : 0 ≤ n ∧ n < 9223372036854775808) : sgn (u64N n) = n := by unfold u64N sgn; split <;> omega
theorem u64_lt (n : Int) : u64N n < 18446744073709551616 := by unfold u64N; omega
theorem tupV_tb (t : TupD) (ok : TupOk t) (hm : mayTB t = true) (rest : List Nat) : tupV (tbF t ++ rest) = t := by
  obtain ⟨src, dst, proto, sport, dport⟩ := t
  obtain ⟨o1, o2, o3, o4, o5⟩ := ok
  rw [mayTB_iff] at hm
  simp only [u32, i64] at o1 o2 o3 o4 o5 hm
  unfold tbF tupV
  simp only [List.append_assoc]
  rw [nxt_app (k := 4) (n := 4) (m := 0) _ _ (beB_length _ _) rfl, nxt_app (k := 8) (n := 4) (m := 4) _ _ (beB_length _ _) rfl, nxt_app (k := 4) (n := 4) (m := 0) _ _ (beB_length _ _) rfl,
    nxt_app (k := 9) (n := 4) (m := 5) _ _ (beB_length _ _) rfl, nxt_app (k := 5) (n := 4) (m := 1) _ _ (beB_length _ _) rfl, nxt_app (k := 1) (n := 1) (m := 0) _ _ (beB_length _ _) rfl,
    nxt_app (k := 11) (n := 4) (m := 7) _ _ (beB_length _ _) rfl, nxt_app (k := 7) (n := 4) (m := 3) _ _ (beB_length _ _) rfl, nxt_app (k := 3) (n := 1) (m := 2) _ _ (beB_length _ _) rfl, nxt_app (k := 2) (n := 2) (m := 0) _ _ (beB_length _ _) rfl]
  simp only [nxtX_zero]
  rw [val_be4, val_be4, val_be1, val_be2, val_be2, i4 _ (by omega), i4 _ (by omega), i1 _ (by omega), i2 _ (by omega), i2 _ (by omega)]
theorem rtF_tb (t : TupD) (ok : TupOk t) (hm : mayTB t = true) (rest : List Nat) : rtF (tbF t ++ rest) = t := by
  unfold rtF rtB
  rw [tupV_tb t ok hm rest, hm]
  have : 13 ≤ (tbF t ++ rest).length := by simp [tbF_length]
  rw [decide_eq_true this]; rfl
def w0K (b : BkD) : BkD := ⟨b.id, b.addr, 0⟩
theorem bkF_length (v : Int) (b : BkD) : (bkF v b).length = bkW v := by unfold bkF bkW; split <;> simp [beB_length]
theorem bkV_bk (v : Int) (b : BkD) (ok : BkOk b) (hm : mayKB b = true) (rest : List Nat) : bkV v (bkF v b ++ rest) = if v < 2 then w0K b else b := by
  obtain ⟨id, addr, weight⟩ := b
  obtain ⟨o1, o2, o3⟩ := ok
  rw [mayKB_iff] at hm
  simp only [u32, i64] at o1 o2 o3 hm
  unfold bkF bkV
  simp only [List.append_assoc]
  rw [nxt_app (k := 2) (n := 2) (m := 0) _ _ (beB_length _ _) rfl, nxt_app (k := 6) (n := 2) (m := 4) _ _ (beB_length _ _) rfl, nxt_app (k := 4) (n := 4) (m := 0) _ _ (beB_length _ _) rfl]
  simp only [nxtX_zero]
  rw [val_be2, val_be4, i2 _ (by omega), i4 _ (by omega)]
  by_cases h : v < 2
  · simp [h, w0K]
  · simp only [if_neg h]; rw [val_be1, i1 _ (by omega)]
theorem bksV_bks (v : Int) : ∀ (bs : List BkD) (rest : List Nat), (∀ b ∈ bs, BkOk b) → bs.all mayKB = true → bksV v bs.length (bksF v bs ++ rest) = if v < 2 then bs.map w0K else bs
  | [], rest, _, _ => by simp [bksV]
  | b :: bs, rest, ok, hm => by
    simp only [List.all_cons, Bool.and_eq_true] at hm
    have e : bksF v (b :: bs) ++ rest = bkF v b ++ (bksF v bs ++ rest) := by simp [bksF]
    show bkV v (bksF v (b :: bs) ++ rest) :: bksV v bs.length (nxtX (bkW v) (bksF v (b :: bs) ++ rest)) = _
    rw [e, bkV_bk v b (ok b (List.mem_cons_self ..)) hm.1, nxt_app (k := bkW v) (n := bkW v) (m := 0) _ _ (bkF_length v b) rfl, nxtX_zero, bksV_bks v bs rest (fun x hx => ok x (List.mem_cons_of_mem _ hx)) hm.2]
    split <;> rfl
theorem bksF_length (v : Int) : ∀ bs : List BkD, (bksF v bs).length = bs.length * bkW v
  | [] => by simp [bksF]
  | b :: bs => by
    have h := bksF_length v bs
    have e : bksF v (b :: bs) = bkF v b ++ bksF v bs := by simp [bksF]
    rw [e, List.length_append, bkF_length, h, List.length_cons, Nat.add_mul]; omega
theorem w0_w1 (bs : List BkD) : (bs.map w0K).map w1K = bs.map w1K := by rw [List.map_map]; rfl
theorem may_w1 (bs : List BkD) (h : bs.all mayKB = true) : (bs.map w1K).all mayKB = true := by
  rw [List.all_eq_true] at h ⊢
  intro x hx
  simp only [List.mem_map] at hx
  obtain ⟨y, hy, rfl⟩ := hx
  have := h y hy
  rw [mayKB_iff] at this ⊢
  exact ⟨this.1, by simp [w1K]⟩
theorem may_in (r : RecD) (v : Int) (hv : verB v = true) (hm : mayRB r = true) : mayRB (inD r v) = true := by
  have kk := kind_of hm
  have z1 : cntB 0 = true := by decide
  have z2 : timB 0 = true := by decide
  unfold inD; rw [if_pos hv]
  obtain ⟨k, t, fb, fg, fs, gen, bs, be, un, ct⟩ := r
  simp only at kk
  rcases kk with rfl | rfl | rfl | rfl | rfl | rfl <;> simp only [mayRB, plainD, if_true, if_false, Bool.and_eq_true, decide_eq_true_eq, show ¬ (2 : Int) = 1 by decide, show ¬ (3 : Int) = 1 by decide, show ¬ (3 : Int) = 2 by decide, show ¬ (4 : Int) = 1 by decide, show ¬ (4 : Int) = 2 by decide, show ¬ (4 : Int) = 3 by decide, show ¬ (5 : Int) = 1 by decide, show ¬ (5 : Int) = 2 by decide, show ¬ (5 : Int) = 3 by decide, show ¬ (5 : Int) = 4 by decide, show ¬ (6 : Int) = 1 by decide, show ¬ (6 : Int) = 2 by decide, show ¬ (6 : Int) = 3 by decide, show ¬ (6 : Int) = 4 by decide, show ¬ (6 : Int) = 5 by decide] at hm ⊢
  · refine ⟨⟨hm.1.1, ?_⟩, ?_⟩
    · split
      · exact z1
      · exact hm.1.2
    · split
      · exact z2
      · exact hm.2
  · exact hm
  · refine ⟨⟨hm.1.1, ?_⟩, ?_⟩
    · split
      · simpa using hm.1.2
      · exact hm.1.2
    · split
      · exact may_w1 _ hm.2
      · exact hm.2
  · exact hm
  · exact hm
  · exact hm
theorem enc_dec (r : RecD) (v : Int) (ok : RecOk r) (hv : verB v = true) (hm : mayRB r = true) : decD r.kind v (bodyF r v) = inD r v ∧ lenD r.kind v (bodyF r v) = (bodyF r v).length := by
  have kk := kind_of hm
  have vv := verB_cases v hv
  rw [dec_parts _ _ _ hv]
  unfold inD; rw [if_pos hv]
  obtain ⟨k, t, fb, fg, fs, gen, bs, be, un, ct⟩ := r
  obtain ⟨o1, o2, o3, o4, o5, o6, o7, o8, o9, o10⟩ := ok
  simp only [i64] at kk o1 o2 o3 o4 o5 o6 o7 o8 o9 o10
  rcases kk with rfl | rfl | rfl | rfl | rfl | rfl
  · rw [mayRB_1 rfl] at hm
    simp only [Bool.and_eq_true, idB_iff, cntB_iff, timB_iff] at hm
    obtain ⟨⟨⟨m1, m2⟩, m3⟩, m4⟩ := hm
    have e : bodyF ⟨1, t, fb, fg, fs, gen, bs, be, un, ct⟩ v = tbF t ++ (beB 2 (u64N fb) ++ ((if v < 2 then [] else beB 4 (u64N fg)) ++ (if v < 3 then [] else beB 8 (u64N fs)))) := by
      show flowF _ v = _; unfold flowF; simp only [List.append_assoc]
    rw [e]
    have e13 : nxtX 13 (tbF t ++ (beB 2 (u64N fb) ++ ((if v < 2 then [] else beB 4 (u64N fg)) ++ (if v < 3 then [] else beB 8 (u64N fs))))) = beB 2 (u64N fb) ++ ((if v < 2 then [] else beB 4 (u64N fg)) ++ (if v < 3 then [] else beB 8 (u64N fs))) := by
      rw [nxt_app (m := 0) _ _ (tbF_length t) rfl, nxtX_zero]
    have e15 : nxtX 15 (tbF t ++ (beB 2 (u64N fb) ++ ((if v < 2 then [] else beB 4 (u64N fg)) ++ (if v < 3 then [] else beB 8 (u64N fs))))) = (if v < 2 then [] else beB 4 (u64N fg)) ++ (if v < 3 then [] else beB 8 (u64N fs)) := by
      rw [nxt_app (m := 2) _ _ (tbF_length t) rfl, nxt_app (m := 0) _ _ (beB_length _ _) rfl, nxtX_zero]
    have e19 : v = 3 → nxtX 19 (tbF t ++ (beB 2 (u64N fb) ++ ((if v < 2 then [] else beB 4 (u64N fg)) ++ (if v < 3 then [] else beB 8 (u64N fs))))) = beB 8 (u64N fs) := by
      rintro rfl
      rw [nxt_app (m := 6) _ _ (tbF_length t) rfl, nxt_app (m := 4) _ _ (beB_length _ _) rfl, if_neg (by decide), if_neg (by decide), nxt_app (m := 0) _ _ (beB_length _ _) rfl, nxtX_zero]
    simp only [rawD, lenD, if_true, rtF_tb t o2 m1, e13, e15, plainD]
    rw [val_be2, i2 _ (by omega)]
    rcases vv with rfl | rfl | rfl
    · simp [flW, tbF_length, beB_length]
    · simp only [if_neg (by decide : ¬ (2 : Int) < 2), if_pos (by decide : (2 : Int) < 3)]
      rw [val_be4, i4 _ (by omega)]
      simp [flW, tbF_length, beB_length]
    · have e19' := e19 rfl
      simp only [if_neg (by decide : ¬ (3 : Int) < 2), if_neg (by decide : ¬ (3 : Int) < 3)] at e19' ⊢
      rw [e19', val_be4, i4 _ (by omega), val_end (xs := beB 8 _), val_be8 _ _ (u64_lt _), i8 _ (by omega)]
      simp [flW, tbF_length, beB_length]
  · have m1 : mayTB t = true := by rw [mayRB_2 rfl] at hm; exact hm
    have e : bodyF ⟨2, t, fb, fg, fs, gen, bs, be, un, ct⟩ v = tbF t ++ [] := by rw [List.append_nil]; rfl
    rw [e]
    have h := rtF_tb t o2 m1 []
    simp only [rawD, lenD, plainD, if_true, if_false, show ¬ (2 : Int) = 1 by decide, h]
    simp [tbF_length]
  · have hm' : (cntB gen && decide (bs.length ≤ 16) && bs.all mayKB) = true := hm
    simp only [Bool.and_eq_true, cntB_iff, decide_eq_true_eq] at hm'
    obtain ⟨⟨m1, m2⟩, m3⟩ := hm'
    have e : bodyF ⟨3, t, fb, fg, fs, gen, bs, be, un, ct⟩ v = beB 4 (u64N gen) ++ (beB 1 (u64N bs.length) ++ (bksF v bs ++ [])) := by rw [List.append_nil]; rfl
    rw [e]
    have e4 : valN 1 (nxtX 4 (beB 4 (u64N gen) ++ (beB 1 (u64N bs.length) ++ (bksF v bs ++ [])))) = bs.length := by
      rw [nxt_app (m := 0) _ _ (beB_length _ _) rfl, nxtX_zero, val_be1]; unfold u64N; omega
    have e5 : nxtX 5 (beB 4 (u64N gen) ++ (beB 1 (u64N bs.length) ++ (bksF v bs ++ []))) = bksF v bs ++ [] := by
      rw [nxt_app (m := 1) _ _ (beB_length _ _) rfl, nxt_app (m := 0) _ _ (beB_length _ _) rfl, nxtX_zero]
    simp only [rawD, lenD, plainD, if_true, if_false, show ¬ (3 : Int) = 1 by decide, show ¬ (3 : Int) = 2 by decide, e4, e5, bksV_bks v bs [] o7 m3]
    rw [val_be4, i4 _ (by omega)]
    refine ⟨?_, ?_⟩
    · congr 1
      · split <;> rfl
      · split <;> rfl
      · split
        · rw [w0_w1]
        · rfl
    · simp only [List.length_append, beB_length, bksF_length, List.length_nil]; omega
  · have hm' : (idB be && timB un) = true := hm
    simp only [Bool.and_eq_true, idB_iff, timB_iff] at hm'
    have e : bodyF ⟨4, t, fb, fg, fs, gen, bs, be, un, ct⟩ v = beB 2 (u64N be) ++ (beB 8 (u64N un) ++ []) := by rw [List.append_nil]; rfl
    rw [e]
    simp only [rawD, lenD, plainD, if_true, if_false, show ¬ (4 : Int) = 1 by decide, show ¬ (4 : Int) = 2 by decide, show ¬ (4 : Int) = 3 by decide]
    rw [val_be2, i2 _ (by omega), nxt_app (m := 0) _ _ (beB_length _ _) rfl, nxtX_zero, val_be8 _ _ (u64_lt _), i8 _ (by omega)]
    simp [beB_length]
  · have hm' : idB be = true := hm
    rw [idB_iff] at hm'
    have e : bodyF ⟨5, t, fb, fg, fs, gen, bs, be, un, ct⟩ v = beB 2 (u64N be) ++ [] := by rw [List.append_nil]; rfl
    rw [e]
    simp only [rawD, lenD, plainD, if_true, if_false, show ¬ (5 : Int) = 1 by decide, show ¬ (5 : Int) = 2 by decide, show ¬ (5 : Int) = 3 by decide, show ¬ (5 : Int) = 4 by decide]
    rw [val_be2, i2 _ (by omega)]
    simp [beB_length]
  · have hm' : cntB ct = true := hm
    rw [cntB_iff] at hm'
    have e : bodyF ⟨6, t, fb, fg, fs, gen, bs, be, un, ct⟩ v = beB 4 (u64N ct) ++ [] := by rw [List.append_nil]; rfl
    rw [e]
    simp only [rawD, lenD, plainD, if_true, if_false, show ¬ (6 : Int) = 1 by decide, show ¬ (6 : Int) = 2 by decide, show ¬ (6 : Int) = 3 by decide, show ¬ (6 : Int) = 4 by decide, show ¬ (6 : Int) = 5 by decide]
    rw [val_be4, i4 _ (by omega)]
    simp [beB_length]
theorem dec_of_enc (r : RecD) (v : Int) (ok : RecOk r) (hv : verB v = true) (hm : mayRB r = true) : decE r.kind v (bodyF r v) = 0 ∧ decD r.kind v (bodyF r v) = inD r v := by
  obtain ⟨h1, h2⟩ := enc_dec r v ok hv hm
  refine ⟨?_, h1⟩
  unfold decE decB
  rw [if_pos hv, h1, may_in r v hv hm, decide_eq_true h2]; rfl

end Go.Proofs.YtgmimdnebgncoaaGreat

end

section
/- Tuples: the numbers that Read takes, by calls handed in. -/
set_option linter.unusedVariables false
set_option linter.unusedSimpArgs false
namespace Go.Proofs.YtgmimdnebgncoaaGreat
open Go.RowKit

theorem infoU32 : (Tryz.prog.info? 31).map (fun i => (i.zero, i.size, i.bytes)) = some (some (.int .u32 0), 1, 4) := by kernel_rfl
theorem infoI64 : (Tryz.prog.info? 3).map (fun i => (i.zero, i.size, i.bytes)) = some (some (.int .i64 0), 1, 8) := by kernel_rfl
/-- Behind some of the calls: the row that was made so far, the reader. -/
def NumS (w : World) (G : Nat) (D : Nat → Prop) (xs : List Nat) (err : Int) (E : TypeId) (vs : List Value) (n : Nat) (l : Value) (wr : World) : Prop :=
  wr.ownsRow w.heap.size E 1 l vs.length vs ∧ RdD wr G (fun k => D k ∨ w.heap.size ≤ k) (nxtX n xs) (nxtE n xs err) ∧ Touch w wr (fun k => k = G)
/-- What numbers answers: a row of the call's own. -/
def NumIs (w : World) (G : Nat) (D : Nat → Prop) (xs : List Nat) (err : Int) (vs : List Value) (n : Nat) (e : Ending) (wr : World) : Prop :=
  ∃ g c, e = .returned (.slice (some ⟨g, 0, none⟩) vs.length c) ∧ w.heap.size ≤ g ∧ g < wr.heap.size ∧ (∀ (j : Nat) u, vs[j]? = some u → wr.cell? ⟨g, j, none⟩ = some u) ∧ RdD wr G D (nxtX n xs) (nxtE n xs err) ∧ Touch w wr (fun k => k = G)
theorem NumS.toIs {w : World} {G : Nat} {D : Nat → Prop} {xs : List Nat} {err : Int} {E : TypeId} {vs : List Value} {n : Nat} {l : Value} {wr : World} (h : NumS w G D xs err E vs n l wr) (h0 : 0 < vs.length) : NumIs w G D xs err vs n (.returned l) wr := by
  obtain ⟨ho, hr, ht⟩ := h
  have ho2 := ho
  obtain ⟨h1, ⟨_, h2⟩ | ⟨g, cap, cur, hl, hb, hg, _⟩⟩ := ho
  · omega
  · subst hl
    refine ⟨g, cap, rfl, hb, heap_lt hg, fun j u hu => ?_, hr.mono (fun k h => .inl h), ht⟩
    have := ho2.cells (g := g) rfl j u hu
    have ea : (⟨g, 0, none⟩ : Addr).add j = ⟨g, j, none⟩ := by
      unfold Addr.add
      simp only
      by_cases hj : j = 0
      · subst hj; rfl
      · rw [if_neg hj]; simp
    rwa [ea] at this
theorem owns_slice {w : World} {base : Nat} {E : TypeId} {k : Nat} {v : Value} {n : Nat} {xs : List Value} (h : w.ownsRow base E k v n xs) : ∃ a c, v = .slice a n c := by
  rcases h.2 with ⟨h, h2⟩ | ⟨g, cap, cur, h, _⟩
  · exact ⟨none, 0, by rw [h, h2]⟩
  · exact ⟨_, cap, h⟩

def NAt32 (w : World) (G : Nat) (D : Nat → Prop) (xs : List Nat) (err : Int) (l i : Value) (wr : World) : Prop :=
  (i = .int .i64 0 ∧ NumS w G D xs err 31 [] 0 l wr) ∨ (i = .int .i64 1 ∧ NumS w G D xs err 31 [.int .u32 (valN 4 xs : Nat)] 4 l wr) ∨ (i = .int .i64 2 ∧ NumS w G D xs err 31 [.int .u32 (valN 4 xs : Nat), .int .u32 (valN 4 (nxtX 4 xs) : Nat)] 8 l wr)
set_option maxRecDepth 20000 in
set_option maxHeartbeats 4000000 in
theorem num32_any (G : Nat) (D : Nat → Prop) (xs : List Nat) (err : Int) (B : Nat) (T : TypeId) (w : World) (h : RdD w G D xs err) (hb : w.heap[B]? = some (.cells #[.func (.func 51) #[] #[], .func (.func 51) #[] #[]] T (0, 0))) (hne : B ≠ G) :
    Calls Tryz.prog 50 #[.pointer (some ⟨G, 0, none⟩), .slice (some ⟨B, 0, none⟩) 2 2] w (NumIs w G D xs err [.int .u32 (valN 4 xs : Nat), .int .u32 (valN 4 (nxtX 4 xs) : Nat)] 8) := by
  have HB := Lib.hid hb
  have HNE := Lib.hid hne
  have HII := Lib.hid infoU32
  have HS : RowKit.Hid (NumS w G D xs err 31 [] 0 (.slice none 0 0) w) := Lib.hid ⟨World.ownsRow_nil w _ _ _, by rw [nxtX_zero, nxtE_zero]; exact h.above, Touch.refl _ _⟩
  have HLT : RowKit.Hid (G < w.heap.size) := Lib.hid h.lt
  clear h hb hne
  go_enter Tryz.func50, Tryz.ntmps50
  go_wp2_with fail
  go_loopw [5, 10] (fun l i wr => NAt32 w G D xs err l i wr) (fun _ i _ => 2 - (intOf i).toNat)
  case atStart => exact .inl ⟨rfl, HS.out⟩
  case round =>
    clear HS
    rcases hrel with ⟨rfl, hs⟩ | ⟨rfl, hs⟩ | ⟨rfl, hs⟩
    · obtain ⟨al, cl, rfl⟩ := owns_slice hs.1
      have HS := Lib.hid hs
      simp only [List.length_nil, List.length_cons, Nat.zero_add] at HS
      have hbr := hs.2.2.keeps HB.out HNE.out
      have c0 := cell_of_cells hbr 0
      simp at c0
      have HC := Lib.hid (d_rU32 G _ _ _ _ hs.2.1)
      rw [nxtX_zero, nxtE_zero] at HC
      clear hs hbr
      go_wp2_with (first
        | (go_at_call 51; (with_reducible refine HC.out.mono ?_); rintro e w2 ⟨rfl, h2, t2⟩; have t3 := t2.alloc (.cells #[.int .u32 (valN 4 xs : Nat)] 31); have HQ := Lib.hid (news_of (heap_alloc_new w2 (.cells #[.int .u32 (valN 4 xs : Nat)] 31))); have HO3 := Lib.hid (ownsRow_touch HS.out.1 t3 (fun x hx e => by have := (HS.out.1.lt x hx).1; have := HLT.out; omega)); have HR3 := Lib.hid (h2.still ((Touch.refl w2 (fun _ => False)).alloc (.cells #[.int .u32 (valN 4 xs : Nat)] 31))); have T3 := Lib.hid (HS.out.2.2.trans t3 (fun _ _ h => h)); clear h2 t2 t3)
        | (at_builtin; (with_reducible refine wp_appR HO3.out 91 Tryz.underlying91 _ 4 HII.out rfl (by decide) ⟨w2.heap.size, 0, none⟩ 1 1 _ rfl HQ.out (by simp [Value.oneCell']) (by simp [maxLen]) (by simp) (Below.refl _ _) (Nat.le_refl _) T3.out.size rfl _ _ rfl rfl rfl ?_); intro a4 c4 w4 ho4 hg4 hb4 hp4; have HO4 := Lib.hid ho4; have HG4 := Lib.hid hg4; clear ho4 hg4 hb4 hp4))
      have HR4 := Lib.hid (HR3.out.touch ((Touch.refl _ (fun x => w.heap.size ≤ x)).grown HG4.out (fun x hx hl => (HO3.out.lt x hx).1)) (fun x hl h => .inr h))
      have HT4 := Lib.hid (T3.out.grown HG4.out (fun x hx hl => by have := (HO3.out.lt x hx).1; omega))
      simp only [nxtX_nxtX, nxtE_nxtE, List.length_nil, List.length_cons, Nat.zero_add, List.nil_append, List.cons_append] at HR4 HO4
      refine ⟨.inr (.inl ⟨by go_num, HO4.out, HR4.out, HT4.out⟩), by simp [intOf]⟩
    · obtain ⟨al, cl, rfl⟩ := owns_slice hs.1
      have HS := Lib.hid hs
      simp only [List.length_nil, List.length_cons, Nat.zero_add] at HS
      have hbr := hs.2.2.keeps HB.out HNE.out
      have c0 := cell_of_cells hbr 1
      simp at c0
      have HC := Lib.hid (d_rU32 G _ _ _ _ hs.2.1)
      skip
      clear hs hbr
      go_wp2_with (first
        | (go_at_call 51; (with_reducible refine HC.out.mono ?_); rintro e w2 ⟨rfl, h2, t2⟩; have t3 := t2.alloc (.cells #[.int .u32 (valN 4 (nxtX 4 xs) : Nat)] 31); have HQ := Lib.hid (news_of (heap_alloc_new w2 (.cells #[.int .u32 (valN 4 (nxtX 4 xs) : Nat)] 31))); have HO3 := Lib.hid (ownsRow_touch HS.out.1 t3 (fun x hx e => by have := (HS.out.1.lt x hx).1; have := HLT.out; omega)); have HR3 := Lib.hid (h2.still ((Touch.refl w2 (fun _ => False)).alloc (.cells #[.int .u32 (valN 4 (nxtX 4 xs) : Nat)] 31))); have T3 := Lib.hid (HS.out.2.2.trans t3 (fun _ _ h => h)); clear h2 t2 t3)
        | (at_builtin; (with_reducible refine wp_appR HO3.out 91 Tryz.underlying91 _ 4 HII.out rfl (by decide) ⟨w2.heap.size, 0, none⟩ 1 1 _ rfl HQ.out (by simp [Value.oneCell']) (by simp [maxLen]) (by simp) (Below.refl _ _) (Nat.le_refl _) T3.out.size rfl _ _ rfl rfl rfl ?_); intro a4 c4 w4 ho4 hg4 hb4 hp4; have HO4 := Lib.hid ho4; have HG4 := Lib.hid hg4; clear ho4 hg4 hb4 hp4))
      have HR4 := Lib.hid (HR3.out.touch ((Touch.refl _ (fun x => w.heap.size ≤ x)).grown HG4.out (fun x hx hl => (HO3.out.lt x hx).1)) (fun x hl h => .inr h))
      have HT4 := Lib.hid (T3.out.grown HG4.out (fun x hx hl => by have := (HO3.out.lt x hx).1; omega))
      simp only [nxtX_nxtX, nxtE_nxtE, List.length_nil, List.length_cons, Nat.zero_add, List.nil_append, List.cons_append] at HR4 HO4
      refine ⟨.inr (.inr ⟨by go_num, HO4.out, HR4.out, HT4.out⟩), by simp [intOf]⟩
    · have HS := Lib.hid hs
      clear hs
      go_wp2
      go_ret
      exact HS.out.toIs (by simp)

def NAt64 (w : World) (G : Nat) (D : Nat → Prop) (xs : List Nat) (err : Int) (l i : Value) (wr : World) : Prop :=
  (i = .int .i64 0 ∧ NumS w G D xs err 3 [] 0 l wr) ∨ (i = .int .i64 1 ∧ NumS w G D xs err 3 [.int .i64 (valN 1 xs : Nat)] 1 l wr) ∨ (i = .int .i64 2 ∧ NumS w G D xs err 3 [.int .i64 (valN 1 xs : Nat), .int .i64 (valN 2 (nxtX 1 xs) : Nat)] 3 l wr) ∨ (i = .int .i64 3 ∧ NumS w G D xs err 3 [.int .i64 (valN 1 xs : Nat), .int .i64 (valN 2 (nxtX 1 xs) : Nat), .int .i64 (valN 2 (nxtX 3 xs) : Nat)] 5 l wr)
set_option maxRecDepth 20000 in
set_option maxHeartbeats 4000000 in
theorem num64_any (G : Nat) (D : Nat → Prop) (xs : List Nat) (err : Int) (B : Nat) (T : TypeId) (w : World) (h : RdD w G D xs err) (hb : w.heap[B]? = some (.cells #[.func (.func 53) #[] #[], .func (.func 54) #[] #[], .func (.func 54) #[] #[]] T (0, 0))) (hne : B ≠ G) :
    Calls Tryz.prog 52 #[.pointer (some ⟨G, 0, none⟩), .slice (some ⟨B, 0, none⟩) 3 3] w (NumIs w G D xs err [.int .i64 (valN 1 xs : Nat), .int .i64 (valN 2 (nxtX 1 xs) : Nat), .int .i64 (valN 2 (nxtX 3 xs) : Nat)] 5) := by
  have HB := Lib.hid hb
  have HNE := Lib.hid hne
  have HII := Lib.hid infoI64
  have HS : RowKit.Hid (NumS w G D xs err 3 [] 0 (.slice none 0 0) w) := Lib.hid ⟨World.ownsRow_nil w _ _ _, by rw [nxtX_zero, nxtE_zero]; exact h.above, Touch.refl _ _⟩
  have HLT : RowKit.Hid (G < w.heap.size) := Lib.hid h.lt
  clear h hb hne
  go_enter Tryz.func52, Tryz.ntmps52
  go_wp2_with fail
  go_loopw [5, 10] (fun l i wr => NAt64 w G D xs err l i wr) (fun _ i _ => 3 - (intOf i).toNat)
  case atStart => exact .inl ⟨rfl, HS.out⟩
  case round =>
    clear HS
    rcases hrel with ⟨rfl, hs⟩ | ⟨rfl, hs⟩ | ⟨rfl, hs⟩ | ⟨rfl, hs⟩
    · obtain ⟨al, cl, rfl⟩ := owns_slice hs.1
      have HS := Lib.hid hs
      simp only [List.length_nil, List.length_cons, Nat.zero_add] at HS
      have hbr := hs.2.2.keeps HB.out HNE.out
      have c0 := cell_of_cells hbr 0
      simp at c0
      have HC := Lib.hid (d_rU8 G _ _ _ _ hs.2.1)
      rw [nxtX_zero, nxtE_zero] at HC
      clear hs hbr
      go_wp2_with (first
        | (go_at_call 53; (with_reducible refine HC.out.mono ?_); rintro e w2 ⟨rfl, h2, t2⟩; have t3 := t2.alloc (.cells #[.int .i64 (valN 1 xs : Nat)] 3); have HQ := Lib.hid (news_of (heap_alloc_new w2 (.cells #[.int .i64 (valN 1 xs : Nat)] 3))); have HO3 := Lib.hid (ownsRow_touch HS.out.1 t3 (fun x hx e => by have := (HS.out.1.lt x hx).1; have := HLT.out; omega)); have HR3 := Lib.hid (h2.still ((Touch.refl w2 (fun _ => False)).alloc (.cells #[.int .i64 (valN 1 xs : Nat)] 3))); have T3 := Lib.hid (HS.out.2.2.trans t3 (fun _ _ h => h)); clear h2 t2 t3)
        | (at_builtin; (with_reducible refine wp_appR HO3.out 95 Tryz.underlying95 _ 8 HII.out rfl (by decide) ⟨w2.heap.size, 0, none⟩ 1 1 _ rfl HQ.out (by simp [Value.oneCell']) (by simp [maxLen]) (by simp) (Below.refl _ _) (Nat.le_refl _) T3.out.size rfl _ _ rfl rfl rfl ?_); intro a4 c4 w4 ho4 hg4 hb4 hp4; have HO4 := Lib.hid ho4; have HG4 := Lib.hid hg4; clear ho4 hg4 hb4 hp4))
      have HR4 := Lib.hid (HR3.out.touch ((Touch.refl _ (fun x => w.heap.size ≤ x)).grown HG4.out (fun x hx hl => (HO3.out.lt x hx).1)) (fun x hl h => .inr h))
      have HT4 := Lib.hid (T3.out.grown HG4.out (fun x hx hl => by have := (HO3.out.lt x hx).1; omega))
      simp only [nxtX_nxtX, nxtE_nxtE, List.length_nil, List.length_cons, Nat.zero_add, List.nil_append, List.cons_append] at HR4 HO4
      refine ⟨.inr (.inl ⟨by go_num, HO4.out, HR4.out, HT4.out⟩), by simp [intOf]⟩
    · obtain ⟨al, cl, rfl⟩ := owns_slice hs.1
      have HS := Lib.hid hs
      simp only [List.length_nil, List.length_cons, Nat.zero_add] at HS
      have hbr := hs.2.2.keeps HB.out HNE.out
      have c0 := cell_of_cells hbr 1
      simp at c0
      have HC := Lib.hid (d_rU16 G _ _ _ _ hs.2.1)
      skip
      clear hs hbr
      go_wp2_with (first
        | (go_at_call 54; (with_reducible refine HC.out.mono ?_); rintro e w2 ⟨rfl, h2, t2⟩; have t3 := t2.alloc (.cells #[.int .i64 (valN 2 (nxtX 1 xs) : Nat)] 3); have HQ := Lib.hid (news_of (heap_alloc_new w2 (.cells #[.int .i64 (valN 2 (nxtX 1 xs) : Nat)] 3))); have HO3 := Lib.hid (ownsRow_touch HS.out.1 t3 (fun x hx e => by have := (HS.out.1.lt x hx).1; have := HLT.out; omega)); have HR3 := Lib.hid (h2.still ((Touch.refl w2 (fun _ => False)).alloc (.cells #[.int .i64 (valN 2 (nxtX 1 xs) : Nat)] 3))); have T3 := Lib.hid (HS.out.2.2.trans t3 (fun _ _ h => h)); clear h2 t2 t3)
        | (at_builtin; (with_reducible refine wp_appR HO3.out 95 Tryz.underlying95 _ 8 HII.out rfl (by decide) ⟨w2.heap.size, 0, none⟩ 1 1 _ rfl HQ.out (by simp [Value.oneCell']) (by simp [maxLen]) (by simp) (Below.refl _ _) (Nat.le_refl _) T3.out.size rfl _ _ rfl rfl rfl ?_); intro a4 c4 w4 ho4 hg4 hb4 hp4; have HO4 := Lib.hid ho4; have HG4 := Lib.hid hg4; clear ho4 hg4 hb4 hp4))
      have HR4 := Lib.hid (HR3.out.touch ((Touch.refl _ (fun x => w.heap.size ≤ x)).grown HG4.out (fun x hx hl => (HO3.out.lt x hx).1)) (fun x hl h => .inr h))
      have HT4 := Lib.hid (T3.out.grown HG4.out (fun x hx hl => by have := (HO3.out.lt x hx).1; omega))
      simp only [nxtX_nxtX, nxtE_nxtE, List.length_nil, List.length_cons, Nat.zero_add, List.nil_append, List.cons_append] at HR4 HO4
      refine ⟨.inr (.inr (.inl ⟨by go_num, HO4.out, HR4.out, HT4.out⟩)), by simp [intOf]⟩
    · obtain ⟨al, cl, rfl⟩ := owns_slice hs.1
      have HS := Lib.hid hs
      simp only [List.length_nil, List.length_cons, Nat.zero_add] at HS
      have hbr := hs.2.2.keeps HB.out HNE.out
      have c0 := cell_of_cells hbr 2
      simp at c0
      have HC := Lib.hid (d_rU16 G _ _ _ _ hs.2.1)
      skip
      clear hs hbr
      go_wp2_with (first
        | (go_at_call 54; (with_reducible refine HC.out.mono ?_); rintro e w2 ⟨rfl, h2, t2⟩; have t3 := t2.alloc (.cells #[.int .i64 (valN 2 (nxtX 3 xs) : Nat)] 3); have HQ := Lib.hid (news_of (heap_alloc_new w2 (.cells #[.int .i64 (valN 2 (nxtX 3 xs) : Nat)] 3))); have HO3 := Lib.hid (ownsRow_touch HS.out.1 t3 (fun x hx e => by have := (HS.out.1.lt x hx).1; have := HLT.out; omega)); have HR3 := Lib.hid (h2.still ((Touch.refl w2 (fun _ => False)).alloc (.cells #[.int .i64 (valN 2 (nxtX 3 xs) : Nat)] 3))); have T3 := Lib.hid (HS.out.2.2.trans t3 (fun _ _ h => h)); clear h2 t2 t3)
        | (at_builtin; (with_reducible refine wp_appR HO3.out 95 Tryz.underlying95 _ 8 HII.out rfl (by decide) ⟨w2.heap.size, 0, none⟩ 1 1 _ rfl HQ.out (by simp [Value.oneCell']) (by simp [maxLen]) (by simp) (Below.refl _ _) (Nat.le_refl _) T3.out.size rfl _ _ rfl rfl rfl ?_); intro a4 c4 w4 ho4 hg4 hb4 hp4; have HO4 := Lib.hid ho4; have HG4 := Lib.hid hg4; clear ho4 hg4 hb4 hp4))
      have HR4 := Lib.hid (HR3.out.touch ((Touch.refl _ (fun x => w.heap.size ≤ x)).grown HG4.out (fun x hx hl => (HO3.out.lt x hx).1)) (fun x hl h => .inr h))
      have HT4 := Lib.hid (T3.out.grown HG4.out (fun x hx hl => by have := (HO3.out.lt x hx).1; omega))
      simp only [nxtX_nxtX, nxtE_nxtE, List.length_nil, List.length_cons, Nat.zero_add, List.nil_append, List.cons_append] at HR4 HO4
      refine ⟨.inr (.inr (.inr ⟨by go_num, HO4.out, HR4.out, HT4.out⟩)), by simp [intOf]⟩
    · have HS := Lib.hid hs
      clear hs
      go_wp2
      go_ret
      exact HS.out.toIs (by simp)

end Go.Proofs.YtgmimdnebgncoaaGreat

end

section
/- Tuples: what Read takes and tells. -/
set_option linter.unusedVariables false
set_option linter.unusedSimpArgs false
namespace Go.Proofs.YtgmimdnebgncoaaGreat
open Go.RowKit

theorem infoTup : (Tryz.prog.info? 33).map (·.size) = some 5 := by kernel_rfl
def TReadIs (w : World) (G : Nat) (D : Nat → Prop) (xs : List Nat) (err : Int) (e : Ending) (w' : World) : Prop :=
  e = .returned (.tuple #[.agg (tcs (rtF xs)), .bool (rtB xs)]) ∧ RdD w' G D (nxtX 13 xs) (nxtE 13 xs err) ∧ Touch w w' (fun k => k = G)
set_option maxRecDepth 20000 in
set_option maxHeartbeats 8000000 in
theorem tRead_any (G : Nat) (D : Nat → Prop) (xs : List Nat) (err : Int) (w : World) (h : RdD w G D xs err) :
    Calls Tryz.prog 34 #[.pointer (some ⟨G, 0, none⟩)] w (TReadIs w G D xs err) := by
  obtain ⟨W1, hW1⟩ : ∃ W, w.alloc (.cells #[.int .u32 0, .int .u32 0, .int .i64 0, .int .i64 0, .int .i64 0] 33) = W := ⟨_, rfl⟩
  have t1 : Touch w W1 (fun _ => False) := hW1 ▸ (Touch.refl _ _).alloc _
  have HSZ : RowKit.Hid (w.heap.size < W1.heap.size) := Lib.hid (by rw [← hW1]; simp)
  have HZ : RowKit.Hid (W1.heap[w.heap.size]? = some (.cells (tcs noT) 33 (0, 0))) := Lib.hid (hW1 ▸ heap_alloc_new w _)
  have HR := Lib.hid (h.above.still t1)
  have HT : RowKit.Hid (Touch w W1 (fun k => k = G)) := Lib.hid (t1.mono (fun _ _ h => h.elim))
  have HLT : RowKit.Hid (G < w.heap.size) := Lib.hid h.lt
  have HIT := Lib.hid infoTup
  have HM : RowKit.Hid (∀ W, Calls Tryz.prog 40 #[.agg (tcs (tupV xs))] W fun e w' => e = .returned (.bool (mayTB (tupV xs))) ∧ Touch W w' (fun _ => False)) := Lib.hid (fun W => mayT_any _ W)
  have HRB : RowKit.Hid (rtB xs = (decide (13 ≤ xs.length) && mayTB (tupV xs))) := Lib.hid rfl
  have HRF : RowKit.Hid (rtF xs = if rtB xs = true then tupV xs else noT) := Lib.hid rfl
  have HTV : RowKit.Hid (tcs (tupV xs) = #[.int .u32 (valN 4 xs : Nat), .int .u32 (valN 4 (nxtX 4 xs) : Nat), .int .i64 (valN 1 (nxtX 8 xs) : Nat), .int .i64 (valN 2 (nxtX 9 xs) : Nat), .int .i64 (valN 2 (nxtX 11 xs) : Nat)]) := Lib.hid rfl
  generalize mayTB (tupV xs) = M at *
  generalize tupV xs = tv at *
  clear h t1
  go_enter Tryz.func34, Tryz.ntmps34
  go_wp2_with (first
    | (go_at_call 49; (with_reducible refine (d_rLeft G _ xs err _ HR.out).mono ?_); rintro e w2 ⟨rfl, h2⟩; obtain rfl := h2.symm)
    | (go_at_call 50; ((refine (num32_any G _ xs err W1.heap.size _ _ (HR.out.still ((Touch.refl _ _).alloc _)) (heap_alloc_new W1 _) (by have := HLT.out; have := HSZ.out; omega)).mono ?_); rintro e w3 ⟨g3, c3, rfl, hg3, hl3, hc3, hr3, ht3⟩; have t3 := ((Touch.refl W1 (fun k => k = G)).alloc _).trans ht3 (fun _ _ h => h); have HZ := Lib.hid (t3.keeps HZ.out (fun h => by have := HLT.out; omega)); have HR3 := Lib.hid hr3; have HT := Lib.hid (HT.out.trans t3 (fun _ _ h => h)); have HC3 := Lib.hid (And.intro (hc3 0 _ rfl) (hc3 1 _ rfl)); have HL3 := Lib.hid hl3; have HG3 : RowKit.Hid (g3 ≠ G) := Lib.hid (by have := HLT.out; have := HSZ.out; simp at hg3; omega); clear hg3 hl3 hc3 hr3 ht3 t3))
    | (go_at_call 52; (refine (num64_any G _ _ _ w3.heap.size _ _ (HR3.out.still ((Touch.refl _ _).alloc _)) (heap_alloc_new w3 _) (by have := HT.out.size; have := HLT.out; omega)).mono ?_); rintro e w5 ⟨g5, c5, rfl, hg5, hl5, hc5, hr5, ht5⟩; have t5 := ((Touch.refl w3 (fun k => k = G)).alloc _).trans ht5 (fun _ _ h => h); have HZ := Lib.hid (t5.keeps HZ.out (fun h => by have := HLT.out; omega)); have HR5 := Lib.hid hr5; have HT := Lib.hid (HT.out.trans t5 (fun _ _ h => h)); have q0 := (t5.cell (p := ⟨g3, 0, none⟩) HL3.out (fun h => HG3.out h)).trans HC3.out.1; have q1 := (t5.cell (p := ⟨g3, 1, none⟩) HL3.out (fun h => HG3.out h)).trans HC3.out.2; have q2 := hc5 0 _ rfl; have q3 := hc5 1 _ rfl; have q4 := hc5 2 _ rfl; simp only [nxtX_nxtX, nxtE_nxtE, Nat.reduceAdd] at q2 q3 q4 HR5; clear hg5 hl5 hc5 hr5 ht5 t5))
  try simp only [List.length_cons, List.length_nil, Nat.zero_add, Nat.reduceAdd]
  go_region_held3 (fun w' => w'.cell? ⟨g3, 0, none⟩ = some (.int .u32 (valN 4 xs : Nat)) ∧ w'.cell? ⟨g3, 1, none⟩ = some (.int .u32 (valN 4 (nxtX 4 xs) : Nat)) ∧ w'.cell? ⟨g5, 0, none⟩ = some (.int .i64 (valN 1 (nxtX 8 xs) : Nat)) ∧ w'.cell? ⟨g5, 1, none⟩ = some (.int .i64 (valN 2 (nxtX 9 xs) : Nat)) ∧ w'.cell? ⟨g5, 2, none⟩ = some (.int .i64 (valN 2 (nxtX 11 xs) : Nat)))
    (go_keep) (fail)
  rename_i hHeld
  clear hHeld
  obtain ⟨W6, hW6⟩ : ∃ W, (w5.alloc (.cells #[.int .u32 (valN 4 xs : Nat), .int .u32 (valN 4 (nxtX 4 xs) : Nat), .int .i64 (valN 1 (nxtX 8 xs) : Nat), .int .i64 (valN 2 (nxtX 9 xs) : Nat), .int .i64 (valN 2 (nxtX 11 xs) : Nat)] 33)).drew = W := ⟨_, rfl⟩
  have t6 : Touch w5 W6 (fun _ => False) := hW6 ▸ ((Touch.refl _ _).alloc _).drew
  have HB6 : RowKit.Hid (W6.heap[w5.heap.size]? = some (.cells (tcs tv) 33 (0, 0))) := Lib.hid (by rw [HTV.out, ← hW6]; exact heap_alloc_new w5 _)
  have HZ6 := Lib.hid (t6.keeps HZ.out (fun h => h))
  have HT6 := Lib.hid (HT.out.trans t6 (fun _ _ h => h.elim))
  have HR6 := Lib.hid (HR5.out.still t6)
  rw [hW6]
  clear t6 q0 q1 q2 q3 q4 HZ HT HR5 HTV hW6
  have hbad : rtB xs = false → RowKit.Hid (tcs (rtF xs) = tcs noT) := fun h => Lib.hid (by rw [HRF.out, h]; rfl)
  have hgood : rtB xs = true → RowKit.Hid (tcs (rtF xs) = tcs tv) := fun h => Lib.hid (by rw [HRF.out, h]; rfl)
  have HXB := Lib.hid hbad
  have HXG := Lib.hid hgood
  clear hbad hgood
  by_cases hw : 13 ≤ xs.length
  · have i1 : (13 : Int) ≤ xs.length := by omega
    have hrb : rtB xs = M := by rw [HRB.out, decide_eq_true hw, Bool.true_and]
    cases M with
    | true =>
      have HQ := Lib.hid ((HXG.out hrb).out)
      have HRB2 := Lib.hid hrb
      clear HRB hrb HRF hw HXB HXG
      go_wp2_with (first
        | (refine load_rowG rfl 33 (.tmp 7) rfl w5.heap.size rfl _ _ _ _ HB6.out Tryz.underlying33 rfl HIT.out ?_)
        | (go_at_call 40; (with_reducible refine (HM.out _).mono ?_); rintro e w7 ⟨rfl, t7⟩; have HB6 := Lib.hid (t7.keeps HB6.out (fun h => h)); have HZ6 := Lib.hid (t7.keeps HZ6.out (fun h => h)); have HT6 := Lib.hid (HT6.out.trans t7 (fun _ _ h => h.elim)); have HR6 := Lib.hid (HR6.out.still t7); clear t7)
        | (refine store_row rfl 33 (.tmp 2) (.tmp 41) rfl w.heap.size _ rfl rfl _ _ HZ6.out HIT.out rfl rfl ?_))
      refine ret_row1 rfl rfl w.heap.size 33 (tcs tv) (0, 0) _ rfl (setRow_heap _ _ _ _ _ _ HZ6.out) Tryz.underlying33 rfl infoTup _ rfl ?_
      unfold TReadIs
      rw [HQ.out, HRB2.out]
      exact ⟨rfl, (HR6.out.touch ((Touch.refl _ (fun k => w.heap.size ≤ k)).setRow w.heap.size _ (fun _ => Nat.le_refl _)) (fun _ _ h => .inr h)).mono (fun _ h => .inl h), HT6.out.setRow _ _ (fun h => absurd h (Nat.lt_irrefl _))⟩
    | false =>
      have HQ := Lib.hid ((HXB.out hrb).out)
      have HRB2 := Lib.hid hrb
      clear HRB hrb HRF hw HXB HXG
      go_wp2_with (first
        | (refine load_rowG rfl 33 (.tmp 7) rfl w5.heap.size rfl _ _ _ _ HB6.out Tryz.underlying33 rfl HIT.out ?_)
        | (go_at_call 40; (with_reducible refine (HM.out _).mono ?_); rintro e w7 ⟨rfl, t7⟩; have HB6 := Lib.hid (t7.keeps HB6.out (fun h => h)); have HZ6 := Lib.hid (t7.keeps HZ6.out (fun h => h)); have HT6 := Lib.hid (HT6.out.trans t7 (fun _ _ h => h.elim)); have HR6 := Lib.hid (HR6.out.still t7); clear t7)
        | (refine store_row rfl 33 (.tmp 2) (.tmp 40) rfl w.heap.size _ rfl rfl _ _ HZ6.out HIT.out rfl rfl ?_))
      refine ret_row1 rfl rfl w.heap.size 33 (tcs noT) (0, 0) _ rfl (setRow_heap _ _ _ _ _ _ HZ6.out) Tryz.underlying33 rfl infoTup _ rfl ?_
      unfold TReadIs
      rw [HQ.out, HRB2.out]
      exact ⟨rfl, (HR6.out.touch ((Touch.refl _ (fun k => w.heap.size ≤ k)).setRow w.heap.size _ (fun _ => Nat.le_refl _)) (fun _ _ h => .inr h)).mono (fun _ h => .inl h), HT6.out.setRow _ _ (fun h => absurd h (Nat.lt_irrefl _))⟩
  · have i1 : ¬ (13 : Int) ≤ xs.length := by omega
    have hrb : rtB xs = false := by rw [HRB.out, decide_eq_false hw, Bool.false_and]
    have HQ := Lib.hid ((HXB.out hrb).out)
    have HRB2 := Lib.hid hrb
    clear HRB hrb HRF hw HXB HXG
    go_wp2_with (first
      | (refine store_row rfl 33 (.tmp 2) (.tmp 40) rfl w.heap.size _ rfl rfl _ _ HZ6.out HIT.out rfl rfl ?_))
    refine ret_row1 rfl rfl w.heap.size 33 (tcs noT) (0, 0) _ rfl (setRow_heap _ _ _ _ _ _ HZ6.out) Tryz.underlying33 rfl infoTup _ rfl ?_
    unfold TReadIs
    rw [HQ.out, HRB2.out]
    exact ⟨rfl, (HR6.out.touch ((Touch.refl _ (fun k => w.heap.size ≤ k)).setRow w.heap.size _ (fun _ => Nat.le_refl _)) (fun _ _ h => .inr h)).mono (fun _ h => .inl h), HT6.out.setRow _ _ (fun h => absurd h (Nat.lt_irrefl _))⟩
end Go.Proofs.YtgmimdnebgncoaaGreat

end

section
/- A tuple that may be is read, and what is behind it is left. -/
set_option linter.unusedVariables false
namespace Go.Proofs.YtgmimdnebgncoaaGreat
open Go.RowKit

def bytesT (ts : List TupD) : List Nat := ts.flatMap tbF
/-- A tuple that may be is read; what is behind it is left. -/
theorem read_one (G : Nat) (t : TupD) (r : List TupD) (ok : TupOk t) (hm : mayTB t = true) (w : World) (h : RdD w G (fun _ => False) (bytesT (t :: r)) 0) :
    Calls Tryz.prog 34 #[.pointer (some ⟨G, 0, none⟩)] w fun e w' => e = .returned (.tuple #[.agg (tcs t), .bool true]) ∧ RdD w' G (fun _ => False) (bytesT r) 0 ∧ Touch w w' (fun k => k = G) := by
  have eb : bytesT (t :: r) = tbF t ++ bytesT r := by simp [bytesT]
  have h13 : 13 ≤ (tbF t ++ bytesT r).length := by rw [List.length_append, tbF_length]; omega
  have hB : rtB (tbF t ++ bytesT r) = true := by unfold rtB; rw [tupV_tb t ok hm, hm, decide_eq_true h13]; rfl
  have hF : rtF (tbF t ++ bytesT r) = t := by unfold rtF; rw [if_pos hB, tupV_tb t ok hm]
  have hX : nxtX 13 (tbF t ++ bytesT r) = bytesT r := by
    unfold nxtX; rw [if_pos h13, List.drop_append, tbF_length]
    rw [List.drop_eq_nil_of_le (by rw [tbF_length]; omega)]; simp
  have hE : nxtE 13 (tbF t ++ bytesT r) 0 = 0 := by unfold nxtE; rw [if_pos h13]
  refine (tRead_any G _ _ 0 w h).mono ?_
  rintro e w' ⟨he, h1, h2⟩
  rw [eb, hX, hE] at h1
  rw [eb, hB, hF] at he
  exact ⟨he, h1, h2⟩
theorem read_none (G : Nat) (w : World) (h : RdD w G (fun _ => False) [] 0) :
    Calls Tryz.prog 34 #[.pointer (some ⟨G, 0, none⟩)] w fun e w' => e = .returned (.tuple #[.agg (tcs noT), .bool false]) ∧ Touch w w' (fun k => k = G) :=
  (tRead_any G _ _ 0 w h).mono fun e w' ⟨he, _, h2⟩ => ⟨he, h2⟩

end Go.Proofs.YtgmimdnebgncoaaGreat

end
