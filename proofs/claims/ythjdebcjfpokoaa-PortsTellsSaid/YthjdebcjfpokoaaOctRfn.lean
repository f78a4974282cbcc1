/- What the reference's reader's numbers and End answer; both readers' answers as one. -/
import Derived.Test.YthjdebcjfpokoaaOctRfr
set_option linter.unusedVariables false
namespace Go.Proofs.Ythjdebcjfpokoaa
open Go.RowKit

set_option maxHeartbeats 1000000 in
theorem rf_num_ok (M : Nat) (a : Option Addr) (len cap : Nat) (xs : List Nat) (n : Nat) (w : World) (h : RfB w M a len cap xs 0) (hn0 : 0 < n) (hn : n ≤ len) (hn8 : n ≤ 8) (hlen : len ≤ 140737488355328) :
    Calls Try.prog 54 #[.pointer (some ⟨M, 0, none⟩), .int .i64 n] w fun e w' => e = .returned (.int .u64 (beN (xs.take n) : Nat)) ∧ ∃ v, TookR M a len cap xs n w w' v := by
  have H := Lib.hid (rf_raw_ok M a len cap xs n w h hn hlen)
  have hxl := h.row.1
  clear h
  go_enter Try.func54, Try.ntmps54
  go_wp2_with fail
  refine H.out.mono ?_
  rintro e w1 ⟨v, rfl, hto⟩
  have HT := Lib.hid hto
  obtain ⟨a3, c3, a', rfl, hrow, -, -, -, -⟩ := hto
  obtain ⟨h1, h2, h3, h6, h4, h5⟩ := hrow
  obtain h0 | ⟨b, off, rfl, hc⟩ := h5
  · omega
  have HL := Lib.hid h1
  have HSM := Lib.hid h4
  clear h1 h4
  go_wp2_with fail
  go_loop [5, 12] (fun s i => ∃ k : Nat, k ≤ n ∧ i = .int .i64 k ∧ s = .int .u64 (beN ((xs.take n).take k) : Nat)) (fun _ i => n - (intOf i).toNat)
  case atStart => exact ⟨0, Nat.zero_le _, rfl, rfl⟩
  case round =>
    obtain ⟨k, hk, rfl, rfl⟩ := hrel
    by_cases hlt : k < n
    · have hkx : k < (xs.take n).length := by rw [HL.out]; exact hlt
      have c0 := hc k hkx
      have b0 := HSM.out _ (List.getElem_mem hkx)
      have HS := Lib.hid (beN_step (xs.take n) k hkx)
      have hlt2 := beN_lt (xs.take n) HSM.out k (by rw [HL.out]; omega)
      have hbig : beN ((xs.take n).take k) < 72057594037927936 := by
        have : (256 : Nat) ^ k ≤ 256 ^ 7 := Nat.pow_le_pow_right (by omega) (by omega)
        have e : (256 : Nat) ^ 7 = 72057594037927936 := by decide
        omega
      clear hlt2 hc
      generalize (xs.take n)[k] = y at *
      generalize beN ((xs.take n).take k) = x at *
      have hor := or64 x y hbig b0
      have i1 : (k : Int) < n := by omega
      go_wp2
      refine ⟨⟨k + 1, by omega, by go_num, ?_⟩, by simp [intOf]; omega⟩
      rw [HS.out]; simp
    · obtain rfl : n = k := by omega
      have i1 : ¬ (n : Int) < n := by omega
      clear hc
      go_wp2
      go_ret
      refine ⟨?_, _, HT.out⟩
      have e : (xs.take n).take n = xs.take n := by rw [List.take_take]; simp
      show Ending.returned (.int .u64 ((beN ((xs.take n).take n) : Nat) : Int)) = _
      rw [e]
set_option maxHeartbeats 1000000 in
theorem rf_num_bad (M : Nat) (a : Option Addr) (len cap : Nat) (xs : List Nat) (err n : Int) (w : World) (h : RfB w M a len cap xs err) (hn : err ≠ 0 ∨ (len : Int) < n) :
    Calls Try.prog 54 #[.pointer (some ⟨M, 0, none⟩), .int .i64 n] w fun e w' => e = .returned (.int .u64 0) ∧ RfB w' M none 0 0 [] 2 ∧ Touch w w' (fun k => k = M) := by
  have H := Lib.hid (rf_raw_bad M a len cap xs err n w h hn)
  clear h hn
  go_enter Try.func54, Try.ntmps54
  go_wp2_with (go_at_call 67; refine H.out.mono ?_; rintro e w' ⟨rfl, hr, ht⟩)
  go_loop [5, 12] (fun x i => x = .int .u64 0 ∧ i = .int .i64 0) (fun _ _ => 0)
  case atStart => exact ⟨rfl, rfl⟩
  case round =>
    obtain ⟨rfl, rfl⟩ := hrel
    go_wp2
    go_ret
    exact ⟨rfl, hr, ht⟩

/-- The number of the first n bytes, if they are there; what is left, and the error, behind that. -/
def valN (n : Nat) (xs : List Nat) : Nat := if n ≤ xs.length then beN (xs.take n) else 0
def rawN (n : Nat) (xs : List Nat) : List Nat := if n ≤ xs.length then xs.take n else []
def nxtX (n : Nat) (xs : List Nat) : List Nat := if n ≤ xs.length then xs.drop n else []
def nxtE (n : Nat) (xs : List Nat) (err : Int) : Int := if n ≤ xs.length then err else 2
theorem valN_lt (n : Nat) (xs : List Nat) (h : ∀ x ∈ xs, x < 256) : valN n xs < 256 ^ n := by
  unfold valN; split
  · exact beN_lt xs h n (by assumption)
  · exact Nat.pow_pos (by omega)
theorem nxt_small (n : Nat) (xs : List Nat) (h : ∀ x ∈ xs, x < 256) : ∀ x ∈ nxtX n xs, x < 256 := by
  unfold nxtX; split
  · exact fun x hx => h x (List.mem_of_mem_drop hx)
  · simp
theorem nxt_short (n : Nat) (xs : List Nat) : (nxtX n xs).length ≤ xs.length := by
  unfold nxtX; split <;> simp
theorem nxt_err (n : Nat) (xs : List Nat) (err : Int) (h : err = 0 ∨ xs = []) : nxtE n xs err = 0 ∨ nxtX n xs = [] := by
  unfold nxtE nxtX; split
  · rcases h with h | h
    · exact .inl h
    · right; subst h; simp
  · exact .inr rfl

/-- A reader with these bytes left, and this error: its own bytes are not in block M. -/
def Rd (w : World) (G M : Nat) (xs : List Nat) (err : Int) : Prop := ∃ a cap, RdB w G a xs.length cap xs err ∧ ∀ x, a = some x → xs.length = 0 ∨ x.block ≠ M
def Rf (w : World) (M G : Nat) (xs : List Nat) (err : Int) : Prop := ∃ a cap, RfB w M a xs.length cap xs err ∧ ∀ x, a = some x → xs.length = 0 ∨ x.block ≠ G
theorem Rd.touch {w w' : World} {G M : Nat} {xs : List Nat} {err : Int} (h : Rd w G M xs err) (t : Touch w w' (fun k => k = M)) (hG : G ≠ M) : Rd w' G M xs err := by
  obtain ⟨a, cap, h1, h2⟩ := h
  exact ⟨a, cap, h1.touch t hG h2, h2⟩
theorem Rf.touch {w w' : World} {G M : Nat} {xs : List Nat} {err : Int} (h : Rf w M G xs err) (t : Touch w w' (fun k => k = G)) (hG : G ≠ M) : Rf w' M G xs err := by
  obtain ⟨a, cap, h1, h2⟩ := h
  exact ⟨a, cap, h1.touch t (fun h => hG h.symm) h2, h2⟩
theorem Rd.still {w w' : World} {G M : Nat} {xs : List Nat} {err : Int} (h : Rd w G M xs err) (t : Touch w w' (fun _ => False)) : Rd w' G M xs err := by
  obtain ⟨a, cap, h1, h2⟩ := h
  exact ⟨a, cap, h1.touch t (fun h => h) (fun _ _ => .inr (fun h => h)), h2⟩
theorem Rf.still {w w' : World} {G M : Nat} {xs : List Nat} {err : Int} (h : Rf w M G xs err) (t : Touch w w' (fun _ => False)) : Rf w' M G xs err := by
  obtain ⟨a, cap, h1, h2⟩ := h
  exact ⟨a, cap, h1.touch t (fun h => h) (fun _ _ => .inr (fun h => h)), h2⟩
theorem Rd.none {w : World} {G M : Nat} (h : RdB w G none 0 0 [] 2) : Rd w G M [] 2 := ⟨Option.none, 0, h, fun x hx => by cases hx⟩
theorem Rf.none {w : World} {G M : Nat} (h : RfB w M none 0 0 [] 2) : Rf w M G [] 2 := ⟨Option.none, 0, h, fun x hx => by cases hx⟩
theorem Rd.took {w w' : World} {G M : Nat} {a : Option Addr} {cap : Nat} {xs : List Nat} {err : Int} {n : Nat} (hn : n ≤ xs.length) (ha : ∀ x, a = some x → xs.length = 0 ∨ x.block ≠ M) (t : TookB G a xs.length cap xs err n w w') :
    Rd w' G M (nxtX n xs) (nxtE n xs err) ∧ Touch w w' (fun k => k = G) := by
  obtain ⟨a', h1, h2, h3, h4⟩ := t
  unfold nxtX nxtE
  rw [if_pos hn, if_pos hn]
  refine ⟨⟨a', cap - n, by simpa using h1, fun x hx => ?_⟩, h3⟩
  obtain ⟨y, hy, hxy⟩ := h4 x hx
  rcases ha y hy with h | h
  · left; simp; omega
  · right; rw [hxy]; exact h
theorem Rf.took {w w' : World} {G M : Nat} {a : Option Addr} {cap : Nat} {xs : List Nat} {n : Nat} {v : Value} (hn : n ≤ xs.length) (ha : ∀ x, a = some x → xs.length = 0 ∨ x.block ≠ G) (t : TookR M a xs.length cap xs n w w' v) :
    Rf w' M G (nxtX n xs) (nxtE n xs 0) ∧ Touch w w' (fun k => k = M) := by
  obtain ⟨a3, c3, a', hv, hr, hb, h1, h4, h3⟩ := t
  unfold nxtX nxtE
  rw [if_pos hn, if_pos hn]
  refine ⟨⟨a', cap - n, by simpa using h1, fun x hx => ?_⟩, h3⟩
  obtain ⟨y, hy, hxy⟩ := h4 x hx
  rcases ha y hy with h | h
  · left; simp; omega
  · right; rw [hxy]; exact h
theorem nxt_bad {n : Nat} {xs : List Nat} {err : Int} (hn : ¬ n ≤ xs.length) : nxtX n xs = [] ∧ nxtE n xs err = 2 ∧ valN n xs = 0 ∧ rawN n xs = [] := by
  unfold nxtX nxtE valN rawN; simp [hn]


theorem rd_U8 (G M : Nat) (xs : List Nat) (err : Int) (w : World) (h : Rd w G M xs err) :
    Calls Try.prog 65 #[.pointer (some ⟨G, 0, none⟩)] w fun e w' => e = .returned (.int .i64 ((valN 1 xs) : Nat)) ∧ Rd w' G M (nxtX 1 xs) (nxtE 1 xs err) ∧ Touch w w' (fun k => k = G) := by
  obtain ⟨a, cap, h1, h2⟩ := h
  by_cases hn : 1 ≤ xs.length
  · refine (rU8_any G a _ cap xs err w h1 hn).mono ?_
    rintro e w' ⟨rfl, ht⟩
    exact ⟨by unfold valN; rw [if_pos hn], Rd.took hn h2 ht⟩
  · refine (rU8_short G a _ cap xs err w h1 (by omega)).mono ?_
    rintro e w' ⟨rfl, hr, ht⟩
    obtain ⟨e1, e2, e3, _⟩ := nxt_bad (err := err) hn
    rw [e1, e2, e3]
    exact ⟨rfl, Rd.none hr, ht⟩
theorem rd_U16 (G M : Nat) (xs : List Nat) (err : Int) (w : World) (h : Rd w G M xs err) :
    Calls Try.prog 50 #[.pointer (some ⟨G, 0, none⟩)] w fun e w' => e = .returned (.int .i64 ((valN 2 xs) : Nat)) ∧ Rd w' G M (nxtX 2 xs) (nxtE 2 xs err) ∧ Touch w w' (fun k => k = G) := by
  obtain ⟨a, cap, h1, h2⟩ := h
  by_cases hn : 2 ≤ xs.length
  · refine (rU16_any G a _ cap xs err w h1 hn).mono ?_
    rintro e w' ⟨rfl, ht⟩
    exact ⟨by unfold valN; rw [if_pos hn], Rd.took hn h2 ht⟩
  · refine (rU16_short G a _ cap xs err w h1 (by omega)).mono ?_
    rintro e w' ⟨rfl, hr, ht⟩
    obtain ⟨e1, e2, e3, _⟩ := nxt_bad (err := err) hn
    rw [e1, e2, e3]
    exact ⟨rfl, Rd.none hr, ht⟩
theorem rd_U32 (G M : Nat) (xs : List Nat) (err : Int) (w : World) (h : Rd w G M xs err) :
    Calls Try.prog 66 #[.pointer (some ⟨G, 0, none⟩)] w fun e w' => e = .returned (.int .u32 ((valN 4 xs) : Nat)) ∧ Rd w' G M (nxtX 4 xs) (nxtE 4 xs err) ∧ Touch w w' (fun k => k = G) := by
  obtain ⟨a, cap, h1, h2⟩ := h
  by_cases hn : 4 ≤ xs.length
  · refine (rU32_any G a _ cap xs err w h1 hn).mono ?_
    rintro e w' ⟨rfl, ht⟩
    exact ⟨by unfold valN; rw [if_pos hn], Rd.took hn h2 ht⟩
  · refine (rU32_short G a _ cap xs err w h1 (by omega)).mono ?_
    rintro e w' ⟨rfl, hr, ht⟩
    obtain ⟨e1, e2, e3, _⟩ := nxt_bad (err := err) hn
    rw [e1, e2, e3]
    exact ⟨rfl, Rd.none hr, ht⟩
set_option maxHeartbeats 1000000 in
theorem rf_U32 (M G : Nat) (xs : List Nat) (err : Int) (w : World) (h : Rf w M G xs err) (he : err = 0 ∨ xs = []) (hlen : xs.length ≤ 140737488355328) :
    Calls Try.prog 37 #[.pointer (some ⟨M, 0, none⟩)] w fun e w' => e = .returned (.int .u32 ((valN 4 xs) : Nat)) ∧ Rf w' M G (nxtX 4 xs) (nxtE 4 xs err) ∧ Touch w w' (fun k => k = M) := by
  obtain ⟨a, cap, h1, h2⟩ := h
  have hsm := h1.row.2.2.2.2.1
  have hb : valN 4 xs < 256 ^ 4 := valN_lt 4 xs hsm
  have hb2 : valN 4 xs < 4294967296 := by
    have e : (256 : Nat) ^ 4 = 4294967296 := by decide
    omega
  have HS := Lib.hid (sgn_w64 (valN 4 xs) (by omega))
  have key : Calls Try.prog 54 #[.pointer (some ⟨M, 0, none⟩), .int .i64 4] w fun e w' => e = .returned (.int .u64 (valN 4 xs : Nat)) ∧ Rf w' M G (nxtX 4 xs) (nxtE 4 xs err) ∧ Touch w w' (fun k => k = M) := by
    by_cases hn : err = 0 ∧ 4 ≤ xs.length
    · obtain ⟨rfl, hn⟩ := hn
      refine (rf_num_ok M a _ cap xs 4 w h1 (by omega) hn (by omega) hlen).mono ?_
      rintro e w' ⟨rfl, v, ht⟩
      exact ⟨by unfold valN; rw [if_pos hn], Rf.took hn h2 ht⟩
    · have hn' : ¬ 4 ≤ xs.length := by
        rcases he with he | he
        · exact fun h => hn ⟨he, h⟩
        · subst he; simp
      refine (rf_num_bad M a _ cap xs err 4 w h1 (by omega)).mono ?_
      rintro e w' ⟨rfl, hr, ht⟩
      obtain ⟨e1, e2, e3, _⟩ := nxt_bad (err := err) hn'
      rw [e1, e2, e3]
      exact ⟨rfl, Rf.none hr, ht⟩
  have H := Lib.hid key
  clear key h1 hsm he hb
  generalize valN 4 xs = z at *
  go_enter Try.func37, Try.ntmps37
  go_wp2_with (go_at_call 54; refine H.out.mono ?_; rintro e w' ⟨rfl, hrf, ht⟩)
  try rw [HS.out]
  go_ret
  exact ⟨rfl, hrf, ht⟩

end Go.Proofs.Ythjdebcjfpokoaa
