/- What octet.whole answers: the number whose bytes a reader has taken. -/
import Derived.Test.YthjdebcjfpokoaaOctR
set_option linter.unusedVariables false
namespace Go.Proofs.Ythjdebcjfpokoaa
open Go.RowKit

/-- The number whose bytes these are, the highest first. -/
def beN (l : List Nat) : Nat := l.foldl (fun x c => x * 256 + c) 0
theorem beN_snoc (l : List Nat) (c : Nat) : beN (l ++ [c]) = beN l * 256 + c := by simp [beN]
theorem beN_step (l : List Nat) (k : Nat) (h : k < l.length) : beN (l.take (k + 1)) = beN (l.take k) * 256 + l[k] := by
  rw [List.take_succ_eq_append_getElem h, beN_snoc]
theorem beN_lt (l : List Nat) (h : ∀ x ∈ l, x < 256) : ∀ k, k ≤ l.length → beN (l.take k) < 256 ^ k
  | 0, _ => by simp [beN]
  | k + 1, hk => by
    have h1 := beN_lt l h k (by omega)
    rw [beN_step l k (by omega), Nat.pow_succ]
    have h2 := h _ (List.getElem_mem (show k < l.length by omega))
    have : (beN (l.take k) + 1) * 256 ≤ 256 ^ k * 256 := Nat.mul_le_mul_right _ h1
    omega
theorem or64 (x y : Nat) (hx : x < 72057594037927936) (hy : y < 256) : bits BinOp.or IntKind.u64 ((x : Int) * 256) (y : Int) = ((x * 256 + y : Nat) : Int) := by
  have e := bits_join .u64 64 (by decide) (fun n a b => by rw [IntKind.wrap_u64]; omega) 8 ((x : Int) * 256) (y : Int) (by omega) (by omega) (by omega) (by omega) (by omega) (by omega)
  rw [e]; omega

set_option maxHeartbeats 1000000 in
theorem whole_nil (n : Int) (w : World) :
    Calls Try.prog 61 #[.int .i64 n, .func (.func 62) #[.pointer none] #[]] w fun e w' => e = .returned (.int .u64 0) ∧ w' = w := by
  go_enter Try.func61, Try.ntmps61
  go_wp2_with (go_at_call 62; refine (take_nil _ _).mono ?_; rintro e w' ⟨rfl, rfl⟩)
  go_loop [5, 12] (fun x i => x = .int .u64 0 ∧ i = .int .i64 0) (fun _ _ => 0)
  case atStart => exact ⟨rfl, rfl⟩
  case round =>
    obtain ⟨rfl, rfl⟩ := hrel
    go_wp2
    go_ret
    exact ⟨rfl, rfl⟩

set_option maxHeartbeats 1000000 in
theorem whole_short (G : Nat) (a : Option Addr) (len cap : Nat) (xs : List Nat) (err n : Int) (w : World) (h : RdB w G a len cap xs err) (hn : (len : Int) < n) :
    Calls Try.prog 61 #[.int .i64 n, .func (.func 62) #[.pointer (some ⟨G, 0, none⟩)] #[]] w fun e w' => e = .returned (.int .u64 0) ∧ RdB w' G none 0 0 [] 2 ∧ Touch w w' (fun k => k = G) := by
  have H := Lib.hid (take_short G a len cap xs err n w h hn)
  clear h
  go_enter Try.func61, Try.ntmps61
  go_wp2_with (go_at_call 62; refine H.out.mono ?_; rintro e w' ⟨rfl, hr, ht⟩)
  go_loop [5, 12] (fun x i => x = .int .u64 0 ∧ i = .int .i64 0) (fun _ _ => 0)
  case atStart => exact ⟨rfl, rfl⟩
  case round =>
    obtain ⟨rfl, rfl⟩ := hrel
    go_wp2
    go_ret
    exact ⟨rfl, hr, ht⟩

set_option maxHeartbeats 1000000 in
theorem whole_any (G : Nat) (a : Option Addr) (len cap : Nat) (xs : List Nat) (err : Int) (n : Nat) (w : World) (h : RdB w G a len cap xs err) (hn0 : 0 < n) (hn : n ≤ len) (hn8 : n ≤ 8) :
    Calls Try.prog 61 #[.int .i64 n, .func (.func 62) #[.pointer (some ⟨G, 0, none⟩)] #[]] w fun e w' => e = .returned (.int .u64 (beN (xs.take n) : Nat)) ∧ TookB G a len cap xs err n w w' := by
  have H := Lib.hid (take_some G a len cap xs err n w h hn0 hn)
  have hxl := h.row.1
  clear h
  go_enter Try.func61, Try.ntmps61
  go_wp2_with (go_at_call 62; refine H.out.mono ?_; rintro e w' ⟨rfl, hto⟩)
  obtain ⟨a', hrd, hrow, ht, hb⟩ := hto
  have hro := hrow
  obtain ⟨h1, h2, h3, h6, h4, h5⟩ := hro
  obtain h0 | ⟨b, off, rfl, hc⟩ := h5
  · omega
  have HL := Lib.hid h1
  have HSM := Lib.hid h4
  clear h1 h4
  go_loop [5, 12] (fun s i => ∃ k : Nat, k ≤ n ∧ i = .int .i64 k ∧ s = .int .u64 (beN ((xs.take n).take k) : Nat)) (fun _ i => n - (intOf i).toNat)
  case atStart => exact ⟨0, Nat.zero_le _, rfl, rfl⟩
  case round =>
    obtain ⟨k, hk, rfl, rfl⟩ := hrel
    by_cases hlt : k < n
    · have hkx : k < (xs.take n).length := by rw [HL.out]; exact hlt
      have c0 := hc k hkx
      have b0 := HSM.out _ (List.getElem_mem hkx)
      have HS := Lib.hid (beN_step (xs.take n) k hkx)
      have hlt2 := beN_lt (xs.take n) HSM.out k (by rw [HL.out]; omega)
      have hbig : beN ((xs.take n).take k) < 72057594037927936 := by
        have : (256 : Nat) ^ k ≤ 256 ^ 7 := Nat.pow_le_pow_right (by omega) (by omega)
        have e : (256 : Nat) ^ 7 = 72057594037927936 := by decide
        omega
      clear hlt2 hc
      generalize (xs.take n)[k] = y at *
      generalize beN ((xs.take n).take k) = x at *
      have hor := or64 x y hbig b0
      have i1 : (k : Int) < n := by omega
      go_wp2
      refine ⟨⟨k + 1, by omega, by go_num, ?_⟩, by simp [intOf]; omega⟩
      rw [HS.out]; simp
    · obtain rfl : n = k := by omega
      have i1 : ¬ (n : Int) < n := by omega
      clear hc
      go_wp2
      go_ret
      refine ⟨?_, a', hrd, hrow, ht, hb⟩
      have e : (xs.take n).take n = xs.take n := by rw [List.take_take]; simp
      show Ending.returned (.int .u64 ((beN ((xs.take n).take n) : Nat) : Int)) = _
      rw [e]
end Go.Proofs.Ythjdebcjfpokoaa
