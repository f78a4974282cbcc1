/- What the calls of an octet.Writer answer: U8, U16, U32, I64, Bytes, Len; of one that there isn't, too. -/
import Derived.Test.YthliikkllagodaaDoorOctN
import Derived.WalkSpells
set_option linter.unusedVariables false
namespace Go.Proofs.YthliikkllagodaaDoor
open Go.RowKit

/-- A number as 64 bits. -/
def u64N (n : Int) : Nat := (n % 18446744073709551616).toNat
theorem u64N_lt (n : Int) : u64N n < 18446744073709551616 := by unfold u64N; omega
theorem u64N_wrap (n : Int) : IntKind.u64.wrap n = (u64N n : Nat) := by rw [IntKind.wrap_u64]; unfold u64N; omega

set_option maxHeartbeats 1000000 in
theorem wU8_any (G : Nat) (v : Value) (xs : List Nat) (base : Nat) (n : Int) (w : World) (h : WrB w base G v xs) (hn : -9223372036854775808 ≤ n ∧ n ≤ 9223372036854775807) (hlen : xs.length + 8 ≤ 140737488355328) (hbase : base ≤ w.heap.size) :
    Calls Tryd.prog 81 #[.pointer (some ⟨G, 0, none⟩), .int .i64 n] w fun e w' => e = .returned (.tuple #[]) ∧ PutB base G v w (xs ++ beB 1 (u64N n)) w' := by
  have H := Lib.hid (number_any G v xs base 1 (u64N n) w h (by omega) (u64N_lt n) hlen hbase)
  have hw := u64N_wrap n
  go_enter Tryd.func81, Tryd.ntmps81
  go_wp2_with fail
  try rw [hw]
  refine H.out.mono ?_
  rintro e w2 ⟨rfl, g⟩
  go_wp2
  go_end0
  exact ⟨rfl, g⟩
set_option maxHeartbeats 1000000 in
theorem wU8_nil (n : Int) (w : World) (hn : -9223372036854775808 ≤ n ∧ n ≤ 9223372036854775807) :
    Calls Tryd.prog 81 #[.pointer none, .int .i64 n] w fun e w' => e = .returned (.tuple #[]) ∧ Touch w w' (fun _ => False) := by
  have hl := u64N_lt n
  have H := Lib.hid (number_nil 1 (u64N n) w (by omega) (by omega) (by omega) (by omega))
  have hw := u64N_wrap n
  go_enter Tryd.func81, Tryd.ntmps81
  go_wp2_with fail
  try rw [hw]
  refine H.out.mono ?_
  rintro e w2 ⟨rfl, g⟩
  go_wp2
  go_end0
  exact ⟨rfl, g⟩

set_option maxHeartbeats 1000000 in
theorem wU16_any (G : Nat) (v : Value) (xs : List Nat) (base : Nat) (n : Int) (w : World) (h : WrB w base G v xs) (hn : -9223372036854775808 ≤ n ∧ n ≤ 9223372036854775807) (hlen : xs.length + 8 ≤ 140737488355328) (hbase : base ≤ w.heap.size) :
    Calls Tryd.prog 54 #[.pointer (some ⟨G, 0, none⟩), .int .i64 n] w fun e w' => e = .returned (.tuple #[]) ∧ PutB base G v w (xs ++ beB 2 (u64N n)) w' := by
  have H := Lib.hid (number_any G v xs base 2 (u64N n) w h (by omega) (u64N_lt n) hlen hbase)
  have hw := u64N_wrap n
  go_enter Tryd.func54, Tryd.ntmps54
  go_wp2_with fail
  try rw [hw]
  refine H.out.mono ?_
  rintro e w2 ⟨rfl, g⟩
  go_wp2
  go_end0
  exact ⟨rfl, g⟩
set_option maxHeartbeats 1000000 in
theorem wU16_nil (n : Int) (w : World) (hn : -9223372036854775808 ≤ n ∧ n ≤ 9223372036854775807) :
    Calls Tryd.prog 54 #[.pointer none, .int .i64 n] w fun e w' => e = .returned (.tuple #[]) ∧ Touch w w' (fun _ => False) := by
  have hl := u64N_lt n
  have H := Lib.hid (number_nil 2 (u64N n) w (by omega) (by omega) (by omega) (by omega))
  have hw := u64N_wrap n
  go_enter Tryd.func54, Tryd.ntmps54
  go_wp2_with fail
  try rw [hw]
  refine H.out.mono ?_
  rintro e w2 ⟨rfl, g⟩
  go_wp2
  go_end0
  exact ⟨rfl, g⟩

set_option maxHeartbeats 1000000 in
theorem wU32_any (G : Nat) (v : Value) (xs : List Nat) (base : Nat) (n : Int) (w : World) (h : WrB w base G v xs) (hn : 0 ≤ n ∧ n ≤ 4294967295) (hlen : xs.length + 8 ≤ 140737488355328) (hbase : base ≤ w.heap.size) :
    Calls Tryd.prog 53 #[.pointer (some ⟨G, 0, none⟩), .int .u32 n] w fun e w' => e = .returned (.tuple #[]) ∧ PutB base G v w (xs ++ beB 4 (u64N n)) w' := by
  have H := Lib.hid (number_any G v xs base 4 (u64N n) w h (by omega) (u64N_lt n) hlen hbase)
  have hw := u64N_wrap n
  go_enter Tryd.func53, Tryd.ntmps53
  go_wp2_with fail
  try rw [hw]
  refine H.out.mono ?_
  rintro e w2 ⟨rfl, g⟩
  go_wp2
  go_end0
  exact ⟨rfl, g⟩
set_option maxHeartbeats 1000000 in
theorem wU32_nil (n : Int) (w : World) (hn : 0 ≤ n ∧ n ≤ 4294967295) :
    Calls Tryd.prog 53 #[.pointer none, .int .u32 n] w fun e w' => e = .returned (.tuple #[]) ∧ Touch w w' (fun _ => False) := by
  have hl := u64N_lt n
  have H := Lib.hid (number_nil 4 (u64N n) w (by omega) (by omega) (by omega) (by omega))
  have hw := u64N_wrap n
  go_enter Tryd.func53, Tryd.ntmps53
  go_wp2_with fail
  try rw [hw]
  refine H.out.mono ?_
  rintro e w2 ⟨rfl, g⟩
  go_wp2
  go_end0
  exact ⟨rfl, g⟩

set_option maxHeartbeats 1000000 in
theorem wlen_any (G : Nat) (v : Value) (xs : List Nat) (base : Nat) (w : World) (h : WrB w base G v xs) :
    Calls Tryd.prog 39 #[.pointer (some ⟨G, 0, none⟩)] w fun e w' => e = .returned (.int .i64 xs.length) ∧ w' = w := by
  obtain ⟨⟨TW, hh⟩, hlow, hown, hap⟩ := h
  have hc := cell_of_cells hh 0
  simp at hc
  obtain ⟨a0, c0, rfl, _, hp0⟩ := hown.row
  go_enter Tryd.func39, Tryd.ntmps39
  go_wp2
  go_ret
  exact ⟨rfl, rfl⟩
theorem wlen_nil (w : World) :
    Calls Tryd.prog 39 #[.pointer none] w fun e w' => e = .returned (.int .i64 0) ∧ w' = w := by
  go_enter Tryd.func39, Tryd.ntmps39
  go_wp2
  go_ret
  exact ⟨rfl, rfl⟩

/-- A slice that is a row of its own, all of it new: what a call hands back. -/
def FreshB (w w' : World) (v : Value) (xs : List Nat) : Prop :=
  OwnB w' w.heap.size 5 v xs ∧ Touch w w' (fun _ => False)

theorem FreshB.touch {w w' : World} {v : Value} {xs : List Nat} (h : FreshB w w' v xs) : Touch w w' (fun _ => False) := h.2
theorem FreshB.row {w w' : World} {v : Value} {xs : List Nat} (h : FreshB w w' v xs) : ∃ a cap, v = .slice a xs.length cap ∧ RowB w' a xs.length cap xs := by
  obtain ⟨a, cap, hv, hr, _⟩ := h.1.row
  exact ⟨a, cap, hv, hr⟩

set_option maxHeartbeats 1000000 in
theorem clone_any (a : Option Addr) (len cap : Nat) (xs : List Nat) (w : World) (hr : RowB w a len cap xs) (hlen : len ≤ 140737488355328) :
    Calls Tryd.prog 82 #[.slice a len cap] w fun e w' => ∃ a' cap', e = .returned (.slice a' len cap') ∧ FreshB w w' (.slice a' len cap') xs := by
  have hq := fun (w : World) (a : Option Addr) (n c : Nat) => Lib.run_eql_slice_nil (P := Tryd.prog) w 25 5 a n c 0 0 Tryd.underlying25
  have hxl := hr.1
  have hlt := hr.lt
  cases a with
  | none =>
    have hl : len = 0 := by
      rcases hr.2.2.2.2.2 with h | ⟨b, off, h, _⟩
      · exact h
      · cases h
    subst hl
    have hx : xs = [] := List.length_eq_zero_iff.1 hxl
    subst hx
    go_enter Tryd.func82, Tryd.ntmps82
    go_wp2
    go_ret
    exact ⟨none, 0, rfl, ⟨OwnB.nil _ _ _, Touch.refl _ _⟩⟩
  | some ad =>
    go_enter Tryd.func82, Tryd.ntmps82
    go_wp2_with (at_builtin; refine wpList_appendB rfl _ _ 25 rfl 5 Tryd.underlying25 infoB w.heap.size (.slice (some ⟨w.heap.size, 0, none⟩) 0 0) [] rfl (OwnB.lit w _ rfl _ (Nat.le_refl _) _ _ _ _ rfl rfl (by decide) (by decide)) _ _ _ xs rfl (hr.old (Below.alloc (Below.refl _ _) (Nat.le_refl _) _)) len xs rfl hxl (by omega) (by simp) w.heap.size w (Below.alloc (Below.refl _ _) (Nat.le_refl _) _) (Nat.le_refl _) ?_; intro a3 c3 w3 hown3 hr3 hg3 hb3 hs3 hp3 hl3)
    go_ret
    exact ⟨a3, c3, rfl, ⟨hown3, Touch.ofBelow hb3 (fun k h1 h2 => by omega)⟩⟩

theorem clone_nil (w : World) : Calls Tryd.prog 82 #[.slice none 0 0] w fun e w' => e = .returned (.slice none 0 0) ∧ w' = w := by
  have hq := fun (w : World) (a : Option Addr) (n c : Nat) => Lib.run_eql_slice_nil (P := Tryd.prog) w 25 5 a n c 0 0 Tryd.underlying25
  go_enter Tryd.func82, Tryd.ntmps82
  go_wp2
  go_ret
  exact ⟨rfl, rfl⟩

/-- Bytes of a writer: a copy. -/
theorem wbytes_any (G : Nat) (v : Value) (xs : List Nat) (base : Nat) (w : World) (h : WrB w base G v xs) (hlen : xs.length ≤ 140737488355328) :
    Calls Tryd.prog 37 #[.pointer (some ⟨G, 0, none⟩)] w fun e w' => ∃ a' cap', e = .returned (.slice a' xs.length cap') ∧ FreshB w w' (.slice a' xs.length cap') xs := by
  obtain ⟨⟨TW, hh⟩, hlow, hown, hap⟩ := h
  have hc := cell_of_cells hh 0
  simp at hc
  obtain ⟨a0, c0, rfl, hrow, hp0⟩ := hown.row
  have H := Lib.hid (clone_any a0 xs.length c0 xs w hrow hlen)
  go_enter Tryd.func37, Tryd.ntmps37
  go_wp2_with (go_at_call 82; refine H.out.mono ?_; rintro e w' ⟨a', cap', rfl, hf⟩)
  go_ret
  exact ⟨a', cap', rfl, hf⟩
theorem wbytes_nil (w : World) :
    Calls Tryd.prog 37 #[.pointer none] w fun e w' => e = .returned (.slice none 0 0) ∧ w' = w := by
  go_enter Tryd.func37, Tryd.ntmps37
  go_wp2_with fail
  go_ret
  exact ⟨rfl, rfl⟩
end Go.Proofs.YthliikkllagodaaDoor
