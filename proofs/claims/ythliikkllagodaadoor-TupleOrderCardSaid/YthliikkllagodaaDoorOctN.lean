/- What an octet.Writer's numbers leave: their bytes, the highest first. -/
import Derived.Test.YthliikkllagodaaDoorOctW
set_option linter.unusedVariables false
namespace Go.Proofs.YthliikkllagodaaDoor
open Go.RowKit

/-- The lowest bytes of x, so many, the highest of these first. -/
def beB (width x : Nat) : List Nat := (List.range width).map fun i => x / 2 ^ (8 * (width - 1 - i)) % 256
theorem beB_length (width x : Nat) : (beB width x).length = width := by simp [beB]
theorem beB_small (width x : Nat) : ∀ y ∈ beB width x, y < 256 := by
  intro y hy
  simp only [beB, List.mem_map] at hy
  obtain ⟨i, _, rfl⟩ := hy
  omega
theorem beB_step (width x k : Nat) (h : k < width) : (beB width x).take (k + 1) = (beB width x).take k ++ [x / 2 ^ (8 * (width - 1 - k)) % 256] := by
  rw [List.take_succ_eq_append_getElem (by rw [beB_length]; exact h)]
  congr 1
  simp [beB]

set_option maxHeartbeats 1000000 in
theorem number_any (G : Nat) (v : Value) (xs : List Nat) (base : Nat) (width x : Nat) (w : World) (h : WrB w base G v xs) (hw : width ≤ 8) (hx : x < 18446744073709551616) (hlen : xs.length + 8 ≤ 140737488355328) (hbase : base ≤ w.heap.size) :
    Calls Tryd.prog 99 #[.pointer (some ⟨G, 0, none⟩), .int .i64 width, .int .u64 x] w fun e w' => e = .returned (.tuple #[]) ∧ PutB base G v w (xs ++ beB width x) w' := by
  go_enter Tryd.func99, Tryd.ntmps99
  go_wp2_with fail
  go_loopw [8] (fun i wr => ∃ k : Nat, k ≤ width ∧ i = .int .i64 k ∧ PutB base G v w (xs ++ (beB width x).take k) wr) (fun i _ => width - (intOf i).toNat)
  case atStart => exact ⟨0, Nat.zero_le _, rfl, by simpa using PutB.refl h⟩
  case round =>
    obtain ⟨k, hk, rfl, v1, hw1, ht1, hp1⟩ := hrel
    by_cases hlt : k < width
    · have hl := beB_length width x
      have hkl : (xs ++ (beB width x).take k).length ≤ xs.length + 7 := by simp; omega
      have hi : (k : Int) < width := by omega
      clear hl
      have hrow : RowB (wr.alloc (.cells #[.int .u8 ((x : Int) / 2 ^ (8 * (width - 1 - k)) % 256)] 5)) (some ⟨wr.heap.size, 0, none⟩) 1 1 [x / 2 ^ (8 * (width - 1 - k)) % 256] := by
        refine RowB.new wr _ rfl _ _ _ 1 _ rfl (by omega) (by intro z hz; simp at hz; omega) (fun i hi => ?_)
        match i, hi with
        | 0, _ => simp
      have hw2 : WrB (wr.alloc (.cells #[.int .u8 ((x : Int) / 2 ^ (8 * (width - 1 - k)) % 256)] 5)) base G v1 (xs ++ (beB width x).take k) := hw1.touch (S := fun _ => False) ((Touch.refl _ _).alloc _) (fun h => h) (fun _ _ h => h)
      have ht2 : Touch w (wr.alloc (.cells #[.int .u8 ((x : Int) / 2 ^ (8 * (width - 1 - k)) % 256)] 5)) (fun k => k = G ∨ v.ownBlock = some k) := ht1.alloc _
      have hb2 : base ≤ (wr.alloc (.cells #[.int .u8 ((x : Int) / 2 ^ (8 * (width - 1 - k)) % 256)] 5)).heap.size := by have := ht2.size; omega
      have HR := Lib.hid (raw_any G v1 _ base _ 1 1 _ _ hw2 hrow (by omega) hb2)
      have HT := Lib.hid (PutB.trans (zs := xs ++ (beB width x).take (k + 1)) (w2 := w) ⟨hw2, ht2, hp1⟩)
      clear HT
      have HS := Lib.hid (beB_step width x k hlt)
      have HP : Hid (∀ w2, PutB base G v1 (wr.alloc (.cells #[.int .u8 ((x : Int) / 2 ^ (8 * (width - 1 - k)) % 256)] 5)) (xs ++ (beB width x).take k ++ [x / 2 ^ (8 * (width - 1 - k)) % 256]) w2 → PutB base G v w (xs ++ (beB width x).take (k + 1)) w2) := Lib.hid (fun w2 g => by
        rw [HS.out, ← List.append_assoc]
        exact PutB.trans ⟨hw2, ht2, hp1⟩ g)
      clear hrow hw2 ht2 hb2
      go_wp2_with fail
      refine HR.out.mono ?_
      rintro e w2 ⟨rfl, g⟩
      have hput := HP.out _ g
      clear g
      go_wp2
      exact ⟨⟨k + 1, by omega, by go_num, hput⟩, by simp [intOf]; omega⟩
    · obtain rfl : width = k := by omega
      have hlt' : ¬ (width : Int) < width := by omega
      go_wp2
      go_end0
      refine ⟨rfl, ?_⟩
      rw [List.take_of_length_le (by rw [beB_length]; omega)] at hw1
      exact ⟨v1, hw1, ht1, hp1⟩

/-- Numbers of a writer that there isn't. -/
theorem number_nil (width x : Int) (w : World) (h0 : 0 ≤ width) (hw : width ≤ 8) (hx0 : 0 ≤ x) (hx : x < 18446744073709551616) :
    Calls Tryd.prog 99 #[.pointer none, .int .i64 width, .int .u64 x] w fun e w' => e = .returned (.tuple #[]) ∧ Touch w w' (fun _ => False) := by
  go_enter Tryd.func99, Tryd.ntmps99
  go_wp2_with fail
  go_loopw [8] (fun i wr => ∃ k : Int, 0 ≤ k ∧ k ≤ width ∧ i = .int .i64 k ∧ Touch w wr (fun _ => False)) (fun i _ => (width - intOf i).toNat)
  case atStart => exact ⟨0, by omega, by omega, rfl, Touch.refl _ _⟩
  case round =>
    obtain ⟨k, hk0, hk, rfl, ht1⟩ := hrel
    by_cases hlt : k < width
    · go_wp2_with (go_at_call 101; refine (raw_nil _ _ _ _).mono ?_; rintro e w' ⟨rfl, rfl⟩)
      exact ⟨⟨k + 1, by omega, by omega, rfl, ht1.alloc _⟩, by simp [intOf]; omega⟩
    · go_wp2
      go_end0
      exact ⟨rfl, ht1⟩
end Go.Proofs.YthliikkllagodaaDoor
