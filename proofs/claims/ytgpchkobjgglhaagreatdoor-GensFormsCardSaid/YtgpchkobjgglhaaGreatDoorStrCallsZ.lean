/- Calls of strings and strconv: what they tell, and that nothing old is touched. -/
import Derived.Test.YtgpchkobjgglhaaGreatDoorTupTextZ
import Derived.Lib.UnsafeStr
set_option linter.unusedVariables false
namespace Go.Proofs.YtgpchkobjgglhaaGreatDoor
open Go.RowKit

theorem MaxW.touch {w w' : World} (h : MaxW w) (ht : Touch w w' (fun _ => False)) : MaxW w' := h.old (ht.below (fun _ _ h => h.elim) (Nat.le_refl _))
theorem ErrW.touch {w w' : World} (h : ErrW w) (ht : Touch w w' (fun _ => False)) : ErrW w' := h.old (ht.below (fun _ _ h => h.elim) (Nat.le_refl _))
theorem touch_below {w w' : World} (h : Below w.heap.size w w') : Touch w w' (fun _ => False) := Touch.ofBelow h (fun k h1 h2 => by omega)
theorem touch_bytesWorld (w : World) (e : TypeId) (s : ByteArray) : Touch w (Lib.bytesWorld w e s) (fun _ => False) := by
  unfold Lib.bytesWorld
  exact touch_below (Lib.below_freeze (((Below.refl _ w).drew).alloc (Nat.le_refl _) _) (Nat.le_refl _) _)

/-- What is ahead of a mark, and behind it. -/
def cutL (l : List UInt8) (c : UInt8) : List UInt8 × List UInt8 := ((Lib.cut l [c]).1, (Lib.cut l [c]).2.1)
def cutB (l : List UInt8) (c : UInt8) : Bool := (Lib.cut l [c]).2.2
theorem cut_call (l : List UInt8) (c : UInt8) (w : World) (hl : l.length < 4294967281) (hM : MaxW w) :
    Calls Tryz.prog 42 #[.string (mkS l), .string ⟨#[c]⟩] w fun e w' => e = .returned (.tuple #[.string (mkS (cutL l c).1), .string (mkS (cutL l c).2), .bool (cutB l c)]) ∧ Touch w w' (fun _ => False) := by
  obtain ⟨m, hm⟩ := hM
  refine (Tryz.strings_Cut (mkS l) (mkS [c]) m w (by rw [mkS_size]; exact hl) hm).mono ?_
  rintro e w' ⟨he, n, rfl⟩
  rw [mkS_data, mkS_data] at he
  exact ⟨he, (Touch.refl w _).drewN n⟩

/-- A number as ParseUint reads it, of so many bits. -/
def puV (l : List UInt8) : Option Nat := match Lib.parseUintB 8 l with | .ok u => some u | _ => none
theorem pu_ok (l : List UInt8) (u : Nat) (w : World) (hl : l.length ≤ 281474976710656) (h : puV l = some u) :
    Calls Tryz.prog 62 #[.string (mkS l), .int .i64 10, .int .i64 8] w fun e w' => e = .returned (.tuple #[.int .u64 u, .nilIface]) ∧ Touch w w' (fun _ => False) := by
  unfold puV at h
  have h2 : Lib.parseUintB 8 l = .ok u := by revert h; cases Lib.parseUintB 8 l <;> simp
  refine (Tryz.strconv_ParseUint_10_at8_ok (mkS l) (by rw [mkS_size]; omega) u (by rw [mkS_data]; exact h2) w).mono ?_
  rintro e w' ⟨he, rfl | rfl⟩
  · exact ⟨he, Touch.refl _ _⟩
  · exact ⟨he, touch_bytesWorld _ _ _⟩
theorem pu_bad (l : List UInt8) (w : World) (hl : l.length ≤ 281474976710656) (h : puV l = none) (hE : ErrW w) :
    Calls Tryz.prog 62 #[.string (mkS l), .int .i64 10, .int .i64 8] w fun e w' => ∃ (n : Int) (N : Nat), e = .returned (.tuple #[.int .u64 n, .iface 103 (.pointer (some ⟨N, 0, none⟩))]) ∧ Touch w w' (fun _ => False) := by
  obtain ⟨⟨t1, p1, h1⟩, t2, p2, h2⟩ := hE
  unfold puV at h
  cases hp : Lib.parseUintB 8 l with
  | ok u => rw [hp] at h; cases h
  | «syntax» =>
    refine (Tryz.strconv_ParseUint_10_at8_syntax_var (mkS l) (by rw [mkS_size]; exact hl) (by rw [mkS_data]; exact hp) t1 p1 w h1).mono ?_
    rintro e w' ⟨N, he, _, _, hb⟩
    exact ⟨0, N, he, touch_below hb⟩
  | range =>
    refine (Tryz.strconv_ParseUint_10_at8_range_var (mkS l) (by rw [mkS_size]; exact hl) (by rw [mkS_data]; exact hp) t2 p2 w h2).mono ?_
    rintro e w' ⟨N, he, _, _, hb⟩
    exact ⟨255, N, he, touch_below hb⟩
/-- The number that Atoi tells, whatever error it tells. -/
def atV (l : List UInt8) : Int := match Lib.atoiAll l with | .ok v => v | .«syntax» => 0 | .range => Lib.atoiSat l
theorem atV_bounds (l : List UInt8) : -9223372036854775808 ≤ atV l ∧ atV l ≤ 9223372036854775807 := by
  unfold atV
  cases h : Lib.atoiAll l with
  | ok v => exact Lib.atoiAll_bounds h
  | «syntax» => exact ⟨show (-9223372036854775808 : Int) ≤ 0 by decide, show (0 : Int) ≤ 9223372036854775807 by decide⟩
  | range => simp only [Lib.atoiSat]; split <;> exact ⟨by decide, by decide⟩
/-- Is it a number? -/
def atB (l : List UInt8) : Bool := match Lib.atoiAll l with | .ok _ => true | _ => false
theorem at_ok (l : List UInt8) (w : World) (hl : l.length ≤ 281474976710656) (h : atB l = true) :
    Calls Tryz.prog 43 #[.string (mkS l)] w fun e w' => e = .returned (.tuple #[.int .i64 (atV l), .nilIface]) ∧ Touch w w' (fun _ => False) := by
  unfold atB at h
  cases hp : Lib.atoiAll l with
  | ok v =>
    refine (Tryz.strconv_Atoi_ok (mkS l) (by rw [mkS_size]; omega) v (by rw [mkS_data]; exact hp) w).mono ?_
    have e1 : atV l = v := by unfold atV; rw [hp]
    rintro e w' ⟨he, rfl | ⟨t, rfl⟩⟩
    · exact ⟨by rw [e1]; exact he, Touch.refl _ _⟩
    · exact ⟨by rw [e1]; exact he, touch_bytesWorld _ _ _⟩
  | «syntax» => rw [hp] at h; cases h
  | range => rw [hp] at h; cases h
theorem at_bad (l : List UInt8) (w : World) (hl : l.length ≤ 281474976710656) (h : atB l = false) (hE : ErrW w) :
    Calls Tryz.prog 43 #[.string (mkS l)] w fun e w' => ∃ N : Nat, e = .returned (.tuple #[.int .i64 (atV l), .iface 103 (.pointer (some ⟨N, 0, none⟩))]) ∧ Touch w w' (fun _ => False) := by
  obtain ⟨⟨t1, p1, h1⟩, t2, p2, h2⟩ := hE
  unfold atB at h
  cases hp : Lib.atoiAll l with
  | ok u => rw [hp] at h; cases h
  | «syntax» =>
    refine (Tryz.strconv_Atoi_syntax_var (mkS l) (by rw [mkS_size]; exact hl) (by rw [mkS_data]; exact hp) t1 p1 w h1).mono ?_
    have e1 : atV l = 0 := by unfold atV; rw [hp]
    rintro e w' ⟨N, he, _, _, hb⟩
    exact ⟨N, by rw [e1]; exact he, touch_below hb⟩
  | range =>
    refine (Tryz.strconv_Atoi_range_var (mkS l) (by rw [mkS_size]; exact hl) (by rw [mkS_data]; exact hp) t2 p2 w h2).mono ?_
    have e1 : atV l = Lib.atoiSat l := by unfold atV; rw [hp]
    rintro e w' ⟨N, he, _, _, hb⟩
    exact ⟨N, by rw [e1, ← mkS_data l]; exact he, touch_below hb⟩
theorem at_any (l : List UInt8) (w : World) (hl : l.length ≤ 281474976710656) (hE : ErrW w) :
    Calls Tryz.prog 43 #[.string (mkS l)] w fun e w' => ∃ v : Value, e = .returned (.tuple #[.int .i64 (atV l), v]) ∧ Touch w w' (fun _ => False) := by
  cases h : atB l with
  | true => exact (at_ok l w hl h).mono fun e w' k => ⟨_, k⟩
  | false => exact (at_bad l w hl h hE).mono fun e w' ⟨N, k⟩ => ⟨_, k⟩

/-- The parts between the marks. -/
def partsOf (l : List UInt8) (c : UInt8) : List ByteArray := Lib.splitB (mkS [c]) 0 (Lib.countB (mkS l) (mkS [c])) (mkS l)
theorem partsOf_len (l : List UInt8) (c : UInt8) : (partsOf l c).length = Lib.countB (mkS l) (mkS [c]) + 1 := Lib.splitB_all _ (by simp [mkS_size]) 0 _ _ rfl
theorem split_call (l : List UInt8) (c : UInt8) (w : World) (hl : l.length < 4294967281) (hM : MaxW w) :
    Calls Tryz.prog 22 #[.string (mkS l), .string ⟨#[c]⟩] w fun e w' =>
      e = .returned (.slice (some ⟨w.heap.size, 0, none⟩) (partsOf l c).length (partsOf l c).length) ∧ w' = w.alloc (.cells ((partsOf l c).map Value.string).toArray 9) := by
  obtain ⟨m, hm⟩ := hM
  refine (Tryz.strings_Split (mkS l) (mkS [c]) m w (by rw [mkS_size]; exact hl) hm (by simp [mkS_size])).mono ?_
  rintro e w' ⟨he, hw⟩
  rw [partsOf_len]
  exact ⟨he, hw⟩
end Go.Proofs.YtgpchkobjgglhaaGreatDoor
