/- ManifestNames: any number as a name, any name as a number: the program's answers and the page's are the same. -/
import Derived.Test.YtibpnlhdpdfhiaaDoorFrManifestNamesZ
import Derived.Test.YtibpnlhdpdfhiaaDoorManAwakeZ
import Derived.Test.YtibpnlhdpdfhiaaDoorManArgsZ
set_option linter.unusedVariables false
namespace Go.Proofs.YtibpnlhdpdfhiaaDoor
open Go.ChangeShapes Go.WideShapes Go.ChangeAt Go.RowKit

set_option maxRecDepth 20000 in
set_option maxHeartbeats 4000000 in
theorem mnames_walk (n : Int) (l : List UInt8) (w : World) (h0 : -9223372036854775808 ≤ n) (h1 : n ≤ 9223372036854775807) (hl : l.length ≤ 281474976710656) (hT : TabW w) (hE : ErrW w) :
    Calls Tryd.prog 5 #[.int .i64 n, .string (mkS l)] w fun e w' => e = .returned (.bool true) ∧ Touch w w' (fun _ => False) := by
  have HN := Lib.hid (mnum_any l w hl hT hE)
  have HRN := Lib.hid (fun W => rmnum_any l W hl)
  have HA : RowKit.Hid (∀ W, Touch w W (fun _ => False) → Calls Tryd.prog 23 #[.int .i64 n] W fun e w' => e = .returned (.string (mkS (nameM n))) ∧ Touch w w' (fun _ => False)) := Lib.hid (fun W h => (mname_any n W h0 h1 (hT.touch h)).mono fun e w' k => ⟨k.1, h.trans k.2 (fun _ _ h => h)⟩)
  have HB : RowKit.Hid (∀ W, Touch w W (fun _ => False) → Calls Tryd.prog 24 #[.int .i64 n] W fun e w' => e = .returned (.string (mkS (nameM n))) ∧ Touch w w' (fun _ => False)) := Lib.hid (fun W h => (rmname_any n W h0 h1 (hT.touch h)).mono fun e w' k => ⟨k.1, h.trans k.2 (fun _ _ h => h)⟩)
  have HC : RowKit.Hid (∀ W, Touch w W (fun _ => False) → Calls Tryd.prog 17 #[] W fun e w' => e = .returned (.bool true) ∧ Touch w w' (fun _ => False)) := Lib.hid (fun W h => (awake5 W (hT.touch h)).mono fun e w' k => ⟨k.1, h.trans k.2 (fun _ _ h => h)⟩)
  have HV := Lib.hid (segV_no (l := l))
  have hss : ((mkS (nameM n)).toList == (mkS (nameM n)).toList) = true := beq_self_eq_true _
  generalize mkS (nameM n) = st at *
  generalize mkS l = s at *
  clear hT hE
  cases hb : segB l with
  | true =>
    have hv : (segV l == segV l) = true := beq_self_eq_true _
    rw [hb] at HN HRN
    generalize segV l = v at *
    clear HV hb
    go_enter Tryd.func5, Tryd.ntmps5
    go_wp2_with (first
      | (go_at_call 21; (with_reducible refine HN.out.mono ?_); rintro e w1 ⟨rfl, t1⟩; have T1 := Lib.hid t1)
      | (go_at_call 22; (with_reducible refine (HRN.out _).mono ?_); rintro e w2 ⟨rfl, rfl⟩)
      | (go_at_call 23; (with_reducible refine (HA.out _ T1.out).mono ?_); rintro e w3 ⟨rfl, t3⟩; have T3 := Lib.hid t3)
      | (go_at_call 24; (with_reducible refine (HB.out _ T3.out).mono ?_); rintro e w4 ⟨rfl, t4⟩; have T4 := Lib.hid t4)
      | (go_at_call 17; (with_reducible refine (HC.out _ T4.out).mono ?_); rintro e w5 ⟨rfl, t5⟩))
    go_ret
    exact ⟨rfl, t5⟩
  | false =>
    rw [hb] at HN HRN
    have hv0 := HV.out hb
    rw [hv0] at HN HRN
    clear HV hb hv0
    go_enter Tryd.func5, Tryd.ntmps5
    go_wp2_with (first
      | (go_at_call 21; (with_reducible refine HN.out.mono ?_); rintro e w1 ⟨rfl, t1⟩; have T1 := Lib.hid t1)
      | (go_at_call 22; (with_reducible refine (HRN.out _).mono ?_); rintro e w2 ⟨rfl, rfl⟩)
      | (go_at_call 23; (with_reducible refine (HA.out _ T1.out).mono ?_); rintro e w3 ⟨rfl, t3⟩; have T3 := Lib.hid t3)
      | (go_at_call 24; (with_reducible refine (HB.out _ T3.out).mono ?_); rintro e w4 ⟨rfl, t4⟩; have T4 := Lib.hid t4)
      | (go_at_call 17; (with_reducible refine (HC.out _ T4.out).mono ?_); rintro e w5 ⟨rfl, t5⟩))
    go_ret
    exact ⟨rfl, t5⟩
theorem manifestNames_holds : Rows.ManifestNamesCardSaid := by
  refine manifestNames.said fun H enc W base v0 v1 d0 d1 p0 p1 h0 h1 hT hE hM => ?_
  obtain ⟨n, rfl, n0, n1, _⟩ := h0.i64 Tryd.underlying3
  obtain ⟨s, rfl, hs⟩ := h1.text Tryd.underlying9
  rw [reach_num] at hs
  have hlen := mkS_size s.data.toList
  rw [mkS_of] at hlen
  have := mnames_walk n s.data.toList W n0 n1 (by omega) hT hE
  rw [mkS_of] at this
  exact this.mono fun e w' h => ⟨h.1, h.2.under (Nat.le_refl _)⟩
end Go.Proofs.YtibpnlhdpdfhiaaDoor
