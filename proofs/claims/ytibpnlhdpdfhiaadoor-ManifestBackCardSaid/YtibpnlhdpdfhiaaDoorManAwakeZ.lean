/- The known manifest: awake answers true. -/
import Derived.Test.YtibpnlhdpdfhiaaDoorManMathZ
import Derived.Test.YtibpnlhdpdfhiaaDoorManNameZ
set_option linter.unusedVariables false
set_option linter.unusedSimpArgs false
namespace Go.Proofs.YtibpnlhdpdfhiaaDoor
open Go.RowKit

theorem name7 : nameM 7 = [115, 48, 48, 48, 48, 48, 55] := by
  have h7 : Lib.itoa ((7 : Nat) : Int) = [55] := by rw [Lib.itoa_nonneg, Lib.decDigits_one (by decide)]; rfl
  have h7' : Lib.itoa 7 = [55] := h7
  unfold nameM
  rw [if_pos (by omega), h7']; rfl
theorem row7 (w : World) : RowI (w.alloc (.cells #[.int .i64 7] 3)) (some ⟨w.heap.size, 0, none⟩) 1 1 [7] := by
  refine ⟨rfl, Nat.le_refl _, by decide, fun z hz => by simp at hz; omega, .inr ⟨w.heap.size, 0, rfl, by simp, fun i hi => ?_⟩⟩
  have hi : i = 0 := by simpa using hi
  subst hi
  exact cell_of_cells (heap_alloc_new w _) 0
set_option maxRecDepth 20000 in
set_option maxHeartbeats 2000000 in
theorem awake5 (w : World) (hT : TabW w) :
    Calls Tryd.prog 17 #[] w fun e w' => e = .returned (.bool true) ∧ Touch w w' (fun _ => False) := by
  obtain ⟨W1, hW1⟩ : ∃ W, w.alloc (.cells #[.int .i64 7] 3) = W := ⟨_, rfl⟩
  have t1 : Touch w W1 (fun _ => False) := hW1 ▸ (Touch.refl _ _).alloc _
  have hE := menc_any 2 8 _ 1 1 [7] W1 (hW1 ▸ row7 w)
  obtain ⟨d1, d2, d3, d4⟩ := dec_encM 2 8 [7] (by decide)
  have he : encE 2 8 [7] = 0 := by decide
  have hl : (encM 2 8 [7]).length = 26 := by
    have e : encM 2 8 [7] = frmF 100 2 (bodyM 8 [7]) := by unfold encM; rw [if_pos (by decide)]
    rw [e, frmF_length, bodyM_length]; rfl
  unfold EncMIs at hE
  rw [he, hl] at hE
  have HE := Lib.hid hE
  have HDE : RowKit.Hid (∀ a c W, RowB W a 26 c (encM 2 8 [7]) → Calls Tryd.prog 19 #[.slice a 26 c] W fun e w' => ∃ a' c', e = .returned (.tuple #[.agg #[.int .i64 2, .int .i64 8, .slice a' 1 c'], .int .i64 0]) ∧ Touch W w' (fun _ => False)) := Lib.hid (fun a c W h => by
    refine (mdec_any a 26 c _ W h (by omega)).mono ?_
    rintro e w' ⟨a', c', he, _, _, t⟩
    refine ⟨a', c', ?_, t⟩
    rw [he, d1, d2, d3, d4]; rfl)
  have HN : RowKit.Hid (∀ W, TabW W → Calls Tryd.prog 23 #[.int .i64 7] W fun e w' => e = .returned (.string (mkS [115, 48, 48, 48, 48, 48, 55])) ∧ Touch W w' (fun _ => False)) := Lib.hid (fun W h => by
    have := mname_any 7 W (by omega) (by omega) h
    rwa [name7] at this)
  generalize encM 2 8 [7] = Y at *
  simp only [mkS] at HN
  have HT1 := Lib.hid t1
  have HTB := Lib.hid hT
  have HW1 := Lib.hid hW1
  have hwv : ∀ n : Nat, n < 100 → True := fun _ _ => trivial
  clear hE t1 hT hW1 d1 d2 d3 d4 he hl hwv
  go_enter Tryd.func17, Tryd.ntmps17
  go_upto_region 2 with (go_at_call 11; rw [HW1.out]; (with_reducible refine HE.out.mono ?_); rintro e w2 ⟨a2, c2, rfl, hf2⟩; have HR2 := Lib.hid hf2.row'.2; have HT2 := Lib.hid (HT1.out.trans hf2.2 (fun _ _ h => h)); clear hf2)
  go_upto_region 3 with (go_at_call 19; (with_reducible refine (HDE.out _ _ _ HR2.out).mono ?_); rintro e w3 ⟨a3, c3, rfl, t3⟩; have HT3 := Lib.hid (HT2.out.trans t3 (fun _ _ h => h)); clear t3)
  obtain ⟨W4, hW4⟩ : ∃ W, w3.alloc (.cells (mcs 2 8 a3 1 c3) 24) = W := ⟨_, rfl⟩
  have t4 : Touch w3 W4 (fun _ => False) := hW4 ▸ (Touch.refl _ _).alloc _
  obtain ⟨c0, c1, c4⟩ := mcells_of (hW4 ▸ heap_alloc_new w3 _ : W4.heap[w3.heap.size]? = some (.cells (mcs 2 8 a3 1 c3) 24 (0, 0)))
  have HT4 := Lib.hid (HT3.out.trans t4 (fun _ _ h => h))
  have HTB4 := Lib.hid (HTB.out.touch HT4.out)
  simp only [mcs] at hW4
  rw [hW4]
  clear t4 hW4
  go_wp2_with (go_at_call 23; (with_reducible refine (HN.out _ HTB4.out).mono ?_); rintro e w5 ⟨rfl, t5⟩)
  go_ret
  exact ⟨rfl, HT4.out.trans t5 (fun _ _ h => h)⟩
end Go.Proofs.YtibpnlhdpdfhiaaDoor
