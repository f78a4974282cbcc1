/- The reference's Set, whole. -/
import Derived.Test.YtdjkjdeaglimeaaDueRSetB
set_option linter.unusedVariables false
set_option linter.unusedSimpArgs false
namespace Go.Proofs.Ytdjkjdeaglimeaa
open Go.RowKit

set_option maxRecDepth 20000 in
set_option maxHeartbeats 8000000 in
theorem rset_any (w : World) (b : Nat) (a : Option Addr) (c : Nat) (L : List QR) (q : RQ w b a c L) (hl : L.length ≤ 1024) (hs : SortQ L) (hnd : (L.map QR.key).Nodup) (k : ByteArray) (t : Int) :
    Calls Try.prog 14 #[.pointer (some ⟨b, 0, none⟩), .string k, .int .i64 t] w fun e w' => e = .returned (.int .i64 (setE L k t)) ∧ RStep w w' b a (setQ L k t) := by
  have HQ := Lib.hid q
  have HSELF : RowKit.Hid (RStep w w b a L) := Lib.hid ⟨a, c, q, Touch.refl _ _, fun y hy => .inr ⟨y, hy, rfl⟩⟩
  have HTI := Lib.hid (rtime_any w t)
  have HAT := Lib.hid (rat_any w b a c L q hl k)
  by_cases ht : t < 0 ∨ 1099511627776 < t
  · have e1 : setE L k t = 1 := by unfold setE; rw [if_pos ht]
    have e2 : setQ L k t = L := by unfold setQ; rw [e1, if_neg (by omega)]
    have hd : decide (0 ≤ t ∧ t ≤ 1099511627776) = false := by rw [decide_eq_false_iff_not]; omega
    rw [e1, e2]
    rw [hd] at HTI
    clear q e1 e2 hd ht
    go_enter Try.func14, Try.ntmps14
    go_wp2_with fail
    (with_reducible refine HTI.out.mono ?_)
    rintro e w' ⟨rfl, rfl⟩
    go_wp2_with fail
    go_ret
    exact ⟨rfl, HSELF.out⟩
  have hd : decide (0 ≤ t ∧ t ≤ 1099511627776) = true := by rw [decide_eq_true_iff]; omega
  rw [hd] at HTI
  clear hd
  by_cases hfull : hasQ L k = false ∧ 1024 ≤ L.length
  · have e1 : setE L k t = 9 := by unfold setE; rw [if_neg ht, hfull.1, if_neg (by decide), if_pos hfull.2]
    have e2 : setQ L k t = L := by unfold setQ; rw [e1, if_neg (by omega)]
    rw [e1, e2]
    rw [hfull.1] at HAT
    have hfI : (1024 : Int) ≤ L.length := by omega
    clear q e1 e2 hfull
    go_enter Try.func14, Try.ntmps14
    go_wp2_with fail
    (with_reducible refine HTI.out.mono ?_)
    rintro e w' ⟨rfl, rfl⟩
    go_wp2_with fail
    (with_reducible refine HAT.out.mono ?_)
    rintro e w1 ⟨rfl, t1⟩
    have c0 : w1.cell? ⟨b, 0, none⟩ = some (.slice a L.length c) := cell_of_cells (t1.keeps HQ.out.head (fun h => h)) 0
    have HST : RowKit.Hid (RStep w w1 b a L) := Lib.hid ⟨a, c, HQ.out.still t1, t1.mono (fun _ _ h => h.elim), fun y hy => .inr ⟨y, hy, rfl⟩⟩
    clear t1
    go_wp2_with fail
    go_ret
    exact ⟨rfl, HST.out⟩
  have e1 : setE L k t = 0 := by
    unfold setE
    rw [if_neg ht]
    cases hh : hasQ L k with
    | true => rfl
    | false =>
      have : ¬ 1024 ≤ L.length := fun h => hfull ⟨hh, h⟩
      simp [this]
  have e2 : setQ L k t = insQ ⟨k, t⟩ (delQ L k) := by unfold setQ; rw [if_pos e1]
  rw [e1, e2]
  cases hh : hasQ L k with
  | true => exact rset_yes w b a c L q hl hs hnd k t ht hh
  | false => exact rset_no w b a c L q hl hs hnd k t ht hh hfull
end Go.Proofs.Ytdjkjdeaglimeaa
