/- SumTwo answers true for any two numbers: of two bytes the sum has all bits turned; of four it is theirs added. No condition. -/
import Derived.Test.YtaghpjemoofplaaSumAwake
import Derived.Test.YtaghpjemoofplaaFrSumTwo
import Derived.Test.YtaghpjemoofplaaBytes
set_option linter.unusedVariables false
namespace Go.Proofs.Ytaghpjemoofplaa
open Go.RowKit

set_option maxHeartbeats 2000000 in
theorem two_walk (x y : Int) (w : World) (hx : 0 ≤ x ∧ x ≤ 65535) (hy : 0 ≤ y ∧ y ≤ 65535) :
    Calls Try.prog 9 #[.int .u16 x, .int .u16 y] w fun e w' => e = .returned (.bool true) ∧ Below w.heap.size w w' := by
  have n1 := not16 x hx.1 hx.2
  have hg : IntKind.u16.signed = false := rfl
  have hnet : Hid (netF [(x / 256).toNat, (x % 256).toNat] = 65535 - x) := Lib.hid (by
    rw [netF_eq]; simp only [sum16]; rw [lowF_small _ (by omega) (by omega)]; omega)
  have hfx : Hid (foldF x = 65535 - x) := Lib.hid (by unfold foldF; rw [lowF_small _ hx.1 hx.2])
  by_cases hc : x + y ≤ 65535
  · have n2 := not16 (x + y) (by omega) hc
    have hnet4 : Hid (netF [(x / 256).toNat, (x % 256).toNat, (y / 256).toNat, (y % 256).toNat] = 65535 - (x + y)) := Lib.hid (by
      rw [netF_eq]; simp only [sum16]; unfold lowF; split <;> omega)
    go_enter Try.func9, Try.ntmps9
    go_wp2_with fail
    refine (net_any _ _ _ [(x / 256).toNat, (x % 256).toNat] _ (RowB.new w _ rfl _ _ _ 2 _ rfl (by omega) (by intro z hz; simp at hz; omega) (by
      intro i hi
      match i, hi with
      | 0, _ => simp; omega
      | 1, _ => simp; omega))).mono ?_
    rintro e w1 ⟨rfl, n, rfl⟩
    rw [hnet.out]
    clear hnet
    have hb1 : Below w.heap.size w ((w.alloc (Obj.cells #[Value.int IntKind.u8 (x / 256), Value.int IntKind.u8 (x % 256)] 5)).drewN n) := below_drewN' (Below.alloc (Below.refl _ _) (Nat.le_refl _) _) _
    have hown := (OwnB.lit w _ rfl w.heap.size (Nat.le_refl _) 5 #[Value.int IntKind.u8 (x / 256), Value.int IntKind.u8 (x % 256)] 2 [(x / 256).toNat, (x % 256).toNat] (by simp [cellB]; omega) rfl (by intro z hz; simp at hz; omega) (by decide)).drewN n
    have hsz : ((w.alloc (Obj.cells #[Value.int IntKind.u8 (x / 256), Value.int IntKind.u8 (x % 256)] 5)).drewN n).heap.size = w.heap.size + 1 := by simp
    generalize (w.alloc (Obj.cells #[Value.int IntKind.u8 (x / 256), Value.int IntKind.u8 (x % 256)] 5)).drewN n = w2 at *
    have hs1 : w.heap.size + 1 ≤ w2.heap.size := by omega
    have HSZ := Lib.hid hsz
    clear hsz
    go_wp2_with (at_builtin; refine wpList_appendB rfl _ _ 22 rfl 5 Try.underlying22 infoB w.heap.size (.slice (some ⟨w.heap.size, 0, none⟩) 2 2) [(x / 256).toNat, (x % 256).toNat] rfl (hown.alloc _) _ _ _ [(y / 256).toNat, (y % 256).toNat] rfl (RowB.new w2 _ rfl _ _ _ 2 _ rfl (by omega) (by intro z hz; simp at hz; omega) (by
      intro i hi
      match i, hi with
      | 0, _ => simp; omega
      | 1, _ => simp; omega)) 4 [(x / 256).toNat, (x % 256).toNat, (y / 256).toNat, (y % 256).toNat] rfl rfl (by omega) (by simp; omega) w.heap.size w (hb1.alloc (by omega) _) (Nat.le_refl _) ?_; intro a9 c9 w9 hown9 hr9 hg9 hb9 hs9 hp9)
    refine (net_any _ _ _ [(x / 256).toNat, (x % 256).toNat, (y / 256).toNat, (y % 256).toNat] _ hr9).mono ?_
    rintro e w4 ⟨rfl, n2, rfl⟩
    rw [hnet4.out]
    go_wp2_with (first | (go_at_call 14; refine (fold_any _ _ (by omega) (by omega)).mono ?_; rintro e w' ⟨rfl, n3, rfl⟩; rw [hfx.out]) | (go_at_call 22; refine (awake_any _).mono ?_; rintro e w' ⟨rfl, hbz⟩))
    go_ret
    exact ⟨rfl, (below_drewN' hb9 _).trans (hbz.mono (by have := hb9.size; simp; omega))⟩
  · have n2 := not16 (x + y - 65535) (by omega) (by omega)
    have hc' : 65535 < x + y := by omega
    have hnet4 : Hid (netF [(x / 256).toNat, (x % 256).toNat, (y / 256).toNat, (y % 256).toNat] = 65535 - (x + y - 65535)) := Lib.hid (by
      rw [netF_eq]; simp only [sum16]; unfold lowF; split <;> omega)
    go_enter Try.func9, Try.ntmps9
    go_wp2_with fail
    refine (net_any _ _ _ [(x / 256).toNat, (x % 256).toNat] _ (RowB.new w _ rfl _ _ _ 2 _ rfl (by omega) (by intro z hz; simp at hz; omega) (by
      intro i hi
      match i, hi with
      | 0, _ => simp; omega
      | 1, _ => simp; omega))).mono ?_
    rintro e w1 ⟨rfl, n, rfl⟩
    rw [hnet.out]
    clear hnet
    have hb1 : Below w.heap.size w ((w.alloc (Obj.cells #[Value.int IntKind.u8 (x / 256), Value.int IntKind.u8 (x % 256)] 5)).drewN n) := below_drewN' (Below.alloc (Below.refl _ _) (Nat.le_refl _) _) _
    have hown := (OwnB.lit w _ rfl w.heap.size (Nat.le_refl _) 5 #[Value.int IntKind.u8 (x / 256), Value.int IntKind.u8 (x % 256)] 2 [(x / 256).toNat, (x % 256).toNat] (by simp [cellB]; omega) rfl (by intro z hz; simp at hz; omega) (by decide)).drewN n
    have hsz : ((w.alloc (Obj.cells #[Value.int IntKind.u8 (x / 256), Value.int IntKind.u8 (x % 256)] 5)).drewN n).heap.size = w.heap.size + 1 := by simp
    generalize (w.alloc (Obj.cells #[Value.int IntKind.u8 (x / 256), Value.int IntKind.u8 (x % 256)] 5)).drewN n = w2 at *
    have hs1 : w.heap.size + 1 ≤ w2.heap.size := by omega
    have HSZ := Lib.hid hsz
    clear hsz
    go_wp2_with (at_builtin; refine wpList_appendB rfl _ _ 22 rfl 5 Try.underlying22 infoB w.heap.size (.slice (some ⟨w.heap.size, 0, none⟩) 2 2) [(x / 256).toNat, (x % 256).toNat] rfl (hown.alloc _) _ _ _ [(y / 256).toNat, (y % 256).toNat] rfl (RowB.new w2 _ rfl _ _ _ 2 _ rfl (by omega) (by intro z hz; simp at hz; omega) (by
      intro i hi
      match i, hi with
      | 0, _ => simp; omega
      | 1, _ => simp; omega)) 4 [(x / 256).toNat, (x % 256).toNat, (y / 256).toNat, (y % 256).toNat] rfl rfl (by omega) (by simp; omega) w.heap.size w (hb1.alloc (by omega) _) (Nat.le_refl _) ?_; intro a9 c9 w9 hown9 hr9 hg9 hb9 hs9 hp9)
    refine (net_any _ _ _ [(x / 256).toNat, (x % 256).toNat, (y / 256).toNat, (y % 256).toNat] _ hr9).mono ?_
    rintro e w4 ⟨rfl, n2, rfl⟩
    rw [hnet4.out]
    go_wp2_with (first | (go_at_call 14; refine (fold_any _ _ (by omega) (by omega)).mono ?_; rintro e w' ⟨rfl, n3, rfl⟩; rw [hfx.out]) | (go_at_call 22; refine (awake_any _).mono ?_; rintro e w' ⟨rfl, hbz⟩))
    go_ret
    exact ⟨rfl, (below_drewN' hb9 _).trans (hbz.mono (by have := hb9.size; simp; omega))⟩

theorem sumTwo_holds : Rows.SumTwoSaid := by
  refine sumTwo.said fun H enc W base v0 v1 d0 d1 p0 p1 h0 h1 => ?_
  obtain ⟨x, rfl, hx, hx2, _⟩ := h0.u16 Try.underlying24
  obtain ⟨y, rfl, hy, hy2, _⟩ := h1.u16 Try.underlying24
  exact two_walk x y W ⟨hx, hx2⟩ ⟨hy, hy2⟩
end Go.Proofs.Ytaghpjemoofplaa
