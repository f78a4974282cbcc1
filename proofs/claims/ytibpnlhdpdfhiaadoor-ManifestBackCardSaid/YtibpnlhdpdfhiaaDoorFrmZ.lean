/- Frames: their bytes, and what Put of package frame answers. -/
import Derived.Test.YtibpnlhdpdfhiaaDoorGBZ
import Derived.Test.YtibpnlhdpdfhiaaDoorGAZ
import Derived.Test.YtibpnlhdpdfhiaaDoorSumWalk2Z
set_option linter.unusedVariables false
namespace Go.Proofs.YtibpnlhdpdfhiaaDoor
open Go.RowKit

def frmHead (k v : Int) (n : Nat) : List Nat := [103, 111, 105, 116] ++ beB 1 (u64N k) ++ beB 1 (u64N v) ++ beB 2 (u64N n)
def frmF (k v : Int) (ys : List Nat) : List Nat := frmHead k v ys.length ++ beB 4 (u64N (crcF (frmHead k v ys.length))) ++ beB 4 (u64N (crcF ys)) ++ ys
def putE (k v : Int) (n : Nat) : Nat := if k < 0 ∨ 255 < k ∨ v < 0 ∨ 255 < v then 1 else if 4096 < n then 4 else 0
def putF (k v : Int) (ys : List Nat) : List Nat := if putE k v ys.length = 0 then frmF k v ys else []
theorem frmHead_length (k v : Int) (n : Nat) : (frmHead k v n).length = 8 := by simp [frmHead, beB_length]
theorem frmF_length (k v : Int) (ys : List Nat) : (frmF k v ys).length = 16 + ys.length := by simp [frmF, frmHead_length, beB_length]; omega
theorem frmHead_small (k v : Int) (n : Nat) : ∀ x ∈ frmHead k v n, x < 256 := by
  intro x hx
  simp only [frmHead, List.mem_append] at hx
  rcases hx with ((hx | hx) | hx) | hx
  · simp at hx; omega
  · exact beB_small _ _ x hx
  · exact beB_small _ _ x hx
  · exact beB_small _ _ x hx
theorem frmF_small (k v : Int) (ys : List Nat) (h : ∀ x ∈ ys, x < 256) : ∀ x ∈ frmF k v ys, x < 256 := by
  intro x hx
  simp only [frmF, List.mem_append] at hx
  rcases hx with ((hx | hx) | hx) | hx
  · exact frmHead_small _ _ _ x hx
  · exact beB_small _ _ x hx
  · exact beB_small _ _ x hx
  · exact h x hx

/-- What Put hands back. -/
def PutIs (w w' : World) (k v : Int) (ys : List Nat) (e : Ending) : Prop :=
  ∃ a' cap', e = .returned (.tuple #[.slice a' (putF k v ys).length cap', .int .i64 (putE k v ys.length : Nat)]) ∧ FreshB w w' (.slice a' (putF k v ys).length cap') (putF k v ys)
theorem PutIs.none {w w' : World} {k v : Int} {ys : List Nat} {n : Nat} (hn : putE k v ys.length = n) (h0 : n ≠ 0) (t : Touch w w' (fun _ => False)) : PutIs w w' k v ys (.returned (.tuple #[.slice Option.none 0 0, .int .i64 (n : Nat)])) := by
  have e : putF k v ys = [] := by unfold putF; rw [if_neg (by omega)]
  refine ⟨Option.none, 0, ?_, ?_⟩
  · rw [e, hn]; rfl
  · rw [e]; exact ⟨OwnB.nil _ _ _, t⟩

theorem isOct_yes (n : Int) (w : World) (h : 0 ≤ n) (h2 : n ≤ 255) :
    Calls Tryd.prog 70 #[.int .i64 n] w fun e w' => e = .returned (.bool true) ∧ w = w' := by
  go_enter Tryd.func70, Tryd.ntmps70
  go_wp2
  go_ret
  exact ⟨rfl, rfl⟩
theorem isOct_no (n : Int) (w : World) (h : n < 0 ∨ 255 < n) :
    Calls Tryd.prog 70 #[.int .i64 n] w fun e w' => e = .returned (.bool false) ∧ w = w' := by
  rcases h with h | h
  · have h' : ¬ 0 ≤ n := by omega
    go_enter Tryd.func70, Tryd.ntmps70
    go_wp2
    go_ret
    exact ⟨rfl, rfl⟩
  · have h' : ¬ n ≤ 255 := by omega
    have h0 : 0 ≤ n := by omega
    go_enter Tryd.func70, Tryd.ntmps70
    go_wp2
    go_ret
    exact ⟨rfl, rfl⟩

/-- A frame's cells. -/
def fcs (k v : Int) (a : Option Addr) (len cap : Nat) : Array Value := #[.int .i64 k, .int .i64 v, .slice a len cap]
theorem fcells_of {w : World} {B : Nat} {k v : Int} {a : Option Addr} {len cap : Nat} (hb : w.heap[B]? = some (.cells (fcs k v a len cap) 33 (0, 0))) :
    w.cell? ⟨B, 0, none⟩ = some (.int .i64 k) ∧ w.cell? ⟨B, 1, none⟩ = some (.int .i64 v) ∧ w.cell? ⟨B, 2, none⟩ = some (.slice a len cap) :=
  ⟨cell_of_cells hb 0, cell_of_cells hb 1, cell_of_cells hb 2⟩

set_option maxHeartbeats 2000000 in
theorem put_bad (k v : Int) (a : Option Addr) (len cap : Nat) (ys : List Nat) (w : World) (hr : RowB w a len cap ys) (hy : putE k v len ≠ 0) :
    Calls Tryd.prog 38 #[.agg #[.int .i64 k, .int .i64 v, .slice a len cap]] w fun e w' => PutIs w w' k v ys e := by
  have hl := hr.1
  subst hl
  have t1 : Touch w (w.alloc (.cells (fcs k v a ys.length cap) 33)) (fun _ => False) := (Touch.refl _ _).alloc _
  have T1 := Lib.hid t1
  clear hr t1
  by_cases hk : 0 ≤ k ∧ k ≤ 255
  · obtain ⟨hk0, hk1⟩ := hk
    by_cases hv : 0 ≤ v ∧ v ≤ 255
    · obtain ⟨hv0, hv1⟩ := hv
      have h4 : putE k v ys.length = 4 := by
        unfold putE at hy ⊢
        rw [if_neg (by omega)] at hy ⊢
        by_cases h : 4096 < ys.length
        · rw [if_pos h]
        · rw [if_neg h] at hy; omega
      have hlong : (4096 : Int) < ys.length := by
        unfold putE at h4
        rw [if_neg (by omega)] at h4
        by_cases h : 4096 < ys.length
        · omega
        · rw [if_neg h] at h4; omega
      have H4 := Lib.hid h4
      clear h4 hy
      go_enter Tryd.func38, Tryd.ntmps38
      go_wp2_with (go_at_call 70; (with_reducible refine (isOct_yes _ _ (by omega) (by omega)).mono ?_); rintro e w' ⟨rfl, rfl⟩)
      go_ret2
      exact PutIs.none H4.out (by decide) T1.out
    · have hv' : v < 0 ∨ 255 < v := by omega
      have h1 : putE k v ys.length = 1 := by
        unfold putE
        rw [if_pos (by omega)]
      have H4 := Lib.hid h1
      have HV := Lib.hid hv'
      clear h1 hy hv hv'
      go_enter Tryd.func38, Tryd.ntmps38
      go_wp2_with (go_at_call 70; first | ((with_reducible refine (isOct_yes k _ hk0 hk1).mono ?_); rintro e w' ⟨rfl, rfl⟩) | ((with_reducible refine (isOct_no v _ HV.out).mono ?_); rintro e w' ⟨rfl, rfl⟩))
      go_ret2
      exact PutIs.none H4.out (by decide) T1.out
  · have hk' : k < 0 ∨ 255 < k := by omega
    have h1 : putE k v ys.length = 1 := by
      unfold putE
      rw [if_pos (by omega)]
    have H4 := Lib.hid h1
    have HV := Lib.hid hk'
    clear h1 hy hk hk'
    go_enter Tryd.func38, Tryd.ntmps38
    go_wp2_with (go_at_call 70; (with_reducible refine (isOct_no k _ HV.out).mono ?_); rintro e w' ⟨rfl, rfl⟩)
    go_ret2
    exact PutIs.none H4.out (by decide) T1.out
end Go.Proofs.YtibpnlhdpdfhiaaDoor
