/- Frames: their bytes, and what Put of package frame answers. -/
import Derived.Test.YtjmhfbfpndpkkaaWrE
import Derived.Test.YtjmhfbfpndpkkaaAgg
import Derived.Test.YtjmhfbfpndpkkaaSumWalk2
import Derived.Test.YtjmhfbfpndpkkaaOctTwo
set_option linter.unusedVariables false
namespace Go.Proofs.Ytjmhfbfpndpkkaa
open Go.RowKit

def frmHead (k v : Int) (n : Nat) : List Nat := [103, 111, 105, 116] ++ beB 1 (u64N k) ++ beB 1 (u64N v) ++ beB 2 (u64N n)
def frmF (k v : Int) (ys : List Nat) : List Nat := frmHead k v ys.length ++ beB 4 (u64N (crcF (frmHead k v ys.length))) ++ beB 4 (u64N (crcF ys)) ++ ys
def putE (k v : Int) (n : Nat) : Nat := if k < 0 ∨ 255 < k ∨ v < 0 ∨ 255 < v then 1 else if 4096 < n then 4 else 0
def putF (k v : Int) (ys : List Nat) : List Nat := if putE k v ys.length = 0 then frmF k v ys else []
theorem frmHead_length (k v : Int) (n : Nat) : (frmHead k v n).length = 8 := by simp [frmHead, beB_length]
theorem frmF_length (k v : Int) (ys : List Nat) : (frmF k v ys).length = 16 + ys.length := by simp [frmF, frmHead_length, beB_length]; omega
theorem frmHead_small (k v : Int) (n : Nat) : ∀ x ∈ frmHead k v n, x < 256 := by
  intro x hx
  simp only [frmHead, List.mem_append] at hx
  rcases hx with ((hx | hx) | hx) | hx
  · simp at hx; omega
  · exact beB_small _ _ x hx
  · exact beB_small _ _ x hx
  · exact beB_small _ _ x hx
theorem frmF_small (k v : Int) (ys : List Nat) (h : ∀ x ∈ ys, x < 256) : ∀ x ∈ frmF k v ys, x < 256 := by
  intro x hx
  simp only [frmF, List.mem_append] at hx
  rcases hx with ((hx | hx) | hx) | hx
  · exact frmHead_small _ _ _ x hx
  · exact beB_small _ _ x hx
  · exact beB_small _ _ x hx
  · exact h x hx

/-- What Put hands back. -/
def PutIs (w w' : World) (k v : Int) (ys : List Nat) (e : Ending) : Prop :=
  ∃ a' cap', e = .returned (.tuple #[.slice a' (putF k v ys).length cap', .int .i64 (putE k v ys.length : Nat)]) ∧ FreshB w w' (.slice a' (putF k v ys).length cap') (putF k v ys)
theorem PutIs.none {w w' : World} {k v : Int} {ys : List Nat} {n : Nat} (hn : putE k v ys.length = n) (h0 : n ≠ 0) (t : Touch w w' (fun _ => False)) : PutIs w w' k v ys (.returned (.tuple #[.slice Option.none 0 0, .int .i64 (n : Nat)])) := by
  have e : putF k v ys = [] := by unfold putF; rw [if_neg (by omega)]
  refine ⟨Option.none, 0, ?_, ?_⟩
  · rw [e, hn]; rfl
  · rw [e]; exact ⟨OwnB.nil _ _ _, t⟩
theorem fresh_nil {w w' : World} (t : Touch w w' (fun _ => False)) : FreshB w w' (.slice none 0 0) [] := ⟨OwnB.nil _ _ _, t⟩

theorem isOct_yes (n : Int) (w : World) (h : 0 ≤ n) (h2 : n ≤ 255) :
    Calls Try.prog 20 #[.int .i64 n] w fun e w' => e = .returned (.bool true) ∧ w = w' := by
  go_enter Try.func20, Try.ntmps20
  go_wp2
  go_ret
  exact ⟨rfl, rfl⟩
theorem isOct_no (n : Int) (w : World) (h : n < 0 ∨ 255 < n) :
    Calls Try.prog 20 #[.int .i64 n] w fun e w' => e = .returned (.bool false) ∧ w = w' := by
  rcases h with h | h
  · have h' : ¬ 0 ≤ n := by omega
    go_enter Try.func20, Try.ntmps20
    go_wp2
    go_ret
    exact ⟨rfl, rfl⟩
  · have h' : ¬ n ≤ 255 := by omega
    have h0 : 0 ≤ n := by omega
    go_enter Try.func20, Try.ntmps20
    go_wp2
    go_ret
    exact ⟨rfl, rfl⟩

/-- A frame's cells. -/
def fcs (k v : Int) (a : Option Addr) (len cap : Nat) : Array Value := #[.int .i64 k, .int .i64 v, .slice a len cap]
theorem fcells_of {w : World} {B : Nat} {k v : Int} {a : Option Addr} {len cap : Nat} (hb : w.heap[B]? = some (.cells (fcs k v a len cap) 24 (0, 0))) :
    w.cell? ⟨B, 0, none⟩ = some (.int .i64 k) ∧ w.cell? ⟨B, 1, none⟩ = some (.int .i64 v) ∧ w.cell? ⟨B, 2, none⟩ = some (.slice a len cap) :=
  ⟨cell_of_cells hb 0, cell_of_cells hb 1, cell_of_cells hb 2⟩

set_option maxHeartbeats 2000000 in
theorem put_bad (k v : Int) (a : Option Addr) (len cap : Nat) (ys : List Nat) (w : World) (hr : RowB w a len cap ys) (hy : putE k v len ≠ 0) :
    Calls Try.prog 9 #[.agg #[.int .i64 k, .int .i64 v, .slice a len cap]] w fun e w' => PutIs w w' k v ys e := by
  have hl := hr.1
  subst hl
  have t1 : Touch w (w.alloc (.cells (fcs k v a ys.length cap) 24)) (fun _ => False) := (Touch.refl _ _).alloc _
  have T1 := Lib.hid t1
  clear hr t1
  by_cases hk : 0 ≤ k ∧ k ≤ 255
  · obtain ⟨hk0, hk1⟩ := hk
    by_cases hv : 0 ≤ v ∧ v ≤ 255
    · obtain ⟨hv0, hv1⟩ := hv
      have h4 : putE k v ys.length = 4 := by
        unfold putE at hy ⊢
        rw [if_neg (by omega)] at hy ⊢
        by_cases h : 4096 < ys.length
        · rw [if_pos h]
        · rw [if_neg h] at hy; omega
      have hlong : (4096 : Int) < ys.length := by
        unfold putE at h4
        rw [if_neg (by omega)] at h4
        by_cases h : 4096 < ys.length
        · omega
        · rw [if_neg h] at h4; omega
      have H4 := Lib.hid h4
      clear h4 hy
      go_enter Try.func9, Try.ntmps9
      go_wp2_with (go_at_call 20; (with_reducible refine (isOct_yes _ _ (by omega) (by omega)).mono ?_); rintro e w' ⟨rfl, rfl⟩)
      go_ret2
      exact PutIs.none H4.out (by decide) T1.out
    · have hv' : v < 0 ∨ 255 < v := by omega
      have h1 : putE k v ys.length = 1 := by
        unfold putE
        rw [if_pos (by omega)]
      have H4 := Lib.hid h1
      have HV := Lib.hid hv'
      clear h1 hy hv hv'
      go_enter Try.func9, Try.ntmps9
      go_wp2_with (go_at_call 20; first | ((with_reducible refine (isOct_yes k _ hk0 hk1).mono ?_); rintro e w' ⟨rfl, rfl⟩) | ((with_reducible refine (isOct_no v _ HV.out).mono ?_); rintro e w' ⟨rfl, rfl⟩))
      go_ret2
      exact PutIs.none H4.out (by decide) T1.out
  · have hk' : k < 0 ∨ 255 < k := by omega
    have h1 : putE k v ys.length = 1 := by
      unfold putE
      rw [if_pos (by omega)]
    have H4 := Lib.hid h1
    have HV := Lib.hid hk'
    clear h1 hy hk hk'
    go_enter Try.func9, Try.ntmps9
    go_wp2_with (go_at_call 20; (with_reducible refine (isOct_no k _ HV.out).mono ?_); rintro e w' ⟨rfl, rfl⟩)
    go_ret2
    exact PutIs.none H4.out (by decide) T1.out
/-- A row that was just laid, with the mark of a constant behind it. -/
theorem row_mark (w : World) (cs : Array Value) (m : Nat × Nat) (n : Nat) (xs : List Nat) (hcs : cs.toList = xs.map cellB) (hn : xs.length = n) (hx : ∀ x ∈ xs, x < 256) (hs : n ≤ 281474976710656) :
    RowB (w.alloc (.cells cs 5 m)) (some ⟨w.heap.size, 0, none⟩) n n xs := by
  refine RowB.new w _ rfl cs _ m n xs hn hs hx (fun i hi => ?_)
  have := congrArg (fun l : List Value => l[i]?) hcs
  simp only [List.getElem?_map, List.getElem?_eq_getElem hi] at this
  simpa [cellB] using this
theorem Touch.under {w w' : World} {B : Nat} (t : Touch w w' (fun _ => False)) (h : B ≤ w.heap.size) : Below B w w' := t.below (fun _ _ h => h.elim) h
theorem FreshB.row' {w w' : World} {a : Option Addr} {n c : Nat} {xs : List Nat} (h : FreshB w w' (.slice a n c) xs) : xs.length = n ∧ RowB w' a n c xs := by
  obtain ⟨a', c', hv, hr⟩ := h.row
  simp only [Value.slice.injEq] at hv
  obtain ⟨rfl, hn, rfl⟩ := hv
  rw [hn]
  exact ⟨rfl, hr⟩
end Go.Proofs.Ytjmhfbfpndpkkaa
