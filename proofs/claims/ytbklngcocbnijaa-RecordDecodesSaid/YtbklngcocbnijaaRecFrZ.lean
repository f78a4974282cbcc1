/- Frames of records: are two the same? -/
import Derived.Test.YtbklngcocbnijaaRecEncZ
import Derived.Test.YtbklngcocbnijaaGAZ
set_option linter.unusedVariables false
set_option linter.unusedSimpArgs false
namespace Go.Proofs.Ytbklngcocbnijaa
open Go.RowKit

theorem f3cells_of {w : World} {B : Nat} {k v : Int} {a : Option Addr} {n c : Nat} {T : TypeId} (hb : w.heap[B]? = some (.cells (f3 k v a n c) T (0, 0))) :
    w.cell? ⟨B, 0, none⟩ = some (.int .i64 k) ∧ w.cell? ⟨B, 1, none⟩ = some (.int .i64 v) ∧ w.cell? ⟨B, 2, none⟩ = some (.slice a n c) := ⟨cell_of_cells hb 0, cell_of_cells hb 1, cell_of_cells hb 2⟩
def eqB (xs ys : List Nat) : Bool := decide (xs = ys)
def sameFB (k v : Int) (xs : List Nat) (k2 v2 : Int) (ys : List Nat) : Bool := decide (k = k2) && (decide (v = v2) && eqB xs ys)
theorem eq_str (xs ys : List Nat) (hx : ∀ x ∈ xs, x < 256) (hy : ∀ y ∈ ys, y < 256) : ((strB xs).toList == (strB ys).toList) = eqB xs ys := by
  unfold eqB
  by_cases h : xs = ys
  · subst h; simp
  · have : ¬ (strB xs).toList = (strB ys).toList := fun e => h (strB_inj' xs ys hx hy e)
    simp [h, this]
set_option maxHeartbeats 2000000 in
theorem sameFr_any (k v : Int) (a : Option Addr) (len cap : Nat) (xs : List Nat) (k2 v2 : Int) (a2 : Option Addr) (len2 cap2 : Nat) (ys : List Nat) (w : World) (hr : RowB w a len cap xs) (hr2 : RowB w a2 len2 cap2 ys) :
    Calls Try.prog 26 #[.agg #[.int .i64 k, .int .i64 v, .slice a len cap], .agg #[.int .i64 k2, .int .i64 v2, .slice a2 len2 cap2]] w fun e w' => e = .returned (.bool (sameFB k v xs k2 v2 ys)) ∧ Touch w w' (fun _ => False) := by
  obtain ⟨W1, hW1⟩ : ∃ W, w.alloc (.cells #[.int .i64 k, .int .i64 v, .slice a len cap] 39) = W := ⟨_, rfl⟩
  obtain ⟨W2, hW2⟩ : ∃ W, W1.alloc (.cells #[.int .i64 k2, .int .i64 v2, .slice a2 len2 cap2] 39) = W := ⟨_, rfl⟩
  have t1 : Touch w W1 (fun _ => False) := hW1 ▸ (Touch.refl _ _).alloc _
  have t2 : Touch W1 W2 (fun _ => False) := hW2 ▸ (Touch.refl _ _).alloc _
  have HH1 : W1.heap[w.heap.size]? = some (.cells (f3 k v a len cap) 39 (0, 0)) := hW1 ▸ heap_alloc_new w _
  have HH2 : W2.heap[W1.heap.size]? = some (.cells (f3 k2 v2 a2 len2 cap2) 39 (0, 0)) := hW2 ▸ heap_alloc_new W1 _
  have T := t1.trans t2 (fun _ _ h => h)
  have HT := Lib.hid T
  obtain ⟨c0, c1, c2⟩ := f3cells_of (t2.keeps HH1 (fun h => h))
  obtain ⟨d0, d1, d2⟩ := f3cells_of HH2
  have g1 := hr.touch T (fun _ _ => .inr (fun h => h))
  have g2 := hr2.touch T (fun _ _ => .inr (fun h => h))
  have G1 := Lib.hid g1
  have G2 := Lib.hid g2
  have h1 := str_row g1
  have h2 := str_row g2
  have h3 := eq_str xs ys hr.2.2.2.2.1 hr2.2.2.2.2.1
  clear hr hr2 t1 t2 HH1 HH2 T g1 g2
  by_cases hk : k = k2
  case neg =>
    have hb : (k == k2) = false := beq_eq_false_iff_ne.2 hk
    have he : sameFB k v xs k2 v2 ys = false := by simp [sameFB, hk]
    rw [he]
    clear he hk
    go_enter Try.func26, Try.ntmps26
    go_wp2
    go_ret
    exact ⟨rfl, HT.out⟩
  case pos =>
  by_cases hv : v = v2
  case neg =>
    have hb : (k == k2) = true := beq_iff_eq.2 hk
    have hb2 : (v == v2) = false := beq_eq_false_iff_ne.2 hv
    have he : sameFB k v xs k2 v2 ys = false := by simp [sameFB, hv]
    rw [he]
    clear he hk hv
    go_enter Try.func26, Try.ntmps26
    go_wp2
    go_ret
    exact ⟨rfl, HT.out⟩
  case pos =>
    have hb : (k == k2) = true := beq_iff_eq.2 hk
    have hb2 : (v == v2) = true := beq_iff_eq.2 hv
    have he : sameFB k v xs k2 v2 ys = eqB xs ys := by simp [sameFB, hk, hv]
    rw [he]
    clear he hk hv
    go_enter Try.func26, Try.ntmps26
    go_wp2
    go_ret
    exact ⟨rfl, HT.out⟩
end Go.Proofs.Ytbklngcocbnijaa
