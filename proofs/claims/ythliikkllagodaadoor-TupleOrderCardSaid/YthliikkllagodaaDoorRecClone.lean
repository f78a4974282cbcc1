/- Records: a row of backends is copied; Plain of package record. -/
import Derived.Test.YthliikkllagodaaDoorRecPlain
set_option linter.unusedVariables false
set_option linter.unusedSimpArgs false
namespace Go.Proofs.YthliikkllagodaaDoor
open Go.RowKit

theorem bk_one (bs : List BkD) : ∀ l ∈ bs.map BkD.cells, ∀ u ∈ l, u.oneCell' = true := by
  intro l hl u hu
  obtain ⟨b, _, rfl⟩ := List.mem_map.1 hl
  simp only [BkD.cells, List.mem_cons, List.not_mem_nil, or_false] at hu
  rcases hu with rfl | rfl | rfl <;> rfl
theorem bk_three (bs : List BkD) : ∀ l ∈ bs.map BkD.cells, l.length = 3 := by
  intro l hl
  obtain ⟨b, _, rfl⟩ := List.mem_map.1 hl
  rfl
theorem setk2 {w : World} {n j : Nat} {v : Value} {o : Option Obj} (h : w.heap[n]? = o) : (w.setCell ⟨n + 1 + 1, j, none⟩ v).heap[n]? = o := by
  rw [heap_setCell_other _ _ _ _ (by simp; omega)]; exact h
set_option maxRecDepth 20000 in
set_option maxHeartbeats 1000000 in
theorem cloneK_any (a : Option Addr) (len cap : Nat) (bs : List BkD) (w : World) (hr : RowK w a len cap bs) (hlen : len ≤ 100000) :
    Calls Tryd.prog 89 #[.slice a len cap] w fun e w' => ∃ (a' : Option Addr) (cap' : Nat), e = .returned (.slice a' len cap') ∧ OwnK w' w.heap.size (.slice a' len cap') bs ∧ Touch w w' (fun _ => False) := by
  have hq := fun (w : World) (a : Option Addr) (n c : Nat) => Lib.run_eql_slice_nil (P := Tryd.prog) w 71 74 a n c 0 0 Tryd.underlying71
  have hbl : bs.length = len := by have := hr.hlen; simpa using this
  cases a with
  | none =>
    have h0 : len = 0 := by
      rcases hr.at_ with h0 | ⟨b, off, ha, _⟩
      · exact h0
      · cases ha
    subst h0
    have hb : bs = [] := List.length_eq_zero_iff.1 hbl
    subst hb
    go_enter Tryd.func89, Tryd.ntmps89
    go_wp2
    go_ret
    exact ⟨none, 0, rfl, OwnK.none _ _, Touch.refl _ _⟩
  | some ad =>
    have t1 := (Touch.refl w (fun _ => False)).alloc (.cells #[] 74)
    have HR := Lib.hid (hr.still t1)
    have HB := Lib.hid (t1.under (Nat.le_refl w.heap.size))
    have HO : RowKit.Hid (OwnS (w.alloc (.cells #[] 74)) w.heap.size 74 3 (.slice (some ⟨w.heap.size, 0, none⟩) 0 0) []) := Lib.hid (OwnS.lit w _ (Nat.le_refl _) _ 3 0 [] #[] rfl rfl (by simp) (by decide))
    have HIF := Lib.hid infoBk
    have HL := Lib.hid hbl
    clear hr t1 hbl
    go_enter Tryd.func89, Tryd.ntmps89
    go_wp2_with (at_builtin; (with_reducible refine wp_appS HO.out HR.out.toS (bk_one bs) 71 Tryd.underlying71 _ 24 HIF.out rfl (by decide) (by simp only [maxLen, List.length_nil]; omega) (by simp only [List.length_nil]; omega) HB.out (Nat.le_refl _) HB.out.size rfl _ _ rfl rfl rfl len _ (Nat.zero_add _) (List.nil_append _) ?_); intro a3 c3 w3 ho3 hg3 hb3 hp3)
    go_ret
    exact ⟨a3, c3, rfl, ho3, Touch.ofBelow hb3 (fun k h1 h2 => by omega)⟩

end Go.Proofs.YthliikkllagodaaDoor
