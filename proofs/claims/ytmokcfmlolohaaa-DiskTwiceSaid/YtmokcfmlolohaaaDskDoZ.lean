/- A change of names is done on a map of names. -/
import Derived.Test.YtmokcfmlolohaaaDskSizeZ
set_option linter.unusedVariables false
set_option linter.unusedSimpArgs false
namespace Go.Proofs.Ytmokcfmlolohaaa
open Go.RowKit

theorem infoChange : (Try.prog.info? 88).map (·.size) = some 4 := by kernel_rfl
theorem infoChangeB : (Try.prog.info? 88).map (fun i => (i.zero, i.size, i.bytes)) = some (some (.agg #[.int .i64 0, .string ByteArray.empty, .string ByteArray.empty, .pointer none]), 4, 48) := by kernel_rfl
theorem ccells_of {w : World} {B : Nat} {c : DkCh} {T : TypeId} (hb : w.heap[B]? = some (.cells (dka c) T (0, 0))) :
    w.cell? ⟨B, 0, none⟩ = some (.int .i64 c.k) ∧ w.cell? ⟨B, 1, none⟩ = some (.string c.n) ∧ w.cell? ⟨B, 2, none⟩ = some (.string c.tn) ∧ w.cell? ⟨B, 3, none⟩ = some (pvN c.f) :=
  ⟨cell_of_cells hb 0, cell_of_cells hb 1, cell_of_cells hb 2, cell_of_cells hb 3⟩
theorem enter_ddo (a b : Value) (w : World) : (callFunc 67 #[a, b]).run Try.prog w = .ok (.enter 67 #[a, b]) w := by kernel_rfl
set_option maxRecDepth 20000 in
set_option maxHeartbeats 8000000 in
theorem ddo_any (w : World) (mb : Nat) (M : List NmD) (c : DkCh) (o : OwnN w mb M) (hl : M.length ≤ 100000) (hn : szN c.n) (ht : szN c.tn) (hk : c.k = 0 ∨ c.k = 1 ∨ c.k = 2) :
    Calls Try.prog 67 #[.map (some mb), .agg (dka c)] w fun e w' => e = .returned (.tuple #[]) ∧ OwnN w' mb (dkDo M c) ∧ Touch w w' (fun k => k = mb) := by
  obtain ⟨W1, hW1⟩ : ∃ W, w.alloc (.cells (dka c) 88) = W := ⟨_, rfl⟩
  have t1 : Touch w W1 (fun _ => False) := hW1 ▸ (Touch.refl w _).alloc _
  have g1 : W1.heap[w.heap.size]? = some (.cells (dka c) 88 (0, 0)) := hW1 ▸ heap_alloc_new ..
  have hmb := o.lt
  have o1 := o.still t1
  obtain ⟨x0, x1, x2, x3⟩ := ccells_of g1
  have HT1 := Lib.hid t1
  have HW1 := Lib.hid hW1
  have HG1 := Lib.hid g1
  clear t1 g1 hW1 o
  obtain ⟨k, n, m, f⟩ := c
  simp only at hn ht hk x0 x1 x2 x3
  simp only [dka] at HW1 ⊢
  rcases hk with rfl | rfl | rfl
  · have e : dkDo M ⟨0, n, m, f⟩ = putN M n f := by unfold dkDo; rw [if_pos rfl]
    rw [e]
    obtain ⟨wz, hz1, hz2, hz3⟩ := o1.store (by omega) hn f
    have HR : RowKit.Hid (OwnN wz mb (putN M n f) ∧ Touch w wz (fun k => k = mb)) := Lib.hid ⟨hz2, (HT1.out.mono (T := fun k => k = mb) (fun _ _ h => h.elim)).trans hz3 (fun _ _ h => h)⟩
    clear hz2 hz3 e o1
    go_enter Try.func67, Try.ntmps67
    go_upto_region 1 with (fail)
    rw [HW1.out]
    go_wp2_with fail
    go_end0
    exact ⟨rfl, HR.out⟩
  · have e : dkDo M ⟨1, n, m, f⟩ = delN (putN M m (getN M n)) n := by unfold dkDo; rw [if_neg (by simp), if_pos rfl]
    rw [e]
    have hg := o1.get hn
    obtain ⟨wz, hz1, hz2, hz3⟩ := o1.store (by omega) ht (getN M n)
    obtain ⟨wy, hy1, hy2, hy3⟩ := hz2.drop hn 0
    have gz := hz3.keeps HG1.out (fun e => by have e : w.heap.size = mb := e; omega)
    obtain ⟨z0, z1, z2, z3⟩ := ccells_of gz
    simp only at z0 z1 z2 z3
    have HR : RowKit.Hid (OwnN wy mb (delN (putN M m (getN M n)) n) ∧ Touch w wy (fun k => k = mb)) := Lib.hid ⟨hy2, ((HT1.out.mono (T := fun k => k = mb) (fun _ _ h => h.elim)).trans hz3 (fun _ _ h => h)).trans hy3 (fun _ _ h => h)⟩
    clear hz2 hz3 hy2 hy3 e o1 gz
    go_enter Try.func67, Try.ntmps67
    go_upto_region 1 with (fail)
    rw [HW1.out]
    go_wp2_with fail
    go_end0
    exact ⟨rfl, HR.out⟩
  · have e : dkDo M ⟨2, n, m, f⟩ = delN M n := by unfold dkDo; rw [if_neg (by simp), if_neg (by simp), if_pos rfl]
    rw [e]
    obtain ⟨wy, hy1, hy2, hy3⟩ := o1.drop hn 0
    have HR : RowKit.Hid (OwnN wy mb (delN M n) ∧ Touch w wy (fun k => k = mb)) := Lib.hid ⟨hy2, (HT1.out.mono (T := fun k => k = mb) (fun _ _ h => h.elim)).trans hy3 (fun _ _ h => h)⟩
    clear hy2 hy3 e o1
    go_enter Try.func67, Try.ntmps67
    go_upto_region 1 with (fail)
    rw [HW1.out]
    go_wp2_with fail
    go_end0
    exact ⟨rfl, HR.out⟩
end Go.Proofs.Ytmokcfmlolohaaa
