/- The reference's disk: Copy. -/
import Derived.Test.YtmokcfmlolohaaaIBZ
set_option linter.unusedVariables false
set_option linter.unusedSimpArgs false
namespace Go.Proofs.Ytmokcfmlolohaaa
open Go.RowKit

set_option maxRecDepth 20000 in
set_option maxHeartbeats 4000000 in
theorem rcopy_any (w : World) (m : Nat) (h : RH) (R : RS) (x : RM w m h R) :
    Calls Try.prog 34 #[.pointer (some ⟨m, 0, none⟩)] w fun e w' => e = .returned (.pointer (some ⟨w.heap.size, 0, none⟩)) ∧ RM w' w.heap.size h R ∧ Touch w w' (fun _ => False) := by
  obtain ⟨c0, c1, c2, c3, c4, c5, c6⟩ := x.cells
  obtain ⟨W1, hW1⟩ : ∃ W, w.alloc (.cells #[.slice h.fa h.L.length h.fc, .slice h.na R.N.length h.nc, .slice h.sa R.S.length h.sc, .slice h.ca R.C.length h.cc, .int .i64 R.q, .int .i64 R.n, .int .i64 R.fail] 70) = W := ⟨_, rfl⟩
  have g1 : W1.heap[w.heap.size]? = some (.cells #[.slice h.fa h.L.length h.fc, .slice h.na R.N.length h.nc, .slice h.sa R.S.length h.sc, .slice h.ca R.C.length h.cc, .int .i64 R.q, .int .i64 R.n, .int .i64 R.fail] 70 (0, 0)) := hW1 ▸ heap_alloc_new ..
  have t1 : Touch w W1 (fun _ => False) := hW1 ▸ (Touch.refl w _).alloc _
  have x1 := x.still t1
  have HR : RowKit.Hid (RM W1 w.heap.size h R ∧ Touch w W1 (fun _ => False)) := Lib.hid ⟨⟨g1, x1.fl, x1.fF, x1.now, x1.sure, x1.ch, x1.fb, fun k hk => ⟨fun e => by have := (x.foot k hk).2; omega, (x1.foot k hk).2⟩⟩, t1⟩
  have HW1 := Lib.hid hW1
  clear x g1 t1 x1 hW1
  go_enter Try.func34, Try.ntmps34
  go_wp2_with fail
  try rw [HW1.out]
  go_ret
  exact ⟨rfl, HR.out⟩
end Go.Proofs.Ytmokcfmlolohaaa
