/- ChoiceNil answers true for any backends, any tuple, any number: a chooser that there isn't picks nothing, finds nothing, takes no set. No condition. -/
import Derived.Test.YtfjnhaoiecndpaaCho5
import Derived.Test.YtfjnhaoiecndpaaRecArgs
import Derived.Test.YtfjnhaoiecndpaaFrChoiceNil
set_option linter.unusedVariables false
namespace Go.Proofs.Ytfjnhaoiecndpaa
open Go.RowKit

theorem ArgIn.tupD {H : Type} {enc : TypeId × Value → H} {W : World} {base : Nat} {v : Value} {d : DataW H} {p : List MemPlace} (h : ArgIn enc Try.prog W base 25 v d p) : ∃ t : TupD, v = .agg (tcs t) ∧ TupOk t := by
  obtain ⟨cs, rfl, _⟩ := h.struct Try.underlying25
  obtain ⟨t, hc, ok⟩ := h.tr.tupD
  simp only [Value.cells] at hc
  subst hc
  exact ⟨t, rfl, ok⟩

set_option maxRecDepth 20000 in
set_option maxHeartbeats 4000000 in
theorem cnil_walk (a : Option Addr) (len cap : Nat) (t : TupD) (id : Int) (w : World) :
    Calls Try.prog 3 #[.slice a len cap, .agg (tcs t), .int .i64 id] w fun e w' => e = .returned (.bool true) ∧ Touch w w' (fun _ => False) := by
  have HPN := Lib.hid (fun W => pick_nil t W)
  obtain ⟨W0, hW0⟩ : ∃ W, w.alloc (.cells (tcs t) 25) = W := ⟨_, rfl⟩
  have t0 : Touch w W0 (fun _ => False) := hW0 ▸ (Touch.refl w _).alloc _
  have gk : W0.heap[w.heap.size]? = some (.cells (tcs t) 25 (0, 0)) := hW0 ▸ heap_alloc_new ..
  have k0 := cell_of_cells gk 0
  have k1 := cell_of_cells gk 1
  have k2 := cell_of_cells gk 2
  have k3 := cell_of_cells gk 3
  have k4 := cell_of_cells gk 4
  simp only [tcs] at HPN hW0 k0 k1 k2 k3 k4 ⊢
  have HT0 := Lib.hid t0
  have HII := Lib.hid infoBk3
  have HW0 := Lib.hid hW0
  clear t0 gk hW0
  simp only [bkV', bkZ] at HPN
  have HFN := Lib.hid (fun W => find_nil id W)
  simp only [bkV', bkZ] at HFN
  go_enter Try.func3, Try.ntmps3
  go_upto_region 1 with (fail)
  rw [HW0.out]
  go_wp2_with fail
  refine (HPN.out _).mono ?_
  rintro e w2 ⟨rfl, t2⟩
  obtain ⟨W3, hW3⟩ : ∃ W, w2.alloc (.cells #[.int .i64 0, .int .u32 0, .int .i64 0] 28) = W := ⟨_, rfl⟩
  have g3 : W3.heap[w2.heap.size]? = some (.cells #[.int .i64 0, .int .u32 0, .int .i64 0] 28 (0, 0)) := hW3 ▸ heap_alloc_new ..
  have t3 : Touch w2 W3 (fun _ => False) := hW3 ▸ (Touch.refl w2 _).alloc _
  have hs2 : w.heap.size ≤ w2.heap.size := Nat.le_trans HT0.out.size t2.size
  have HT3 : RowKit.Hid (Touch w (W3.setRow w2.heap.size #[.int .i64 0, .int .u32 0, .int .i64 0]) (fun _ => False)) := Lib.hid (((HT0.out.trans t2 (fun _ _ h => h)).trans t3 (fun _ _ h => h)).setRow _ _ (fun h => by omega))
  have HG3 := Lib.hid g3
  have HW3 := Lib.hid hW3
  clear t2 g3 t3 hW3 k0 k1 k2 k3 k4
  go_wp2_with (rw [HW3.out]; refine store_row rfl 28 (.tmp 8) (.tmp 16) rfl w2.heap.size _ rfl rfl _ _ HG3.out HII.out rfl rfl ?_)
  refine (HFN.out _).mono ?_
  rintro e w4 ⟨rfl, t4⟩
  obtain ⟨W5, hW5⟩ : ∃ W, w4.alloc (.cells #[.int .i64 0, .int .u32 0, .int .i64 0] 28) = W := ⟨_, rfl⟩
  have g5 : W5.heap[w4.heap.size]? = some (.cells #[.int .i64 0, .int .u32 0, .int .i64 0] 28 (0, 0)) := hW5 ▸ heap_alloc_new ..
  have t5 : Touch w4 W5 (fun _ => False) := hW5 ▸ (Touch.refl w4 _).alloc _
  have hs4 : w.heap.size ≤ w4.heap.size := Nat.le_trans HT3.out.size t4.size
  have HT5 : RowKit.Hid (Touch w (W5.setRow w4.heap.size #[.int .i64 0, .int .u32 0, .int .i64 0]) (fun _ => False)) := Lib.hid (((HT3.out.trans t4 (fun _ _ h => h)).trans t5 (fun _ _ h => h)).setRow _ _ (fun h => by omega))
  have HG5 := Lib.hid g5
  have HW5 := Lib.hid hW5
  clear t4 g5 t5 hW5
  go_wp2_with (first
    | (rw [HW5.out]; refine store_row rfl 28 (.tmp 10) (.tmp 22) rfl w4.heap.size _ rfl rfl _ _ HG5.out HII.out rfl rfl ?_)
    | (go_at_call 7; (with_reducible refine (set_nil _ _ _ _ _).mono ?_); rintro e w9 ⟨rfl, rfl⟩)
    | (go_at_call 8; (with_reducible refine (table_nil _).mono ?_); rintro e w9 ⟨rfl, rfl⟩)
    | (go_at_call 9; (with_reducible refine (made_nil _).mono ?_); rintro e w9 ⟨rfl, rfl⟩)
    | (go_at_call 10; (with_reducible refine (awake19 _).mono ?_); rintro e w9 ⟨rfl, t9⟩; have HT9 := Lib.hid (HT5.out.trans t9 (fun _ _ h => h)); clear t9))
  go_ret
  exact ⟨rfl, HT9.out⟩

open Go.ChangeShapes Go.WideShapes Go.ChangeAt in
theorem choiceNil_holds : Rows.ChoiceNilSaid := by
  refine choiceNil.said fun H enc W base v0 v1 v2 d0 d1 d2 p0 p1 p2 h0 h1 h2 => ?_
  obtain ⟨a', len', cap', rfl⟩ := okWide_slice Try.underlying22 h0.ok
  obtain ⟨t, rfl, ok⟩ := h1.tupD
  obtain ⟨p, rfl, m1, m2, _⟩ := h2.i64 Try.underlying3
  exact (cnil_walk a' len' cap' t p W).mono fun e w' h => ⟨h.1, h.2.below (fun _ _ h => h.elim) (Nat.le_refl _)⟩
end Go.Proofs.Ytfjnhaoiecndpaa
