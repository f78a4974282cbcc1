/- Records: a tuple's bytes, as the reference has them. -/
import Derived.Test.YtbklngcocbnijaaRecWZ
import Derived.Test.YtbklngcocbnijaaGBZ
import Derived.Test.YtbklngcocbnijaaGAZ
import Derived.Deep.DeepCutAuto
import Derived.Deep.AppendLies
set_option linter.unusedVariables false
set_option linter.unusedSimpArgs false
namespace Go.Proofs.Ytbklngcocbnijaa
open Go.RowKit

/-- A fresh row, as it is read. -/
theorem fresh_row {w w' : World} {a : Option Addr} {n c : Nat} {ys : List Nat} (h : FreshB w w' (.slice a n c) ys) (hl : ys.length = n) : RowB w' a n c ys := by
  obtain ⟨a2, c2, hv, hr⟩ := h.row
  rw [hl] at hv hr
  simp only [Value.slice.injEq, true_and] at hv
  obtain ⟨rfl, rfl⟩ := hv
  exact hr
theorem tq_of {w : World} {B : Nat} {t : TupD} {T : TypeId} (hb : w.heap[B]? = some (.cells #[.int .u32 t.src, .int .u32 t.dst, .int .i64 t.proto, .int .i64 t.sport, .int .i64 t.dport] T (0, 0))) :
    w.cell? ⟨B, 0, none⟩ = some (.int .u32 t.src) ∧ w.cell? ⟨B, 1, none⟩ = some (.int .u32 t.dst) ∧ w.cell? ⟨B, 2, none⟩ = some (.int .i64 t.proto) ∧ w.cell? ⟨B, 3, none⟩ = some (.int .i64 t.sport) ∧ w.cell? ⟨B, 4, none⟩ = some (.int .i64 t.dport) :=
  ⟨cell_of_cells hb 0, cell_of_cells hb 1, cell_of_cells hb 2, cell_of_cells hb 3, cell_of_cells hb 4⟩
def tb8 (t : TupD) : List Nat := beB 4 (u64N t.src) ++ beB 4 (u64N t.dst)
def tb9 (t : TupD) : List Nat := tb8 t ++ beB 1 (u64N t.proto)
def tb11 (t : TupD) : List Nat := tb9 t ++ beB 2 (u64N t.sport)
theorem tb_len (t : TupD) : (tb8 t).length = 8 ∧ (tb9 t).length = 9 ∧ (tb11 t).length = 11 ∧ (tbF t).length = 13 := by simp [tb8, tb9, tb11, tbF, beB_length]
theorem tb_end (t : TupD) : tb11 t ++ beB 2 (u64N t.dport) = tbF t := by simp [tb8, tb9, tb11, tbF]
set_option maxRecDepth 20000 in
set_option maxHeartbeats 8000000 in
theorem rtb_any (t : TupD) (w : World) (ok : TupOk t) :
    Calls Try.prog 55 #[.agg (tcs t)] w fun e w' => ∃ a' c', e = .returned (.slice a' 13 c') ∧ FreshB w w' (.slice a' 13 c') (tbF t) := by
  obtain ⟨W1, hW1⟩ : ∃ W, w.alloc (.cells (tcs t) 24) = W := ⟨_, rfl⟩
  have t1 : Touch w W1 (fun _ => False) := hW1 ▸ (Touch.refl _ _).alloc _
  have HH : RowKit.Hid (W1.heap[w.heap.size]? = some (.cells #[.int .u32 t.src, .int .u32 t.dst, .int .i64 t.proto, .int .i64 t.sport, .int .i64 t.dport] 24 (0, 0))) := Lib.hid (hW1 ▸ heap_alloc_new w _)
  have HT := Lib.hid t1
  obtain ⟨o1, o2, o3, o4, o5⟩ := ok
  simp only [u32, i64] at o1 o2 o3 o4 o5
  obtain ⟨c0, c1, c2, c3, c4⟩ := tq_of HH.out
  have HTL := Lib.hid (tb_len t)
  have HTE := Lib.hid (tb_end t)
  clear t1
  simp only [tcs] at hW1
  simp only [tcs]
  go_enter Try.func55, Try.ntmps55
  go_upto_region 1 with fail
  go_cut [3] (fun s3 wx => ∃ a9 c9, s3 = .slice a9 8 c9 ∧ OwnB wx (w.heap.size + 1) 5 (.slice a9 8 c9) (tb8 t) ∧ Touch w wx (fun _ => False) ∧ wx.heap[w.heap.size]? = some (.cells #[.int .u32 t.src, .int .u32 t.dst, .int .i64 t.proto, .int .i64 t.sport, .int .i64 t.dport] 24 (0, 0)))
  case first =>
    go_wp2_with fail
    have t2 := (Touch.refl W1 (fun _ => False)).drew
    have HT := Lib.hid (HT.out.trans t2 (fun _ _ h => h))
    have HH := Lib.hid (t2.keeps HH.out (fun h => h))
    clear t2
    go_region_law (first
      | (have _u := HR9; refine step_appendB rfl _ _ 37 rfl 5 Try.underlying37 infoB (w.heap.size + 1) (.slice a6 4 d6) _ rfl HO.out _ _ _ (beB 4 (u64N t.dst)) rfl HR9.out 8 (tb8 t) rfl HTL.out.1 (by omega) (heap_lt HH.out) ?_; intro a10 d10 w10 hown hrow hg hpl; have HT := Lib.hid (HT.out.grown hg (fun j hj hlt => by have := (HO.out.own.lt j hj).1; omega)); have HH := Lib.hid ((hg.block w.heap.size (heap_lt HH.out) (fun e => by have := (HO.out.own.lt _ e.symm).1; omega)).trans HH.out); have HO := Lib.hid hown; clear hown hrow hg hpl)
      | (go_simp; go_at_call_of 57 (Value.int .u32 t.src); (with_reducible refine (ref_u32 t.src _ o1).mono ?_); rintro e w6 ⟨a6, d6, rfl, hf6⟩; have hlt := heap_lt HH.out; have t6 := hf6.2; have HO := Lib.hid (hf6.1.base (base' := w.heap.size + 1) (fun j hj => by have := (hf6.1.own.lt j hj).1; omega)); have HT := Lib.hid (HT.out.trans t6 (fun _ _ h => h)); have HH := Lib.hid (t6.keeps HH.out (fun h => h)); clear c0 c1 c2 c3 c4; obtain ⟨c0, c1, c2, c3, c4⟩ := tq_of HH.out; clear hf6 t6 hlt)
      | (have _u := HO; go_simp; go_at_call_of 57 (Value.int .u32 t.dst); (with_reducible refine (ref_u32 t.dst _ o2).mono ?_); rintro e w9 ⟨a9, d9, rfl, hf9⟩; have t9 := hf9.2; have HR9 := Lib.hid (fresh_row hf9 (beB_length _ _)); have HO := Lib.hid (HO.out.touch t9 (fun _ _ h => h)); have HT := Lib.hid (HT.out.trans t9 (fun _ _ h => h)); have HH := Lib.hid (t9.keeps HH.out (fun h => h)); clear c0 c1 c2 c3 c4; obtain ⟨c0, c1, c2, c3, c4⟩ := tq_of HH.out; clear hf9 t9))
    all_goals (go_wp2_with fail; go_meet; exact ⟨_, _, rfl, HO.out, HT.out, HH.out⟩)
  case rest =>
    obtain ⟨a9, d9, rfl, ho, ht9, hh⟩ := hcut
    clear HH HT c0 c1 c2 c3 c4
    obtain ⟨c0, c1, c2, c3, c4⟩ := tq_of hh
    have HO := Lib.hid ho
    have HT := Lib.hid ht9
    have HH := Lib.hid hh
    have HRL : RowKit.Hid (∀ W : World, _) := Lib.hid (fun (W : World) => row_lit W #[.int .u8 (t.proto % 256)] 1 (beB 1 (u64N t.proto)) (be_one t.proto) (beB_length _ _) (beB_small _ _) (by omega))
    clear ho ht9 hh
    go_upto_region 3 with (at_builtin; have _u := HRL; refine wpList_appendB rfl _ _ 37 rfl 5 Try.underlying37 infoB (w.heap.size + 1) (.slice a9 8 d9) (tb8 t) rfl (HO.out.touch ((Touch.refl _ (fun _ => False)).alloc _) (fun _ _ h => h)) _ _ _ (beB 1 (u64N t.proto)) rfl (HRL.out _) 9 (tb9 t) rfl HTL.out.2.1 (by omega) (by have := heap_lt HH.out; simp; omega) w.heap.size w ((HT.out.alloc _).below (fun _ _ h => h.elim) (Nat.le_refl _)) (Nat.le_succ _) ?_; intro a16 d16 w16 hown hrow hg hb hs hp16 hpl; have HT := Lib.hid (Touch.ofBelow (S := fun _ => False) hb (fun k h1 h2 => by omega)); have HH := Lib.hid ((hg.block w.heap.size (by have := heap_lt HH.out; simp; omega) (fun e => by have := (HO.out.own.lt _ e.symm).1; omega)).trans ((Below.heap_alloc _ _ _ (heap_lt HH.out)).trans HH.out)); have HO := Lib.hid hown; clear hown hrow hg hb hs hp16 hpl c0 c1 c2 c3 c4; obtain ⟨c0, c1, c2, c3, c4⟩ := tq_of HH.out)
    have t2 := (Touch.refl w16 (fun _ => False)).drew
    have HT := Lib.hid (HT.out.trans t2 (fun _ _ h => h))
    have HH := Lib.hid (t2.keeps HH.out (fun h => h))
    have HO := Lib.hid (HO.out.touch t2 (fun _ _ h => h))
    clear t2 HRL
    go_region_law (first
      | (have _u := HR24; refine step_appendB rfl _ _ 37 rfl 5 Try.underlying37 infoB (w.heap.size + 1) (.slice a21 11 d21) _ rfl HO.out _ _ _ (beB 2 (u64N t.dport)) rfl HR24.out 13 (tbF t) HTE.out HTL.out.2.2.2 (by omega) (heap_lt HH.out) ?_; intro a25 d25 w25 hown hrow hg hpl; have HT := Lib.hid (HT.out.grown hg (fun j hj hlt => by have := (HO.out.own.lt j hj).1; omega)); have HO := Lib.hid hown; clear hown hrow hg hpl)
      | (have _u := HR20; refine step_appendB rfl _ _ 37 rfl 5 Try.underlying37 infoB (w.heap.size + 1) (.slice a16 9 d16) _ rfl HO.out _ _ _ (beB 2 (u64N t.sport)) rfl HR20.out 11 (tb11 t) rfl HTL.out.2.2.1 (by omega) (heap_lt HH.out) ?_; intro a21 d21 w21 hown hrow hg hpl; have HT := Lib.hid (HT.out.grown hg (fun j hj hlt => by have := (HO.out.own.lt j hj).1; omega)); have HH := Lib.hid ((hg.block w.heap.size (heap_lt HH.out) (fun e => by have := (HO.out.own.lt _ e.symm).1; omega)).trans HH.out); have HO := Lib.hid hown; clear hown hrow hg hpl c0 c1 c2 c3 c4; obtain ⟨c0, c1, c2, c3, c4⟩ := tq_of HH.out)
      | (go_simp; go_at_call_of 56 (Value.int .i64 t.sport); (with_reducible refine (ref_u16 t.sport _ o4).mono ?_); rintro e w20 ⟨a20, d20, rfl, hf20⟩; have t20 := hf20.2; have HR20 := Lib.hid (fresh_row hf20 (beB_length _ _)); have HO := Lib.hid (HO.out.touch t20 (fun _ _ h => h)); have HT := Lib.hid (HT.out.trans t20 (fun _ _ h => h)); have HH := Lib.hid (t20.keeps HH.out (fun h => h)); clear c0 c1 c2 c3 c4; obtain ⟨c0, c1, c2, c3, c4⟩ := tq_of HH.out; clear hf20 t20)
      | (go_simp; go_at_call_of 56 (Value.int .i64 t.dport); (with_reducible refine (ref_u16 t.dport _ o5).mono ?_); rintro e w24 ⟨a24, d24, rfl, hf24⟩; have t24 := hf24.2; have HR24 := Lib.hid (fresh_row hf24 (beB_length _ _)); have HO := Lib.hid (HO.out.touch t24 (fun _ _ h => h)); have HT := Lib.hid (HT.out.trans t24 (fun _ _ h => h)); have HH := Lib.hid (t24.keeps HH.out (fun h => h)); clear c0 c1 c2 c3 c4; obtain ⟨c0, c1, c2, c3, c4⟩ := tq_of HH.out; clear hf24 t24))
    all_goals (go_wp2_with fail; go_ret; exact ⟨_, _, rfl, HO.out.base (base' := w.heap.size) (fun j hj => by have := (HO.out.own.lt j hj).1; omega), HT.out⟩)
end Go.Proofs.Ytbklngcocbnijaa
