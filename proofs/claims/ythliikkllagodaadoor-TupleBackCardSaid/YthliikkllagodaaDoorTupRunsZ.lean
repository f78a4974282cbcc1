/- Tuples and strings compared, as a region that draws takes them; functions that are entered; Turn. -/
import Derived.Test.YthliikkllagodaaDoorTupAwakeZ
import Derived.Test.YthliikkllagodaaDoorRecMayZ
set_option linter.unusedVariables false
namespace Go.Proofs.YthliikkllagodaaDoor
open Go.RowKit

set_option maxRecDepth 20000 in
theorem enter_less (u v : Value) (w : World) : (callFunc 41 #[u, v]).run Tryd.prog w = .ok (.enter 41 #[u, v]) w := by kernel_rfl
theorem infoT5 : (Tryd.prog.info? 47).map (·.size) = some 5 := by kernel_rfl
theorem neqT_run (a1 a2 a3 a4 a5 b1 b2 b3 b4 b5 : Int) (h : ¬ (a1 = b1 ∧ a2 = b2 ∧ a3 = b3 ∧ a4 = b4 ∧ a5 = b5)) (x y : Operand) (W : World) :
    (do eqGuard BinOp.neq 47 x y (.agg #[.int .u32 a1, .int .u32 a2, .int .i64 a3, .int .i64 a4, .int .i64 a5]) (.agg #[.int .u32 b1, .int .u32 b2, .int .i64 b3, .int .i64 b4, .int .i64 b5]); binOp BinOp.neq 47 (.agg #[.int .u32 a1, .int .u32 a2, .int .i64 a3, .int .i64 a4, .int .i64 a5]) (.agg #[.int .u32 b1, .int .u32 b2, .int .i64 b3, .int .i64 b4, .int .i64 b5]) : Sem Value).run Tryd.prog W = .ok (.bool true) W := by
  go_simp
  intro h1 h2 h3 h4 h5
  exact h ⟨h1, h2, h3, h4, h5⟩
theorem eqT_run (a1 a2 a3 a4 a5 : Int) (x y : Operand) (W : World) :
    (do eqGuard BinOp.neq 47 x y (.agg #[.int .u32 a1, .int .u32 a2, .int .i64 a3, .int .i64 a4, .int .i64 a5]) (.agg #[.int .u32 a1, .int .u32 a2, .int .i64 a3, .int .i64 a4, .int .i64 a5]); binOp BinOp.neq 47 (.agg #[.int .u32 a1, .int .u32 a2, .int .i64 a3, .int .i64 a4, .int .i64 a5]) (.agg #[.int .u32 a1, .int .u32 a2, .int .i64 a3, .int .i64 a4, .int .i64 a5]) : Sem Value).run Tryd.prog W = .ok (.bool false) W := by
  go_simp
theorem eqlT_run (a1 a2 a3 a4 a5 : Int) (x y : Operand) (W : World) :
    (do eqGuard BinOp.eql 47 x y (.agg #[.int .u32 a1, .int .u32 a2, .int .i64 a3, .int .i64 a4, .int .i64 a5]) (.agg #[.int .u32 a1, .int .u32 a2, .int .i64 a3, .int .i64 a4, .int .i64 a5]); binOp BinOp.eql 47 (.agg #[.int .u32 a1, .int .u32 a2, .int .i64 a3, .int .i64 a4, .int .i64 a5]) (.agg #[.int .u32 a1, .int .u32 a2, .int .i64 a3, .int .i64 a4, .int .i64 a5]) : Sem Value).run Tryd.prog W = .ok (.bool true) W := by
  go_simp
theorem nelT_run (a1 a2 a3 a4 a5 b1 b2 b3 b4 b5 : Int) (h : ¬ (a1 = b1 ∧ a2 = b2 ∧ a3 = b3 ∧ a4 = b4 ∧ a5 = b5)) (x y : Operand) (W : World) :
    (do eqGuard BinOp.eql 47 x y (.agg #[.int .u32 a1, .int .u32 a2, .int .i64 a3, .int .i64 a4, .int .i64 a5]) (.agg #[.int .u32 b1, .int .u32 b2, .int .i64 b3, .int .i64 b4, .int .i64 b5]); binOp BinOp.eql 47 (.agg #[.int .u32 a1, .int .u32 a2, .int .i64 a3, .int .i64 a4, .int .i64 a5]) (.agg #[.int .u32 b1, .int .u32 b2, .int .i64 b3, .int .i64 b4, .int .i64 b5]) : Sem Value).run Tryd.prog W = .ok (.bool false) W := by
  go_simp
  intro h1 h2 h3 h4 h5
  exact h ⟨h1, h2, h3, h4, h5⟩
theorem eqS_run (s : ByteArray) (x y : Operand) (W : World) :
    (do eqGuard BinOp.eql 9 x y (.string s) (.string s); binOp BinOp.eql 9 (.string s) (.string s) : Sem Value).run Tryd.prog W = .ok (.bool true) W := by
  go_simp
theorem neS_run (s s' : ByteArray) (h : s ≠ s') (x y : Operand) (W : World) :
    (do eqGuard BinOp.eql 9 x y (.string s) (.string s'); binOp BinOp.eql 9 (.string s) (.string s') : Sem Value).run Tryd.prog W = .ok (.bool false) W := by
  go_simp
  intro e
  rw [Lib.toList_data, Lib.toList_data] at e
  exact h (ByteArray.ext (Array.ext' e))
set_option maxRecDepth 20000 in
theorem enter_text (u : Value) (w : World) : (callFunc 33 #[u]).run Tryd.prog w = .ok (.enter 33 #[u]) w := by kernel_rfl
set_option maxRecDepth 20000 in
theorem enter_awake7 (w : World) : (callFunc 34 #[]).run Tryd.prog w = .ok (.enter 34 #[]) w := by kernel_rfl
set_option maxRecDepth 20000 in
theorem enter_turn (u : Value) (w : World) : (callFunc 30 #[u]).run Tryd.prog w = .ok (.enter 30 #[u]) w := by kernel_rfl
def turnT (t : TupD) : TupD := ⟨t.dst, t.src, t.proto, t.dport, t.sport⟩
set_option maxRecDepth 20000 in
theorem turn_any (t : TupD) (w : World) :
    Calls Tryd.prog 30 #[.agg (tcs t)] w fun e w' => e = .returned (.agg (tcs (turnT t))) ∧ Touch w w' (fun _ => False) := by
  obtain ⟨a1, a2, a3, a4, a5⟩ := t
  simp only [tcs, turnT]
  go_enter Tryd.func30, Tryd.ntmps30
  go_wp2
  refine ret_row rfl rfl (w.heap.size + 1) 47 _ (0, 0) _ rfl (heap_two _ _ _) Tryd.underlying47 rfl infoT5 ?_
  exact ⟨rfl, ((Touch.refl _ _).alloc _).alloc _⟩
theorem textL_len (t : TupD) (ok : TupOk t) : (textL t).length ≤ 223 := by
  have h1 := endL_len t.src t.sport ok.src.1 ok.src.2 ok.sport.1 ok.sport.2
  have h2 := endL_len t.dst t.dport ok.dst.1 ok.dst.2 ok.dport.1 ok.dport.2
  have h3 := nameL_len t.proto
  simp only [textL, List.length_append, List.length_cons, List.length_nil]; omega
end Go.Proofs.YthliikkllagodaaDoor
