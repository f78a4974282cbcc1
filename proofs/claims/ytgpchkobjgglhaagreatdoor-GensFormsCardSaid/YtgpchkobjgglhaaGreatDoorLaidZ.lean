/- What a row's list of the library's variables gives the walks; it stays behind whatever only makes new memory. -/
import Derived.Test.YtgpchkobjgglhaaGreatDoorGAZ
import Derived.Test.YtgpchkobjgglhaaGreatDoorShelf
import Derived.LaidSub
import Derived.LaidMore
import Derived.MakeChecks
import Derived.Lib.LaidTab
import Derived.Stop.LaidErr
import Derived.ChangeArms
set_option linter.unusedVariables false
namespace Go.Proofs.YtgpchkobjgglhaaGreatDoor
open Go.RowKit

/-- The table of the powers of ten lies where it was laid. -/
def TabW (w : World) : Prop := Lib.TabIs Tryz.prog w "internal/strconv.uint64pow10" .u64 Lib.pow10Tab
/-- The two errors of strconv, whatever they are. -/
def ErrW (w : World) : Prop := (∃ tp p, w.var? Tryz.prog "strconv.ErrSyntax" = some #[.iface tp p]) ∧ (∃ tp p, w.var? Tryz.prog "strconv.ErrRange" = some #[.iface tp p])
/-- How long a text may be that is looked for by the machine's own means. -/
def MaxW (w : World) : Prop := ∃ m, w.cell? ⟨0, 0, none⟩ = some (.int .i64 m)

theorem var_at {P : Program} {w w' : World} {n : String} {cs : Array Value} (h : w.var? P n = some cs) (hb : ∀ g, P.globalNamed n = some g → w'.heap[g]? = w.heap[g]?) : w'.var? P n = some cs := by
  unfold World.var? at h ⊢
  cases hg : P.globalNamed n with
  | none => rw [hg] at h; simp at h
  | some g =>
    rw [hg] at h
    have e := hb g hg
    simpa [e] using h

theorem gTab : Tryz.prog.globalNamed "internal/strconv.uint64pow10" = some 3 := by kernel_rfl
theorem TabW.below {w w' : World} {B : Nat} (h : TabW w) (hb : Below B w w') (hB : 3 < B) : TabW w' :=
  var_at h fun g hg => by
    obtain rfl := Option.some.inj (gTab.symm.trans hg)
    exact hb.block _ hB
theorem TabW.lt {w : World} (h : TabW w) : 3 < w.heap.size := by
  have := World.var?_cell gTab h 0
  exact cell_lt (p := ⟨3, 0, none⟩) (this.trans (by rfl : _ = some (Value.int .u64 1)))
theorem TabW.old {w w' : World} (h : TabW w) (hb : Below w.heap.size w w') : TabW w' := h.below hb h.lt

theorem gSyn : Tryz.prog.globalNamed "strconv.ErrSyntax" = some 1 := by kernel_rfl
theorem gRng : Tryz.prog.globalNamed "strconv.ErrRange" = some 2 := by kernel_rfl
theorem ErrW.old {w w' : World} (h : ErrW w) (hb : Below w.heap.size w w') : ErrW w' := by
  obtain ⟨⟨t1, p1, h1⟩, t2, p2, h2⟩ := h
  have l1 : 1 < w.heap.size := by
    have := World.var?_cell gSyn h1 0
    exact cell_lt (p := ⟨1, 0, none⟩) (v := .iface t1 p1) (by simpa using this)
  have l2 : 2 < w.heap.size := by
    have := World.var?_cell gRng h2 0
    exact cell_lt (p := ⟨2, 0, none⟩) (v := .iface t2 p2) (by simpa using this)
  exact ⟨⟨t1, p1, var_at h1 fun g hg => by obtain rfl := Option.some.inj (gSyn.symm.trans hg); exact hb.block _ l1⟩,
    t2, p2, var_at h2 fun g hg => by obtain rfl := Option.some.inj (gRng.symm.trans hg); exact hb.block _ l2⟩
theorem MaxW.old {w w' : World} (h : MaxW w) (hb : Below w.heap.size w w') : MaxW w' := by
  obtain ⟨m, hm⟩ := h
  exact ⟨m, by rw [hb.cell (p := ⟨0, 0, none⟩) (cell_lt hm)]; exact hm⟩
theorem maxW_of {W : World} (h : W.ShapedOpen Tryz.prog) : MaxW W := Tryz.laysM145.s1_3 W h

/-- The table, out of a row's list that has it. -/
theorem tabW_of {l : List (String × DataW Unit)} {W : World} (h : laidMetH Tryz.prog l W)
    (hf : l.filter (fun x => x.1 == "internal/strconv.uint64pow10") = [("internal/strconv.uint64pow10", Lib.tabData .u64 Lib.pow10Tab)]) : TabW W := by
  have h2 := h.filter (fun x => x.1 == "internal/strconv.uint64pow10")
  rw [hf, MakeChecks.laidMetH_plain _ _ _ (by kernel_rfl)] at h2
  exact Lib.tabIs_of_head (t := 130) (e := 67) (n := 20) gTab (by kernel_rfl) Tryz.underlying130 Tryz.underlying67 (by kernel_rfl) (by kernel_rfl) h2

theorem row_err : ∀ u, Tryz.prog.typeName? 3 u = some "*errors.errorString" → u = 138 :=
  fun u hu => typeName_ptr_named (nm := "errors.errorString") (by kernel_rfl) (by kernel_rfl) (by decide) u hu
theorem sentinel_of {l : List (String × DataW Unit)} {W : World} (h : laidMetH Tryz.prog l W) (n : String) (text : List UInt8) (g : Nat)
    (hf : l.filter (fun x => x.1 == n) = [(n, .iface "*errors.errorString" (.ptr (.agg [.lit (.string text)])))])
    (hg : Tryz.prog.globalNamed n = some g) (ht : (Tryz.prog.globals[g]?).map (·.type) = some 64) : ∃ tp p, W.var? Tryz.prog n = some #[.iface tp p] := by
  have h2 := h.filter (fun x => x.1 == n)
  rw [hf, MakeChecks.laidMetH_plain _ _ _ (by rfl)] at h2
  obtain ⟨a, s, hv, _⟩ := laid_sentinel h2 hg ht Tryz.underlying64 row_err Tryz.underlying138 Tryz.underlying140 rfl rfl Tryz.underlying9 (by kernel_rfl) (by kernel_rfl)
  exact ⟨_, _, hv⟩
theorem errW_of {l : List (String × DataW Unit)} {W : World} (h : laidMetH Tryz.prog l W)
    (h1 : l.filter (fun x => x.1 == "strconv.ErrSyntax") = [("strconv.ErrSyntax", Rows.laid_strconv_ErrSyntax)])
    (h2 : l.filter (fun x => x.1 == "strconv.ErrRange") = [("strconv.ErrRange", Rows.laid_strconv_ErrRange)]) : ErrW W :=
  ⟨sentinel_of h _ _ _ h1 gSyn (by kernel_rfl), sentinel_of h _ _ _ h2 gRng (by kernel_rfl)⟩
end Go.Proofs.YtgpchkobjgglhaaGreatDoor
