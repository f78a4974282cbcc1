/- Calls to a table of flows that came in. -/
import Derived.Test.YtgmimdnebgncoaaGreatGMZ
set_option linter.unusedVariables false
set_option linter.unusedSimpArgs false
namespace Go.Proofs.YtgmimdnebgncoaaGreat
open Go.ChangeShapes Go.WideShapes Go.ChangeAt Go.RowKit

structure CallF where
  do_ : Int
  f : FlD
  now : Int
def CallF.cells (c : CallF) : List Value := .int .i64 c.do_ :: (fcl c.f ++ [.int .i64 c.now])
structure CallFOk (c : CallF) : Prop where
  d : i64 c.do_
  f : FlOk c.f
  n : i64 c.now
def gcF (l : List CallF) (i : Nat) : CallF := l.getD i ⟨0, noF, 0⟩
theorem gcF_get (l : List CallF) (i : Nat) (h : i < l.length) : gcF l i = l[i] := by unfold gcF; rw [List.getD_eq_getElem?_getD, List.getElem?_eq_getElem h]; rfl
theorem gcF_mem (l : List CallF) (i : Nat) (h : i < l.length) : gcF l i ∈ l := by rw [gcF_get l i h]; exact List.getElem_mem h
variable {H : Type} {enc : TypeId × Value → H} {W : World} {base : Nat} {v : Value} {d : DataW H} {p : List MemPlace} {cs : List Value}
theorem listTen {α : Type} {l : List α} (h : l.length = 10) : ∃ a b c d e f g i j k, l = [a, b, c, d, e, f, g, i, j, k] := by
  match l, h with
  | [a, b, c, d, e, f, g, i, j, k], _ => exact ⟨a, b, c, d, e, f, g, i, j, k, rfl⟩
theorem listThree {α : Type} {l : List α} (h : l.length = 3) : ∃ a b c, l = [a, b, c] := by
  match l, h with
  | [a, b, c], _ => exact ⟨a, b, c, rfl⟩
theorem Tr.callF (h : Tr enc Tryz.prog W 37 cs d) : ∃ c : CallF, cs = c.cells ∧ CallFOk c := by
  obtain ⟨ds, hd, hl, hc, hf⟩ := h.struct Tryz.underlying37
  have hcc : Tryz.prog.cellsOf 37 = 10 := by kernel_rfl
  have hcf : Tryz.prog.cellsOf 35 = 8 := by kernel_rfl
  rw [hcc] at hc
  obtain ⟨u1, u2, u3, u4, u5, u6, u7, u8, u9, u10, rfl⟩ := listTen hc
  obtain ⟨f0, f1, f2, rfl⟩ := listThree (l := ds) (by simpa using hl)
  have k0 : Tr enc Tryz.prog W 3 ((([u1, u2, u3, u4, u5, u6, u7, u8, u9, u10] : List Value).drop 0).take (Tryz.prog.cellsOf 3)) f0 := hf 0 _ f0 rfl rfl
  have k1 : Tr enc Tryz.prog W 35 ((([u1, u2, u3, u4, u5, u6, u7, u8, u9, u10] : List Value).drop 1).take (Tryz.prog.cellsOf 35)) f1 := hf 1 _ f1 rfl rfl
  have k2 : Tr enc Tryz.prog W 2 ((([u1, u2, u3, u4, u5, u6, u7, u8, u9, u10] : List Value).drop 9).take (Tryz.prog.cellsOf 2)) f2 := hf 2 _ f2 rfl rfl
  rw [cint] at k0
  rw [hcf] at k1
  rw [cint64] at k2
  obtain ⟨f, gf, hfo⟩ := k1.flD
  obtain ⟨y1, q1, m1, n1, _⟩ := k0.i64 Tryz.underlying3
  obtain ⟨y2, q2, m2, n2, _⟩ := k2.i64 Tryz.underlying2
  simp at q1 q2 gf
  subst q1 q2
  refine ⟨⟨y1, f, y2⟩, ?_, ⟨⟨m1, n1⟩, hfo, ⟨m2, n2⟩⟩⟩
  unfold CallF.cells
  simp only
  rw [← gf]
  rfl
set_option maxRecDepth 20000 in
theorem ArgIn.callsF (h : ArgIn enc Tryz.prog W base 22 v d p) : ∃ (a : Option Addr) (cap : Nat) (l : List CallF), v = .slice a l.length cap ∧ RowS W a l.length cap 10 (l.map CallF.cells) ∧ (∀ c ∈ l, CallFOk c) := by
  obtain ⟨a0, len0, cap0, rfl⟩ := okWide_slice Tryz.underlying22 h.ok
  obtain ⟨a, cap, bs, hcs, hr, hok, _⟩ := h.tr.rowsOf CallF.cells CallFOk 10 Tryz.underlying22 (by kernel_rfl) (fun _ => rfl) (by decide) (fun cs d h => h.callF)
  simp [Value.cells] at hcs
  obtain ⟨rfl, rfl, rfl⟩ := hcs
  exact ⟨_, _, bs, rfl, hr, hok⟩
theorem callF_cells {w : World} {g off n cap : Nat} {l : List CallF} (h : RowS w (some ⟨g, off, none⟩) n cap 10 (l.map CallF.cells)) (k : Nat) (hk : k < l.length) :
    ∀ j u, ((gcF l k).cells)[j]? = some u → w.cell? ⟨g, off + k * 10 + j, none⟩ = some u := by
  have hk' : k < (l.map CallF.cells).length := by simpa using hk
  have e : (l.map CallF.cells)[k] = (gcF l k).cells := by rw [List.getElem_map, gcF_get l k hk]
  intro j u hu
  exact h.cell k hk' j u (by rw [e]; exact hu)
def CallF.arr (c : CallF) : Array Value := #[.int .i64 c.do_, .int .u32 c.f.t.src, .int .u32 c.f.t.dst, .int .i64 c.f.t.proto, .int .i64 c.f.t.sport, .int .i64 c.f.t.dport, .int .i64 c.f.fb, .int .i64 c.f.fg, .int .i64 c.f.fs, .int .i64 c.now]
end Go.Proofs.YtgmimdnebgncoaaGreat
