/- GC: Rec, RecPlain, RecClone, RecSameK, RecMays, FrArg, RecArgs. -/
import Derived.Test.YtgmimdnebgncoaaGreatGAZ
import Derived.Test.YtgmimdnebgncoaaGreatGBZ
import Derived.Deep.RegionHeld3
import Derived.BigQuiet
import Derived.StillTailTactics
section
/- Records: their parts, their cells. -/
set_option linter.unusedVariables false
namespace Go.Proofs.YtgmimdnebgncoaaGreat
open Go.RowKit

structure TupD where
  src : Int
  dst : Int
  proto : Int
  sport : Int
  dport : Int
structure BkD where
  id : Int
  addr : Int
  weight : Int
structure RecD where
  kind : Int
  t : TupD
  fb : Int
  fg : Int
  fs : Int
  gen : Int
  bs : List BkD
  be : Int
  un : Int
  ct : Int
def BkD.cells (b : BkD) : List Value := [.int .i64 b.id, .int .u32 b.addr, .int .i64 b.weight]
def i64 (n : Int) : Prop := -9223372036854775808 ≤ n ∧ n ≤ 9223372036854775807
def u32 (n : Int) : Prop := 0 ≤ n ∧ n ≤ 4294967295
structure TupOk (t : TupD) : Prop where
  src : u32 t.src
  dst : u32 t.dst
  proto : i64 t.proto
  sport : i64 t.sport
  dport : i64 t.dport
structure BkOk (b : BkD) : Prop where
  id : i64 b.id
  addr : u32 b.addr
  weight : i64 b.weight
structure RecOk (r : RecD) : Prop where
  kind : i64 r.kind
  t : TupOk r.t
  fb : i64 r.fb
  fg : i64 r.fg
  fs : i64 r.fs
  gen : i64 r.gen
  bs : ∀ b ∈ r.bs, BkOk b
  be : i64 r.be
  un : i64 r.un
  ct : i64 r.ct
/-- A record's cells; its backends lie at a. -/
def rcs (r : RecD) (a : Option Addr) (cap : Nat) : Array Value :=
  #[.int .i64 r.kind, .int .u32 r.t.src, .int .u32 r.t.dst, .int .i64 r.t.proto, .int .i64 r.t.sport, .int .i64 r.t.dport, .int .i64 r.fb, .int .i64 r.fg, .int .i64 r.fs, .int .i64 r.gen, .slice a r.bs.length cap, .int .i64 r.be, .int .i64 r.un, .int .i64 r.ct]
/-- A slice of backends. -/
def RowK (w : World) (a : Option Addr) (len cap : Nat) (bs : List BkD) : Prop := RowS w a len cap 3 (bs.map BkD.cells)
theorem RowK.still {w w' : World} {a : Option Addr} {len cap : Nat} {bs : List BkD} (h : RowK w a len cap bs) (t : Touch w w' (fun _ => False)) : RowK w' a len cap bs := RowS.still h t
theorem RowK.touch {w w' : World} {a : Option Addr} {len cap : Nat} {bs : List BkD} {S : Nat → Prop} (h : RowK w a len cap bs) (t : Touch w w' S) (h1 : ∀ x, a = some x → len = 0 ∨ ¬ S x.block) : RowK w' a len cap bs := RowS.touch h t h1
theorem RowK.toS {w : World} {a : Option Addr} {len cap : Nat} {bs : List BkD} (h : RowK w a len cap bs) : RowS w a len cap 3 (bs.map BkD.cells) := h
theorem RowK.len {w : World} {a : Option Addr} {len cap : Nat} {bs : List BkD} (h : RowK w a len cap bs) : bs.length = len := by have := h.hlen; simpa using this
def noT : TupD := ⟨0, 0, 0, 0, 0⟩
/-- Without what its kind has not. -/
def plainD (r : RecD) : RecD :=
  if r.kind = 1 then ⟨1, r.t, r.fb, r.fg, r.fs, 0, [], 0, 0, 0⟩
  else if r.kind = 2 then ⟨2, r.t, 0, 0, 0, 0, [], 0, 0, 0⟩
  else if r.kind = 3 then ⟨3, noT, 0, 0, 0, r.gen, r.bs, 0, 0, 0⟩
  else if r.kind = 4 then ⟨4, noT, 0, 0, 0, 0, [], r.be, r.un, 0⟩
  else if r.kind = 5 then ⟨5, noT, 0, 0, 0, 0, [], r.be, 0, 0⟩
  else if r.kind = 6 then ⟨6, noT, 0, 0, 0, 0, [], 0, 0, r.ct⟩
  else ⟨r.kind, noT, 0, 0, 0, 0, [], 0, 0, 0⟩
theorem heap_mid (w : World) (A B C : Obj) : (((w.alloc A).alloc B).alloc C).heap[w.heap.size + 1]? = some B := by
  show (((w.heap.push A).push B).push C)[w.heap.size + 1]? = some B
  rw [Array.getElem?_push, if_neg (by simp), Array.getElem?_push, if_pos (by simp)]
theorem heap_low (w : World) (A B C : Obj) : (((w.alloc A).alloc B).alloc C).heap[w.heap.size]? = some A := by
  show (((w.heap.push A).push B).push C)[w.heap.size]? = some A
  rw [Array.getElem?_push, if_neg (by simp; omega), Array.getElem?_push, if_neg (by simp), Array.getElem?_push, if_pos rfl]
theorem heap_top (w : World) (A B C : Obj) : (((w.alloc A).alloc B).alloc C).heap[w.heap.size + 2]? = some C := by
  show (((w.heap.push A).push B).push C)[w.heap.size + 2]? = some C
  rw [Array.getElem?_push, if_pos (by simp)]
theorem still3 (w : World) (A B C : Obj) : Touch w (((w.alloc A).alloc B).alloc C) (fun _ => False) := (((Touch.refl w (fun _ => False)).alloc A).alloc B).alloc C
end Go.Proofs.YtgmimdnebgncoaaGreat

end

section
/- Records: what Plain of package record answers, but for a set of backends. -/
set_option linter.unusedVariables false
set_option linter.unusedSimpArgs false
namespace Go.Proofs.YtgmimdnebgncoaaGreat
open Go.RowKit

end Go.Proofs.YtgmimdnebgncoaaGreat

end

section
/- Records: a row of backends is copied; Plain of package record. -/
set_option linter.unusedVariables false
set_option linter.unusedSimpArgs false
namespace Go.Proofs.YtgmimdnebgncoaaGreat
open Go.RowKit

theorem bk_one (bs : List BkD) : ∀ l ∈ bs.map BkD.cells, ∀ u ∈ l, u.oneCell' = true := by
  intro l hl u hu
  obtain ⟨b, _, rfl⟩ := List.mem_map.1 hl
  simp only [BkD.cells, List.mem_cons, List.not_mem_nil, or_false] at hu
  rcases hu with rfl | rfl | rfl <;> rfl
theorem bk_three (bs : List BkD) : ∀ l ∈ bs.map BkD.cells, l.length = 3 := by
  intro l hl
  obtain ⟨b, _, rfl⟩ := List.mem_map.1 hl
  rfl
theorem setk2 {w : World} {n j : Nat} {v : Value} {o : Option Obj} (h : w.heap[n]? = o) : (w.setCell ⟨n + 1 + 1, j, none⟩ v).heap[n]? = o := by
  rw [heap_setCell_other _ _ _ _ (by simp; omega)]; exact h
end Go.Proofs.YtgmimdnebgncoaaGreat

end

section
/- Rows of backends: are two the same? -/
set_option linter.unusedVariables false
set_option linter.unusedSimpArgs false
namespace Go.Proofs.YtgmimdnebgncoaaGreat
open Go.RowKit

def BkD.val (b : BkD) : Int × Int × Int := (b.id, b.addr, b.weight)
def sameK (bs cs : List BkD) : Bool := decide (bs.map BkD.val = cs.map BkD.val)
theorem sameK_len {bs cs : List BkD} (h : bs.length ≠ cs.length) : sameK bs cs = false := by
  unfold sameK; exact decide_eq_false (fun e => h (by have := congrArg List.length e; simpa using this))
theorem sameK_at {bs cs : List BkD} (i : Nat) (h1 : i < bs.length) (h2 : i < cs.length) (h : bs[i].val ≠ cs[i].val) : sameK bs cs = false := by
  unfold sameK
  refine decide_eq_false (fun e => h ?_)
  have := congrArg (fun l : List (Int × Int × Int) => l[i]?) e
  simpa [h1, h2] using this
theorem sameK_all {bs cs : List BkD} (hl : bs.length = cs.length) (h : (bs.map BkD.val).take bs.length = (cs.map BkD.val).take bs.length) : sameK bs cs = true := by
  unfold sameK; apply decide_eq_true
  rw [List.take_of_length_le (by simp), List.take_of_length_le (by simp; omega)] at h; exact h
theorem RowK.cells {w : World} {b off len cap : Nat} {bs : List BkD} (h : RowK w (some ⟨b, off, none⟩) len cap bs) (i : Nat) (hi : i < bs.length) :
    w.cell? ⟨b, off + i * 3, none⟩ = some (.int .i64 bs[i].id) ∧ w.cell? ⟨b, off + i * 3 + 1, none⟩ = some (.int .u32 bs[i].addr) ∧ w.cell? ⟨b, off + i * 3 + 2, none⟩ = some (.int .i64 bs[i].weight) := by
  have hi' : i < (bs.map BkD.cells).length := by simpa using hi
  have e : (bs.map BkD.cells)[i] = bs[i].cells := by simp
  exact ⟨h.cell i hi' 0 _ (by rw [e]; rfl), h.cell i hi' 1 _ (by rw [e]; rfl), h.cell i hi' 2 _ (by rw [e]; rfl)⟩
theorem RowK.some {w : World} {a : Option Addr} {len cap : Nat} {bs : List BkD} (h : RowK w a len cap bs) (h0 : 0 < len) : ∃ b off, a = .some ⟨b, off, Option.none⟩ := RowS.some h h0

end Go.Proofs.YtgmimdnebgncoaaGreat

end

section
/- Records: the small questions: is it a number, a time, a port, a tuple, a backend? -/
set_option linter.unusedVariables false
set_option linter.unusedSimpArgs false
namespace Go.Proofs.YtgmimdnebgncoaaGreat
open Go.RowKit

def idB (n : Int) : Bool := decide (0 ≤ n ∧ n ≤ 65535)
def cntB (n : Int) : Bool := decide (0 ≤ n ∧ n ≤ 1000000)
def timB (n : Int) : Bool := decide (0 ≤ n ∧ n ≤ 1099511627776)
def verB (n : Int) : Bool := decide (1 ≤ n ∧ n ≤ 3)
theorem idB_iff (n : Int) : idB n = true ↔ 0 ≤ n ∧ n ≤ 65535 := by unfold idB; exact decide_eq_true_iff
theorem cntB_iff (n : Int) : cntB n = true ↔ 0 ≤ n ∧ n ≤ 1000000 := by unfold cntB; exact decide_eq_true_iff
theorem timB_iff (n : Int) : timB n = true ↔ 0 ≤ n ∧ n ≤ 1099511627776 := by unfold timB; exact decide_eq_true_iff
theorem verB_iff (n : Int) : verB n = true ↔ 1 ≤ n ∧ n ≤ 3 := by unfold verB; exact decide_eq_true_iff
def mayTB (t : TupD) : Bool := decide ((t.proto = 6 ∨ t.proto = 17) ∧ (0 ≤ t.sport ∧ t.sport ≤ 65535) ∧ 0 ≤ t.dport ∧ t.dport ≤ 65535)
def mayKB (b : BkD) : Bool := decide ((0 ≤ b.id ∧ b.id ≤ 65535) ∧ 1 ≤ b.weight ∧ b.weight ≤ 10)
theorem mayTB_iff (t : TupD) : mayTB t = true ↔ ((t.proto = 6 ∨ t.proto = 17) ∧ (0 ≤ t.sport ∧ t.sport ≤ 65535) ∧ 0 ≤ t.dport ∧ t.dport ≤ 65535) := by unfold mayTB; exact decide_eq_true_iff
theorem mayKB_iff (b : BkD) : mayKB b = true ↔ ((0 ≤ b.id ∧ b.id ≤ 65535) ∧ 1 ≤ b.weight ∧ b.weight ≤ 10) := by unfold mayKB; exact decide_eq_true_iff
def tcs (t : TupD) : Array Value := #[.int .u32 t.src, .int .u32 t.dst, .int .i64 t.proto, .int .i64 t.sport, .int .i64 t.dport]
theorem ret_bool {a b : Bool} (h : a = b) : Ending.returned (.bool a) = .returned (.bool b) := by rw [h]
set_option maxHeartbeats 1000000
theorem isPort_any (n : Int) (w : World) :
    Calls Tryz.prog 59 #[.int .i64 n] w fun e w' => e = .returned (.bool (idB n)) ∧ w' = w := by
  have HM := Lib.hid (idB_iff n)
  generalize idB n = m at *
  go_enter Tryz.func59, Tryz.ntmps59
  go_wp2
  all_goals (go_ret; refine ⟨ret_bool ?_, rfl⟩; rw [Bool.eq_iff_iff, HM.out]; clear HM; (first | (simp_all; done) | (simp_all; omega)))
theorem rmayT_any (t : TupD) (w : World) :
    Calls Tryz.prog 42 #[.agg (tcs t)] w fun e w' => e = .returned (.bool (mayTB t)) ∧ Touch w w' (fun _ => False) := by
  have HM := Lib.hid (mayTB_iff t)
  generalize mayTB t = m at *
  simp only [tcs]
  go_enter Tryz.func42, Tryz.ntmps42
  go_wp2
  all_goals (go_ret; refine ⟨ret_bool ?_, (Touch.refl _ _).alloc _⟩; rw [Bool.eq_iff_iff, HM.out]; clear HM; (first | (simp_all; done) | (simp_all; omega)))
theorem mayT_any (t : TupD) (w : World) :
    Calls Tryz.prog 40 #[.agg (tcs t)] w fun e w' => e = .returned (.bool (mayTB t)) ∧ Touch w w' (fun _ => False) := by
  have HM := Lib.hid (mayTB_iff t)
  have H1 := Lib.hid (idB_iff t.sport)
  have H2 := Lib.hid (idB_iff t.dport)
  generalize mayTB t = m at *
  simp only [tcs]
  go_enter Tryz.func40, Tryz.ntmps40
  go_wp2_with (go_at_call 59; (with_reducible refine (isPort_any _ _).mono ?_); rintro e w' ⟨rfl, rfl⟩)
  all_goals (go_ret; refine ⟨ret_bool ?_, (Touch.refl _ _).alloc _⟩; rw [Bool.eq_iff_iff, HM.out, ← H1.out, ← H2.out]; clear HM H1 H2; (first | (simp_all; done) | (simp_all; omega)))
end Go.Proofs.YtgmimdnebgncoaaGreat

end

section
/- A frame that came in. -/
set_option linter.unusedVariables false
namespace Go.Proofs.YtgmimdnebgncoaaGreat
open Go.ChangeShapes Go.WideShapes Go.ChangeAt Go.RowKit

end Go.Proofs.YtgmimdnebgncoaaGreat

end

section
/- A record that came in. -/
set_option linter.unusedVariables false
namespace Go.Proofs.YtgmimdnebgncoaaGreat
open Go.ChangeShapes Go.WideShapes Go.ChangeAt Go.RowKit

section
variable {H : Type} {enc : TypeId × Value → H} {W : World} {base : Nat} {v : Value} {cs : List Value} {d : DataW H} {p : List MemPlace}
theorem listFive {α : Type} {l : List α} (h : l.length = 5) : ∃ a b c d e, l = [a, b, c, d, e] := by
  match l, h with
  | [a, b, c, d, e], _ => exact ⟨a, b, c, d, e, rfl⟩
theorem listFour {α : Type} {l : List α} (h : l.length = 4) : ∃ a b c d, l = [a, b, c, d] := by
  match l, h with
  | [a, b, c, d], _ => exact ⟨a, b, c, d, rfl⟩
theorem listSeven {α : Type} {l : List α} (h : l.length = 7) : ∃ a b c d e f g, l = [a, b, c, d, e, f, g] := by
  match l, h with
  | [a, b, c, d, e, f, g], _ => exact ⟨a, b, c, d, e, f, g, rfl⟩
theorem listEight {α : Type} {l : List α} (h : l.length = 8) : ∃ a b c d e f g i, l = [a, b, c, d, e, f, g, i] := by
  match l, h with
  | [a, b, c, d, e, f, g, i], _ => exact ⟨a, b, c, d, e, f, g, i, rfl⟩
theorem listFourteen {α : Type} {l : List α} (h : l.length = 14) : ∃ a0 a1 a2 a3 a4 a5 a6 a7 a8 a9 b0 b1 b2 b3, l = [a0, a1, a2, a3, a4, a5, a6, a7, a8, a9, b0, b1, b2, b3] := by
  match l, h with
  | [a0, a1, a2, a3, a4, a5, a6, a7, a8, a9, b0, b1, b2, b3], _ => exact ⟨a0, a1, a2, a3, a4, a5, a6, a7, a8, a9, b0, b1, b2, b3, rfl⟩
theorem cint : Tryz.prog.cellsOf 3 = 1 := by kernel_rfl
theorem cint64 : Tryz.prog.cellsOf 2 = 1 := by kernel_rfl
theorem cuint32 : Tryz.prog.cellsOf 31 = 1 := by kernel_rfl
theorem Tr.tupD (h : Tr enc Tryz.prog W 33 cs d) : ∃ t : TupD, cs = [.int .u32 t.src, .int .u32 t.dst, .int .i64 t.proto, .int .i64 t.sport, .int .i64 t.dport] ∧ TupOk t := by
  obtain ⟨ds, hd, hl, hc, hf⟩ := h.struct Tryz.underlying33
  have hc5 : Tryz.prog.cellsOf 33 = 5 := by kernel_rfl
  rw [hc5] at hc
  obtain ⟨u0, u1, u2, u3, u4, rfl⟩ := listFive hc
  obtain ⟨d0, d1, d2, d3, d4, rfl⟩ := listFive (l := ds) (by simpa using hl)
  have e0 : Tr enc Tryz.prog W 31 ((([u0, u1, u2, u3, u4] : List Value).drop 0).take (Tryz.prog.cellsOf 31)) d0 := hf 0 _ d0 rfl rfl
  have e1 : Tr enc Tryz.prog W 31 ((([u0, u1, u2, u3, u4] : List Value).drop 1).take (Tryz.prog.cellsOf 31)) d1 := hf 1 _ d1 rfl rfl
  have e2 : Tr enc Tryz.prog W 3 ((([u0, u1, u2, u3, u4] : List Value).drop 2).take (Tryz.prog.cellsOf 3)) d2 := hf 2 _ d2 rfl rfl
  have e3 : Tr enc Tryz.prog W 3 ((([u0, u1, u2, u3, u4] : List Value).drop 3).take (Tryz.prog.cellsOf 3)) d3 := hf 3 _ d3 rfl rfl
  have e4 : Tr enc Tryz.prog W 3 ((([u0, u1, u2, u3, u4] : List Value).drop 4).take (Tryz.prog.cellsOf 3)) d4 := hf 4 _ d4 rfl rfl
  rw [cuint32] at e0 e1
  rw [cint] at e2 e3 e4
  obtain ⟨x0, g0, a0, b0, _⟩ := e0.u32 Tryz.underlying31
  obtain ⟨x1, g1, a1, b1, _⟩ := e1.u32 Tryz.underlying31
  obtain ⟨x2, g2, a2, b2, _⟩ := e2.i64 Tryz.underlying3
  obtain ⟨x3, g3, a3, b3, _⟩ := e3.i64 Tryz.underlying3
  obtain ⟨x4, g4, a4, b4, _⟩ := e4.i64 Tryz.underlying3
  simp at g0 g1 g2 g3 g4
  subst g0 g1 g2 g3 g4
  exact ⟨⟨x0, x1, x2, x3, x4⟩, rfl, ⟨a0, b0⟩, ⟨a1, b1⟩, ⟨a2, b2⟩, ⟨a3, b3⟩, ⟨a4, b4⟩⟩
end
end Go.Proofs.YtgmimdnebgncoaaGreat

end
