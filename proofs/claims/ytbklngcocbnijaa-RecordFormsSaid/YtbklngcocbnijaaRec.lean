/- Records: their parts, their cells. -/
import Derived.Test.YtbklngcocbnijaaRowS
import Derived.Test.YtbklngcocbnijaaAgg
import Derived.Test.YtbklngcocbnijaaTr
import Derived.Test.YtbklngcocbnijaaGen
import Derived.Deep.RegionHeld3
set_option linter.unusedVariables false
namespace Go.Proofs.Ytbklngcocbnijaa
open Go.RowKit

structure TupD where
  src : Int
  dst : Int
  proto : Int
  sport : Int
  dport : Int
structure BkD where
  id : Int
  addr : Int
  weight : Int
structure RecD where
  kind : Int
  t : TupD
  fb : Int
  fg : Int
  fs : Int
  gen : Int
  bs : List BkD
  be : Int
  un : Int
  ct : Int
def BkD.cells (b : BkD) : List Value := [.int .i64 b.id, .int .u32 b.addr, .int .i64 b.weight]
def i64 (n : Int) : Prop := -9223372036854775808 ≤ n ∧ n ≤ 9223372036854775807
def u32 (n : Int) : Prop := 0 ≤ n ∧ n ≤ 4294967295
structure TupOk (t : TupD) : Prop where
  src : u32 t.src
  dst : u32 t.dst
  proto : i64 t.proto
  sport : i64 t.sport
  dport : i64 t.dport
structure BkOk (b : BkD) : Prop where
  id : i64 b.id
  addr : u32 b.addr
  weight : i64 b.weight
structure RecOk (r : RecD) : Prop where
  kind : i64 r.kind
  t : TupOk r.t
  fb : i64 r.fb
  fg : i64 r.fg
  fs : i64 r.fs
  gen : i64 r.gen
  bs : ∀ b ∈ r.bs, BkOk b
  be : i64 r.be
  un : i64 r.un
  ct : i64 r.ct
/-- A record's cells; its backends lie at a. -/
def rcs (r : RecD) (a : Option Addr) (cap : Nat) : Array Value :=
  #[.int .i64 r.kind, .int .u32 r.t.src, .int .u32 r.t.dst, .int .i64 r.t.proto, .int .i64 r.t.sport, .int .i64 r.t.dport, .int .i64 r.fb, .int .i64 r.fg, .int .i64 r.fs, .int .i64 r.gen, .slice a r.bs.length cap, .int .i64 r.be, .int .i64 r.un, .int .i64 r.ct]
/-- A slice of backends. -/
def RowK (w : World) (a : Option Addr) (len cap : Nat) (bs : List BkD) : Prop := RowS w a len cap 3 (bs.map BkD.cells)
def OwnK (w : World) (base : Nat) (v : Value) (bs : List BkD) : Prop := OwnS w base 61 3 v (bs.map BkD.cells)
theorem RowK.still {w w' : World} {a : Option Addr} {len cap : Nat} {bs : List BkD} (h : RowK w a len cap bs) (t : Touch w w' (fun _ => False)) : RowK w' a len cap bs := RowS.still h t
theorem RowK.touch {w w' : World} {a : Option Addr} {len cap : Nat} {bs : List BkD} {S : Nat → Prop} (h : RowK w a len cap bs) (t : Touch w w' S) (h1 : ∀ x, a = some x → len = 0 ∨ ¬ S x.block) : RowK w' a len cap bs := RowS.touch h t h1
theorem RowK.toS {w : World} {a : Option Addr} {len cap : Nat} {bs : List BkD} (h : RowK w a len cap bs) : RowS w a len cap 3 (bs.map BkD.cells) := h
theorem OwnK.toS {w : World} {base : Nat} {v : Value} {bs : List BkD} (h : OwnK w base v bs) : OwnS w base 61 3 v (bs.map BkD.cells) := h
theorem RowK.len {w : World} {a : Option Addr} {len cap : Nat} {bs : List BkD} (h : RowK w a len cap bs) : bs.length = len := by have := h.hlen; simpa using this
theorem OwnK.still {w w' : World} {base : Nat} {v : Value} {bs : List BkD} (h : OwnK w base v bs) (t : Touch w w' (fun _ => False)) : OwnK w' base v bs := OwnS.still h t
theorem OwnK.touch {w w' : World} {base : Nat} {v : Value} {bs : List BkD} {S : Nat → Prop} (h : OwnK w base v bs) (t : Touch w w' S) (h1 : ∀ x, v.ownBlock = some x → ¬ S x) : OwnK w' base v bs := OwnS.touch h t h1
theorem OwnK.rebase {w : World} {base base' : Nat} {v : Value} {bs : List BkD} (h : OwnK w base v bs) (hb : ∀ x, v.ownBlock = some x → base' ≤ x) : OwnK w base' v bs := OwnS.rebase h hb
theorem OwnK.row {w : World} {base : Nat} {a : Option Addr} {n c : Nat} {bs : List BkD} (h : OwnK w base (.slice a n c) bs) : bs.length = n ∧ RowK w a n c bs ∧ (∀ x, a = some x → base ≤ x.block ∧ x.block < w.heap.size) := by
  obtain ⟨h1, h2, h3⟩ := OwnS.row' h
  exact ⟨by simpa using h1, h2, h3⟩
def noT : TupD := ⟨0, 0, 0, 0, 0⟩
/-- Without what its kind has not. -/
def plainD (r : RecD) : RecD :=
  if r.kind = 1 then ⟨1, r.t, r.fb, r.fg, r.fs, 0, [], 0, 0, 0⟩
  else if r.kind = 2 then ⟨2, r.t, 0, 0, 0, 0, [], 0, 0, 0⟩
  else if r.kind = 3 then ⟨3, noT, 0, 0, 0, r.gen, r.bs, 0, 0, 0⟩
  else if r.kind = 4 then ⟨4, noT, 0, 0, 0, 0, [], r.be, r.un, 0⟩
  else if r.kind = 5 then ⟨5, noT, 0, 0, 0, 0, [], r.be, 0, 0⟩
  else if r.kind = 6 then ⟨6, noT, 0, 0, 0, 0, [], 0, 0, r.ct⟩
  else ⟨r.kind, noT, 0, 0, 0, 0, [], 0, 0, 0⟩
theorem infoRec : (Try.prog.info? 29).map (·.size) = some 14 := by kernel_rfl
theorem infoBk : (Try.prog.info? 61).map (fun i => (i.zero, i.size, i.bytes)) = some (some (.agg #[.int .i64 0, .int .u32 0, .int .i64 0]), 3, 24) := by kernel_rfl
/-- What comes of a record: its value, its backends a row of the call's own. -/
def RecIs (w w' : World) (r : RecD) (e : Ending) : Prop :=
  ∃ (a' : Option Addr) (cap' : Nat), e = .returned (.agg (rcs r a' cap')) ∧ OwnK w' w.heap.size (.slice a' r.bs.length cap') r.bs ∧ Touch w w' (fun _ => False)

theorem heap_mid (w : World) (A B C : Obj) : (((w.alloc A).alloc B).alloc C).heap[w.heap.size + 1]? = some B := by
  show (((w.heap.push A).push B).push C)[w.heap.size + 1]? = some B
  rw [Array.getElem?_push, if_neg (by simp), Array.getElem?_push, if_pos (by simp)]
theorem rcells_of {w : World} {B : Nat} {r : RecD} {a : Option Addr} {cap : Nat} (hb : w.heap[B]? = some (.cells (rcs r a cap) 29 (0, 0))) :
    w.cell? ⟨B, 0, Option.none⟩ = some (.int .i64 r.kind) ∧ w.cell? ⟨B, 1, Option.none⟩ = some (.int .u32 r.t.src) ∧ w.cell? ⟨B, 2, Option.none⟩ = some (.int .u32 r.t.dst) ∧ w.cell? ⟨B, 3, Option.none⟩ = some (.int .i64 r.t.proto) ∧ w.cell? ⟨B, 4, Option.none⟩ = some (.int .i64 r.t.sport) ∧ w.cell? ⟨B, 5, Option.none⟩ = some (.int .i64 r.t.dport) ∧
    w.cell? ⟨B, 6, Option.none⟩ = some (.int .i64 r.fb) ∧ w.cell? ⟨B, 7, Option.none⟩ = some (.int .i64 r.fg) ∧ w.cell? ⟨B, 8, Option.none⟩ = some (.int .i64 r.fs) ∧ w.cell? ⟨B, 9, Option.none⟩ = some (.int .i64 r.gen) ∧ w.cell? ⟨B, 10, Option.none⟩ = some (.slice a r.bs.length cap) ∧
    w.cell? ⟨B, 11, Option.none⟩ = some (.int .i64 r.be) ∧ w.cell? ⟨B, 12, Option.none⟩ = some (.int .i64 r.un) ∧ w.cell? ⟨B, 13, Option.none⟩ = some (.int .i64 r.ct) :=
  ⟨cell_of_cells hb 0, cell_of_cells hb 1, cell_of_cells hb 2, cell_of_cells hb 3, cell_of_cells hb 4, cell_of_cells hb 5, cell_of_cells hb 6, cell_of_cells hb 7, cell_of_cells hb 8, cell_of_cells hb 9, cell_of_cells hb 10, cell_of_cells hb 11, cell_of_cells hb 12, cell_of_cells hb 13⟩
theorem rgen_of {w : World} {B : Nat} {kind src dst proto sport dport fb fg fs gen be un ct : Int} {bs : List BkD} {a : Option Addr} {cap : Nat} (hb : w.heap[B]? = some (.cells (rcs ⟨kind, ⟨src, dst, proto, sport, dport⟩, fb, fg, fs, gen, bs, be, un, ct⟩ a cap) 29 (0, 0))) :
    w.cell? ⟨B, 9, Option.none⟩ = some (.int .i64 gen) ∧ w.cell? ⟨B, 10, Option.none⟩ = some (.slice a bs.length cap) := ⟨cell_of_cells hb 9, cell_of_cells hb 10⟩
theorem heap_low (w : World) (A B C : Obj) : (((w.alloc A).alloc B).alloc C).heap[w.heap.size]? = some A := by
  show (((w.heap.push A).push B).push C)[w.heap.size]? = some A
  rw [Array.getElem?_push, if_neg (by simp; omega), Array.getElem?_push, if_neg (by simp), Array.getElem?_push, if_pos rfl]
theorem heap_top (w : World) (A B C : Obj) : (((w.alloc A).alloc B).alloc C).heap[w.heap.size + 2]? = some C := by
  show (((w.heap.push A).push B).push C)[w.heap.size + 2]? = some C
  rw [Array.getElem?_push, if_pos (by simp)]
theorem still3 (w : World) (A B C : Obj) : Touch w (((w.alloc A).alloc B).alloc C) (fun _ => False) := (((Touch.refl w (fun _ => False)).alloc A).alloc B).alloc C
theorem OwnK.none (w : World) (base : Nat) : OwnK w base (.slice Option.none 0 0) [] := OwnS.nil _ _ _ _
/-- A record that lies in memory is handed back. -/
theorem recRet {w0 w : World} (q : RecD) (g : Nat) (a : Option Addr) (cap : Nat) {fn : Func} {x : Act} {p : Tmp} (hf : fn.results = #[.cell p 29]) (hd : x.defers = []) (hp : x.tmps.getD p undef = .pointer (some ⟨g, 0, Option.none⟩))
    (hg : w.heap[g]? = some (.cells (rcs q a cap) 29 (0, 0))) (ho : OwnK w w0.heap.size (.slice a q.bs.length cap) q.bs) (ht : Touch w0 w (fun _ => False)) :
    bodyPost Try.prog fn (fun e w' => RecIs w0 w' q e) .ret x w :=
  ret_row hf hd g 29 (rcs q a cap) (0, 0) _ hp hg Try.underlying29 rfl infoRec ⟨a, cap, rfl, ho, ht⟩
theorem recEnd (w : World) (A C : Obj) (q : RecD) (h : q.bs = []) {fn : Func} {x : Act} {p : Tmp} (hf : fn.results = #[.cell p 29]) (hd : x.defers = []) (hp : x.tmps.getD p undef = .pointer (some ⟨w.heap.size + 1, 0, Option.none⟩)) :
    bodyPost Try.prog fn (fun e w' => RecIs w w' q e) .ret x (((w.alloc A).alloc (.cells (rcs q Option.none 0) 29)).alloc C) := by
  refine ret_row hf hd (w.heap.size + 1) 29 (rcs q Option.none 0) (0, 0) _ hp (heap_mid _ _ _ _) Try.underlying29 rfl infoRec ?_
  exact ⟨Option.none, 0, rfl, by rw [h]; exact OwnK.none _ _, still3 _ _ _ _⟩
theorem recEndD (w : World) (A C : Obj) (q : RecD) (h : q.bs = []) {fn : Func} {x : Act} {p : Tmp} (hf : fn.results = #[.cell p 29]) (hd : x.defers = []) (hp : x.tmps.getD p undef = .pointer (some ⟨w.heap.size + 1, 0, Option.none⟩)) :
    bodyPost Try.prog fn (fun e w' => RecIs w w' q e) .ret x (((w.alloc A).alloc (.cells (rcs q Option.none 0) 29)).alloc C).drew := by
  refine ret_row hf hd (w.heap.size + 1) 29 (rcs q Option.none 0) (0, 0) _ hp (heap_mid _ _ _ _) Try.underlying29 rfl infoRec ?_
  exact ⟨Option.none, 0, rfl, by rw [h]; exact OwnK.none _ _, (still3 _ _ _ _).drew⟩

end Go.Proofs.Ytbklngcocbnijaa
