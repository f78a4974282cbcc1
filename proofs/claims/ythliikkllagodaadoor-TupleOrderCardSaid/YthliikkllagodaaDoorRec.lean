/- Records: their parts, their cells. -/
import Derived.Test.YthliikkllagodaaDoorRowS
import Derived.Test.YthliikkllagodaaDoorAgg
import Derived.Test.YthliikkllagodaaDoorTr
import Derived.Test.YthliikkllagodaaDoorGen
import Derived.Deep.RegionHeld3
set_option linter.unusedVariables false
namespace Go.Proofs.YthliikkllagodaaDoor
open Go.RowKit

structure TupD where
  src : Int
  dst : Int
  proto : Int
  sport : Int
  dport : Int
structure BkD where
  id : Int
  addr : Int
  weight : Int
structure RecD where
  kind : Int
  t : TupD
  fb : Int
  fg : Int
  fs : Int
  gen : Int
  bs : List BkD
  be : Int
  un : Int
  ct : Int
def BkD.cells (b : BkD) : List Value := [.int .i64 b.id, .int .u32 b.addr, .int .i64 b.weight]
def i64 (n : Int) : Prop := -9223372036854775808 ≤ n ∧ n ≤ 9223372036854775807
def u32 (n : Int) : Prop := 0 ≤ n ∧ n ≤ 4294967295
structure TupOk (t : TupD) : Prop where
  src : u32 t.src
  dst : u32 t.dst
  proto : i64 t.proto
  sport : i64 t.sport
  dport : i64 t.dport
structure BkOk (b : BkD) : Prop where
  id : i64 b.id
  addr : u32 b.addr
  weight : i64 b.weight
structure RecOk (r : RecD) : Prop where
  kind : i64 r.kind
  t : TupOk r.t
  fb : i64 r.fb
  fg : i64 r.fg
  fs : i64 r.fs
  gen : i64 r.gen
  bs : ∀ b ∈ r.bs, BkOk b
  be : i64 r.be
  un : i64 r.un
  ct : i64 r.ct
/-- A record's cells; its backends lie at a. -/
def rcs (r : RecD) (a : Option Addr) (cap : Nat) : Array Value :=
  #[.int .i64 r.kind, .int .u32 r.t.src, .int .u32 r.t.dst, .int .i64 r.t.proto, .int .i64 r.t.sport, .int .i64 r.t.dport, .int .i64 r.fb, .int .i64 r.fg, .int .i64 r.fs, .int .i64 r.gen, .slice a r.bs.length cap, .int .i64 r.be, .int .i64 r.un, .int .i64 r.ct]
/-- A slice of backends. -/
def RowK (w : World) (a : Option Addr) (len cap : Nat) (bs : List BkD) : Prop := RowS w a len cap 3 (bs.map BkD.cells)
def OwnK (w : World) (base : Nat) (v : Value) (bs : List BkD) : Prop := OwnS w base 74 3 v (bs.map BkD.cells)
theorem RowK.still {w w' : World} {a : Option Addr} {len cap : Nat} {bs : List BkD} (h : RowK w a len cap bs) (t : Touch w w' (fun _ => False)) : RowK w' a len cap bs := RowS.still h t
theorem RowK.touch {w w' : World} {a : Option Addr} {len cap : Nat} {bs : List BkD} {S : Nat → Prop} (h : RowK w a len cap bs) (t : Touch w w' S) (h1 : ∀ x, a = some x → len = 0 ∨ ¬ S x.block) : RowK w' a len cap bs := RowS.touch h t h1
theorem RowK.toS {w : World} {a : Option Addr} {len cap : Nat} {bs : List BkD} (h : RowK w a len cap bs) : RowS w a len cap 3 (bs.map BkD.cells) := h
theorem OwnK.toS {w : World} {base : Nat} {v : Value} {bs : List BkD} (h : OwnK w base v bs) : OwnS w base 74 3 v (bs.map BkD.cells) := h
theorem RowK.len {w : World} {a : Option Addr} {len cap : Nat} {bs : List BkD} (h : RowK w a len cap bs) : bs.length = len := by have := h.hlen; simpa using this
theorem OwnK.still {w w' : World} {base : Nat} {v : Value} {bs : List BkD} (h : OwnK w base v bs) (t : Touch w w' (fun _ => False)) : OwnK w' base v bs := OwnS.still h t
theorem OwnK.touch {w w' : World} {base : Nat} {v : Value} {bs : List BkD} {S : Nat → Prop} (h : OwnK w base v bs) (t : Touch w w' S) (h1 : ∀ x, v.ownBlock = some x → ¬ S x) : OwnK w' base v bs := OwnS.touch h t h1
theorem OwnK.rebase {w : World} {base base' : Nat} {v : Value} {bs : List BkD} (h : OwnK w base v bs) (hb : ∀ x, v.ownBlock = some x → base' ≤ x) : OwnK w base' v bs := OwnS.rebase h hb
theorem OwnK.row {w : World} {base : Nat} {a : Option Addr} {n c : Nat} {bs : List BkD} (h : OwnK w base (.slice a n c) bs) : bs.length = n ∧ RowK w a n c bs ∧ (∀ x, a = some x → base ≤ x.block ∧ x.block < w.heap.size) := by
  obtain ⟨h1, h2, h3⟩ := OwnS.row' h
  exact ⟨by simpa using h1, h2, h3⟩
def noT : TupD := ⟨0, 0, 0, 0, 0⟩
/-- Without what its kind has not. -/
def plainD (r : RecD) : RecD :=
  if r.kind = 1 then ⟨1, r.t, r.fb, r.fg, r.fs, 0, [], 0, 0, 0⟩
  else if r.kind = 2 then ⟨2, r.t, 0, 0, 0, 0, [], 0, 0, 0⟩
  else if r.kind = 3 then ⟨3, noT, 0, 0, 0, r.gen, r.bs, 0, 0, 0⟩
  else if r.kind = 4 then ⟨4, noT, 0, 0, 0, 0, [], r.be, r.un, 0⟩
  else if r.kind = 5 then ⟨5, noT, 0, 0, 0, 0, [], r.be, 0, 0⟩
  else if r.kind = 6 then ⟨6, noT, 0, 0, 0, 0, [], 0, 0, r.ct⟩
  else ⟨r.kind, noT, 0, 0, 0, 0, [], 0, 0, 0⟩
theorem infoBk : (Tryd.prog.info? 74).map (fun i => (i.zero, i.size, i.bytes)) = some (some (.agg #[.int .i64 0, .int .u32 0, .int .i64 0]), 3, 24) := by kernel_rfl
/-- What comes of a record: its value, its backends a row of the call's own. -/
def RecIs (w w' : World) (r : RecD) (e : Ending) : Prop :=
  ∃ (a' : Option Addr) (cap' : Nat), e = .returned (.agg (rcs r a' cap')) ∧ OwnK w' w.heap.size (.slice a' r.bs.length cap') r.bs ∧ Touch w w' (fun _ => False)

theorem heap_mid (w : World) (A B C : Obj) : (((w.alloc A).alloc B).alloc C).heap[w.heap.size + 1]? = some B := by
  show (((w.heap.push A).push B).push C)[w.heap.size + 1]? = some B
  rw [Array.getElem?_push, if_neg (by simp), Array.getElem?_push, if_pos (by simp)]
theorem heap_low (w : World) (A B C : Obj) : (((w.alloc A).alloc B).alloc C).heap[w.heap.size]? = some A := by
  show (((w.heap.push A).push B).push C)[w.heap.size]? = some A
  rw [Array.getElem?_push, if_neg (by simp; omega), Array.getElem?_push, if_neg (by simp), Array.getElem?_push, if_pos rfl]
theorem heap_top (w : World) (A B C : Obj) : (((w.alloc A).alloc B).alloc C).heap[w.heap.size + 2]? = some C := by
  show (((w.heap.push A).push B).push C)[w.heap.size + 2]? = some C
  rw [Array.getElem?_push, if_pos (by simp)]
theorem still3 (w : World) (A B C : Obj) : Touch w (((w.alloc A).alloc B).alloc C) (fun _ => False) := (((Touch.refl w (fun _ => False)).alloc A).alloc B).alloc C
theorem OwnK.none (w : World) (base : Nat) : OwnK w base (.slice Option.none 0 0) [] := OwnS.nil _ _ _ _
end Go.Proofs.YthliikkllagodaaDoor
