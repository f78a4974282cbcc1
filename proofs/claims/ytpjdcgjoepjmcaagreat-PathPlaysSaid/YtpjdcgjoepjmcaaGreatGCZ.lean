import Derived.Test.YtpjdcgjoepjmcaaGreatGAZ
import Derived.Test.YtpjdcgjoepjmcaaGreatGBZ
import Derived.Deep.RegionHeld3
import Derived.BigQuiet
import Derived.StillTailTactics
set_option linter.unusedVariables false
set_option linter.unusedSimpArgs false
section
namespace Go.Proofs.YtpjdcgjoepjmcaaGreat
open Go.RowKit
structure TupD where
 src : Int
 dst : Int
 proto : Int
 sport : Int
 dport : Int
structure BkD where
 id : Int
 addr : Int
 weight : Int
structure RecD where
 kind : Int
 t : TupD
 fb : Int
 fg : Int
 fs : Int
 gen : Int
 bs : List BkD
 be : Int
 un : Int
 ct : Int
def BkD.cells (b : BkD) : List Value := [.int .i64 b.id, .int .u32 b.addr, .int .i64 b.weight]
def i64 (n : Int) : Prop := -9223372036854775808 ≤ n ∧ n ≤ 9223372036854775807
def u32 (n : Int) : Prop := 0 ≤ n ∧ n ≤ 4294967295
structure TupOk (t : TupD) : Prop where
 src : u32 t.src
 dst : u32 t.dst
 proto : i64 t.proto
 sport : i64 t.sport
 dport : i64 t.dport
structure BkOk (b : BkD) : Prop where
 id : i64 b.id
 addr : u32 b.addr
 weight : i64 b.weight
structure RecOk (r : RecD) : Prop where
 kind : i64 r.kind
 t : TupOk r.t
 fb : i64 r.fb
 fg : i64 r.fg
 fs : i64 r.fs
 gen : i64 r.gen
 bs : ∀ b ∈ r.bs, BkOk b
 be : i64 r.be
 un : i64 r.un
 ct : i64 r.ct
def rcs (r : RecD) (a : Option Addr) (cap : Nat) : Array Value :=
 #[.int .i64 r.kind, .int .u32 r.t.src, .int .u32 r.t.dst, .int .i64 r.t.proto, .int .i64 r.t.sport, .int .i64 r.t.dport, .int .i64 r.fb, .int .i64 r.fg, .int .i64 r.fs, .int .i64 r.gen, .slice a r.bs.length cap, .int .i64 r.be, .int .i64 r.un, .int .i64 r.ct]
def RowK (w : World) (a : Option Addr) (len cap : Nat) (bs : List BkD) : Prop := RowS w a len cap 3 (bs.map BkD.cells)
def OwnK (w : World) (base : Nat) (v : Value) (bs : List BkD) : Prop := OwnS w base 70 3 v (bs.map BkD.cells)
theorem RowK.still {w w' : World} {a : Option Addr} {len cap : Nat} {bs : List BkD} (h : RowK w a len cap bs) (t : Touch w w' (fun _ => False)) : RowK w' a len cap bs := RowS.still h t
theorem RowK.touch {w w' : World} {a : Option Addr} {len cap : Nat} {bs : List BkD} {S : Nat → Prop} (h : RowK w a len cap bs) (t : Touch w w' S) (h1 : ∀ x, a = some x → len = 0 ∨ ¬ S x.block) : RowK w' a len cap bs := RowS.touch h t h1
theorem RowK.toS {w : World} {a : Option Addr} {len cap : Nat} {bs : List BkD} (h : RowK w a len cap bs) : RowS w a len cap 3 (bs.map BkD.cells) := h
theorem OwnK.toS {w : World} {base : Nat} {v : Value} {bs : List BkD} (h : OwnK w base v bs) : OwnS w base 70 3 v (bs.map BkD.cells) := h
theorem RowK.len {w : World} {a : Option Addr} {len cap : Nat} {bs : List BkD} (h : RowK w a len cap bs) : bs.length = len := by have := h.hlen; simpa using this
theorem OwnK.touch {w w' : World} {base : Nat} {v : Value} {bs : List BkD} {S : Nat → Prop} (h : OwnK w base v bs) (t : Touch w w' S) (h1 : ∀ x, v.ownBlock = some x → ¬ S x) : OwnK w' base v bs := OwnS.touch h t h1
theorem OwnK.rebase {w : World} {base base' : Nat} {v : Value} {bs : List BkD} (h : OwnK w base v bs) (hb : ∀ x, v.ownBlock = some x → base' ≤ x) : OwnK w base' v bs := OwnS.rebase h hb
theorem OwnK.row {w : World} {base : Nat} {a : Option Addr} {n c : Nat} {bs : List BkD} (h : OwnK w base (.slice a n c) bs) : bs.length = n ∧ RowK w a n c bs ∧ (∀ x, a = some x → base ≤ x.block ∧ x.block < w.heap.size) := by
 obtain ⟨h1, h2, h3⟩ := OwnS.row' h
 exact ⟨by simpa using h1, h2, h3⟩
def noT : TupD := ⟨0, 0, 0, 0, 0⟩
def plainD (r : RecD) : RecD :=
 if r.kind = 1 then ⟨1, r.t, r.fb, r.fg, r.fs, 0, [], 0, 0, 0⟩
 else if r.kind = 2 then ⟨2, r.t, 0, 0, 0, 0, [], 0, 0, 0⟩
 else if r.kind = 3 then ⟨3, noT, 0, 0, 0, r.gen, r.bs, 0, 0, 0⟩
 else if r.kind = 4 then ⟨4, noT, 0, 0, 0, 0, [], r.be, r.un, 0⟩
 else if r.kind = 5 then ⟨5, noT, 0, 0, 0, 0, [], r.be, 0, 0⟩
 else if r.kind = 6 then ⟨6, noT, 0, 0, 0, 0, [], 0, 0, r.ct⟩
 else ⟨r.kind, noT, 0, 0, 0, 0, [], 0, 0, 0⟩
theorem infoRec : (Tryz.prog.info? 85).map (·.size) = some 14 := by kernel_rfl
theorem infoBk : (Tryz.prog.info? 70).map (fun i => (i.zero, i.size, i.bytes)) = some (some (.agg #[.int .i64 0, .int .u32 0, .int .i64 0]), 3, 24) := by kernel_rfl
def RecIs (w w' : World) (r : RecD) (e : Ending) : Prop :=
 ∃ (a' : Option Addr) (cap' : Nat), e = .returned (.agg (rcs r a' cap')) ∧ OwnK w' w.heap.size (.slice a' r.bs.length cap') r.bs ∧ Touch w w' (fun _ => False)
theorem heap_mid (w : World) (A B C : Obj) : (((w.alloc A).alloc B).alloc C).heap[w.heap.size + 1]? = some B := by
 show (((w.heap.push A).push B).push C)[w.heap.size + 1]? = some B
 rw [Array.getElem?_push, if_neg (by simp), Array.getElem?_push, if_pos (by simp)]
theorem rcells_of {w : World} {B : Nat} {r : RecD} {a : Option Addr} {cap : Nat} (hb : w.heap[B]? = some (.cells (rcs r a cap) 85 (0, 0))) :
 w.cell? ⟨B, 0, Option.none⟩ = some (.int .i64 r.kind) ∧ w.cell? ⟨B, 1, Option.none⟩ = some (.int .u32 r.t.src) ∧ w.cell? ⟨B, 2, Option.none⟩ = some (.int .u32 r.t.dst) ∧ w.cell? ⟨B, 3, Option.none⟩ = some (.int .i64 r.t.proto) ∧ w.cell? ⟨B, 4, Option.none⟩ = some (.int .i64 r.t.sport) ∧ w.cell? ⟨B, 5, Option.none⟩ = some (.int .i64 r.t.dport) ∧
 w.cell? ⟨B, 6, Option.none⟩ = some (.int .i64 r.fb) ∧ w.cell? ⟨B, 7, Option.none⟩ = some (.int .i64 r.fg) ∧ w.cell? ⟨B, 8, Option.none⟩ = some (.int .i64 r.fs) ∧ w.cell? ⟨B, 9, Option.none⟩ = some (.int .i64 r.gen) ∧ w.cell? ⟨B, 10, Option.none⟩ = some (.slice a r.bs.length cap) ∧
 w.cell? ⟨B, 11, Option.none⟩ = some (.int .i64 r.be) ∧ w.cell? ⟨B, 12, Option.none⟩ = some (.int .i64 r.un) ∧ w.cell? ⟨B, 13, Option.none⟩ = some (.int .i64 r.ct) :=
 ⟨cell_of_cells hb 0, cell_of_cells hb 1, cell_of_cells hb 2, cell_of_cells hb 3, cell_of_cells hb 4, cell_of_cells hb 5, cell_of_cells hb 6, cell_of_cells hb 7, cell_of_cells hb 8, cell_of_cells hb 9, cell_of_cells hb 10, cell_of_cells hb 11, cell_of_cells hb 12, cell_of_cells hb 13⟩
theorem heap_top (w : World) (A B C : Obj) : (((w.alloc A).alloc B).alloc C).heap[w.heap.size + 2]? = some C := by
 show (((w.heap.push A).push B).push C)[w.heap.size + 2]? = some C
 rw [Array.getElem?_push, if_pos (by simp)]
theorem still3 (w : World) (A B C : Obj) : Touch w (((w.alloc A).alloc B).alloc C) (fun _ => False) := (((Touch.refl w (fun _ => False)).alloc A).alloc B).alloc C
theorem OwnK.none (w : World) (base : Nat) : OwnK w base (.slice Option.none 0 0) [] := OwnS.nil _ _ _ _
theorem recRet {w0 w : World} (q : RecD) (g : Nat) (a : Option Addr) (cap : Nat) {fn : Func} {x : Act} {p : Tmp} (hf : fn.results = #[.cell p 85]) (hd : x.defers = []) (hp : x.tmps.getD p undef = .pointer (some ⟨g, 0, Option.none⟩))
 (hg : w.heap[g]? = some (.cells (rcs q a cap) 85 (0, 0))) (ho : OwnK w w0.heap.size (.slice a q.bs.length cap) q.bs) (ht : Touch w0 w (fun _ => False)) :
 bodyPost Tryz.prog fn (fun e w' => RecIs w0 w' q e) .ret x w :=
 ret_row hf hd g 85 (rcs q a cap) (0, 0) _ hp hg Tryz.underlying85 rfl infoRec ⟨a, cap, rfl, ho, ht⟩
theorem recEnd (w : World) (A C : Obj) (q : RecD) (h : q.bs = []) {fn : Func} {x : Act} {p : Tmp} (hf : fn.results = #[.cell p 85]) (hd : x.defers = []) (hp : x.tmps.getD p undef = .pointer (some ⟨w.heap.size + 1, 0, Option.none⟩)) :
 bodyPost Tryz.prog fn (fun e w' => RecIs w w' q e) .ret x (((w.alloc A).alloc (.cells (rcs q Option.none 0) 85)).alloc C) := by
 refine ret_row hf hd (w.heap.size + 1) 85 (rcs q Option.none 0) (0, 0) _ hp (heap_mid _ _ _ _) Tryz.underlying85 rfl infoRec ?_
 exact ⟨Option.none, 0, rfl, by rw [h]; exact OwnK.none _ _, still3 _ _ _ _⟩
theorem recEndD (w : World) (A C : Obj) (q : RecD) (h : q.bs = []) {fn : Func} {x : Act} {p : Tmp} (hf : fn.results = #[.cell p 85]) (hd : x.defers = []) (hp : x.tmps.getD p undef = .pointer (some ⟨w.heap.size + 1, 0, Option.none⟩)) :
 bodyPost Tryz.prog fn (fun e w' => RecIs w w' q e) .ret x (((w.alloc A).alloc (.cells (rcs q Option.none 0) 85)).alloc C).drew := by
 refine ret_row hf hd (w.heap.size + 1) 85 (rcs q Option.none 0) (0, 0) _ hp (heap_mid _ _ _ _) Tryz.underlying85 rfl infoRec ?_
 exact ⟨Option.none, 0, rfl, by rw [h]; exact OwnK.none _ _, (still3 _ _ _ _).drew⟩
end Go.Proofs.YtpjdcgjoepjmcaaGreat
end
section
namespace Go.Proofs.YtpjdcgjoepjmcaaGreat
open Go.RowKit
end Go.Proofs.YtpjdcgjoepjmcaaGreat
end
section
namespace Go.Proofs.YtpjdcgjoepjmcaaGreat
open Go.RowKit
theorem bk_one (bs : List BkD) : ∀ l ∈ bs.map BkD.cells, ∀ u ∈ l, u.oneCell' = true := by
 intro l hl u hu
 obtain ⟨b, _, rfl⟩ := List.mem_map.1 hl
 simp only [BkD.cells, List.mem_cons, List.not_mem_nil, or_false] at hu
 rcases hu with rfl | rfl | rfl <;> rfl
set_option maxRecDepth 20000 in
set_option maxHeartbeats 1000000 in
theorem cloneK_any (a : Option Addr) (len cap : Nat) (bs : List BkD) (w : World) (hr : RowK w a len cap bs) (hlen : len ≤ 100000) :
 Calls Tryz.prog 42 #[.slice a len cap] w fun e w' => ∃ (a' : Option Addr) (cap' : Nat), e = .returned (.slice a' len cap') ∧ OwnK w' w.heap.size (.slice a' len cap') bs ∧ Touch w w' (fun _ => False) := by
 have hq := fun (w : World) (a : Option Addr) (n c : Nat) => Lib.run_eql_slice_nil (P := Tryz.prog) w 39 70 a n c 0 0 Tryz.underlying39
 have hbl : bs.length = len := by have := hr.hlen; simpa using this
 cases a with
 | none =>
   have h0 : len = 0 := by
    rcases hr.at_ with h0 | ⟨b, off, ha, _⟩
    ·exact h0
    ·cases ha
   subst h0
   have hb : bs = [] := List.length_eq_zero_iff.1 hbl
   subst hb
   go_enter Tryz.func42, Tryz.ntmps42
   go_wp2
   go_ret
   exact ⟨none, 0, rfl, OwnK.none _ _, Touch.refl _ _⟩
 | some ad =>
   have t1 := (Touch.refl w (fun _ => False)).alloc (.cells #[] 70)
   have HR := Lib.hid (hr.still t1)
   have HB := Lib.hid (t1.under (Nat.le_refl w.heap.size))
   have HO : RowKit.Hid (OwnS (w.alloc (.cells #[] 70)) w.heap.size 70 3 (.slice (some ⟨w.heap.size, 0, none⟩) 0 0) []) := Lib.hid (OwnS.lit w _ (Nat.le_refl _) _ 3 0 [] #[] rfl rfl (by simp) (by decide))
   have HIF := Lib.hid infoBk
   have HL := Lib.hid hbl
   clear hr t1 hbl
   go_enter Tryz.func42, Tryz.ntmps42
   go_wp2_with (at_builtin; (with_reducible refine wp_appS HO.out HR.out.toS (bk_one bs) 39 Tryz.underlying39 _ 24 HIF.out rfl (by decide) (by simp only [maxLen, List.length_nil]; omega) (by simp only [List.length_nil]; omega) HB.out (Nat.le_refl _) HB.out.size rfl _ _ rfl rfl rfl len _ (Nat.zero_add _) (List.nil_append _) ?_); intro a3 c3 w3 ho3 hg3 hb3 hp3)
   go_ret
   exact ⟨a3, c3, rfl, ho3, Touch.ofBelow hb3 (fun k h1 h2 => by omega)⟩
end Go.Proofs.YtpjdcgjoepjmcaaGreat
end
section
namespace Go.Proofs.YtpjdcgjoepjmcaaGreat
open Go.RowKit
def BkD.val (b : BkD) : Int × Int × Int := (b.id, b.addr, b.weight)
def sameK (bs cs : List BkD) : Bool := decide (bs.map BkD.val = cs.map BkD.val)
theorem sameK_len {bs cs : List BkD} (h : bs.length ≠ cs.length) : sameK bs cs = false := by
 unfold sameK; exact decide_eq_false (fun e => h (by have := congrArg List.length e; simpa using this))
theorem sameK_at {bs cs : List BkD} (i : Nat) (h1 : i < bs.length) (h2 : i < cs.length) (h : bs[i].val ≠ cs[i].val) : sameK bs cs = false := by
 unfold sameK
 refine decide_eq_false (fun e => h ?_)
 have := congrArg (fun l : List (Int × Int × Int) => l[i]?) e
 simpa [h1, h2] using this
theorem sameK_all {bs cs : List BkD} (hl : bs.length = cs.length) (h : (bs.map BkD.val).take bs.length = (cs.map BkD.val).take bs.length) : sameK bs cs = true := by
 unfold sameK; apply decide_eq_true
 rw [List.take_of_length_le (by simp), List.take_of_length_le (by simp; omega)] at h; exact h
theorem RowK.cells {w : World} {b off len cap : Nat} {bs : List BkD} (h : RowK w (some ⟨b, off, none⟩) len cap bs) (i : Nat) (hi : i < bs.length) :
 w.cell? ⟨b, off + i * 3, none⟩ = some (.int .i64 bs[i].id) ∧ w.cell? ⟨b, off + i * 3 + 1, none⟩ = some (.int .u32 bs[i].addr) ∧ w.cell? ⟨b, off + i * 3 + 2, none⟩ = some (.int .i64 bs[i].weight) := by
 have hi' : i < (bs.map BkD.cells).length := by simpa using hi
 have e : (bs.map BkD.cells)[i] = bs[i].cells := by simp
 exact ⟨h.cell i hi' 0 _ (by rw [e]; rfl), h.cell i hi' 1 _ (by rw [e]; rfl), h.cell i hi' 2 _ (by rw [e]; rfl)⟩
theorem RowK.some {w : World} {a : Option Addr} {len cap : Nat} {bs : List BkD} (h : RowK w a len cap bs) (h0 : 0 < len) : ∃ b off, a = .some ⟨b, off, Option.none⟩ := RowS.some h h0
set_option maxRecDepth 20000 in
set_option maxHeartbeats 8000000 in
theorem rsameK_any (a : Option Addr) (len cap : Nat) (bs : List BkD) (a2 : Option Addr) (len2 cap2 : Nat) (cs : List BkD) (w : World) (hr : RowK w a len cap bs) (hr2 : RowK w a2 len2 cap2 cs) :
 Calls Tryz.prog 69 #[.slice a len cap, .slice a2 len2 cap2] w fun e w' => e = .returned (.bool (sameK bs cs)) ∧ ∃ n, w' = w.drewN n := by
 have hl1 := hr.len
 have hl2 := hr2.len
 by_cases hn : len = len2
 case neg =>
  have hb : ((len : Int) != (len2 : Int)) = true := bne_iff_ne.2 (by omega)
  rw [sameK_len (by omega)]
  clear hr hr2 hl1 hl2 hn
  go_enter Tryz.func69, Tryz.ntmps69
  go_wp2
  go_ret
  exact ⟨rfl, 0, rfl⟩
 case pos =>
 obtain rfl := hn
 have hb : ((len : Int) != (len : Int)) = false := bne_eq_false_iff_eq.2 rfl
 have hcap := hr.hmax
 have hcap1 := hr.hcap
 have HR := Lib.hid hr
 have HR2 := Lib.hid hr2
 have HL1 := Lib.hid hl1
 have HL2 := Lib.hid hl2
 clear hr hr2 hl1 hl2
 go_enter Tryz.func69, Tryz.ntmps69
 go_wp2_with fail
 go_loopw [13] (fun i wr => ∃ k n : Nat, k ≤ len ∧ i = .int .i64 k ∧ wr = w.drewN n ∧ (bs.map BkD.val).take k = (cs.map BkD.val).take k) (fun i _ => len - (intOf i).toNat)
 case atStart => exact ⟨0, 0, Nat.zero_le _, rfl, rfl, by simp⟩
 case round =>
  obtain ⟨k, n, hk, rfl, hwr, he⟩ := hrel
  have HWR := Lib.hid hwr
  have HE := Lib.hid he
  have t : Touch w wr (fun _ => False) := hwr ▸ (Touch.refl w (fun _ => False)).drewN n
  clear he hwr
  by_cases hlt : k < len
  case neg =>
   obtain rfl : len = k := by omega
   have hlt' : ¬ (len : Int) < len := by omega
   have HEND : RowKit.Hid (sameK bs cs = true) := Lib.hid (sameK_all (by rw [HL1.out, HL2.out]) (by simpa [HL1.out] using HE.out))
   go_wp2
   go_ret
   exact ⟨by rw [HEND.out]; rfl, n, HWR.out⟩
  case pos =>
  have hr := HR.out.still t
  have hr2 := HR2.out.still t
  obtain ⟨b, off, rfl⟩ := hr.some (by omega)
  obtain ⟨b2, off2, rfl⟩ := hr2.some (by omega)
  have hk1 : k < bs.length := by rw [HL1.out]; exact hlt
  have hk2 : k < cs.length := by rw [HL2.out]; exact hlt
  obtain ⟨c0, c1, c2⟩ := hr.cells k hk1
  obtain ⟨d0, d1, d2⟩ := hr2.cells k hk2
  have HF : RowKit.Hid ((bs.map BkD.val).take (k + 1) = (bs.map BkD.val).take k ++ [bs[k].val]) := Lib.hid (by rw [List.take_succ_eq_append_getElem (by simpa using hk1)]; simp)
  have HG : RowKit.Hid ((cs.map BkD.val).take (k + 1) = (cs.map BkD.val).take k ++ [cs[k].val]) := Lib.hid (by rw [List.take_succ_eq_append_getElem (by simpa using hk2)]; simp)
  have HAT := Lib.hid (sameK_at k hk1 hk2)
  generalize bs[k] = f at *
  generalize cs[k] = g at *
  have i1 : (k : Int) < len := by omega
  clear hr hr2 t
  go_wp2_with fail
  go_still_tail 8, (by kernel_rfl)
  change wpList _ _ _ _ _ wr.drew
  go_wp2
  all_goals first
   | (have hv : f.val = g.val := by simp only [BkD.val, Prod.mk.injEq]; omega
      refine ⟨⟨k + 1, n + 1, hlt, by go_num, ?_, ?_⟩, by simp [intOf]; omega⟩
      ·rw [HWR.out]; rfl
      ·rw [HF.out, HG.out, HE.out, hv])
   | (have hv : f.val ≠ g.val := fun h => by simp only [BkD.val, Prod.mk.injEq] at h; omega
      go_ret
      exact ⟨by rw [HAT.out hv]; rfl, n + 1, by rw [HWR.out]; rfl⟩)
end Go.Proofs.YtpjdcgjoepjmcaaGreat
end
section
namespace Go.Proofs.YtpjdcgjoepjmcaaGreat
open Go.RowKit
def idB (n : Int) : Bool := decide (0 ≤ n ∧ n ≤ 65535)
def cntB (n : Int) : Bool := decide (0 ≤ n ∧ n ≤ 1000000)
def timB (n : Int) : Bool := decide (0 ≤ n ∧ n ≤ 1099511627776)
def verB (n : Int) : Bool := decide (1 ≤ n ∧ n ≤ 3)
theorem idB_iff (n : Int) : idB n = true ↔ 0 ≤ n ∧ n ≤ 65535 := by unfold idB; exact decide_eq_true_iff
def mayTB (t : TupD) : Bool := decide ((t.proto = 6 ∨ t.proto = 17) ∧ (0 ≤ t.sport ∧ t.sport ≤ 65535) ∧ 0 ≤ t.dport ∧ t.dport ≤ 65535)
def mayKB (b : BkD) : Bool := decide ((0 ≤ b.id ∧ b.id ≤ 65535) ∧ 1 ≤ b.weight ∧ b.weight ≤ 10)
theorem mayTB_iff (t : TupD) : mayTB t = true ↔ ((t.proto = 6 ∨ t.proto = 17) ∧ (0 ≤ t.sport ∧ t.sport ≤ 65535) ∧ 0 ≤ t.dport ∧ t.dport ≤ 65535) := by unfold mayTB; exact decide_eq_true_iff
theorem mayKB_iff (b : BkD) : mayKB b = true ↔ ((0 ≤ b.id ∧ b.id ≤ 65535) ∧ 1 ≤ b.weight ∧ b.weight ≤ 10) := by unfold mayKB; exact decide_eq_true_iff
def tcs (t : TupD) : Array Value := #[.int .u32 t.src, .int .u32 t.dst, .int .i64 t.proto, .int .i64 t.sport, .int .i64 t.dport]
theorem ret_bool {a b : Bool} (h : a = b) : Ending.returned (.bool a) = .returned (.bool b) := by rw [h]
set_option maxHeartbeats 1000000
theorem isPort_any (n : Int) (w : World) :
 Calls Tryz.prog 137 #[.int .i64 n] w fun e w' => e = .returned (.bool (idB n)) ∧ w' = w := by
 have HM := Lib.hid (idB_iff n)
 generalize idB n = m at *
 go_enter Tryz.func137, Tryz.ntmps137
 go_wp2
 all_goals (go_ret; refine ⟨ret_bool ?_, rfl⟩; rw [Bool.eq_iff_iff, HM.out]; clear HM; (first | (simp_all; done) | (simp_all; omega)))
theorem rid_any (n : Int) (w : World) :
 Calls Tryz.prog 104 #[.int .i64 n] w fun e w' => e = .returned (.bool (idB n)) ∧ w' = w := by
 have HM := Lib.hid (idB_iff n)
 generalize idB n = m at *
 go_enter Tryz.func104, Tryz.ntmps104
 go_wp2
 all_goals (go_ret; refine ⟨ret_bool ?_, rfl⟩; rw [Bool.eq_iff_iff, HM.out]; clear HM; (first | (simp_all; done) | (simp_all; omega)))
theorem rmayT_any (t : TupD) (w : World) :
 Calls Tryz.prog 26 #[.agg (tcs t)] w fun e w' => e = .returned (.bool (mayTB t)) ∧ Touch w w' (fun _ => False) := by
 have HM := Lib.hid (mayTB_iff t)
 generalize mayTB t = m at *
 simp only [tcs]
 go_enter Tryz.func26, Tryz.ntmps26
 go_wp2
 all_goals (go_ret; refine ⟨ret_bool ?_, (Touch.refl _ _).alloc _⟩; rw [Bool.eq_iff_iff, HM.out]; clear HM; (first | (simp_all; done) | (simp_all; omega)))
theorem mayT_any (t : TupD) (w : World) :
 Calls Tryz.prog 113 #[.agg (tcs t)] w fun e w' => e = .returned (.bool (mayTB t)) ∧ Touch w w' (fun _ => False) := by
 have HM := Lib.hid (mayTB_iff t)
 have H1 := Lib.hid (idB_iff t.sport)
 have H2 := Lib.hid (idB_iff t.dport)
 generalize mayTB t = m at *
 simp only [tcs]
 go_enter Tryz.func113, Tryz.ntmps113
 go_wp2_with (go_at_call 137; (with_reducible refine (isPort_any _ _).mono ?_); rintro e w' ⟨rfl, rfl⟩)
 all_goals (go_ret; refine ⟨ret_bool ?_, (Touch.refl _ _).alloc _⟩; rw [Bool.eq_iff_iff, HM.out, ← H1.out, ← H2.out]; clear HM H1 H2; (first | (simp_all; done) | (simp_all; omega)))
theorem rmayK_any (b : BkD) (w : World) :
 Calls Tryz.prog 76 #[.agg #[.int .i64 b.id, .int .u32 b.addr, .int .i64 b.weight]] w fun e w' => e = .returned (.bool (mayKB b)) ∧ Touch w w' (fun _ => False) := by
 have HM := Lib.hid (mayKB_iff b)
 have H1 := Lib.hid (idB_iff b.id)
 generalize mayKB b = m at *
 go_enter Tryz.func76, Tryz.ntmps76
 go_wp2_with (go_at_call 104; (with_reducible refine (rid_any _ _).mono ?_); rintro e w' ⟨rfl, rfl⟩)
 all_goals (go_ret; refine ⟨ret_bool ?_, (Touch.refl _ _).alloc _⟩; rw [Bool.eq_iff_iff, HM.out, ← H1.out]; clear HM H1; (first | (simp_all; done) | (simp_all; omega)))
end Go.Proofs.YtpjdcgjoepjmcaaGreat
end
section
namespace Go.Proofs.YtpjdcgjoepjmcaaGreat
open Go.ChangeShapes Go.WideShapes Go.ChangeAt Go.RowKit
end Go.Proofs.YtpjdcgjoepjmcaaGreat
end
section
namespace Go.Proofs.YtpjdcgjoepjmcaaGreat
open Go.ChangeShapes Go.WideShapes Go.ChangeAt Go.RowKit
section
variable {H : Type} {enc : TypeId × Value → H} {W : World} {base : Nat} {v : Value} {cs : List Value} {d : DataW H} {p : List MemPlace}
theorem listFive {α : Type} {l : List α} (h : l.length = 5) : ∃ a b c d e, l = [a, b, c, d, e] := by
 match l, h with
 | [a, b, c, d, e], _ => exact ⟨a, b, c, d, e, rfl⟩
theorem cint : Tryz.prog.cellsOf 3 = 1 := by kernel_rfl
theorem cint64 : Tryz.prog.cellsOf 2 = 1 := by kernel_rfl
theorem cuint32 : Tryz.prog.cellsOf 24 = 1 := by kernel_rfl
theorem Tr.tupD (h : Tr enc Tryz.prog W 37 cs d) : ∃ t : TupD, cs = [.int .u32 t.src, .int .u32 t.dst, .int .i64 t.proto, .int .i64 t.sport, .int .i64 t.dport] ∧ TupOk t := by
 obtain ⟨ds, hd, hl, hc, hf⟩ := h.struct Tryz.underlying37
 have hc5 : Tryz.prog.cellsOf 37 = 5 := by kernel_rfl
 rw [hc5] at hc
 obtain ⟨u0, u1, u2, u3, u4, rfl⟩ := listFive hc
 obtain ⟨d0, d1, d2, d3, d4, rfl⟩ := listFive (l := ds) (by simpa using hl)
 have e0 : Tr enc Tryz.prog W 24 ((([u0, u1, u2, u3, u4] : List Value).drop 0).take (Tryz.prog.cellsOf 24)) d0 := hf 0 _ d0 rfl rfl
 have e1 : Tr enc Tryz.prog W 24 ((([u0, u1, u2, u3, u4] : List Value).drop 1).take (Tryz.prog.cellsOf 24)) d1 := hf 1 _ d1 rfl rfl
 have e2 : Tr enc Tryz.prog W 3 ((([u0, u1, u2, u3, u4] : List Value).drop 2).take (Tryz.prog.cellsOf 3)) d2 := hf 2 _ d2 rfl rfl
 have e3 : Tr enc Tryz.prog W 3 ((([u0, u1, u2, u3, u4] : List Value).drop 3).take (Tryz.prog.cellsOf 3)) d3 := hf 3 _ d3 rfl rfl
 have e4 : Tr enc Tryz.prog W 3 ((([u0, u1, u2, u3, u4] : List Value).drop 4).take (Tryz.prog.cellsOf 3)) d4 := hf 4 _ d4 rfl rfl
 rw [cuint32] at e0 e1
 rw [cint] at e2 e3 e4
 obtain ⟨x0, g0, a0, b0, _⟩ := e0.u32 Tryz.underlying24
 obtain ⟨x1, g1, a1, b1, _⟩ := e1.u32 Tryz.underlying24
 obtain ⟨x2, g2, a2, b2, _⟩ := e2.i64 Tryz.underlying3
 obtain ⟨x3, g3, a3, b3, _⟩ := e3.i64 Tryz.underlying3
 obtain ⟨x4, g4, a4, b4, _⟩ := e4.i64 Tryz.underlying3
 simp at g0 g1 g2 g3 g4
 subst g0 g1 g2 g3 g4
 exact ⟨⟨x0, x1, x2, x3, x4⟩, rfl, ⟨a0, b0⟩, ⟨a1, b1⟩, ⟨a2, b2⟩, ⟨a3, b3⟩, ⟨a4, b4⟩⟩
theorem Tr.bkD (h : Tr enc Tryz.prog W 70 cs d) : ∃ b : BkD, cs = b.cells ∧ BkOk b := by
 obtain ⟨ds, hd, hl, hc, hf⟩ := h.struct Tryz.underlying70
 have hc3 : Tryz.prog.cellsOf 70 = 3 := by kernel_rfl
 rw [hc3] at hc
 obtain ⟨u0, u1, u2, rfl⟩ := three hc
 obtain ⟨d0, d1, d2, rfl⟩ := three (l := ds) (by simpa using hl)
 have e0 : Tr enc Tryz.prog W 3 ((([u0, u1, u2] : List Value).drop 0).take (Tryz.prog.cellsOf 3)) d0 := hf 0 _ d0 rfl rfl
 have e1 : Tr enc Tryz.prog W 24 ((([u0, u1, u2] : List Value).drop 1).take (Tryz.prog.cellsOf 24)) d1 := hf 1 _ d1 rfl rfl
 have e2 : Tr enc Tryz.prog W 3 ((([u0, u1, u2] : List Value).drop 2).take (Tryz.prog.cellsOf 3)) d2 := hf 2 _ d2 rfl rfl
 rw [cuint32] at e1
 rw [cint] at e0 e2
 obtain ⟨x0, g0, a0, b0, _⟩ := e0.i64 Tryz.underlying3
 obtain ⟨x1, g1, a1, b1, _⟩ := e1.u32 Tryz.underlying24
 obtain ⟨x2, g2, a2, b2, _⟩ := e2.i64 Tryz.underlying3
 simp at g0 g1 g2
 subst g0 g1 g2
 exact ⟨⟨x0, x1, x2⟩, rfl, ⟨a0, b0⟩, ⟨a1, b1⟩, ⟨a2, b2⟩⟩
theorem Tr.backs (h : Tr enc Tryz.prog W 39 cs d) :
 ∃ (a : Option Addr) (cap : Nat) (bs : List BkD), cs = [.slice a bs.length cap] ∧ RowK W a bs.length cap bs ∧ (∀ b ∈ bs, BkOk b) := by
 have hb24 : Tryz.prog.bytesOf 70 = 24 := by kernel_rfl
 have hc3 : Tryz.prog.cellsOf 70 = 3 := by kernel_rfl
 rcases h.slice Tryz.underlying39 with ⟨h1, _⟩ | ⟨a, len, cap, es, rest, h1, _, h2, h3, h4, h5, h6, h7⟩
 ·exact ⟨none, 0, [], h1, RowS.nil _ _ _ _ (by omega), by simp⟩
 ·rw [hc3] at h7
  have key : ∀ i (hi : i < es.length), ∃ b : BkD, BkOk b ∧ ∀ j u, b.cells[j]? = some u → W.cell? (a.add (i * 3 + j)) = some u := by
   intro i hi
   obtain ⟨us, hu1, hu2, hu3⟩ := h7 i es[i] (List.getElem?_eq_getElem hi)
   obtain ⟨b, rfl, hb⟩ := hu3.bkD
   refine ⟨b, hb, fun j u hu => ?_⟩
   obtain ⟨hj, rfl⟩ := List.getElem?_eq_some_iff.1 hu
   exact hu2 j hj
  let bs : List BkD := List.ofFn (fun i : Fin es.length => Classical.choose (key i i.2))
  have hbl : bs.length = es.length := List.length_ofFn
  have hget : ∀ i (hi : i < bs.length), BkOk bs[i] ∧ ∀ j u, bs[i].cells[j]? = some u → W.cell? (a.add (i * 3 + j)) = some u := by
   intro i hi
   have e : bs[i] = Classical.choose (key i (by omega)) := List.getElem_ofFn (h := hi)
   rw [e]
   exact Classical.choose_spec (key i (by omega))
  refine ⟨some a, cap, bs, by rw [h1, hbl, h2], ⟨by simp, by rw [hbl, h2]; exact h4, h5, ?_, ?_⟩, ?_⟩
  ·intro l hl
   obtain ⟨b, _, rfl⟩ := List.mem_map.1 hl
   rfl
  ·by_cases h0 : bs.length = 0
   ·exact .inl h0
   ·obtain ⟨b, off, spot⟩ := a
    have hc0 := (hget 0 (by omega)).2 0 _ rfl
    have hspot : spot = none := by simpa [Addr.add] using World.cell?_spot hc0
    subst hspot
    have ea : ∀ j, (⟨b, off, none⟩ : Addr).add j = ⟨b, off + j, none⟩ := fun j => by simp only [Addr.add]; split <;> simp_all
    rw [ea] at hc0
    refine .inr ⟨b, off, rfl, cell_lt hc0, fun i hi j u hu => ?_⟩
    have hi' : i < bs.length := by simpa using hi
    have := (hget i hi').2 j u (by simpa using hu)
    rw [ea] at this
    rw [Nat.add_assoc]; exact this
  ·intro b hb
   obtain ⟨i, hi, rfl⟩ := List.getElem_of_mem hb
   exact (hget i hi).1
end
end Go.Proofs.YtpjdcgjoepjmcaaGreat
end
