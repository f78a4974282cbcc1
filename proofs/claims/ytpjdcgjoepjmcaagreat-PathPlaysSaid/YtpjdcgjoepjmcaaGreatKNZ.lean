import Derived.Test.YtpjdcgjoepjmcaaGreatKMZ
import Derived.Test.YtpjdcgjoepjmcaaGreatGMZ
import Derived.Test.YtpjdcgjoepjmcaaGreatGCZ
import Derived.Test.YtpjdcgjoepjmcaaGreatHDZ
import Derived.Test.YtpjdcgjoepjmcaaGreatGFZ
import Derived.Test.YtpjdcgjoepjmcaaGreatPortRTupZ
import Derived.Deep.DeepCutAuto
set_option linter.unusedVariables false
set_option linter.unusedSimpArgs false
section
namespace Go.Proofs.YtpjdcgjoepjmcaaGreat
open Go.RowKit
def TK (w : World) (K : List Nat) (k : Nat) : Prop := w.heap.size ≤ k ∧ k ∉ K
structure PSX (w wr : World) (g : Nat) (h : FH) (C mb : Nat) (M : List FlD) (K : List Nat) (Z : List FlD → List BkD → List Int → Prop) (bs : List BkD) (T : List Int) (ab : Option Addr) (lb cb G m : Nat) : Prop where
 p : PW w wr g h 8 1000 M C 13 bs T ab lb cb G m
 z : Z M bs T
 r : ∀ b ∈ bs, 0 ≤ b.addr ∧ b.addr ≤ 4294967295
 m : m ≤ mb
 c : w.heap.size ≤ C
 k : ∀ B, B < w.heap.size ∨ B ∈ K → B < wr.heap.size ∧ Off g h C ab lb G B
def PS (w wr : World) (g C mb : Nat) (M : List FlD) (K : List Nat) (Z : List FlD → List BkD → List Int → Prop) : Prop :=
 ∃ h bs T ab lb cb G m, PSX w wr g h C mb M K Z bs T ab lb cb G m
def ZF (M : List FlD) (bs : List BkD) (T : List Int) : Prop := M = [] ∧ bs = bksH ∧ T = tabF bksH 13
def ZH (t : TupD) (hm : Int) (M : List FlD) (bs : List BkD) (T : List Int) : Prop := HomeF M t hm ∧ ∃ b, findF bs hm = some b
section
variable {w w1 w2 : World} {g : Nat} {h : FH} {C mb : Nat} {M M' : List FlD} {K : List Nat} {Z Z' : List FlD → List BkD → List Int → Prop} {bs : List BkD} {T : List Int} {ab : Option Addr} {lb cb G m : Nat}
end
section
variable {w w1 w2 : World} {B : Nat} {K : List Nat}
theorem TK.cells (t : Touch w1 w2 (TK w K)) (hB : B ∈ K) {o : Obj} (h : w1.heap[B]? = some o) : w2.heap[B]? = some o := t.keeps h (fun e => e.2 hB)
theorem TK.of (t : Touch w1 w2 (fun _ => False)) : Touch w1 w2 (TK w K) := t.mono (fun _ _ h => h.elim)
end
end Go.Proofs.YtpjdcgjoepjmcaaGreat
end
section
namespace Go.Proofs.YtpjdcgjoepjmcaaGreat
open Go.ChangeShapes Go.WideShapes Go.ChangeAt Go.RowKit
section
variable {H : Type} {enc : TypeId × Value → H} {P : Program} {W : World} {base : Nat} {T : TypeId} {v : Value} {cs : List Value} {d : DataW H} {p : List MemPlace}
theorem Tr.ints23 {E : TypeId} (h : Tr enc P W T cs d) (ht : P.underlying T = some (.slice E)) (he : P.underlying E = some (.int .i64)) (hc : P.cellsOf E = 1) :
 ∃ (a : Option Addr) (len cap : Nat) (zs : List Int), cs = [.slice a len cap] ∧ RowI W a len cap zs := by
 obtain ⟨⟨fuel, ps, hf⟩, _⟩ := h
 rcases open_ints ht he hc hf with ⟨hcs, hd⟩ | ⟨x, l, c, zs, hcs, _, hl, hm, hz, hd, hcell, hwz⟩
 ·exact ⟨_, _, _, [], hcs, rfl, by omega, by omega, by simp, .inl rfl⟩
 ·simp only [if_true] at hz
  refine ⟨_, _, _, zs.take l, hcs, by simp; omega, hl, by simpa [maxLen] using hm, ?_, ?_⟩
  ·intro n hn
   exact bounds_i64 (hwz n (List.mem_of_mem_take hn))
  ·by_cases h0 : l = 0
   ·exact .inl h0
   ·right
    obtain ⟨b, off, spot⟩ := x
    have hc0 := hcell 0 (by omega)
    have hspot : spot = none := by simpa [Addr.add] using World.cell?_spot hc0
    subst hspot
    have ea : ∀ i, (⟨b, off, none⟩ : Addr).add i = ⟨b, off + i, none⟩ := fun i => by simp only [Addr.add]; split <;> simp_all
    rw [ea] at hc0
    refine ⟨b, off, rfl, cell_lt (p := ⟨b, off + 0, none⟩) hc0, fun i hi => ?_⟩
    simp at hi
    have := hcell i (by omega)
    rw [ea] at this
    rw [List.getElem_take]
    have e : zs.getD i 0 = zs[i] := by rw [List.getD_eq_getElem?_getD, List.getElem?_eq_getElem (by omega)]; rfl
    rw [e] at this
    simpa using this
end
structure CallP where
 do_ : Int
 ttl : Int
 flags : Int
 t : TupD
 ba : Option Addr
 bn : Nat
 bc : Nat
 xs : List Nat
 now : Int
 la : Option Addr
 lc : Nat
 L : List BkD
 oa : Option Addr
 on : Nat
 oc : Nat
 O : List Int
def CallP.arr (c : CallP) : Array Value := #[.int .i64 c.do_, .int .i64 c.ttl, .int .i64 c.flags, .int .u32 c.t.src, .int .u32 c.t.dst, .int .i64 c.t.proto, .int .i64 c.t.sport, .int .i64 c.t.dport, .slice c.ba c.bn c.bc, .int .i64 c.now, .slice c.la c.L.length c.lc, .slice c.oa c.on c.oc]
def CallP.cells (c : CallP) : List Value := c.arr.toList
structure CallPOk (W : World) (c : CallP) : Prop where
 d : i64 c.do_
 ttl : i64 c.ttl
 fl : i64 c.flags
 t : TupOk c.t
 b : RowB W c.ba c.bn c.bc c.xs
 n : i64 c.now
 l : RowK W c.la c.L.length c.lc c.L
 lk : ∀ b ∈ c.L, BkOk b
 o : RowI W c.oa c.on c.oc c.O
def noCP : CallP := ⟨0, 0, 0, noT, none, 0, 0, [], 0, none, 0, [], none, 0, 0, []⟩
def gcP (l : List CallP) (i : Nat) : CallP := l.getD i noCP
theorem gcP_get (l : List CallP) (i : Nat) (h : i < l.length) : gcP l i = l[i] := by unfold gcP; rw [List.getD_eq_getElem?_getD, List.getElem?_eq_getElem h]; rfl
theorem gcP_mem (l : List CallP) (i : Nat) (h : i < l.length) : gcP l i ∈ l := by rw [gcP_get l i h]; exact List.getElem_mem h
theorem callP_cells {w : World} {g off n cap : Nat} {l : List CallP} (h : RowS w (some ⟨g, off, none⟩) n cap 12 (l.map CallP.cells)) (k : Nat) (hk : k < l.length) :
 ∀ j u, ((gcP l k).cells)[j]? = some u → w.cell? ⟨g, off + k * 12 + j, none⟩ = some u := by
 have hk' : k < (l.map CallP.cells).length := by simpa using hk
 have e : (l.map CallP.cells)[k] = (gcP l k).cells := by rw [List.getElem_map, gcP_get l k hk]
 intro j u hu
 exact h.cell k hk' j u (by rw [e]; exact hu)
section
variable {H : Type} {enc : TypeId × Value → H} {W : World} {base : Nat} {v : Value} {d : DataW H} {p : List MemPlace} {cs : List Value}
theorem listTwelveP {α : Type} {l : List α} (h : l.length = 12) : ∃ a b c d e f g i j k m n, l = [a, b, c, d, e, f, g, i, j, k, m, n] := by
 match l, h with
 | [a, b, c, d, e, f, g, i, j, k, m, n], _ => exact ⟨a, b, c, d, e, f, g, i, j, k, m, n, rfl⟩
theorem listEightP {α : Type} {l : List α} (h : l.length = 8) : ∃ a b c d e f g i, l = [a, b, c, d, e, f, g, i] := by
 match l, h with
 | [a, b, c, d, e, f, g, i], _ => exact ⟨a, b, c, d, e, f, g, i, rfl⟩
set_option maxRecDepth 20000 in
theorem Tr.callP (h : Tr enc Tryz.prog W 42 cs d) : ∃ c : CallP, cs = c.cells ∧ CallPOk W c := by
 obtain ⟨ds, hd, hl, hc, hf⟩ := h.struct Tryz.underlying42
 have hcc : Tryz.prog.cellsOf 42 = 12 := by kernel_rfl
 have hct : Tryz.prog.cellsOf 37 = 5 := by kernel_rfl
 have hcb : Tryz.prog.cellsOf 38 = 1 := by kernel_rfl
 have hck : Tryz.prog.cellsOf 39 = 1 := by kernel_rfl
 have hci : Tryz.prog.cellsOf 40 = 1 := by kernel_rfl
 rw [hcc] at hc
 obtain ⟨u1, u2, u3, u4, u5, u6, u7, u8, u9, u10, u11, u12, rfl⟩ := listTwelveP hc
 obtain ⟨f0, f1, f2, f3, f4, f5, f6, f7, rfl⟩ := listEightP (l := ds) (by simpa using hl)
 have k0 : Tr enc Tryz.prog W 3 ((([u1, u2, u3, u4, u5, u6, u7, u8, u9, u10, u11, u12] : List Value).drop 0).take (Tryz.prog.cellsOf 3)) f0 := hf 0 _ f0 rfl rfl
 have k1 : Tr enc Tryz.prog W 3 ((([u1, u2, u3, u4, u5, u6, u7, u8, u9, u10, u11, u12] : List Value).drop 1).take (Tryz.prog.cellsOf 3)) f1 := hf 1 _ f1 rfl rfl
 have k2 : Tr enc Tryz.prog W 3 ((([u1, u2, u3, u4, u5, u6, u7, u8, u9, u10, u11, u12] : List Value).drop 2).take (Tryz.prog.cellsOf 3)) f2 := hf 2 _ f2 rfl rfl
 have k3 : Tr enc Tryz.prog W 37 ((([u1, u2, u3, u4, u5, u6, u7, u8, u9, u10, u11, u12] : List Value).drop 3).take (Tryz.prog.cellsOf 37)) f3 := hf 3 _ f3 rfl rfl
 have k4 : Tr enc Tryz.prog W 38 ((([u1, u2, u3, u4, u5, u6, u7, u8, u9, u10, u11, u12] : List Value).drop 8).take (Tryz.prog.cellsOf 38)) f4 := hf 4 _ f4 rfl rfl
 have k5 : Tr enc Tryz.prog W 2 ((([u1, u2, u3, u4, u5, u6, u7, u8, u9, u10, u11, u12] : List Value).drop 9).take (Tryz.prog.cellsOf 2)) f5 := hf 5 _ f5 rfl rfl
 have k6 : Tr enc Tryz.prog W 39 ((([u1, u2, u3, u4, u5, u6, u7, u8, u9, u10, u11, u12] : List Value).drop 10).take (Tryz.prog.cellsOf 39)) f6 := hf 6 _ f6 rfl rfl
 have k7 : Tr enc Tryz.prog W 40 ((([u1, u2, u3, u4, u5, u6, u7, u8, u9, u10, u11, u12] : List Value).drop 11).take (Tryz.prog.cellsOf 40)) f7 := hf 7 _ f7 rfl rfl
 rw [cint] at k0 k1 k2
 rw [hct] at k3
 rw [hcb] at k4
 rw [cint64] at k5
 rw [hck] at k6
 rw [hci] at k7
 obtain ⟨y0, q0, m0, n0, _⟩ := k0.i64 Tryz.underlying3
 obtain ⟨y1, q1, m1, n1, _⟩ := k1.i64 Tryz.underlying3
 obtain ⟨y2, q2, m2, n2, _⟩ := k2.i64 Tryz.underlying3
 obtain ⟨t, q3, ot⟩ := k3.tupD
 obtain ⟨ba, bn, bc, xs, q4, hb, _⟩ := k4.bytes Tryz.underlying38 Tryz.underlying5 (by kernel_rfl) (by kernel_rfl)
 obtain ⟨y5, q5, m5, n5, _⟩ := k5.i64 Tryz.underlying2
 obtain ⟨la, lc, L, q6, hL, hLk⟩ := k6.backs
 obtain ⟨oa, on, oc, O, q7, hO⟩ := k7.ints23 Tryz.underlying40 Tryz.underlying3 (by kernel_rfl)
 simp at q0 q1 q2 q3 q4 q5 q6 q7
 subst q0 q1 q2 q4 q5 q6 q7
 obtain ⟨rfl, rfl, rfl, rfl, rfl⟩ := q3
 exact ⟨⟨y0, y1, y2, t, ba, bn, bc, xs, y5, la, lc, L, oa, on, oc, O⟩, rfl, ⟨m0, n0⟩, ⟨m1, n1⟩, ⟨m2, n2⟩, ot, hb, ⟨m5, n5⟩, hL, hLk, hO⟩
set_option maxRecDepth 20000 in
theorem ArgIn.callsP (h : ArgIn enc Tryz.prog W base 22 v d p) : ∃ (a : Option Addr) (cap : Nat) (l : List CallP), v = .slice a l.length cap ∧ RowS W a l.length cap 12 (l.map CallP.cells) ∧ (∀ c ∈ l, CallPOk W c) := by
 obtain ⟨a0, len0, cap0, rfl⟩ := okWide_slice Tryz.underlying22 h.ok
 obtain ⟨a, cap, bs, hcs, hr, hok, _⟩ := h.tr.rowsOf CallP.cells (CallPOk W) 12 Tryz.underlying22 (by kernel_rfl) (fun _ => rfl) (by decide) (fun cs d h => h.callP)
 simp [Value.cells] at hcs
 obtain ⟨rfl, rfl, rfl⟩ := hcs
 exact ⟨_, _, bs, rfl, hr, hok⟩
end
end Go.Proofs.YtpjdcgjoepjmcaaGreat
end
section
namespace Go.Proofs.YtpjdcgjoepjmcaaGreat
open Go.RowKit
theorem RowB.stillP {w w' : World} {a : Option Addr} {len cap : Nat} {xs : List Nat} (h : RowB w a len cap xs) (t : Touch w w' (fun _ => False)) : RowB w' a len cap xs := h.touch t (fun _ _ => .inr (fun h => h))
end Go.Proofs.YtpjdcgjoepjmcaaGreat
end
