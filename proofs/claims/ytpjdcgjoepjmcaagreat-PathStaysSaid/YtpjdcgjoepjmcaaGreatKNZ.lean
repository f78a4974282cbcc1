import Derived.Test.YtpjdcgjoepjmcaaGreatKMZ
import Derived.Test.YtpjdcgjoepjmcaaGreatGMZ
import Derived.Test.YtpjdcgjoepjmcaaGreatGCZ
import Derived.Test.YtpjdcgjoepjmcaaGreatHDZ
import Derived.Test.YtpjdcgjoepjmcaaGreatGFZ
import Derived.Test.YtpjdcgjoepjmcaaGreatPortRTupZ
import Derived.Deep.DeepCutAuto
section
set_option linter.unusedVariables false
set_option linter.unusedSimpArgs false
namespace Go.Proofs.YtpjdcgjoepjmcaaGreat
open Go.RowKit

def TK (w : World) (K : List Nat) (k : Nat) : Prop := w.heap.size ≤ k ∧ k ∉ K
structure PSX (w wr : World) (g : Nat) (h : FH) (C mb : Nat) (M : List FlD) (K : List Nat) (Z : List FlD → List BkD → List Int → Prop) (bs : List BkD) (T : List Int) (ab : Option Addr) (lb cb G m : Nat) : Prop where
  p : PW w wr g h 8 1000 M C 13 bs T ab lb cb G m
  z : Z M bs T
  r : ∀ b ∈ bs, 0 ≤ b.addr ∧ b.addr ≤ 4294967295
  m : m ≤ mb
  c : w.heap.size ≤ C
  k : ∀ B, B < w.heap.size ∨ B ∈ K → B < wr.heap.size ∧ Off g h C ab lb G B
def PS (w wr : World) (g C mb : Nat) (M : List FlD) (K : List Nat) (Z : List FlD → List BkD → List Int → Prop) : Prop :=
  ∃ h bs T ab lb cb G m, PSX w wr g h C mb M K Z bs T ab lb cb G m
def ZF (M : List FlD) (bs : List BkD) (T : List Int) : Prop := M = [] ∧ bs = bksH ∧ T = tabF bksH 13
def ZH (t : TupD) (hm : Int) (M : List FlD) (bs : List BkD) (T : List Int) : Prop := HomeF M t hm ∧ ∃ b, findF bs hm = some b
section
variable {w w1 w2 : World} {g : Nat} {h : FH} {C mb : Nat} {M M' : List FlD} {K : List Nat} {Z Z' : List FlD → List BkD → List Int → Prop} {bs : List BkD} {T : List Int} {ab : Option Addr} {lb cb G m : Nat}
theorem PSX.still (p : PSX w w1 g h C mb M K Z bs T ab lb cb G m) (t : Touch w1 w2 (fun _ => False)) : PSX w w2 g h C mb M K Z bs T ab lb cb G m :=
  ⟨p.p.still t, p.z, p.r, p.m, p.c, fun B hB => ⟨Nat.lt_of_lt_of_le (p.k B hB).1 t.size, (p.k B hB).2⟩⟩
theorem PS.still (p : PS w w1 g C mb M K Z) (t : Touch w1 w2 (fun _ => False)) : PS w w2 g C mb M K Z := by
  obtain ⟨h, bs, T, ab, lb, cb, G, m, p⟩ := p
  exact ⟨h, bs, T, ab, lb, cb, G, m, p.still t⟩
theorem PS.add (p : PS w w1 g C mb M K Z) (t : Touch w1 w2 (fun _ => False)) (B : Nat) (h1 : w1.heap.size ≤ B) (h2 : B < w2.heap.size) : PS w w2 g C mb M (B :: K) Z := by
  obtain ⟨h, bs, T, ab, lb, cb, G, m, p⟩ := p
  refine ⟨h, bs, T, ab, lb, cb, G, m, (p.still t).p, p.z, p.r, p.m, p.c, fun B' hB => ?_⟩
  rcases hB with hB | hB
  · exact (p.still t).k B' (.inl hB)
  · rcases List.mem_cons.1 hB with rfl | hB
    · exact ⟨h2, p.p.new _ h1⟩
    · exact (p.still t).k B' (.inr hB)
theorem PS.old (p : PS w w1 g C mb M K Z) (B : Nat) (h1 : B < w.heap.size) : PS w w1 g C mb M (B :: K) Z := by
  obtain ⟨h, bs, T, ab, lb, cb, G, m, p⟩ := p
  refine ⟨h, bs, T, ab, lb, cb, G, m, p.p, p.z, p.r, p.m, p.c, fun B' hB => p.k B' ?_⟩
  rcases hB with hB | hB
  · exact .inl hB
  · rcases List.mem_cons.1 hB with rfl | hB
    · exact .inl h1
    · exact .inr hB
theorem PS.less {K' : List Nat} (p : PS w w1 g C mb M K Z) (h1 : ∀ B ∈ K', B ∈ K) : PS w w1 g C mb M K' Z := by
  obtain ⟨h, bs, T, ab, lb, cb, G, m, p⟩ := p
  exact ⟨h, bs, T, ab, lb, cb, G, m, p.p, p.z, p.r, p.m, p.c, fun B' hB => p.k B' (hB.imp (fun h => h) (h1 B'))⟩
theorem PS.mono {mb' : Nat} (p : PS w w1 g C mb M K Z) (h1 : mb ≤ mb') : PS w w1 g C mb' M K Z := by
  obtain ⟨h, bs, T, ab, lb, cb, G, m, p⟩ := p
  exact ⟨h, bs, T, ab, lb, cb, G, m, p.p, p.z, p.r, Nat.le_trans p.m h1, p.c, p.k⟩
theorem PS.touch (p : PS w w1 g C mb M K Z) : Touch w w1 (fun _ => False) := by
  obtain ⟨h, bs, T, ab, lb, cb, G, m, p⟩ := p
  exact p.p.f.t
theorem PS.set (p : PS w w1 g C mb M K Z) (B : Nat) (hB : B ∈ K) (hw : w.heap.size ≤ B) (t : Touch w1 w2 (fun k => k = B)) : PS w w2 g C mb M K Z := by
  obtain ⟨h, bs, T, ab, lb, cb, G, m, p⟩ := p
  exact ⟨h, bs, T, ab, lb, cb, G, m, p.p.set B (p.k B (.inr hB)).2 hw t, p.z, p.r, p.m, p.c, fun B' h1 => ⟨Nat.lt_of_lt_of_le (p.k B' h1).1 t.size, (p.k B' h1).2⟩⟩
theorem PSX.step (p : PSX w w1 g h C mb M K Z bs T ab lb cb G m) (s : FStep w1 w2 g h 8 1000 M') (hz : ∀ M1 : List FlD, M1.Perm M' → (M1.map FlD.t).Nodup → Z' M1 bs T) :
    ∃ M1, M1.Perm M' ∧ PS w w2 g C mb M1 K Z' ∧ Touch w1 w2 (TK w K) := by
  have hst := step_touch s
  obtain ⟨h', M1, pm, hpw, hoff⟩ := p.p.step s
  refine ⟨M1, pm, ⟨h', bs, T, ab, lb, cb, G, m, hpw, hz M1 pm hpw.f.q.map.nd, p.r, p.m, p.c, fun B hB => ⟨Nat.lt_of_lt_of_le (p.k B hB).1 hst.size, hoff B (p.k B hB).1 (p.k B hB).2⟩⟩, hst.mono (fun k hk hf => ⟨p.p.f.f k hf, fun hk2 => (p.k k (.inr hk2)).2.1 hf⟩)⟩
end
section
variable {w w1 w2 : World} {B : Nat} {K : List Nat}
theorem TK.cells (t : Touch w1 w2 (TK w K)) (hB : B ∈ K) {o : Obj} (h : w1.heap[B]? = some o) : w2.heap[B]? = some o := t.keeps h (fun e => e.2 hB)
theorem TK.of (t : Touch w1 w2 (fun _ => False)) : Touch w1 w2 (TK w K) := t.mono (fun _ _ h => h.elim)
end
set_option maxRecDepth 20000 in
theorem PS.pk1 {w W : World} {g C mb : Nat} {M : List FlD} {K : List Nat} (p : PS w W g C mb M K ZF) (k : TupD) (ok : TupOk k) (hk : mayTB k = true) (b : BkD) (hb : backF bksH (tabF bksH 13) 13 [] k = some b) (hb2 : 0 ≤ b.id ∧ b.id ≤ 65535) (hf : findF bksH b.id = some b) (ma : Option Addr) (n mc : Nat) (hr : RowB W ma n mc (madeF (kOf k) 9 0 [])) :
    Calls Tryz.prog 18 #[.agg (cfg23 8), .pointer (some ⟨g, 0, none⟩), .pointer (some ⟨C, 0, none⟩), .int .i64 1, .int .i64 0, .slice ma n mc] W fun e w' => ∃ (pa : Option Addr) (pn pc : Nat) (qa : Option Addr) (qn qc : Nat) (M' : List FlD), e = .returned (.agg (planV 2 0 b.id (.slice pa pn pc) (.slice qa qn qc))) ∧ PS w w' g C mb M' K (ZH k b.id) ∧ Touch W w' (TK w K) := by
  obtain ⟨h, bs, T, ab, lb, cb, G, m, p⟩ := p
  obtain ⟨rfl, rfl, rfl⟩ := p.z
  refine (pktF W g h p.p.f.q C ab lb cb G m p.p.c k ok hk b hb hb2 ma n mc hr).mono ?_
  rintro e w' ⟨pa, pn, pc, qa, qn, qc, M', rfl, hx, hs⟩
  obtain ⟨M1, -, h1, h2⟩ := p.step (Z' := ZH k b.id) hs (fun M1 pm nd => ⟨hx.perm pm nd, b, hf⟩)
  exact ⟨pa, pn, pc, qa, qn, qc, M1, rfl, h1, h2⟩
set_option maxRecDepth 20000 in
theorem PS.pkK {w W : World} {g C mb : Nat} {M : List FlD} {K : List Nat} {k : TupD} {hm : Int} (p : PS w W g C mb M K (ZH k hm)) (ok : TupOk k) (hk : mayTB k = true) (ma : Option Addr) (n mc : Nat) (hr : RowB W ma n mc (madeF (kOf k) 9 0 [])) :
    Calls Tryz.prog 18 #[.agg (cfg23 8), .pointer (some ⟨g, 0, none⟩), .pointer (some ⟨C, 0, none⟩), .int .i64 1, .int .i64 0, .slice ma n mc] W fun e w' => ∃ (pa : Option Addr) (pn pc : Nat) (qa : Option Addr) (qc : Nat) (M' : List FlD), e = .returned (.agg (planV 2 0 hm (.slice pa pn pc) (.slice qa 0 qc))) ∧ PS w w' g C mb M' K (ZH k hm) ∧ Touch W w' (TK w K) := by
  obtain ⟨h, bs, T, ab, lb, cb, G, m, p⟩ := p
  obtain ⟨hx, b, hb⟩ := p.z
  refine (pktK W g h M p.p.f.q C bs T ab lb cb G m p.p.c p.r k ok hk hm hx b hb ma n mc hr).mono ?_
  rintro e w' ⟨pa, pn, pc, qa, qc, M', rfl, hx, hs⟩
  obtain ⟨M1, -, h1, h2⟩ := p.step (Z' := ZH k hm) hs (fun M1 pm nd => ⟨hx.perm pm nd, b, hb⟩)
  exact ⟨pa, pn, pc, qa, qc, M1, rfl, h1, h2⟩
set_option maxRecDepth 20000 in
theorem PS.pkO {w W : World} {g C mb : Nat} {M : List FlD} {K : List Nat} {k : TupD} {hm : Int} (p : PS w W g C mb M K (ZH k hm)) (xs : List Nat) (hne : whyT xs = 0 → tupT (tellT xs) ≠ k) (ma : Option Addr) (n mc : Nat) (hr : RowB W ma n mc xs) :
    Calls Tryz.prog 18 #[.agg (cfg23 8), .pointer (some ⟨g, 0, none⟩), .pointer (some ⟨C, 0, none⟩), .int .i64 1, .int .i64 0, .slice ma n mc] W fun e w' => ∃ (v r b : Int) (pa : Option Addr) (pn pc : Nat) (qa : Option Addr) (qn qc : Nat) (M' : List FlD), e = .returned (.agg (planV v r b (.slice pa pn pc) (.slice qa qn qc))) ∧ (v = 1 ∨ v = 2) ∧ (v = 1 → M'.Perm M ∧ qn = 0 ∧ pn = 0 ∧ 0 < r) ∧ PS w w' g C mb M' K (ZH k hm) ∧ Touch W w' (TK w K) := by
  obtain ⟨h, bs, T, ab, lb, cb, G, m, p⟩ := p
  obtain ⟨hx, b0, hb⟩ := p.z
  refine (pktO W g h M p.p.f.q C bs T ab lb cb G m p.p.c p.r k hm hx xs hne ma n mc hr).mono ?_
  rintro e w' ⟨v, r, b, pa, pn, pc, qa, qn, qc, M', rfl, hv, hv1, hx, hs⟩
  obtain ⟨M1, pm, h1, h2⟩ := p.step (Z' := ZH k hm) hs (fun M1 pm nd => ⟨hx.perm pm nd, b0, hb⟩)
  exact ⟨v, r, b, pa, pn, pc, qa, qn, qc, M1, rfl, hv, fun e => ⟨(hv1 e).1 ▸ pm, (hv1 e).2⟩, h1, h2⟩
set_option maxRecDepth 20000 in
theorem PS.setS {w W : World} {g C mb : Nat} {M : List FlD} {K : List Nat} {k : TupD} {hm : Int} (p : PS w W g C mb M K (ZH k hm)) (hmb : mb ≤ 1000000) (sa : Option Addr) (sn sc : Nat) (L : List BkD) (hr : RowK W sa sn sc L) (hS : ∀ x, sa = some x → sn = 0 ∨ x.block ∈ K) (hL : ∃ b, findF L hm = some b) (hA : ∀ b ∈ L, 0 ≤ b.addr ∧ b.addr ≤ 4294967295)
    (gb : Nat) (oa : Option Addr) (on oc : Nat) (O : List Int) (hg : W.cell? ⟨gb, 0, none⟩ = some (.slice oa on oc)) (ho : RowI W oa on oc O) :
    Calls Tryz.prog 14 #[.pointer (some ⟨C, 0, none⟩), .slice sa sn sc, goneV23 gb] W fun e w' => (∃ r, e = .returned (.int .i64 r)) ∧ PS w w' g C (mb + 1) M K (ZH k hm) ∧ Touch W w' (TK w K) := by
  obtain ⟨h, bs, T, ab, lb, cb, G, m, p⟩ := p
  obtain ⟨hx, b0, hb⟩ := p.z
  have hmm := p.m
  cases hg2 : gmay L with
  | false =>
    refine (set_bad 13 C ab lb cb (some ⟨G, 0, none⟩) 13 13 m sa sn sc L (goneV23 gb) W prm13 p.p.c.hc hr hg2).mono ?_
    rintro e w' ⟨rfl, t1⟩
    exact ⟨⟨1, rfl⟩, PS.mono ⟨h, bs, T, ab, lb, cb, G, m, p.still t1⟩ (Nat.le_succ _), TK.of t1⟩
  | true =>
    have hl16 : sn ≤ 16 := by have := ((gmay_iff L).1 hg2).1; have := hr.len; omega
    refine (set_out 13 (goneV23 gb) (keepF (outB O) L) C ab lb cb (some ⟨G, 0, none⟩) 13 13 m sa sn sc L W prm13 (by omega) p.p.c.hc hr hg2 (fun x hx => (hS x hx).imp (fun h => h) (fun h1 => (p.k _ (.inr h1)).2.2.1))
      (fun W' t => (without_says 41 #[goneV23 gb] #[] (outB O) sa sn sc L W' (hr.still t) (by omega) (fun W2 id t2 => says_gone23 gb oa on oc O id W2 (((t.trans t2 (fun _ _ h => h)).cell (block_lt_of_cell hg) (fun h => h)).trans hg) (ho.still (t.trans t2 (fun _ _ h => h))))).mono (fun e w' h => h))).mono ?_
    rintro e w' ⟨rfl, a', c', G', hc', hk', hi', hb', hG', t⟩
    refine ⟨⟨0, rfl⟩, ⟨h, L, tabF (keepF (outB O) L) 13, a', sn, c', G', m + 1, PW.made p.p.f (by omega) p.p.l.1 p.p.o.1 p.c t hc' hk' hi' hb' hG', ⟨hx, hL⟩, hA, by omega, p.c, fun B hB => ?_⟩, t.mono (fun k hk e => ?_)⟩
    · have h1 := p.k B hB
      exact ⟨Nat.lt_of_lt_of_le h1.1 t.size, h1.2.1, h1.2.2.1, .inr (fun x hx e => by have := hb' x hx; omega), by omega⟩
    · have e : k = C := e
      subst e
      exact ⟨p.c, fun h1 => (p.k _ (.inr h1)).2.2.1 rfl⟩
set_option maxRecDepth 20000 in
theorem PS.find {w W : World} {g C mb : Nat} {M : List FlD} {K : List Nat} {k : TupD} {hm : Int} (p : PS w W g C mb M K (ZH k hm)) :
    Calls Tryz.prog 29 #[.pointer (some ⟨C, 0, none⟩), .int .i64 hm] W fun e w' => (∃ u1 u2 u3, e = .returned (.tuple #[.agg #[.int .i64 u1, .int .u32 u2, .int .i64 u3], .bool true])) ∧ Touch W w' (fun _ => False) := by
  obtain ⟨h, bs, T, ab, lb, cb, G, m, p⟩ := p
  obtain ⟨hx, b0, hb⟩ := p.z
  refine (cfind_any 13 C ab lb cb (some ⟨G, 0, none⟩) 13 13 m bs hm W p.p.c.hc p.p.c.hr).mono ?_
  rintro e w' ⟨rfl, t⟩
  refine ⟨⟨b0.id, b0.addr, b0.weight, ?_⟩, t⟩
  unfold findV
  rw [hb]
  rfl
theorem PS.all {w W : World} {g C mb : Nat} {M : List FlD} {K : List Nat} {Z : List FlD → List BkD → List Int → Prop} (p : PS w W g C mb M K Z) :
    Calls Tryz.prog 24 #[.pointer (some ⟨g, 0, none⟩)] W fun e w' => ∃ a c L, e = .returned (.slice a L.length c) ∧ L.Perm M ∧ StrictF L ∧ L.length ≤ 256 ∧ OwnS w' W.heap.size 83 8 (.slice a L.length c) (L.map fcl) ∧ Touch W w' (fun _ => False) := by
  obtain ⟨h, bs, T, ab, lb, cb, G, m, p⟩ := p
  refine (fall_any W g h 8 1000 M p.p.f.q).mono ?_
  rintro e w' ⟨a, c, L, rfl, h1, h2, h3, h4⟩
  exact ⟨a, c, L, rfl, h1, h2, by rw [h1.length_eq]; exact p.p.f.q.small, h3, h4⟩
end Go.Proofs.YtpjdcgjoepjmcaaGreat

end

section
set_option linter.unusedVariables false
set_option linter.unusedSimpArgs false
namespace Go.Proofs.YtpjdcgjoepjmcaaGreat
open Go.ChangeShapes Go.WideShapes Go.ChangeAt Go.RowKit

section
variable {H : Type} {enc : TypeId × Value → H} {P : Program} {W : World} {base : Nat} {T : TypeId} {v : Value} {cs : List Value} {d : DataW H} {p : List MemPlace}
theorem Tr.ints23 {E : TypeId} (h : Tr enc P W T cs d) (ht : P.underlying T = some (.slice E)) (he : P.underlying E = some (.int .i64)) (hc : P.cellsOf E = 1) :
    ∃ (a : Option Addr) (len cap : Nat) (zs : List Int), cs = [.slice a len cap] ∧ RowI W a len cap zs := by
  obtain ⟨⟨fuel, ps, hf⟩, _⟩ := h
  rcases open_ints ht he hc hf with ⟨hcs, hd⟩ | ⟨x, l, c, zs, hcs, _, hl, hm, hz, hd, hcell, hwz⟩
  · exact ⟨_, _, _, [], hcs, rfl, by omega, by omega, by simp, .inl rfl⟩
  · simp only [if_true] at hz
    refine ⟨_, _, _, zs.take l, hcs, by simp; omega, hl, by simpa [maxLen] using hm, ?_, ?_⟩
    · intro n hn
      exact bounds_i64 (hwz n (List.mem_of_mem_take hn))
    · by_cases h0 : l = 0
      · exact .inl h0
      · right
        obtain ⟨b, off, spot⟩ := x
        have hc0 := hcell 0 (by omega)
        have hspot : spot = none := by simpa [Addr.add] using World.cell?_spot hc0
        subst hspot
        have ea : ∀ i, (⟨b, off, none⟩ : Addr).add i = ⟨b, off + i, none⟩ := fun i => by simp only [Addr.add]; split <;> simp_all
        rw [ea] at hc0
        refine ⟨b, off, rfl, cell_lt (p := ⟨b, off + 0, none⟩) hc0, fun i hi => ?_⟩
        simp at hi
        have := hcell i (by omega)
        rw [ea] at this
        rw [List.getElem_take]
        have e : zs.getD i 0 = zs[i] := by rw [List.getD_eq_getElem?_getD, List.getElem?_eq_getElem (by omega)]; rfl
        rw [e] at this
        simpa using this
end
structure CallP where
  do_ : Int
  ttl : Int
  flags : Int
  t : TupD
  ba : Option Addr
  bn : Nat
  bc : Nat
  xs : List Nat
  now : Int
  la : Option Addr
  lc : Nat
  L : List BkD
  oa : Option Addr
  on : Nat
  oc : Nat
  O : List Int
def CallP.arr (c : CallP) : Array Value := #[.int .i64 c.do_, .int .i64 c.ttl, .int .i64 c.flags, .int .u32 c.t.src, .int .u32 c.t.dst, .int .i64 c.t.proto, .int .i64 c.t.sport, .int .i64 c.t.dport, .slice c.ba c.bn c.bc, .int .i64 c.now, .slice c.la c.L.length c.lc, .slice c.oa c.on c.oc]
def CallP.cells (c : CallP) : List Value := c.arr.toList
structure CallPOk (W : World) (c : CallP) : Prop where
  d : i64 c.do_
  ttl : i64 c.ttl
  fl : i64 c.flags
  t : TupOk c.t
  b : RowB W c.ba c.bn c.bc c.xs
  n : i64 c.now
  l : RowK W c.la c.L.length c.lc c.L
  lk : ∀ b ∈ c.L, BkOk b
  o : RowI W c.oa c.on c.oc c.O
def noCP : CallP := ⟨0, 0, 0, noT, none, 0, 0, [], 0, none, 0, [], none, 0, 0, []⟩
def gcP (l : List CallP) (i : Nat) : CallP := l.getD i noCP
theorem gcP_get (l : List CallP) (i : Nat) (h : i < l.length) : gcP l i = l[i] := by unfold gcP; rw [List.getD_eq_getElem?_getD, List.getElem?_eq_getElem h]; rfl
theorem gcP_mem (l : List CallP) (i : Nat) (h : i < l.length) : gcP l i ∈ l := by rw [gcP_get l i h]; exact List.getElem_mem h
theorem callP_cells {w : World} {g off n cap : Nat} {l : List CallP} (h : RowS w (some ⟨g, off, none⟩) n cap 12 (l.map CallP.cells)) (k : Nat) (hk : k < l.length) :
    ∀ j u, ((gcP l k).cells)[j]? = some u → w.cell? ⟨g, off + k * 12 + j, none⟩ = some u := by
  have hk' : k < (l.map CallP.cells).length := by simpa using hk
  have e : (l.map CallP.cells)[k] = (gcP l k).cells := by rw [List.getElem_map, gcP_get l k hk]
  intro j u hu
  exact h.cell k hk' j u (by rw [e]; exact hu)
section
variable {H : Type} {enc : TypeId × Value → H} {W : World} {base : Nat} {v : Value} {d : DataW H} {p : List MemPlace} {cs : List Value}
theorem listTwelveP {α : Type} {l : List α} (h : l.length = 12) : ∃ a b c d e f g i j k m n, l = [a, b, c, d, e, f, g, i, j, k, m, n] := by
  match l, h with
  | [a, b, c, d, e, f, g, i, j, k, m, n], _ => exact ⟨a, b, c, d, e, f, g, i, j, k, m, n, rfl⟩
theorem listEightP {α : Type} {l : List α} (h : l.length = 8) : ∃ a b c d e f g i, l = [a, b, c, d, e, f, g, i] := by
  match l, h with
  | [a, b, c, d, e, f, g, i], _ => exact ⟨a, b, c, d, e, f, g, i, rfl⟩
set_option maxRecDepth 20000 in
theorem Tr.callP (h : Tr enc Tryz.prog W 42 cs d) : ∃ c : CallP, cs = c.cells ∧ CallPOk W c := by
  obtain ⟨ds, hd, hl, hc, hf⟩ := h.struct Tryz.underlying42
  have hcc : Tryz.prog.cellsOf 42 = 12 := by kernel_rfl
  have hct : Tryz.prog.cellsOf 37 = 5 := by kernel_rfl
  have hcb : Tryz.prog.cellsOf 38 = 1 := by kernel_rfl
  have hck : Tryz.prog.cellsOf 39 = 1 := by kernel_rfl
  have hci : Tryz.prog.cellsOf 40 = 1 := by kernel_rfl
  rw [hcc] at hc
  obtain ⟨u1, u2, u3, u4, u5, u6, u7, u8, u9, u10, u11, u12, rfl⟩ := listTwelveP hc
  obtain ⟨f0, f1, f2, f3, f4, f5, f6, f7, rfl⟩ := listEightP (l := ds) (by simpa using hl)
  have k0 : Tr enc Tryz.prog W 3 ((([u1, u2, u3, u4, u5, u6, u7, u8, u9, u10, u11, u12] : List Value).drop 0).take (Tryz.prog.cellsOf 3)) f0 := hf 0 _ f0 rfl rfl
  have k1 : Tr enc Tryz.prog W 3 ((([u1, u2, u3, u4, u5, u6, u7, u8, u9, u10, u11, u12] : List Value).drop 1).take (Tryz.prog.cellsOf 3)) f1 := hf 1 _ f1 rfl rfl
  have k2 : Tr enc Tryz.prog W 3 ((([u1, u2, u3, u4, u5, u6, u7, u8, u9, u10, u11, u12] : List Value).drop 2).take (Tryz.prog.cellsOf 3)) f2 := hf 2 _ f2 rfl rfl
  have k3 : Tr enc Tryz.prog W 37 ((([u1, u2, u3, u4, u5, u6, u7, u8, u9, u10, u11, u12] : List Value).drop 3).take (Tryz.prog.cellsOf 37)) f3 := hf 3 _ f3 rfl rfl
  have k4 : Tr enc Tryz.prog W 38 ((([u1, u2, u3, u4, u5, u6, u7, u8, u9, u10, u11, u12] : List Value).drop 8).take (Tryz.prog.cellsOf 38)) f4 := hf 4 _ f4 rfl rfl
  have k5 : Tr enc Tryz.prog W 2 ((([u1, u2, u3, u4, u5, u6, u7, u8, u9, u10, u11, u12] : List Value).drop 9).take (Tryz.prog.cellsOf 2)) f5 := hf 5 _ f5 rfl rfl
  have k6 : Tr enc Tryz.prog W 39 ((([u1, u2, u3, u4, u5, u6, u7, u8, u9, u10, u11, u12] : List Value).drop 10).take (Tryz.prog.cellsOf 39)) f6 := hf 6 _ f6 rfl rfl
  have k7 : Tr enc Tryz.prog W 40 ((([u1, u2, u3, u4, u5, u6, u7, u8, u9, u10, u11, u12] : List Value).drop 11).take (Tryz.prog.cellsOf 40)) f7 := hf 7 _ f7 rfl rfl
  rw [cint] at k0 k1 k2
  rw [hct] at k3
  rw [hcb] at k4
  rw [cint64] at k5
  rw [hck] at k6
  rw [hci] at k7
  obtain ⟨y0, q0, m0, n0, _⟩ := k0.i64 Tryz.underlying3
  obtain ⟨y1, q1, m1, n1, _⟩ := k1.i64 Tryz.underlying3
  obtain ⟨y2, q2, m2, n2, _⟩ := k2.i64 Tryz.underlying3
  obtain ⟨t, q3, ot⟩ := k3.tupD
  obtain ⟨ba, bn, bc, xs, q4, hb, _⟩ := k4.bytes Tryz.underlying38 Tryz.underlying5 (by kernel_rfl) (by kernel_rfl)
  obtain ⟨y5, q5, m5, n5, _⟩ := k5.i64 Tryz.underlying2
  obtain ⟨la, lc, L, q6, hL, hLk⟩ := k6.backs
  obtain ⟨oa, on, oc, O, q7, hO⟩ := k7.ints23 Tryz.underlying40 Tryz.underlying3 (by kernel_rfl)
  simp at q0 q1 q2 q3 q4 q5 q6 q7
  subst q0 q1 q2 q4 q5 q6 q7
  obtain ⟨rfl, rfl, rfl, rfl, rfl⟩ := q3
  exact ⟨⟨y0, y1, y2, t, ba, bn, bc, xs, y5, la, lc, L, oa, on, oc, O⟩, rfl, ⟨m0, n0⟩, ⟨m1, n1⟩, ⟨m2, n2⟩, ot, hb, ⟨m5, n5⟩, hL, hLk, hO⟩
set_option maxRecDepth 20000 in
theorem ArgIn.callsP (h : ArgIn enc Tryz.prog W base 22 v d p) : ∃ (a : Option Addr) (cap : Nat) (l : List CallP), v = .slice a l.length cap ∧ RowS W a l.length cap 12 (l.map CallP.cells) ∧ (∀ c ∈ l, CallPOk W c) := by
  obtain ⟨a0, len0, cap0, rfl⟩ := okWide_slice Tryz.underlying22 h.ok
  obtain ⟨a, cap, bs, hcs, hr, hok, _⟩ := h.tr.rowsOf CallP.cells (CallPOk W) 12 Tryz.underlying22 (by kernel_rfl) (fun _ => rfl) (by decide) (fun cs d h => h.callP)
  simp [Value.cells] at hcs
  obtain ⟨rfl, rfl, rfl⟩ := hcs
  exact ⟨_, _, bs, rfl, hr, hok⟩
end
end Go.Proofs.YtpjdcgjoepjmcaaGreat

end

section
set_option linter.unusedVariables false
set_option linter.unusedSimpArgs false
namespace Go.Proofs.YtpjdcgjoepjmcaaGreat
open Go.RowKit

theorem RowB.stillP {w w' : World} {a : Option Addr} {len cap : Nat} {xs : List Nat} (h : RowB w a len cap xs) (t : Touch w w' (fun _ => False)) : RowB w' a len cap xs := h.touch t (fun _ _ => .inr (fun h => h))
set_option maxRecDepth 20000 in
set_option maxHeartbeats 4000000 in
theorem bytes_any (d ttl fl : Int) (t : TupD) (ot : TupOk t) (ba : Option Addr) (bn bc : Nat) (xs : List Nat) (now : Int) (la : Option Addr) (ln lc : Nat) (oa : Option Addr) (on oc : Nat) (W : World) (hr : RowB W ba bn bc xs) (hbn : bn ≤ 1400) (ht : isI64 ttl) (hf : isI64 fl) :
    Calls Tryz.prog 17 #[.agg #[.int .i64 d, .int .i64 ttl, .int .i64 fl, .int .u32 t.src, .int .u32 t.dst, .int .i64 t.proto, .int .i64 t.sport, .int .i64 t.dport, .slice ba bn bc, .int .i64 now, .slice la ln lc, .slice oa on oc]] W fun e w' => ∃ a n cap ys, e = .returned (.slice a n cap) ∧ RowB w' a n cap ys ∧ n ≤ 10000 ∧ ((a = ba ∧ n = bn) ∨ ∀ x, a = some x → W.heap.size ≤ x.block) ∧ Touch W w' (fun _ => False) := by
  obtain ⟨W1, hW1⟩ : ∃ X, W.alloc (.cells #[.int .i64 d, .int .i64 ttl, .int .i64 fl, .int .u32 t.src, .int .u32 t.dst, .int .i64 t.proto, .int .i64 t.sport, .int .i64 t.dport, .slice ba bn bc, .int .i64 now, .slice la ln lc, .slice oa on oc] 42) = X := ⟨_, rfl⟩
  obtain ⟨B, hB⟩ : ∃ B, W.heap.size = B := ⟨_, rfl⟩
  have g1 : W1.heap[B]? = some (.cells #[.int .i64 d, .int .i64 ttl, .int .i64 fl, .int .u32 t.src, .int .u32 t.dst, .int .i64 t.proto, .int .i64 t.sport, .int .i64 t.dport, .slice ba bn bc, .int .i64 now, .slice la ln lc, .slice oa on oc] 42 (0, 0)) := hB ▸ hW1 ▸ heap_alloc_new ..
  have t1 : Touch W W1 (fun _ => False) := hW1 ▸ (Touch.refl W _).alloc _
  have q0 : W1.cell? ⟨B, 0, none⟩ = some (.int .i64 d) := cell_of_cells g1 0
  have q1 : W1.cell? ⟨B, 1, none⟩ = some (.int .i64 ttl) := cell_of_cells g1 1
  have q2 : W1.cell? ⟨B, 2, none⟩ = some (.int .i64 fl) := cell_of_cells g1 2
  have q3 : W1.cell? ⟨B, 3, none⟩ = some (.int .u32 t.src) := cell_of_cells g1 3
  have q4 : W1.cell? ⟨B, 4, none⟩ = some (.int .u32 t.dst) := cell_of_cells g1 4
  have q5 : W1.cell? ⟨B, 5, none⟩ = some (.int .i64 t.proto) := cell_of_cells g1 5
  have q6 : W1.cell? ⟨B, 6, none⟩ = some (.int .i64 t.sport) := cell_of_cells g1 6
  have q7 : W1.cell? ⟨B, 7, none⟩ = some (.int .i64 t.dport) := cell_of_cells g1 7
  have q8 : W1.cell? ⟨B, 8, none⟩ = some (.slice ba bn bc) := cell_of_cells g1 8
  obtain ⟨n, hn⟩ : ∃ n, n = 20 + sizeK (kOf t) bn := ⟨_, rfl⟩
  have HNL : RowKit.Hid (n ≤ 10000) := Lib.hid (by rw [hn]; unfold sizeK; split <;> omega)
  have HMK : RowKit.Hid (Calls Tryz.prog 27 #[.agg (tcs t), .int .i64 ttl, .int .i64 fl, .slice ba bn bc] W1 fun e w' => ∃ a' cap', e = .returned (.slice a' n cap') ∧ FreshB W1 w' (.slice a' n cap') (madeF (kOf t) ttl fl xs)) := Lib.hid (made_any (kOf t) (ok_k ot) ttl fl ba bn bc xs W1 (hr.stillP t1) (by omega) ht hf n hn)
  simp only [tcs] at HMK
  have HW1 := Lib.hid (And.intro hW1 hB)
  have HT1 := Lib.hid t1
  have HR := Lib.hid (hr.stillP t1)
  clear hW1 hB g1 t1 hr hn
  go_enter Tryz.func17, Tryz.ntmps17
  go_upto_region 1 with (fail)
  rw [HW1.out.1, HW1.out.2]
  by_cases hd : d = 1
  · subst hd
    go_wp2_with fail
    go_ret
    exact ⟨_, _, _, xs, rfl, HR.out, by omega, .inl ⟨rfl, rfl⟩, HT1.out⟩
  · have hd1 : (d == (1 : Int)) = false := beq_eq_false_iff_ne.2 hd
    go_wp2_with fail
    (with_reducible refine HMK.out.mono ?_)
    rintro e w2 ⟨ma, mc, rfl, hfb⟩
    have HFB := Lib.hid hfb
    clear hfb q0 q1 q2 q3 q4 q5 q6 q7 q8
    go_wp2_with fail
    go_ret
    refine ⟨_, _, _, _, rfl, HFB.out.row'.2, HNL.out, .inr (fun x hx => ?_), HT1.out.trans HFB.out.2 (fun _ _ h => h)⟩
    subst hx
    have h1 := (HFB.out.1.own.lt x.block rfl).1
    have h2 := HT1.out.size
    omega
theorem PS.row {w W1 W2 : World} {g C mb : Nat} {M : List FlD} {K : List Nat} {Z : List FlD → List BkD → List Int → Prop} (p : PS w W1 g C mb M K Z) (t : Touch W1 W2 (fun _ => False)) {a : Option Addr} {n : Nat} (hr : ∀ x, a = some x → n = 0 ∨ x.block < W2.heap.size)
    (h : ∀ x, a = some x → n = 0 ∨ x.block < w.heap.size ∨ W1.heap.size ≤ x.block) : ∃ K', PS w W2 g C mb M K' Z ∧ (∀ B ∈ K, B ∈ K') ∧ ∀ x, a = some x → n = 0 ∨ x.block ∈ K' := by
  cases a with
  | none => exact ⟨K, p.still t, fun _ h => h, fun x hx => by cases hx⟩
  | some x =>
    rcases h x rfl with h0 | h0 | h0
    · exact ⟨K, p.still t, fun _ h => h, fun _ _ => .inl h0⟩
    · exact ⟨x.block :: K, (p.still t).old _ h0, fun _ h => List.mem_cons_of_mem _ h, fun y hy => by cases hy; exact .inr List.mem_cons_self⟩
    · by_cases hn : n = 0
      · exact ⟨K, p.still t, fun _ h => h, fun _ _ => .inl hn⟩
      · have hlt := (hr x rfl).resolve_left hn
        exact ⟨x.block :: K, p.add t _ h0 hlt, fun _ h => List.mem_cons_of_mem _ h, fun y hy => by cases hy; exact .inr List.mem_cons_self⟩
theorem PS.weak {w W : World} {g C mb : Nat} {M : List FlD} {K : List Nat} {Z Z' : List FlD → List BkD → List Int → Prop} (p : PS w W g C mb M K Z) (h : ∀ M bs T, Z M bs T → Z' M bs T) : PS w W g C mb M K Z' := by
  obtain ⟨h1, bs, T, ab, lb, cb, G, m, p⟩ := p
  exact ⟨h1, bs, T, ab, lb, cb, G, m, p.p, h _ _ _ p.z, p.r, p.m, p.c, p.k⟩
set_option maxRecDepth 20000 in
theorem PS.pkU {w W : World} {g C mb : Nat} {M : List FlD} {K : List Nat} {k : TupD} {hm : Int} (p : PS w W g C mb M K (ZH k hm)) (xs : List Nat) (ma : Option Addr) (n mc : Nat) (hr : RowB W ma n mc xs) :
    Calls Tryz.prog 18 #[.agg (cfg23 8), .pointer (some ⟨g, 0, none⟩), .pointer (some ⟨C, 0, none⟩), .int .i64 1, .int .i64 0, .slice ma n mc] W fun e w' => ∃ (v r b : Int) (pa : Option Addr) (pn pc : Nat) (qa : Option Addr) (qn qc : Nat) (M' : List FlD), e = .returned (.agg (planV v r b (.slice pa pn pc) (.slice qa qn qc))) ∧ (tupT (tellT xs) ≠ k → (v = 1 ∨ v = 2) ∧ (v = 1 → M'.Perm M ∧ qn = 0 ∧ pn = 0 ∧ 0 < r)) ∧ PS w w' g C mb M' K (fun M bs T => tupT (tellT xs) ≠ k → ZH k hm M bs T) ∧ Touch W w' (TK w K) := by
  by_cases hu : tupT (tellT xs) = k
  · obtain ⟨h, bs, T, ab, lb, cb, G, m, p⟩ := p
    refine (packet_any 168364297 13 8 20 1500 200 20000 3 1 0 W g h 8 1000 M p.p.f.q C 13 bs T ab lb cb G m p.p.c (by omega) (by omega) ⟨by decide, by decide⟩ p.r ma n mc xs hr).mono ?_
    intro e w' hp
    generalize pkF 168364297 1500 1 0 8 bs T 13 M xs = pp at *
    obtain ⟨pa, pn, pc, q, he, hx, ⟨qa, qc, rfl, -, -⟩, hs⟩ := hp
    obtain ⟨M1, pm, h1, h2⟩ := p.step (Z' := fun M bs T => tupT (tellT xs) ≠ k → ZH k hm M bs T) hs (fun M1 pm nd h => absurd hu h)
    exact ⟨pp.v, pp.r, pp.b, pa, pn, pc, qa, pp.rs.length, qc, M1, he, fun h => absurd hu h, h1, h2⟩
  · refine (p.pkO xs (fun _ => hu) ma n mc hr).mono ?_
    rintro e w' ⟨v, r, b, pa, pn, pc, qa, qn, qc, M', rfl, hv, hv1, h1, h2⟩
    exact ⟨v, r, b, pa, pn, pc, qa, qn, qc, M', rfl, fun _ => ⟨hv, hv1⟩, h1.weak (fun _ _ _ h _ => h), h2⟩
set_option maxRecDepth 20000 in
theorem rtup_is (a : Option Addr) (len cap : Nat) (xs : List Nat) (w : World) (hr : RowB w a len cap xs) (hlen : len ≤ 10000) :
    Calls Tryz.prog 30 #[.slice a len cap] w fun e w' => (∃ (h : Hdr) (y : Int), e = .returned (.tuple #[.agg (tcs (tupT (tellT xs))), .agg (hcs h), .int .i64 y])) ∧ Touch w w' (fun _ => False) := by
  refine (rtuple_any a len cap xs w hr (by omega)).mono ?_
  rintro e w' ⟨rfl, t⟩
  exact ⟨⟨tellG xs, _, rfl⟩, t⟩
theorem PS.first {w w2 : World} {g C : Nat} {h : FH} {ab : Option Addr} {lb cb G : Nat} (p : PW w w2 g h 8 1000 [] C 13 bksH (tabF bksH 13) ab lb cb G 1) (hC : w.heap.size ≤ C) (hb : ∀ x, ab = some x → w.heap.size ≤ x.block) (hG : w.heap.size ≤ G) : PS w w2 g C 1 [] [] ZF :=
  ⟨h, bksH, _, ab, lb, cb, G, 1, p, ⟨rfl, rfl, rfl⟩, fun b hb => by unfold bksH at hb; simp only [List.mem_cons, List.mem_nil_iff, or_false] at hb; rcases hb with rfl | rfl | rfl <;> exact ⟨by decide, by decide⟩, Nat.le_refl _, hC, fun B hB => by
    rcases hB with hB | hB
    · exact ⟨Nat.lt_of_lt_of_le hB p.f.t.size, fun e => by have := p.f.f B e; omega, by omega, .inr (fun x hx e => by have := hb x hx; omega), by omega⟩
    · cases hB⟩
theorem tup6 (a b : TupD) : a = b ∨ (a ≠ b ∧ ((a.src == b.src) = false ∨ ((a.src == b.src) = true ∧ (a.dst == b.dst) = false) ∨ ((a.src == b.src) = true ∧ (a.dst == b.dst) = true ∧ (a.proto == b.proto) = false) ∨ ((a.src == b.src) = true ∧ (a.dst == b.dst) = true ∧ (a.proto == b.proto) = true ∧ (a.sport == b.sport) = false) ∨ ((a.src == b.src) = true ∧ (a.dst == b.dst) = true ∧ (a.proto == b.proto) = true ∧ (a.sport == b.sport) = true ∧ (a.dport == b.dport) = false))) := by
  by_cases h : a = b
  · exact .inl h
  · refine .inr ⟨h, ?_⟩
    simp only [beq_eq_false_iff_ne, beq_iff_eq]
    by_cases h1 : a.src = b.src
    · by_cases h2 : a.dst = b.dst
      · by_cases h3 : a.proto = b.proto
        · by_cases h4 : a.sport = b.sport
          · by_cases h5 : a.dport = b.dport
            · exfalso; apply h; cases a; cases b; simp_all
            · exact .inr (.inr (.inr (.inr ⟨h1, h2, h3, h4, h5⟩)))
          · exact .inr (.inr (.inr (.inl ⟨h1, h2, h3, h4⟩)))
        · exact .inr (.inr (.inl ⟨h1, h2, h3⟩))
      · exact .inr (.inl ⟨h1, h2⟩)
    · exact .inl h1
end Go.Proofs.YtpjdcgjoepjmcaaGreat

end
