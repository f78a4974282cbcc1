import Derived.Test.YtpjdcgjoepjmcaaGreatPathPZ
set_option linter.unusedVariables false
set_option linter.unusedSimpArgs false
namespace Go.Proofs.YtpjdcgjoepjmcaaGreat
open Go.RowKit

theorem infoCfg : (Tryz.prog.info? 26).map (·.size) = some 8 := by kernel_rfl
def cfg23 (n : Int) : Array Value := cfgC 168364297 13 n 20 1500 200 20000 3
set_option maxRecDepth 20000 in
set_option maxHeartbeats 4000000 in
theorem config_any (n : Int) (w : World) : Calls Tryz.prog 9 #[.int .i64 n] w fun e w' => e = .returned (.agg (cfg23 n)) ∧ Touch w w' (fun _ => False) := by
  obtain ⟨W0, hW0⟩ : ∃ W, w.alloc (.cells (cfgC 0 0 0 0 0 0 0 0) 26) = W := ⟨_, rfl⟩
  have t0 : Touch w W0 (fun _ => False) := hW0 ▸ (Touch.refl w _).alloc _
  have g0 : W0.heap[w.heap.size]? = some (.cells (cfgC 0 0 0 0 0 0 0 0) 26 (0, 0)) := hW0 ▸ heap_alloc_new ..
  have HG0 := Lib.hid g0
  have HT0 := Lib.hid t0
  have HW0 := Lib.hid hW0
  have HPI := Lib.hid infoCfg
  simp only [cfgC] at HW0
  clear t0 g0 hW0
  go_enter Tryz.func9, Tryz.ntmps9
  go_upto_region 1 with (fail)
  rw [HW0.out]
  go_wp2_with (refine store_row rfl 26 (.tmp 2) (.tmp 4) rfl w.heap.size _ rfl rfl _ _ HG0.out HPI.out rfl rfl ?_)
  refine ret_row rfl rfl w.heap.size _ (cfg23 n) _ _ rfl (setRow_heap _ _ _ _ _ _ HG0.out) Tryz.underlying26 rfl infoCfg ?_
  exact ⟨rfl, HT0.out.setRow _ _ (fun h => absurd h (Nat.lt_irrefl _))⟩
theorem enter_config (a : Value) (w : World) : (callFunc 9 #[a]).run Tryz.prog w = .ok (.enter 9 #[a]) w := by kernel_rfl
theorem enter_packet (a b c d e f : Value) (w : World) : (callFunc 18 #[a, b, c, d, e, f]).run Tryz.prog w = .ok (.enter 18 #[a, b, c, d, e, f]) w := by kernel_rfl
theorem enter_made (a b c d : Value) (w : World) : (callFunc 27 #[a, b, c, d]).run Tryz.prog w = .ok (.enter 27 #[a, b, c, d]) w := by kernel_rfl
def Off (g : Nat) (h : FH) (C : Nat) (ab : Option Addr) (lb G : Nat) (B : Nat) : Prop := ¬ footF g h B ∧ B ≠ C ∧ (lb = 0 ∨ ∀ x, ab = some x → x.block ≠ B) ∧ B ≠ G
structure PW (w w' : World) (g : Nat) (h : FH) (most idle : Int) (M : List FlD) (C n : Nat) (bs : List BkD) (T : List Int) (ab : Option Addr) (lb cb G m : Nat) : Prop where
  f : FN w w' g h most idle M
  c : ChP w' C n bs T ab lb cb G m
  o : ¬ footF g h C ∧ (lb = 0 ∨ ∀ x, ab = some x → ¬ footF g h x.block) ∧ ¬ footF g h G
  l : C < w'.heap.size ∧ (lb = 0 ∨ ∀ x, ab = some x → x.block < w'.heap.size) ∧ G < w'.heap.size
section
variable {w w1 w2 : World} {g : Nat} {h : FH} {most idle : Int} {M M' : List FlD} {C n : Nat} {bs : List BkD} {T : List Int} {ab : Option Addr} {lb cb G m : Nat}
theorem ChP.by {S : Nat → Prop} (c : ChP w1 C n bs T ab lb cb G m) (t : Touch w1 w2 S) (h1 : ¬ S C) (h2 : lb = 0 ∨ ∀ x, ab = some x → ¬ S x.block) (h3 : ¬ S G) : ChP w2 C n bs T ab lb cb G m :=
  ⟨t.keeps c.hc h1, c.hr.touch t (fun x hx => h2.imp (fun h => h) (fun h => h x hx)), c.hi.touch t (fun x hx => .inr (fun e => by cases hx; exact h3 e))⟩
theorem PW.still (p : PW w w1 g h most idle M C n bs T ab lb cb G m) (t : Touch w1 w2 (fun _ => False)) : PW w w2 g h most idle M C n bs T ab lb cb G m :=
  ⟨p.f.still t, p.c.still t, p.o, Nat.lt_of_lt_of_le p.l.1 t.size, p.l.2.1.imp (fun h => h) (fun h x hx => Nat.lt_of_lt_of_le (h x hx) t.size), Nat.lt_of_lt_of_le p.l.2.2 t.size⟩
theorem PW.new (p : PW w w1 g h most idle M C n bs T ab lb cb G m) (B : Nat) (hB : w1.heap.size ≤ B) : Off g h C ab lb G B :=
  ⟨fun e => by have := p.f.q.footlt _ e; omega, fun e => by have := p.l.1; omega, p.l.2.1.imp (fun h => h) (fun h x hx e => by have := h x hx; omega), fun e => by have := p.l.2.2; omega⟩
theorem PW.set (p : PW w w1 g h most idle M C n bs T ab lb cb G m) (B : Nat) (o : Off g h C ab lb G B) (hw : w.heap.size ≤ B) (t : Touch w1 w2 (fun k => k = B)) : PW w w2 g h most idle M C n bs T ab lb cb G m :=
  ⟨p.f.touch t (fun k hk e => o.1 (e ▸ hk)) (fun k hk e => by have e : k = B := e; omega), p.c.by t (fun e => o.2.1 e.symm) (o.2.2.1.imp (fun h => h) (fun h x hx => h x hx)) (fun e => o.2.2.2 e.symm), p.o,
    Nat.lt_of_lt_of_le p.l.1 t.size, p.l.2.1.imp (fun h => h) (fun h x hx => Nat.lt_of_lt_of_le (h x hx) t.size), Nat.lt_of_lt_of_le p.l.2.2 t.size⟩
theorem PW.step (p : PW w w1 g h most idle M C n bs T ab lb cb G m) (x : FStep w1 w2 g h most idle M') :
    ∃ h' M1, M1.Perm M' ∧ PW w w2 g h' most idle M1 C n bs T ab lb cb G m ∧ ∀ B, B < w1.heap.size → Off g h C ab lb G B → Off g h' C ab lb G B := by
  obtain ⟨h', M1, pm, n1, f, t⟩ := p.f.step x
  have key : ∀ k, k < w1.heap.size → ¬ footF g h k → ¬ footF g h' k := fun k hk hn e => (f k e).elim hn (fun h => by omega)
  refine ⟨h', M1, pm, ⟨n1, p.c.by t p.o.1 p.o.2.1 p.o.2.2, ⟨key _ p.l.1 p.o.1, ?_, key _ p.l.2.2 p.o.2.2⟩, Nat.lt_of_lt_of_le p.l.1 t.size, p.l.2.1.imp (fun h => h) (fun h x hx => Nat.lt_of_lt_of_le (h x hx) t.size), Nat.lt_of_lt_of_le p.l.2.2 t.size⟩, fun B hB o => ⟨key B hB o.1, o.2⟩⟩
  rcases p.o.2.1 with h0 | h0
  · exact .inl h0
  · rcases p.l.2.1 with h1 | h1
    · exact .inl h1
    · exact .inr (fun x hx => key _ (h1 x hx) (h0 x hx))
end
theorem may_k {k : TupD} (h : mayTB k = true) : mayB (kOf k) = true := by
  obtain ⟨h1, h2, h3⟩ := (mayTB_iff k).1 h
  exact (may_iff _).2 ⟨h1, h2.1, h2.2, h3.1, h3.2⟩
theorem ok_k {k : TupD} (h : TupOk k) : (kOf k).Ok := ⟨h.src, h.dst, h.proto, h.sport, h.dport⟩
theorem tell_k (k : TupD) (ok : TupOk k) (hm : mayTB k = true) (ttl flags : Int) (ys : List Nat) (hl : ys.length ≤ 1000) : whyT (madeF (kOf k) ttl flags ys) = 0 ∧ tupT (tellT (madeF (kOf k) ttl flags ys)) = k := by
  obtain ⟨z1, z2, -⟩ := tell_made (kOf k) (ok_k ok) (may_k hm) ttl flags ys hl
  refine ⟨z1, ?_⟩
  rw [z2]
  clear z1 z2
  obtain ⟨h1, h2, h3⟩ := (mayTB_iff k).1 hm
  have o1 : 0 ≤ k.src := ok.src.1
  have o2 : 0 ≤ k.dst := ok.dst.1
  have o3 : 0 ≤ k.proto := by rcases h1 with h | h <;> omega
  show (⟨((k.src.toNat : Nat) : Int), ((k.dst.toNat : Nat) : Int), ((k.proto.toNat : Nat) : Int), ((k.sport.toNat : Nat) : Int), ((k.dport.toNat : Nat) : Int)⟩ : TupD) = k
  rw [Int.toNat_of_nonneg o1, Int.toNat_of_nonneg o2, Int.toNat_of_nonneg o3, Int.toNat_of_nonneg h2.1, Int.toNat_of_nonneg h3.1]
theorem ends_k (k : TupD) (ok : TupOk k) (hm : mayTB k = true) (ttl flags : Int) (ys : List Nat) (hl : ys.length ≤ 1000) : endsB (kOf k) (madeF (kOf k) ttl flags ys) = decide (k.proto = 6 ∧ bits BinOp.and IntKind.i64 flags 5 ≠ 0) := by
  have h := ends_made (kOf k) (ok_k ok) (may_k hm) ttl flags ys hl (kOf k)
  rw [Bool.eq_iff_iff, h, decide_eq_true_iff]
  exact ⟨fun h => h.1, fun h => ⟨h, rfl⟩⟩
theorem why_k (k : TupD) (ok : TupOk k) (ttl flags : Int) (ys : List Nat) (hl : ys.length ≤ 1000) (hs : ∀ x ∈ ys, x < 256) (ht : 2 ≤ u64N ttl % 256) (mtu : Int) (hm : 1100 ≤ mtu) : whyW (madeF (kOf k) ttl flags ys) mtu = 0 := by
  obtain ⟨p, q⟩ := pkt_made (kOf k) (ok_k ok) ttl flags ys (by omega) hs
  have hl2 := madeF_length (kOf k) ttl flags ys
  have hz : sizeK (kOf k) ys.length ≤ 20 + ys.length := by unfold sizeK; split <;> omega
  have := p.len
  unfold whyW
  rw [if_neg (by rw [p.why]; simp), if_neg (by omega), if_neg (by omega)]
theorem pk_made (k : TupD) (ok : TupOk k) (hm : mayTB k = true) (ttl flags : Int) (ys : List Nat) (hl : ys.length ≤ 1000) (hs : ∀ x ∈ ys, x < 256) (ht : 2 ≤ u64N ttl % 256) (self mtu gen now most : Int) (hmtu : 1100 ≤ mtu) (bs : List BkD) (T : List Int) (n : Nat) (M : List FlD) (hnow : 0 ≤ now ∧ now ≤ 1099511627776) (b : BkD) (hb : backF bs T n M k = some b) :
    pkF self mtu gen now most bs T n M (madeF (kOf k) ttl flags ys) = ⟨2, 0, b.id, wrapF (madeF (kOf k) ttl flags ys) self b.addr, keepR M most ⟨k, b.id, gen, now⟩ (decide (k.proto = 6 ∧ bits BinOp.and IntKind.i64 flags 5 ≠ 0)), keepM M most ⟨k, b.id, gen, now⟩ (decide (k.proto = 6 ∧ bits BinOp.and IntKind.i64 flags 5 ≠ 0))⟩ := by
  obtain ⟨z1, z2⟩ := tell_k k ok hm ttl flags ys hl
  unfold pkF
  rw [if_neg (by omega), if_neg (fun h => h z1), z2, hb]
  simp only
  rw [if_neg (fun h => h (why_k k ok ttl flags ys hl hs ht mtu hmtu)), ends_k k ok hm ttl flags ys hl]
end Go.Proofs.YtpjdcgjoepjmcaaGreat
