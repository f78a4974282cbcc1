import Derived.Test.YtpjdcgjoepjmcaaGreatPathPZ
import Derived.Test.YtpjdcgjoepjmcaaGreatHFZ
import Derived.Deep.DeepCutAuto
set_option linter.unusedVariables false
set_option linter.unusedSimpArgs false
section
namespace Go.Proofs.YtpjdcgjoepjmcaaGreat
open Go.RowKit
theorem infoCfg : (Tryz.prog.info? 26).map (·.size) = some 8 := by kernel_rfl
def cfg23 (n : Int) : Array Value := cfgC 168364297 13 n 20 1500 200 20000 3
set_option maxRecDepth 20000 in
set_option maxHeartbeats 4000000 in
theorem config_any (n : Int) (w : World) : Calls Tryz.prog 9 #[.int .i64 n] w fun e w' => e = .returned (.agg (cfg23 n)) ∧ Touch w w' (fun _ => False) := by
 obtain ⟨W0, hW0⟩ : ∃ W, w.alloc (.cells (cfgC 0 0 0 0 0 0 0 0) 26) = W := ⟨_, rfl⟩
 have t0 : Touch w W0 (fun _ => False) := hW0 ▸ (Touch.refl w _).alloc _
 have g0 : W0.heap[w.heap.size]? = some (.cells (cfgC 0 0 0 0 0 0 0 0) 26 (0, 0)) := hW0 ▸ heap_alloc_new ..
 have HG0 := Lib.hid g0
 have HT0 := Lib.hid t0
 have HW0 := Lib.hid hW0
 have HPI := Lib.hid infoCfg
 simp only [cfgC] at HW0
 clear t0 g0 hW0
 go_enter Tryz.func9, Tryz.ntmps9
 go_upto_region 1 with (fail)
 rw [HW0.out]
 go_wp2_with (refine store_row rfl 26 (.tmp 2) (.tmp 4) rfl w.heap.size _ rfl rfl _ _ HG0.out HPI.out rfl rfl ?_)
 refine ret_row rfl rfl w.heap.size _ (cfg23 n) _ _ rfl (setRow_heap _ _ _ _ _ _ HG0.out) Tryz.underlying26 rfl infoCfg ?_
 exact ⟨rfl, HT0.out.setRow _ _ (fun h => absurd h (Nat.lt_irrefl _))⟩
theorem enter_config (a : Value) (w : World) : (callFunc 9 #[a]).run Tryz.prog w = .ok (.enter 9 #[a]) w := by kernel_rfl
theorem enter_packet (a b c d e f : Value) (w : World) : (callFunc 18 #[a, b, c, d, e, f]).run Tryz.prog w = .ok (.enter 18 #[a, b, c, d, e, f]) w := by kernel_rfl
theorem enter_made (a b c d : Value) (w : World) : (callFunc 27 #[a, b, c, d]).run Tryz.prog w = .ok (.enter 27 #[a, b, c, d]) w := by kernel_rfl
def Off (g : Nat) (h : FH) (C : Nat) (ab : Option Addr) (lb G : Nat) (B : Nat) : Prop := ¬ footF g h B ∧ B ≠ C ∧ (lb = 0 ∨ ∀ x, ab = some x → x.block ≠ B) ∧ B ≠ G
structure PW (w w' : World) (g : Nat) (h : FH) (most idle : Int) (M : List FlD) (C n : Nat) (bs : List BkD) (T : List Int) (ab : Option Addr) (lb cb G m : Nat) : Prop where
 f : FN w w' g h most idle M
 c : ChP w' C n bs T ab lb cb G m
 o : ¬ footF g h C ∧ (lb = 0 ∨ ∀ x, ab = some x → ¬ footF g h x.block) ∧ ¬ footF g h G
 l : C < w'.heap.size ∧ (lb = 0 ∨ ∀ x, ab = some x → x.block < w'.heap.size) ∧ G < w'.heap.size
section
variable {w w1 w2 : World} {g : Nat} {h : FH} {most idle : Int} {M M' : List FlD} {C n : Nat} {bs : List BkD} {T : List Int} {ab : Option Addr} {lb cb G m : Nat}
theorem ChP.by {S : Nat → Prop} (c : ChP w1 C n bs T ab lb cb G m) (t : Touch w1 w2 S) (h1 : ¬ S C) (h2 : lb = 0 ∨ ∀ x, ab = some x → ¬ S x.block) (h3 : ¬ S G) : ChP w2 C n bs T ab lb cb G m :=
 ⟨t.keeps c.hc h1, c.hr.touch t (fun x hx => h2.imp (fun h => h) (fun h => h x hx)), c.hi.touch t (fun x hx => .inr (fun e => by cases hx; exact h3 e))⟩
theorem PW.still (p : PW w w1 g h most idle M C n bs T ab lb cb G m) (t : Touch w1 w2 (fun _ => False)) : PW w w2 g h most idle M C n bs T ab lb cb G m :=
 ⟨p.f.still t, p.c.still t, p.o, Nat.lt_of_lt_of_le p.l.1 t.size, p.l.2.1.imp (fun h => h) (fun h x hx => Nat.lt_of_lt_of_le (h x hx) t.size), Nat.lt_of_lt_of_le p.l.2.2 t.size⟩
theorem PW.new (p : PW w w1 g h most idle M C n bs T ab lb cb G m) (B : Nat) (hB : w1.heap.size ≤ B) : Off g h C ab lb G B :=
 ⟨fun e => by have := p.f.q.footlt _ e; omega, fun e => by have := p.l.1; omega, p.l.2.1.imp (fun h => h) (fun h x hx e => by have := h x hx; omega), fun e => by have := p.l.2.2; omega⟩
theorem PW.set (p : PW w w1 g h most idle M C n bs T ab lb cb G m) (B : Nat) (o : Off g h C ab lb G B) (hw : w.heap.size ≤ B) (t : Touch w1 w2 (fun k => k = B)) : PW w w2 g h most idle M C n bs T ab lb cb G m :=
 ⟨p.f.touch t (fun k hk e => o.1 (e ▸ hk)) (fun k hk e => by have e : k = B := e; omega), p.c.by t (fun e => o.2.1 e.symm) (o.2.2.1.imp (fun h => h) (fun h x hx => h x hx)) (fun e => o.2.2.2 e.symm), p.o,
  Nat.lt_of_lt_of_le p.l.1 t.size, p.l.2.1.imp (fun h => h) (fun h x hx => Nat.lt_of_lt_of_le (h x hx) t.size), Nat.lt_of_lt_of_le p.l.2.2 t.size⟩
theorem PW.step (p : PW w w1 g h most idle M C n bs T ab lb cb G m) (x : FStep w1 w2 g h most idle M') :
 ∃ h' M1, M1.Perm M' ∧ PW w w2 g h' most idle M1 C n bs T ab lb cb G m ∧ ∀ B, B < w1.heap.size → Off g h C ab lb G B → Off g h' C ab lb G B := by
 obtain ⟨h', M1, pm, n1, f, t⟩ := p.f.step x
 have key : ∀ k, k < w1.heap.size → ¬ footF g h k → ¬ footF g h' k := fun k hk hn e => (f k e).elim hn (fun h => by omega)
 refine ⟨h', M1, pm, ⟨n1, p.c.by t p.o.1 p.o.2.1 p.o.2.2, ⟨key _ p.l.1 p.o.1, ?_, key _ p.l.2.2 p.o.2.2⟩, Nat.lt_of_lt_of_le p.l.1 t.size, p.l.2.1.imp (fun h => h) (fun h x hx => Nat.lt_of_lt_of_le (h x hx) t.size), Nat.lt_of_lt_of_le p.l.2.2 t.size⟩, fun B hB o => ⟨key B hB o.1, o.2⟩⟩
 rcases p.o.2.1 with h0 | h0
 ·exact .inl h0
 ·rcases p.l.2.1 with h1 | h1
  ·exact .inl h1
  ·exact .inr (fun x hx => key _ (h1 x hx) (h0 x hx))
end
theorem may_k {k : TupD} (h : mayTB k = true) : mayB (kOf k) = true := by
 obtain ⟨h1, h2, h3⟩ := (mayTB_iff k).1 h
 exact (may_iff _).2 ⟨h1, h2.1, h2.2, h3.1, h3.2⟩
theorem ok_k {k : TupD} (h : TupOk k) : (kOf k).Ok := ⟨h.src, h.dst, h.proto, h.sport, h.dport⟩
theorem tell_k (k : TupD) (ok : TupOk k) (hm : mayTB k = true) (ttl flags : Int) (ys : List Nat) (hl : ys.length ≤ 1000) : whyT (madeF (kOf k) ttl flags ys) = 0 ∧ tupT (tellT (madeF (kOf k) ttl flags ys)) = k := by
 obtain ⟨z1, z2, -⟩ := tell_made (kOf k) (ok_k ok) (may_k hm) ttl flags ys hl
 refine ⟨z1, ?_⟩
 rw [z2]
 clear z1 z2
 obtain ⟨h1, h2, h3⟩ := (mayTB_iff k).1 hm
 have o1 : 0 ≤ k.src := ok.src.1
 have o2 : 0 ≤ k.dst := ok.dst.1
 have o3 : 0 ≤ k.proto := by rcases h1 with h | h <;> omega
 show (⟨((k.src.toNat : Nat) : Int), ((k.dst.toNat : Nat) : Int), ((k.proto.toNat : Nat) : Int), ((k.sport.toNat : Nat) : Int), ((k.dport.toNat : Nat) : Int)⟩ : TupD) = k
 rw [Int.toNat_of_nonneg o1, Int.toNat_of_nonneg o2, Int.toNat_of_nonneg o3, Int.toNat_of_nonneg h2.1, Int.toNat_of_nonneg h3.1]
theorem ends_k (k : TupD) (ok : TupOk k) (hm : mayTB k = true) (ttl flags : Int) (ys : List Nat) (hl : ys.length ≤ 1000) : endsB (kOf k) (madeF (kOf k) ttl flags ys) = decide (k.proto = 6 ∧ bits BinOp.and IntKind.i64 flags 5 ≠ 0) := by
 have h := ends_made (kOf k) (ok_k ok) (may_k hm) ttl flags ys hl (kOf k)
 rw [Bool.eq_iff_iff, h, decide_eq_true_iff]
 exact ⟨fun h => h.1, fun h => ⟨h, rfl⟩⟩
theorem why_k (k : TupD) (ok : TupOk k) (ttl flags : Int) (ys : List Nat) (hl : ys.length ≤ 1000) (hs : ∀ x ∈ ys, x < 256) (ht : 2 ≤ u64N ttl % 256) (mtu : Int) (hm : 1100 ≤ mtu) : whyW (madeF (kOf k) ttl flags ys) mtu = 0 := by
 obtain ⟨p, q⟩ := pkt_made (kOf k) (ok_k ok) ttl flags ys (by omega) hs
 have hl2 := madeF_length (kOf k) ttl flags ys
 have hz : sizeK (kOf k) ys.length ≤ 20 + ys.length := by unfold sizeK; split <;> omega
 have := p.len
 unfold whyW
 rw [if_neg (by rw [p.why]; simp), if_neg (by omega), if_neg (by omega)]
theorem pk_made (k : TupD) (ok : TupOk k) (hm : mayTB k = true) (ttl flags : Int) (ys : List Nat) (hl : ys.length ≤ 1000) (hs : ∀ x ∈ ys, x < 256) (ht : 2 ≤ u64N ttl % 256) (self mtu gen now most : Int) (hmtu : 1100 ≤ mtu) (bs : List BkD) (T : List Int) (n : Nat) (M : List FlD) (hnow : 0 ≤ now ∧ now ≤ 1099511627776) (b : BkD) (hb : backF bs T n M k = some b) :
 pkF self mtu gen now most bs T n M (madeF (kOf k) ttl flags ys) = ⟨2, 0, b.id, wrapF (madeF (kOf k) ttl flags ys) self b.addr, keepR M most ⟨k, b.id, gen, now⟩ (decide (k.proto = 6 ∧ bits BinOp.and IntKind.i64 flags 5 ≠ 0)), keepM M most ⟨k, b.id, gen, now⟩ (decide (k.proto = 6 ∧ bits BinOp.and IntKind.i64 flags 5 ≠ 0))⟩ := by
 obtain ⟨z1, z2⟩ := tell_k k ok hm ttl flags ys hl
 unfold pkF
 rw [if_neg (by omega), if_neg (fun h => h z1), z2, hb]
 simp only
 rw [if_neg (fun h => h (why_k k ok ttl flags ys hl hs ht mtu hmtu)), ends_k k ok hm ttl flags ys hl]
end Go.Proofs.YtpjdcgjoepjmcaaGreat
end
section
namespace Go.Proofs.YtpjdcgjoepjmcaaGreat
open Go.RowKit
theorem PW.made {w w1 w2 : World} {g : Nat} {h : FH} {most idle : Int} {M : List FlD} (p : FN w w1 g h most idle M) {C n : Nat} {bs : List BkD} {T : List Int} {ab : Option Addr} {lb cb G m : Nat} (hn : 0 < n) (hC : C < w1.heap.size) (hCf : ¬ footF g h C) (hCw : w.heap.size ≤ C) (t : Touch w1 w2 (fun k => k = C))
 (hc : w2.heap[C]? = some (.cells (chC n ab lb cb (some ⟨G, 0, none⟩) n n m) 100 (0, 0))) (hk : RowK w2 ab lb cb bs) (hi : RowI w2 (some ⟨G, 0, none⟩) n n T) (hb : ∀ x, ab = some x → w1.heap.size ≤ x.block) (hG : w1.heap.size ≤ G) :
 PW w w2 g h most idle M C n bs T ab lb cb G m := by
 refine ⟨p.touch t (fun k hk e => hCf (e ▸ hk)) (fun k hk e => by have e : k = C := e; omega), ⟨hc, hk, hi⟩, ⟨hCf, .inr (fun x hx e => by have := p.q.footlt _ e; have := hb x hx; omega), fun e => by have := p.q.footlt _ e; omega⟩, heap_lt hc, ?_, ?_⟩
 ·by_cases h0 : lb = 0
  ·exact .inl h0
  ·exact .inr (fun x hx => (hk.toS.lt x hx).resolve_left h0)
 ·rcases hi.2.2.2.2 with h0 | ⟨b, off, ha, hlt, -⟩
  ·omega
  ·cases ha; exact hlt
theorem pick_one {n : Nat} (hp : Prm n) (b : BkD) (hg : gmay [b] = true) (t : TupD) (hm : mayTB t = true) : pickO [b] (tabF [b] n) n t = some b := by
 have h3 := hp.lo
 have hl : (tabF [b] n).length = n := tab_len hp
 have hlt : hashF t % n < (tabF [b] n).length := by rw [hl]; exact Nat.mod_lt _ (by omega)
 obtain ⟨c, hc, hid⟩ := tab_mem hp hg (by simp) _ (List.getElem_mem hlt)
 obtain rfl := List.mem_singleton.1 hc
 unfold pickO
 rw [if_pos hm, List.getD_eq_getElem?_getD, List.getElem?_eq_getElem hlt]
 simp only [Option.getD_some]
 rw [hid]
 unfold findF
 rw [List.find?_cons]
 simp
theorem back_one {n : Nat} (hp : Prm n) (b : BkD) (hg : gmay [b] = true) (M : List FlD) (t : TupD) (hm : mayTB t = true) : backF [b] (tabF [b] n) n M t = some b := by
 unfold backF
 split
 ·rename_i c hc
  split at hc
  ·unfold findF at hc
   rw [← hc]
   have := List.mem_of_find?_eq_some hc
   obtain rfl := List.mem_singleton.1 this
   exact hc
  ·cases hc
 ·exact pick_one hp b hg t hm
def known23 : TupD := ⟨1, 2, 6, 3, 4⟩
theorem known23_ok : TupOk known23 := by
 have z : (0 : Int) ≤ 4294967295 := by decide
 exact ⟨⟨by decide, by decide⟩, ⟨by decide, by decide⟩, ⟨by decide, by decide⟩, ⟨by decide, by decide⟩, ⟨by decide, by decide⟩⟩
def bk23 : BkD := ⟨4, 9, 1⟩
theorem gmay23 : gmay [bk23] = true := by decide +kernel
theorem may23 : mayTB known23 = true := by decide +kernel
def fl23 : FlD := ⟨known23, 4, 1, 5⟩
theorem pkt23 (W : World) (g : Nat) (h : FH) (d : FS W g h 2 20 []) (C : Nat) (ab : Option Addr) (lb cb G m : Nat) (c : ChP W C 13 [bk23] (tabF [bk23] 13) ab lb cb G m) (ma : Option Addr) (mc : Nat) (hr : RowB W ma 40 mc (madeF (kOf known23) 9 0 [])) :
 Calls Tryz.prog 18 #[.agg (cfg23 2), .pointer (some ⟨g, 0, none⟩), .pointer (some ⟨C, 0, none⟩), .int .i64 1, .int .i64 5, .slice ma 40 mc] W fun e w' => ∃ pa pn pc qa qc, e = .returned (.agg (planV 2 0 4 (.slice pa pn pc) (.slice qa 1 qc))) ∧ RowB w' pa pn pc (wrapF (madeF (kOf known23) 9 0 []) 168364297 9) ∧ FStep W w' g h 2 20 [fl23] := by
 refine (packet_any 168364297 13 2 20 1500 200 20000 3 1 5 W g h 2 20 [] d C 13 [bk23] (tabF [bk23] 13) ab lb cb G m c (by omega) (by omega) ⟨by decide, by decide⟩ (fun b hb => by obtain rfl := List.mem_singleton.1 hb; exact ⟨by decide, by decide⟩) ma 40 mc _ hr).mono ?_
 intro e w' hp
 rw [pk_made known23 known23_ok may23 9 0 [] (by simp) (fun x hx => by cases hx) (by decide) 168364297 1500 1 5 2 (by decide) [bk23] (tabF [bk23] 13) 13 [] ⟨by decide, by decide⟩ bk23 (back_one prm13 bk23 gmay23 [] known23 may23)] at hp
 obtain ⟨pa, pn, pc, q, he, hx, ⟨qa, qc, rfl, -, -⟩, hs⟩ := hp
 exact ⟨pa, pn, pc, qa, qc, he, hx, hs⟩
set_option maxRecDepth 20000 in
set_option maxHeartbeats 16000000 in
theorem awake23 (w : World) : Calls Tryz.prog 25 #[] w fun e w' => e = .returned (.bool true) ∧ Touch w w' (fun _ => False) := by
 have HCFG := Lib.hid (fun W => config_any 2 W)
 have HMK : RowKit.Hid (∀ W, Calls Tryz.prog 27 #[.agg (tcs known23), .int .i64 9, .int .i64 0, .slice none 0 0] W fun e w' => ∃ a' cap', e = .returned (.slice a' 40 cap') ∧ FreshB W w' (.slice a' 40 cap') (madeF (kOf known23) 9 0 [])) :=
  Lib.hid (fun W => made_any (kOf known23) (ok_k known23_ok) 9 0 none 0 0 [] W (RowB.nil _ _ _ (by omega)) (by omega) (by simp [isI64]) (by simp [isI64]) 40 (by decide))
 have HPK := Lib.hid pkt23
 go_enter Tryz.func25, Tryz.ntmps25
 go_wp2_with fail
 refine (fnew_any w 2 20).mono ?_
 rintro e w0 ⟨g, h, rfl, q0, t0, f0⟩
 have q0' : FS w0 g h 2 20 [] := q0
 have N0 := Lib.hid (FN.mk q0' t0 f0)
 clear q0 q0' t0 f0
 go_wp2_with fail
 refine (new_any 13 w0 prm13).mono ?_
 rintro e w1 ⟨C, G0, rfl, hc, hC, hi, t1⟩
 have N1 := Lib.hid (N0.out.still t1)
 have HC := Lib.hid hc
 have HCw := Lib.hid hC
 have HCF : RowKit.Hid (¬ footF g h C) := Lib.hid (fun e => by have := N0.out.q.footlt _ e; omega)
 have HK : RowKit.Hid (RowK (w1.alloc (.cells #[.int .i64 4, .int .u32 9, .int .i64 1] 70)) (some ⟨w1.heap.size, 0, none⟩) 1 1 [bk23]) := Lib.hid
  ((OwnS.lit w1 w1.heap.size (Nat.le_refl _) 70 3 1 ([bk23].map BkD.cells) _ rfl rfl (by simp [bk23, BkD.cells]) (by omega)).row').2.1
 clear hi t1 hc hC
 go_wp2_with fail
 have t2 := (Touch.refl w1 (fun _ => False)).alloc (.cells #[.int .i64 4, .int .u32 9, .int .i64 1] 70)
 have hCl : C < w1.heap.size := heap_lt HC.out
 have N2 := Lib.hid (N1.out.still t2)
 refine (set_out 13 .nilFunc [bk23] C _ _ _ _ _ _ 0 _ 1 1 [bk23] _ prm13 (by omega) (t2.keeps HC.out (fun h => h)) HK.out gmay23 (fun x hx => .inr (fun h => by cases hx; simp at h; omega)) (fun W t => without_nil _ 1 1 [bk23] W (HK.out.touch t (fun _ _ => .inr (fun h => h))) (by omega))).mono ?_
 rintro e w3 ⟨rfl, a3, c3, G3, hc3, hk3, hi3, hb3, hG3, t3⟩
 have HPW : RowKit.Hid (PW w w3 g h 2 20 [] C 13 [bk23] (tabF [bk23] 13) a3 1 c3 G3 1) := Lib.hid (PW.made N2.out (by omega) (Nat.lt_of_lt_of_le hCl t2.size) HCF.out (Nat.le_trans N0.out.t.size HCw.out) t3 hc3 hk3 hi3 hb3 hG3)
 clear t2 t3 hc3 hk3 hi3 hb3 hG3 hCl HK HC N0 N1 N2
 obtain ⟨W4, hW4⟩ : ∃ W, w3.alloc (.cells (tcs known23) 37) = W := ⟨_, rfl⟩
 obtain ⟨KB, hKB⟩ : ∃ B, w3.heap.size = B := ⟨_, rfl⟩
 have g4 : W4.heap[w3.heap.size]? = some (.cells (tcs known23) 37 (0, 0)) := hW4 ▸ heap_alloc_new ..
 have t4 : Touch w3 W4 (fun _ => False) := hW4 ▸ (Touch.refl w3 _).alloc _
 have HKO := Lib.hid (HPW.out.new w3.heap.size (Nat.le_refl _)).1
 have HPW := Lib.hid (HPW.out.still t4)
 have HW4 := Lib.hid hW4
 have HKE := Lib.hid hKB
 rw [hKB] at g4
 have hko := HKO.out
 rw [hKB] at hko
 have HKO := Lib.hid hko
 have HKB := Lib.hid g4
 simp only [tcs, known23] at HW4
 clear g4 t4 hW4 hKB hko
 have HPKT : RowKit.Hid (∀ (W : World) (h1 : FH) (ma : Option Addr) (mc : Nat), PW w W g h1 2 20 [] C 13 [bk23] (tabF [bk23] 13) a3 1 c3 G3 1 → RowB W ma 40 mc (madeF (kOf known23) 9 0 []) → _) := Lib.hid (fun W h1 ma mc p r => HPK.out W g h1 p.f.q C a3 1 c3 G3 1 p.c ma mc r)
 simp only [cfg23, cfgC, tcs, known23] at HCFG HMK HPKT
 go_upto_region 4 with (fail)
 rw [HW4.out, HKE.out]
 go_cut [4] (fun s4 wx => ∃ AC pa pn pc qa qc h', s4 = .pointer (some ⟨AC, 0, none⟩) ∧ wx.heap[AC]? = some (.cells (planV 2 0 4 (.slice pa pn pc) (.slice qa 1 qc)) 53 (0, 0)) ∧ PW w wx g h' 2 20 [fl23] C 13 [bk23] (tabF [bk23] 13) a3 1 c3 G3 1)
 case first =>
  have HPW := Lib.hid (HPW.out.still (Touch.refl W4 (fun _ => False)).drew)
  have HKB : RowKit.Hid (W4.drew.heap[KB]? = some (.cells (tcs known23) 37 (0, 0))) := Lib.hid HKB.out
  go_wp2_with fail
  have hS := HKB.out
  refine wp_region_tree (fun w' => w'.heap[KB]? = some (.cells (tcs known23) 37 (0, 0))) (.take 1 (.take 2 (.take 3 (.two 0 6 (.two 4 6 (.two 5 6 (.one 6 (.one 7 .fin)) (.one 5 (.one 7 .fin))) (.one 4 (.one 5 (.one 7 .fin)))) (.one 0 (.one 4 (.one 5 (.one 7 .fin)))))))) (by kernel_rfl) (by kernel_rfl) (by kernel_rfl) (by kernel_rfl) hS ?_
  repeat' (first
   | (with_reducible refine walkT_take ?_)
   | (with_reducible refine walkT_one ?_)
   | (with_reducible refine walkT_two ?_ ?_)
   | (with_reducible refine walkT_fin ?_)
   | ((with_reducible show TakeN _ _ _ _ 3 _ _ _); ((refine takeN_row (some 15) rfl rfl 37 (.tmp 3) rfl (KB) rfl _ _ _ _ (fun w' h => h) Tryz.underlying37 rfl infoT (fun _ _ _ h => h) (by rfl) ?_; (try simp only [Act.put, List.setIfInBounds_toArray, List.set_cons_zero, List.set_cons_succ]))))
   | ((with_reducible show TakeN _ _ _ _ _ _ _ _); ((refine takeN_take (v := ?_) (some _) rfl rfl (fun _ _ _ h => h) (by rfl) ?_ ?_; rotate_left; (focus (intro w' hw'; go_simp; (try with_reducible rfl))); (try simp only [Act.put, List.setIfInBounds_toArray, List.set_cons_zero, List.set_cons_succ]))))
   | ((with_reducible show RunN _ _ _ _ 0 _ _ _); ((refine runN_call 12 9 _ _ _ (HCFG.out _) rfl rfl rfl (by rfl) rfl (enter_config _ _) ?_; rintro e wa ⟨rfl, ta⟩; (try have HAC := Lib.hid (ta.keeps HAC.out (fun h => h))); (try have HROW := Lib.hid (HROW.out.touch ta (fun _ _ => .inr (fun h => h)))); have HKB := Lib.hid (ta.keeps HKB.out (fun h => h)); have HPW := Lib.hid (HPW.out.still ta); refine ⟨_, rfl, HKB.out, fun hS => ?_⟩; clear ta; (try simp only [Act.put, List.setIfInBounds_toArray, List.set_cons_zero, List.set_cons_succ]))))
   | ((with_reducible show RunN _ _ _ _ 4 _ _ _); ((refine runN_call 16 27 _ _ _ (HMK.out _) rfl rfl rfl (by rfl) rfl (enter_made _ _ _ _ _) ?_; rintro e wb ⟨ma, mc, rfl, hfb⟩; have tb := hfb.2; (try have HAC := Lib.hid (tb.keeps HAC.out (fun h => h))); (try have HROW := Lib.hid (HROW.out.touch tb (fun _ _ => .inr (fun h => h)))); have HKB := Lib.hid (tb.keeps HKB.out (fun h => h)); have HPW := Lib.hid (HPW.out.still tb); have HROW := Lib.hid hfb.row'.2; refine ⟨_, rfl, HKB.out, fun hS => ?_⟩; clear tb hfb; (try simp only [Act.put, List.setIfInBounds_toArray, List.set_cons_zero, List.set_cons_succ]))))
   | ((with_reducible show RunN _ _ _ _ 5 _ _ _); ((refine runN_call 17 18 _ _ _ (HPKT.out _ _ _ _ HPW.out HROW.out) rfl rfl rfl (by rfl) rfl (enter_packet _ _ _ _ _ _ _) ?_; rintro e wc ⟨pa, pn, pc, qa, qc, rfl, hpr, hst⟩; obtain ⟨h', M1, hpm, hpw, hoff⟩ := HPW.out.step hst; (try have HAO := Lib.hid (hoff _ (heap_lt HAC.out) HAO.out)); (try have HAC := Lib.hid ((step_touch hst).keeps HAC.out HAP.out)); have HKB := Lib.hid ((step_touch hst).keeps HKB.out HKO.out); obtain rfl := List.perm_singleton.1 hpm; have HPW := Lib.hid hpw; refine ⟨_, rfl, HKB.out, fun hS => ?_⟩; clear hst hpr hpm hpw hoff; (try simp only [Act.put, List.setIfInBounds_toArray, List.set_cons_zero, List.set_cons_succ]))))
   | ((with_reducible show RunN _ _ _ _ 6 _ _ _); ((have HAL := Lib.hid HPW.out.f.t.size; have HAO := Lib.hid (HPW.out.new _ (Nat.le_refl _)); have HAP := Lib.hid HAO.out.1; have HKA := Lib.hid (Nat.ne_of_lt (heap_lt HKB.out)); refine runN_new 4 (fun W => .pointer (some ⟨W.heap.size, 0, none⟩)) (planV 0 0 0 (.slice none 0 0) (.slice none 0 0)) 53 rfl rfl (by rfl) (by intro W; go_simp <;> first | with_reducible rfl | rfl | exact ⟨rfl, rfl⟩) ?_; intro w7 hw7 hM7 hs7 t7; (try have HAC := Lib.hid (t7.keeps HAC.out (fun h => h))); (try have HROW := Lib.hid (HROW.out.touch t7 (fun _ _ => .inr (fun h => h)))); have HKB := Lib.hid (t7.keeps HKB.out (fun h => h)); have HPW := Lib.hid (HPW.out.still t7); have HAC := Lib.hid hM7; refine ⟨HKB.out, fun _ => ?_⟩; clear hw7 hs7 hM7 t7; (try simp only [Act.put, List.setIfInBounds_toArray, List.set_cons_zero, List.set_cons_succ]))))
   | ((with_reducible show RunN _ _ _ _ 7 _ _ _); ((refine runN_store rfl rfl (by rfl) 53 _ _ rfl _ (planV 2 0 4 (.slice pa pn pc) (.slice qa 1 qc)) rfl rfl _ _ HAC.out infoPlan rfl rfl ?_; intro w8 hM8 t8; have HAC := Lib.hid hM8; have HKB := Lib.hid (t8.keeps HKB.out HKA.out); have HPW := Lib.hid (HPW.out.set _ HAO.out HAL.out t8); refine ⟨HKB.out, fun hS => ?_⟩; clear hM8 t8; (try simp only [Act.put, List.setIfInBounds_toArray, List.set_cons_zero, List.set_cons_succ])))))
  all_goals
   go_wp2_with fail
   go_meet
   exact ⟨_, _, _, _, _, _, _, rfl, HAC.out, HPW.out⟩
 case rest =>
  obtain ⟨AC, pa, pn, pc, qa, qc, h', rfl, hA, hP⟩ := hcut
  have y0 : wc.cell? ⟨AC, 0, none⟩ = some (.int .i64 2) := cell_of_cells hA 0
  have y2 : wc.cell? ⟨AC, 2, none⟩ = some (.int .i64 4) := cell_of_cells hA 2
  have y4 : wc.cell? ⟨AC, 4, none⟩ = some (.slice qa 1 qc) := cell_of_cells hA 4
  have HL := Lib.hid (flen_any wc g h' 2 20 [fl23] hP.f.q)
  have HT := Lib.hid hP.f.t
  clear hA hP HPW HPKT HCFG HMK HPK
  go_wp2_with fail
  refine HL.out.mono ?_
  rintro e w7 ⟨rfl, rfl⟩
  go_wp2_with fail
  go_ret
  exact ⟨rfl, HT.out⟩
end Go.Proofs.YtpjdcgjoepjmcaaGreat
end
section
namespace Go.Proofs.YtpjdcgjoepjmcaaGreat
open Go.RowKit
def kN (i : Nat) : TupD := ⟨(i : Int), 0, 6, 0, 0⟩
def bk1 : BkD := ⟨1, 1, 1⟩
def fN (i : Nat) : FlD := ⟨kN i, 1, 1, 0⟩
structure RM (M : List FlD) (c : Nat) : Prop where
 len : M.length = c
 has : ∀ j : Nat, hasF M (kN j) = decide (j < c)
end Go.Proofs.YtpjdcgjoepjmcaaGreat
end
section
namespace Go.Proofs.YtpjdcgjoepjmcaaGreat
open Go.RowKit
set_option maxRecDepth 20000 in
set_option maxHeartbeats 2000000 in
theorem new_off (n : Nat) (w : World) (hp : Prm n) :
 Calls Tryz.prog 12 #[.int .i64 n] w fun e w' => ∃ C G, e = .returned (.pointer (some ⟨C, 0, none⟩)) ∧ w'.heap[C]? = some (.cells (chC n none 0 0 (some ⟨G, 0, none⟩) n n 0) 100 (0, 0)) ∧ w.heap.size ≤ C ∧ w.heap.size ≤ G ∧ RowI w' (some ⟨G, 0, none⟩) n n (tabF [] n) ∧ Touch w w' (fun _ => False) := by
 have h3 := hp.lo
 have h251 := hp.hi
 have HM := Lib.hid (mayS_any n w h3 h251)
 rw [prm_may hp] at HM
 have HTB := Lib.hid (table_any none 0 0 n [] w hp (RowS.nil _ _ _ _ (by omega)))
 have HP := Lib.hid hp
 go_enter Tryz.func12, Tryz.ntmps12
 go_wp2_with (first
  | (go_at_call 36; (with_reducible refine HM.out.mono ?_); rintro e w9 ⟨rfl, rfl⟩)
  | (go_at_call 37; (with_reducible refine HTB.out.mono ?_); rintro e w4 ⟨G, rfl, ho, t4⟩; have HI := Lib.hid (ho.rowI (tab_i64 HP.out)); have HT := Lib.hid t4; have HG := Lib.hid ho.lt.1; clear ho t4))
 go_ret
 have t5 := (Touch.refl w4 (fun _ => False)).alloc (.cells (chC n none 0 0 (some ⟨G, 0, none⟩) n n 0) 100)
 exact ⟨w4.heap.size, G, rfl, heap_alloc_new .., HT.out.size, HG.out, HI.out.still t5, HT.out.trans t5 (fun _ _ h => h)⟩
theorem PW.fresh {w w1 w2 : World} {g : Nat} {h : FH} {most idle : Int} {M : List FlD} (p : FN w w1 g h most idle M) {C n : Nat} {T : List Int} {G m : Nat} (hn : 0 < n) (t : Touch w1 w2 (fun _ => False))
 (hc : w2.heap[C]? = some (.cells (chC n none 0 0 (some ⟨G, 0, none⟩) n n m) 100 (0, 0))) (hC : w1.heap.size ≤ C) (hG : w1.heap.size ≤ G) (hi : RowI w2 (some ⟨G, 0, none⟩) n n T) :
 PW w w2 g h most idle M C n [] T none 0 0 G m := by
 refine ⟨p.still t, ⟨hc, RowS.nil _ _ _ _ (by omega), hi⟩, ⟨fun e => by have := p.q.footlt _ e; omega, .inl rfl, fun e => by have := p.q.footlt _ e; omega⟩, heap_lt hc, .inl rfl, ?_⟩
 rcases hi.2.2.2.2 with h0 | ⟨b, off, ha, hlt, -⟩
 ·omega
 ·cases ha; exact hlt
end Go.Proofs.YtpjdcgjoepjmcaaGreat
end
