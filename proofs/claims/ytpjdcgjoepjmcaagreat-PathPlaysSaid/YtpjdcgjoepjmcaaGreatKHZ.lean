import Derived.Test.YtpjdcgjoepjmcaaGreatKGZ
import Derived.Test.YtpjdcgjoepjmcaaGreatKCZ
import Derived.Laws.BitsAllLaws
import Derived.Test.YtpjdcgjoepjmcaaGreatKEZ
import Derived.Test.YtpjdcgjoepjmcaaGreatKDZ
import Derived.Test.YtpjdcgjoepjmcaaGreatKAZ
import Derived.Test.YtpjdcgjoepjmcaaGreatGFZ
set_option linter.unusedVariables false
set_option linter.unusedSimpArgs false
section
namespace Go.Proofs.YtpjdcgjoepjmcaaGreat
open Go.RowKit
theorem tell_built (h : HArg) (p : List Nat) (hn : h.len = (20 + p.length : Nat)) (hp : p.length ≤ 65000) (hs : 0 ≤ h.src ∧ h.src ≤ 4294967295) (hd : 0 ≤ h.dst ∧ h.dst ≤ 4294967295) :
 whyF (builtF h ++ p) = 0 ∧ tellY (builtF h ++ p) = p ∧ tellH (builtF h ++ p) = ⟨5, u64N h.tos % 256, 20 + p.length, u64N h.id % 65536, (h.flags % 8).toNat, (h.off % 8192).toNat, u64N h.ttl % 256, u64N h.proto % 256, (netF (preF h)).toNat, h.src.toNat, h.dst.toNat⟩ := by
 have hy : whyF (builtF h ++ p) = 0 := by rw [why_built h _ (20 + p.length) hn (by omega) (by omega), if_neg (by omega)]
 refine ⟨hy, ?_, ?_⟩
 ·unfold tellY
  rw [if_pos hy]
  obtain ⟨e1, e2⟩ := len_built h p (20 + p.length) hn (by omega)
  rw [e1, e2]
  have := rest_built h p [] hn hp
  rwa [List.append_nil] at this
 ·unfold tellH
  rw [if_pos hy, hdr_built h p hs hd, hn, u64N_natI _ (by omega)]
  rw [Hdr.mk.injEq]
  refine ⟨rfl, rfl, by omega, rfl, rfl, rfl, rfl, rfl, rfl, rfl, rfl⟩
theorem may_iff (k : KArg) : mayB k = true ↔ ((k.proto = 6 ∨ k.proto = 17) ∧ 0 ≤ k.sport ∧ k.sport ≤ 65535 ∧ 0 ≤ k.dport ∧ k.dport ≤ 65535) := by unfold mayB; exact decide_eq_true_iff
theorem pK_tcp (k : KArg) (flags : Int) (ys : List Nat) (hp : k.proto = 6) : pK k flags ys = [u64N k.sport / 256 % 256, u64N k.sport % 256, u64N k.dport / 256 % 256, u64N k.dport % 256, 0, 0, 0, 0, 0, 0, 0, 0, 80, u64N flags % 256, 0, 0, 0, 0, 0, 0] ++ ys := by
 unfold pK; rw [if_pos hp]; simp [headK, tcpK, beB, List.range_succ]
theorem pK_udp (k : KArg) (flags : Int) (ys : List Nat) (hp : k.proto ≠ 6) (hl : ys.length ≤ 65000) : pK k flags ys = [u64N k.sport / 256 % 256, u64N k.sport % 256, u64N k.dport / 256 % 256, u64N k.dport % 256, (8 + ys.length) / 256 % 256, (8 + ys.length) % 256, 0, 0] ++ ys := by
 unfold pK; rw [if_neg hp]
 have : u64N (8 + (ys.length : Int)) = 8 + ys.length := by unfold u64N; omega
 simp [headK, udpK, beB, List.range_succ, this]
theorem ref_made (k : KArg) (flags : Int) (ys : List Nat) (hm : mayB k = true) (hl : ys.length ≤ 60000) : refF 0 0 (u64N k.proto % 256) (pK k flags ys) = 0 ∧
 gb (pK k flags ys) 0 * 256 + gb (pK k flags ys) 1 = k.sport.toNat ∧ gb (pK k flags ys) 2 * 256 + gb (pK k flags ys) 3 = k.dport.toNat := by
 obtain ⟨h1, h2, h3, h4, h5⟩ := (may_iff k).1 hm
 have e1 : u64N k.sport = k.sport.toNat := by unfold u64N; omega
 have e2 : u64N k.dport = k.dport.toNat := by unfold u64N; omega
 have hw : wholeB ((0 : Nat) : Int) ((0 : Nat) : Int) = true := by rfl
 by_cases hp : k.proto = 6
 ·rw [pK_tcp k flags ys hp, hp]
  have e3 : u64N 6 % 256 = 6 := by decide
  rw [e3]
  refine ⟨?_, ?_, ?_⟩
  ·unfold refF tcpB
   rw [if_neg (by rw [hw]; decide), if_neg (by omega)]
   simp [gb]
  ·simp [gb]; omega
  ·simp [gb]; omega
 ·have hp' : k.proto = 17 := by omega
  rw [pK_udp k flags ys hp (by omega), hp']
  have e3 : u64N 17 % 256 = 17 := by decide
  rw [e3]
  refine ⟨?_, ?_, ?_⟩
  ·unfold refF udpB
   rw [if_neg (by rw [hw]; decide), if_neg (by omega), if_neg (by omega)]
   simp [gb]
   omega
  ·simp [gb]; omega
  ·simp [gb]; omega
theorem tell_made (k : KArg) (ok : k.Ok) (hm : mayB k = true) (ttl flags : Int) (ys : List Nat) (hl : ys.length ≤ 1000) :
 whyT (madeF k ttl flags ys) = 0 ∧ tellT (madeF k ttl flags ys) = ⟨k.src.toNat, k.dst.toNat, k.proto.toNat, k.sport.toNat, k.dport.toNat⟩ ∧ (tellG (madeF k ttl flags ys)).ttl = u64N ttl % 256 ∧ (tellG (madeF k ttl flags ys)).ihl = 5 ∧
 (tellG (madeF k ttl flags ys)).len = 20 + sizeK k ys.length ∧ (k.proto = 6 → gb (madeF k ttl flags ys) 33 = u64N flags % 256) := by
 obtain ⟨r1, r2, r3⟩ := ref_made k flags ys hm (by omega)
 have hpl := pK_length k flags ys
 have hsz : sizeK k ys.length ≤ 1020 := by unfold sizeK; split <;> omega
 obtain ⟨z1, z2, z3⟩ := tell_built (hK k ttl (sizeK k ys.length)) (pK k flags ys) (by simp only [hK, hpl]; omega) (by omega) ok.src ok.dst
 have hpr : u64N k.proto % 256 = k.proto.toNat := by
  obtain ⟨h1, -⟩ := (may_iff k).1 hm
  unfold u64N; omega
 have hy : whyT (madeF k ttl flags ys) = 0 := by
  unfold whyT madeF
  rw [if_pos z1, z2, z3]
  simpa [hK] using r1
 refine ⟨hy, ?_, ?_, ?_, ?_, ?_⟩
 ·unfold tellT
  rw [if_pos hy]
  unfold madeF
  rw [z2, z3, r2, r3]
  simp only [hK, hpr]
 ·unfold tellG
  rw [if_pos hy]; unfold madeF; rw [z3]; rfl
 ·unfold tellG
  rw [if_pos hy]; unfold madeF; rw [z3]
 ·unfold tellG
  rw [if_pos hy]; unfold madeF; rw [z3]; simp only [hpl]
 ·intro hp
  unfold madeF
  rw [pK_tcp k flags ys hp]
  have hb := builtF_length (hK k ttl (sizeK k ys.length))
  unfold gb
  rw [List.getD_eq_getElem?_getD, List.getElem?_append_right (by omega), hb]
  rfl
theorem nat5 (a : Nat) : a &&& 5 = a % 2 + a / 4 % 2 * 4 := by
 have e : (5 : Nat) = 4 ||| 1 := by decide
 have h4 : a &&& 4 = a / 4 % 2 * 4 := nat_bit 2 a
 rw [e, Nat.and_or_distrib_left, h4, nat_mask1, nat_join 2 _ _ (by omega) (by omega)]
 omega
theorem and5 (n : Int) : bits BinOp.and IntKind.i64 n 5 = ((u64N n % 256 % 2 + u64N n % 256 / 4 % 2 * 4 : Nat) : Int) := by
 have e1 : (BitVec.ofInt IntKind.i64.bits n).toNat = u64N n := by
  rw [BitVec.toNat_ofInt]; rfl
 have e2 : (BitVec.ofInt IntKind.i64.bits (5 : Int)).toNat = 5 := by decide
 have e3 : bits BinOp.and IntKind.i64 n 5 = IntKind.i64.wrap (((u64N n &&& 5 : Nat)) : Int) := by
  simp only [bits, BitVec.toNat_and, e1, e2]
 rw [e3, nat5, wraps_i64 _ (by omega) (by omega)]
 omega
theorem and5_u8 (x : Nat) (h : x < 256) : bits BinOp.and IntKind.u8 (x : Int) 5 = ((x % 2 + x / 4 % 2 * 4 : Nat) : Int) := by
 have := u8_and_nat x 5 h (by omega)
 rw [show ((5 : Nat) : Int) = 5 from rfl] at this
 rw [this, nat5]
end Go.Proofs.YtpjdcgjoepjmcaaGreat
end
section
namespace Go.Proofs.YtpjdcgjoepjmcaaGreat
open Go.RowKit
structure Pkt (xs : List Nat) : Prop where
 why : whyF xs = 0
 small : ∀ x ∈ xs, x < 256
 len : (hdr xs).len = xs.length
theorem pkt_built (h : HArg) (p : List Nat) (hn : h.len = (20 + p.length : Nat)) (hp : p.length ≤ 65000) (hs : 0 ≤ h.src ∧ h.src ≤ 4294967295) (hd : 0 ≤ h.dst ∧ h.dst ≤ 4294967295) (hps : ∀ x ∈ p, x < 256) :
 Pkt (builtF h ++ p) ∧ tellY (builtF h ++ p) = p ∧ hdr (builtF h ++ p) = ⟨5, u64N h.tos % 256, 20 + p.length, u64N h.id % 65536, (h.flags % 8).toNat, (h.off % 8192).toNat, u64N h.ttl % 256, u64N h.proto % 256, (netF (preF h)).toNat, h.src.toNat, h.dst.toNat⟩ := by
 obtain ⟨z1, z2, z3⟩ := tell_built h p hn hp hs hd
 have z4 : hdr (builtF h ++ p) = tellH (builtF h ++ p) := by unfold tellH; rw [if_pos z1]
 rw [z4]
 refine ⟨⟨z1, fun x hx => ?_, ?_⟩, z2, z3⟩
 ·rcases List.mem_append.1 hx with h1 | h1
  ·exact builtF_small h x h1
  ·exact hps x h1
 ·rw [z4, z3, List.length_append, builtF_length]
theorem pK_small (k : KArg) (flags : Int) (ys : List Nat) (hs : ∀ x ∈ ys, x < 256) (hl : ys.length ≤ 60000) : ∀ x ∈ pK k flags ys, x < 256 := by
 intro x hx
 by_cases hp : k.proto = 6
 ·rw [pK_tcp k flags ys hp] at hx
  rcases List.mem_append.1 hx with h1 | h1
  ·simp at h1; omega
  ·exact hs x h1
 ·rw [pK_udp k flags ys hp (by omega)] at hx
  rcases List.mem_append.1 hx with h1 | h1
  ·simp at h1; omega
  ·exact hs x h1
theorem pkt_made (k : KArg) (ok : k.Ok) (ttl flags : Int) (ys : List Nat) (hl : ys.length ≤ 10000) (hs : ∀ x ∈ ys, x < 256) :
 Pkt (madeF k ttl flags ys) ∧ (hdr (madeF k ttl flags ys)).ttl = u64N ttl % 256 := by
 have hpl := pK_length k flags ys
 have hsz : sizeK k ys.length ≤ 11000 := by unfold sizeK; split <;> omega
 obtain ⟨z1, -, z3⟩ := pkt_built (hK k ttl (sizeK k ys.length)) (pK k flags ys) (by simp only [hK, hpl]; omega) (by omega) ok.src ok.dst (pK_small k flags ys hs (by omega))
 refine ⟨z1, ?_⟩
 unfold madeF
 rw [z3]; rfl
structure Wrapped (xs : List Nat) (sf dd mtu : Int) : Prop where
 why : whyW xs mtu = 0
 tell : tellW xs sf dd mtu = wrapF xs sf dd
 len : (wrapF xs sf dd).length = xs.length + 20
 pkt : Pkt (wrapF xs sf dd)
 ihl : (hdr (wrapF xs sf dd)).ihl = 5
 ttl : (hdr (wrapF xs sf dd)).ttl = 64
 proto : (hdr (wrapF xs sf dd)).proto = 4
 tos : (hdr (wrapF xs sf dd)).tos = (hdr xs).tos
 id : (hdr (wrapF xs sf dd)).id = (hdr xs).id
 body : tellY (wrapF xs sf dd) = olderF xs (hdr xs)
 drop : (wrapF xs sf dd).drop 20 = olderF xs (hdr xs)
 whyU : whyU (wrapF xs sf dd) = 0
 tellU : tellU (wrapF xs sf dd) = olderF xs (hdr xs)
 src : (srcU (wrapF xs sf dd) : Int) = sf
 dst : (dstU (wrapF xs sf dd) : Int) = dd
end Go.Proofs.YtpjdcgjoepjmcaaGreat
end
section
namespace Go.Proofs.YtpjdcgjoepjmcaaGreat
open Go.RowKit
def endsB (k : KArg) (xs : List Nat) : Bool :=
 decide (whyT xs = 0 ∧ (((tellT xs).src : Int) = k.src ∧ ((tellT xs).dst : Int) = k.dst ∧ ((tellT xs).proto : Int) = k.proto ∧ ((tellT xs).sport : Int) = k.sport ∧ ((tellT xs).dport : Int) = k.dport) ∧ k.proto = 6 ∧ bits BinOp.and IntKind.u8 (gb xs (4 * (tellG xs).ihl + 13) : Nat) 5 ≠ 0)
theorem ends_any (k : KArg) (a : Option Addr) (len cap : Nat) (xs : List Nat) (w : World) (hr : RowB w a len cap xs) :
 Calls Tryz.prog 51 #[.agg (kcs k), .slice a len cap] w fun e w' => e = .returned (.bool (endsB k xs)) ∧ Touch w w' (fun _ => False) := by
 by_cases hy : whyT xs = 0
 ·refine (ends_ok k a len cap xs w hr hy).mono ?_
  rintro e w' ⟨v, rfl, hv, t⟩
  refine ⟨?_, t⟩
  have : v = endsB k xs := by
   rw [Bool.eq_iff_iff, hv]
   unfold endsB isK
   rw [decide_eq_true_iff]
   simp [hy]
  rw [this]
 ·refine (ends_bad k a len cap xs w hr hy).mono ?_
  rintro e w' ⟨rfl, t⟩
  refine ⟨?_, t⟩
  have : endsB k xs = false := by unfold endsB; rw [decide_eq_false_iff_not]; exact fun h => hy h.1
  rw [this]
theorem ends_made (k : KArg) (ok : k.Ok) (hm : mayB k = true) (ttl flags : Int) (ys : List Nat) (hl : ys.length ≤ 1000) (o : KArg) :
 endsB o (madeF k ttl flags ys) = true ↔ ((k.proto = 6 ∧ bits BinOp.and IntKind.i64 flags 5 ≠ 0) ∧ o = k) := by
 obtain ⟨z1, z2, z3, z4, z5, z6⟩ := tell_made k ok hm ttl flags ys hl
 obtain ⟨h1, h2, h3, h4, h5⟩ := (may_iff k).1 hm
 have ok0 := ok.src
 have ok1 := ok.dst
 unfold endsB
 rw [decide_eq_true_iff, z1, z2, z4]
 constructor
 ·rintro ⟨_, ⟨e1, e2, e3, e4, e5⟩, e6, e7⟩
  have hp : k.proto = 6 := by simp only [] at e3; omega
  refine ⟨⟨hp, ?_⟩, ?_⟩
  ·rw [show 4 * 5 + 13 = 33 from rfl, z6 hp, and5_u8 _ (by omega)] at e7
   rw [and5]; exact e7
  ·obtain ⟨a1, a2, a3, a4, a5⟩ := o
   obtain ⟨b1, b2, b3, b4, b5⟩ := k
   simp only [KArg.mk.injEq] at *
   omega
 ·rintro ⟨⟨hp, hb⟩, rfl⟩
  refine ⟨rfl, ⟨by simp only []; omega, by simp only []; omega, by simp only []; omega, by simp only []; omega, by simp only []; omega⟩, hp, ?_⟩
  rw [show 4 * 5 + 13 = 33 from rfl, z6 hp, and5_u8 _ (by omega)]
  rw [and5] at hb; exact hb
def known21 : KArg := ⟨1, 2, 6, 3, 4⟩
end Go.Proofs.YtpjdcgjoepjmcaaGreat
end
section
namespace Go.Proofs.YtpjdcgjoepjmcaaGreat
open Go.RowKit
def known22 : KArg := ⟨1, 2, 17, 3, 4⟩
end Go.Proofs.YtpjdcgjoepjmcaaGreat
end
section
namespace Go.Proofs.YtpjdcgjoepjmcaaGreat
open Go.RowKit
def tupT (t : Tup) : TupD := ⟨(t.src : Int), (t.dst : Int), (t.proto : Int), (t.sport : Int), (t.dport : Int)⟩
def kOf (t : TupD) : KArg := ⟨t.src, t.dst, t.proto, t.sport, t.dport⟩
theorem hdr_addr (xs : List Nat) (hs : ∀ x ∈ xs, x < 256) : (hdr xs).src < 4294967296 ∧ (hdr xs).dst < 4294967296 := by
 have b12 := gb_lt xs hs 12
 have b13 := gb_lt xs hs 13
 have b14 := gb_lt xs hs 14
 have b15 := gb_lt xs hs 15
 have b16 := gb_lt xs hs 16
 have b17 := gb_lt xs hs 17
 have b18 := gb_lt xs hs 18
 have b19 := gb_lt xs hs 19
 unfold hdr beN
 constructor <;> (simp only [List.foldl]; omega)
theorem tell_ok (xs : List Nat) (hs : ∀ x ∈ xs, x < 256) : TupOk (tupT (tellT xs)) := by
 unfold tellT
 split
 ·rename_i hw
  have h1 : tellH xs = hdr xs := by
   unfold tellH
   rw [if_pos]
   unfold whyT at hw
   split at hw
   ·assumption
   ·exact hw
  have ha := hdr_addr xs hs
  have hl := hdr_lt xs hs
  have hy : ∀ x ∈ tellY xs, x < 256 := by
   unfold tellY
   split
   ·intro x hx
    exact hs x (List.mem_of_mem_take (List.mem_of_mem_drop hx))
   ·intro x hx; cases hx
  have g0 := gb_lt _ hy 0
  have g1 := gb_lt _ hy 1
  have g2 := gb_lt _ hy 2
  have g3 := gb_lt _ hy 3
  rw [h1]
  refine ⟨⟨?_, ?_⟩, ⟨?_, ?_⟩, ⟨?_, ?_⟩, ⟨?_, ?_⟩, ⟨?_, ?_⟩⟩ <;> (simp only [tupT]; omega)
 ·refine ⟨⟨?_, ?_⟩, ⟨?_, ?_⟩, ⟨?_, ?_⟩, ⟨?_, ?_⟩, ⟨?_, ?_⟩⟩ <;> (simp only [tupT, tup0]; omega)
end Go.Proofs.YtpjdcgjoepjmcaaGreat
end
