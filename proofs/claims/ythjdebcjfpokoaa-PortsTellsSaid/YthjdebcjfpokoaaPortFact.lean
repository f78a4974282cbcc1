/- What is told of a packet that was made. -/
import Derived.Test.YthjdebcjfpokoaaPortMade
import Derived.Test.YthjdebcjfpokoaaPortEnd
import Derived.Test.YthjdebcjfpokoaaIpMath2
import Derived.Laws.BitsAllLaws
set_option linter.unusedVariables false
namespace Go.Proofs.Ythjdebcjfpokoaa
open Go.RowKit

/-- What is told of a header that was built with its bytes behind it. -/
theorem tell_built (h : HArg) (p : List Nat) (hn : h.len = (20 + p.length : Nat)) (hp : p.length ≤ 65000) (hs : 0 ≤ h.src ∧ h.src ≤ 4294967295) (hd : 0 ≤ h.dst ∧ h.dst ≤ 4294967295) :
    whyF (builtF h ++ p) = 0 ∧ tellY (builtF h ++ p) = p ∧ tellH (builtF h ++ p) = ⟨5, u64N h.tos % 256, 20 + p.length, u64N h.id % 65536, (h.flags % 8).toNat, (h.off % 8192).toNat, u64N h.ttl % 256, u64N h.proto % 256, (netF (preF h)).toNat, h.src.toNat, h.dst.toNat⟩ := by
  have hy : whyF (builtF h ++ p) = 0 := by rw [why_built h _ (20 + p.length) hn (by omega) (by omega), if_neg (by omega)]
  refine ⟨hy, ?_, ?_⟩
  · unfold tellY
    rw [if_pos hy]
    obtain ⟨e1, e2⟩ := len_built h p (20 + p.length) hn (by omega)
    rw [e1, e2]
    have := rest_built h p [] hn hp
    rwa [List.append_nil] at this
  · unfold tellH
    rw [if_pos hy, hdr_built h p hs hd, hn, u64N_nat _ (by omega)]
    rw [Hdr.mk.injEq]
    refine ⟨rfl, rfl, by omega, rfl, rfl, rfl, rfl, rfl, rfl, rfl, rfl⟩

theorem may_iff (k : KArg) : mayB k = true ↔ ((k.proto = 6 ∨ k.proto = 17) ∧ 0 ≤ k.sport ∧ k.sport ≤ 65535 ∧ 0 ≤ k.dport ∧ k.dport ≤ 65535) := by unfold mayB; exact decide_eq_true_iff

theorem pK_tcp (k : KArg) (flags : Int) (ys : List Nat) (hp : k.proto = 6) : pK k flags ys = [u64N k.sport / 256 % 256, u64N k.sport % 256, u64N k.dport / 256 % 256, u64N k.dport % 256, 0, 0, 0, 0, 0, 0, 0, 0, 80, u64N flags % 256, 0, 0, 0, 0, 0, 0] ++ ys := by
  unfold pK; rw [if_pos hp]; simp [headK, tcpK, beB, List.range_succ]
theorem pK_udp (k : KArg) (flags : Int) (ys : List Nat) (hp : k.proto ≠ 6) (hl : ys.length ≤ 65000) : pK k flags ys = [u64N k.sport / 256 % 256, u64N k.sport % 256, u64N k.dport / 256 % 256, u64N k.dport % 256, (8 + ys.length) / 256 % 256, (8 + ys.length) % 256, 0, 0] ++ ys := by
  unfold pK; rw [if_neg hp]
  have : u64N (8 + (ys.length : Int)) = 8 + ys.length := by unfold u64N; omega
  simp [headK, udpK, beB, List.range_succ, this]
/-- A packet that was made tells its ports. -/
theorem ref_made (k : KArg) (flags : Int) (ys : List Nat) (hm : mayB k = true) (hl : ys.length ≤ 60000) : refF 0 0 (u64N k.proto % 256) (pK k flags ys) = 0 ∧
    gb (pK k flags ys) 0 * 256 + gb (pK k flags ys) 1 = k.sport.toNat ∧ gb (pK k flags ys) 2 * 256 + gb (pK k flags ys) 3 = k.dport.toNat := by
  obtain ⟨h1, h2, h3, h4, h5⟩ := (may_iff k).1 hm
  have e1 : u64N k.sport = k.sport.toNat := by unfold u64N; omega
  have e2 : u64N k.dport = k.dport.toNat := by unfold u64N; omega
  have hw : wholeB ((0 : Nat) : Int) ((0 : Nat) : Int) = true := by rfl
  by_cases hp : k.proto = 6
  · rw [pK_tcp k flags ys hp, hp]
    have e3 : u64N 6 % 256 = 6 := by decide
    rw [e3]
    refine ⟨?_, ?_, ?_⟩
    · unfold refF tcpB
      rw [if_neg (by rw [hw]; decide), if_neg (by omega)]
      simp [gb]
    · simp [gb]; omega
    · simp [gb]; omega
  · have hp' : k.proto = 17 := by omega
    rw [pK_udp k flags ys hp (by omega), hp']
    have e3 : u64N 17 % 256 = 17 := by decide
    rw [e3]
    refine ⟨?_, ?_, ?_⟩
    · unfold refF udpB
      rw [if_neg (by rw [hw]; decide), if_neg (by omega), if_neg (by omega)]
      simp [gb]
      omega
    · simp [gb]; omega
    · simp [gb]; omega
/-- Its tuple, its header. -/
theorem tell_made (k : KArg) (ok : k.Ok) (hm : mayB k = true) (ttl flags : Int) (ys : List Nat) (hl : ys.length ≤ 1000) :
    whyT (madeF k ttl flags ys) = 0 ∧ tellT (madeF k ttl flags ys) = ⟨k.src.toNat, k.dst.toNat, k.proto.toNat, k.sport.toNat, k.dport.toNat⟩ ∧ (tellG (madeF k ttl flags ys)).ttl = u64N ttl % 256 ∧ (tellG (madeF k ttl flags ys)).ihl = 5 ∧
    (tellG (madeF k ttl flags ys)).len = 20 + sizeK k ys.length ∧ (k.proto = 6 → gb (madeF k ttl flags ys) 33 = u64N flags % 256) := by
  obtain ⟨r1, r2, r3⟩ := ref_made k flags ys hm (by omega)
  have hpl := pK_length k flags ys
  have hsz : sizeK k ys.length ≤ 1020 := by unfold sizeK; split <;> omega
  obtain ⟨z1, z2, z3⟩ := tell_built (hK k ttl (sizeK k ys.length)) (pK k flags ys) (by simp only [hK, hpl]; omega) (by omega) ok.src ok.dst
  have hpr : u64N k.proto % 256 = k.proto.toNat := by
    obtain ⟨h1, -⟩ := (may_iff k).1 hm
    unfold u64N; omega
  have hy : whyT (madeF k ttl flags ys) = 0 := by
    unfold whyT madeF
    rw [if_pos z1, z2, z3]
    simpa [hK] using r1
  refine ⟨hy, ?_, ?_, ?_, ?_, ?_⟩
  · unfold tellT
    rw [if_pos hy]
    unfold madeF
    rw [z2, z3, r2, r3]
    simp only [hK, hpr]
  · unfold tellG
    rw [if_pos hy]; unfold madeF; rw [z3]; rfl
  · unfold tellG
    rw [if_pos hy]; unfold madeF; rw [z3]
  · unfold tellG
    rw [if_pos hy]; unfold madeF; rw [z3]; simp only [hpl]
  · intro hp
    unfold madeF
    rw [pK_tcp k flags ys hp]
    have hb := builtF_length (hK k ttl (sizeK k ys.length))
    unfold gb
    rw [List.getD_eq_getElem?_getD, List.getElem?_append_right (by omega), hb]
    rfl
theorem nat5 (a : Nat) : a &&& 5 = a % 2 + a / 4 % 2 * 4 := by
  have e : (5 : Nat) = 4 ||| 1 := by decide
  have h4 : a &&& 4 = a / 4 % 2 * 4 := nat_bit 2 a
  rw [e, Nat.and_or_distrib_left, h4, nat_mask1, nat_join 2 _ _ (by omega) (by omega)]
  omega
/-- FIN or RST, in a byte or in a number. -/
theorem and5 (n : Int) : bits BinOp.and IntKind.i64 n 5 = ((u64N n % 256 % 2 + u64N n % 256 / 4 % 2 * 4 : Nat) : Int) := by
  have e1 : (BitVec.ofInt IntKind.i64.bits n).toNat = u64N n := by
    rw [BitVec.toNat_ofInt]; rfl
  have e2 : (BitVec.ofInt IntKind.i64.bits (5 : Int)).toNat = 5 := by decide
  have e3 : bits BinOp.and IntKind.i64 n 5 = IntKind.i64.wrap (((u64N n &&& 5 : Nat)) : Int) := by
    simp only [bits, BitVec.toNat_and, e1, e2]
  rw [e3, nat5, wraps_i64 _ (by omega) (by omega)]
  omega
theorem and5_u8 (x : Nat) (h : x < 256) : bits BinOp.and IntKind.u8 (x : Int) 5 = ((x % 2 + x / 4 % 2 * 4 : Nat) : Int) := by
  have := u8_and_nat x 5 h (by omega)
  rw [show ((5 : Nat) : Int) = 5 from rfl] at this
  rw [this, nat5]
end Go.Proofs.Ythjdebcjfpokoaa
