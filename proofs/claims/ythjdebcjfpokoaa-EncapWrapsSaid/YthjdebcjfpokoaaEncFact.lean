/- What is told of a packet that was wrapped. -/
import Derived.Test.YthjdebcjfpokoaaEncWrap
import Derived.Test.YthjdebcjfpokoaaEncUnw
import Derived.Test.YthjdebcjfpokoaaPortFact
set_option linter.unusedVariables false
namespace Go.Proofs.Ythjdebcjfpokoaa
open Go.RowKit

/-- A packet, with nothing behind it. -/
structure Pkt (xs : List Nat) : Prop where
  why : whyF xs = 0
  small : ∀ x ∈ xs, x < 256
  len : (hdr xs).len = xs.length
theorem Pkt.take {xs : List Nat} (p : Pkt xs) : xs.take (hdr xs).len = xs := by rw [p.len, List.take_length]
theorem Pkt.twenty {xs : List Nat} (p : Pkt xs) : 20 ≤ xs.length := (why_zero p.why).1
theorem olderF_small (xs : List Nat) (h : Hdr) (hs : ∀ x ∈ xs, x < 256) : ∀ x ∈ olderF xs h, x < 256 := by
  intro x hx
  have hS := fixS_le h
  unfold olderF at hx
  rcases List.mem_or_eq_of_mem_set hx with hx | hx
  · rcases List.mem_or_eq_of_mem_set hx with hx | hx
    · rcases List.mem_or_eq_of_mem_set hx with hx | hx
      · exact hs x hx
      · omega
    · omega
  · omega
theorem Pkt.older {xs : List Nat} (p : Pkt xs) (ht : 1 ≤ (hdr xs).ttl) : Pkt (olderF xs (hdr xs)) ∧ hdr (olderF xs (hdr xs)) = { hdr xs with ttl := (hdr xs).ttl - 1, sum := (fixS (hdr xs)).toNat } := by
  obtain ⟨h1, h2⟩ := older_is xs p.why p.small ht
  exact ⟨⟨h1, olderF_small xs _ p.small, by rw [h2, olderF_length]; exact p.len⟩, h2⟩
/-- What is built with bytes behind it is a packet. -/
theorem pkt_built (h : HArg) (p : List Nat) (hn : h.len = (20 + p.length : Nat)) (hp : p.length ≤ 65000) (hs : 0 ≤ h.src ∧ h.src ≤ 4294967295) (hd : 0 ≤ h.dst ∧ h.dst ≤ 4294967295) (hps : ∀ x ∈ p, x < 256) :
    Pkt (builtF h ++ p) ∧ tellY (builtF h ++ p) = p ∧ hdr (builtF h ++ p) = ⟨5, u64N h.tos % 256, 20 + p.length, u64N h.id % 65536, (h.flags % 8).toNat, (h.off % 8192).toNat, u64N h.ttl % 256, u64N h.proto % 256, (netF (preF h)).toNat, h.src.toNat, h.dst.toNat⟩ := by
  obtain ⟨z1, z2, z3⟩ := tell_built h p hn hp hs hd
  have z4 : hdr (builtF h ++ p) = tellH (builtF h ++ p) := by unfold tellH; rw [if_pos z1]
  rw [z4]
  refine ⟨⟨z1, fun x hx => ?_, ?_⟩, z2, z3⟩
  · rcases List.mem_append.1 hx with h1 | h1
    · exact builtF_small h x h1
    · exact hps x h1
  · rw [z4, z3, List.length_append, builtF_length]
theorem pK_small (k : KArg) (flags : Int) (ys : List Nat) (hs : ∀ x ∈ ys, x < 256) (hl : ys.length ≤ 60000) : ∀ x ∈ pK k flags ys, x < 256 := by
  intro x hx
  by_cases hp : k.proto = 6
  · rw [pK_tcp k flags ys hp] at hx
    rcases List.mem_append.1 hx with h1 | h1
    · simp at h1; omega
    · exact hs x h1
  · rw [pK_udp k flags ys hp (by omega)] at hx
    rcases List.mem_append.1 hx with h1 | h1
    · simp at h1; omega
    · exact hs x h1
/-- A packet that was made. -/
theorem pkt_made (k : KArg) (ok : k.Ok) (ttl flags : Int) (ys : List Nat) (hl : ys.length ≤ 10000) (hs : ∀ x ∈ ys, x < 256) :
    Pkt (madeF k ttl flags ys) ∧ (hdr (madeF k ttl flags ys)).ttl = u64N ttl % 256 := by
  have hpl := pK_length k flags ys
  have hsz : sizeK k ys.length ≤ 11000 := by unfold sizeK; split <;> omega
  obtain ⟨z1, -, z3⟩ := pkt_built (hK k ttl (sizeK k ys.length)) (pK k flags ys) (by simp only [hK, hpl]; omega) (by omega) ok.src ok.dst (pK_small k flags ys hs (by omega))
  refine ⟨z1, ?_⟩
  unfold madeF
  rw [z3]; rfl
/-- What comes of a packet that is wrapped. -/
structure Wrapped (xs : List Nat) (sf dd mtu : Int) : Prop where
  why : whyW xs mtu = 0
  tell : tellW xs sf dd mtu = wrapF xs sf dd
  len : (wrapF xs sf dd).length = xs.length + 20
  pkt : Pkt (wrapF xs sf dd)
  ihl : (hdr (wrapF xs sf dd)).ihl = 5
  ttl : (hdr (wrapF xs sf dd)).ttl = 64
  proto : (hdr (wrapF xs sf dd)).proto = 4
  tos : (hdr (wrapF xs sf dd)).tos = (hdr xs).tos
  id : (hdr (wrapF xs sf dd)).id = (hdr xs).id
  body : tellY (wrapF xs sf dd) = olderF xs (hdr xs)
  drop : (wrapF xs sf dd).drop 20 = olderF xs (hdr xs)
  whyU : whyU (wrapF xs sf dd) = 0
  tellU : tellU (wrapF xs sf dd) = olderF xs (hdr xs)
  src : (srcU (wrapF xs sf dd) : Int) = sf
  dst : (dstU (wrapF xs sf dd) : Int) = dd
theorem wrapped {xs : List Nat} (p : Pkt xs) (ht : 2 ≤ (hdr xs).ttl) (hl : xs.length + 20 ≤ 2000) (self dd mtu : Int) (hm : (xs.length : Int) + 20 ≤ mtu) (s1 : 0 ≤ self ∧ self ≤ 4294967295) (s2 : 0 ≤ dd ∧ dd ≤ 4294967295) : Wrapped xs self dd mtu := by
  obtain ⟨q1, q2⟩ := p.older (by omega)
  obtain ⟨l1, l2, l3, l4, l5, l6, l7, l8⟩ := hdr_lt xs p.small
  have ol := olderF_length xs (hdr xs)
  have hw : whyW xs mtu = 0 := by
    have := p.len
    unfold whyW
    rw [if_neg (by rw [p.why]; simp), if_neg (by omega), if_neg (by omega)]
  have hF : wrapF xs self dd = builtF (outH (hdr xs) self dd) ++ olderF xs (hdr xs) := by unfold wrapF; rw [p.take]
  obtain ⟨z1, z2, z3⟩ := pkt_built (outH (hdr xs) self dd) (olderF xs (hdr xs)) (by simp only [outH]; rw [ol, p.len]; omega) (by omega) s1 s2 q1.small
  rw [← hF] at z1 z2 z3
  have hu : whyU (wrapF xs self dd) = 0 := by
    unfold whyU
    rw [if_neg (by rw [z1.why]; simp), z3, if_neg (by simp only [outH]; decide), z2]
    exact q1.why
  have hbl := builtF_length (outH (hdr xs) self dd)
  refine ⟨hw, ?_, ?_, z1, ?_, ?_, ?_, ?_, ?_, z2, ?_, hu, ?_, ?_, ?_⟩
  · unfold tellW; rw [if_pos hw]
  · rw [hF, List.length_append, hbl, ol]; omega
  · rw [z3]
  · rw [z3]; simp only [outH]; decide
  · rw [z3]; simp only [outH]; decide
  · rw [z3]; simp only [outH]; unfold u64N; omega
  · rw [z3]; simp only [outH]; unfold u64N; omega
  · rw [hF, show 20 = (builtF (outH (hdr xs) self dd)).length from hbl.symm, List.drop_left]
  · unfold tellU; rw [if_pos hu, z2, q1.take]
  · unfold srcU; rw [if_pos hu, z3]; simp only [outH]; omega
  · unfold dstU; rw [if_pos hu, z3]; simp only [outH]; omega
/-- Bytes that say nothing but that life ends. -/
theorem why_old {xs : List Nat} (p : Pkt xs) (ht : (hdr xs).ttl ≤ 1) (mtu : Int) : whyW xs mtu = 7 := by
  unfold whyW
  rw [if_neg (by rw [p.why]; simp), if_pos ht]
end Go.Proofs.Ythjdebcjfpokoaa
