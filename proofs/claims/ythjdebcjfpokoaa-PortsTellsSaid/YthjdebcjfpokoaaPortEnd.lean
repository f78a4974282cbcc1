/- Does a packet end its flow? -/
import Derived.Test.YthjdebcjfpokoaaPort2
set_option linter.unusedVariables false
namespace Go.Proofs.Ythjdebcjfpokoaa
open Go.RowKit

set_option maxRecDepth 20000 in
set_option maxHeartbeats 4000000 in
theorem ends_bad (k : KArg) (a : Option Addr) (len cap : Nat) (xs : List Nat) (w : World) (hr : RowB w a len cap xs) (hy : whyT xs ≠ 0) :
    Calls Try.prog 26 #[.agg (kcs k), .slice a len cap] w fun e w' => e = .returned (.bool false) ∧ Touch w w' (fun _ => False) := by
  obtain ⟨W1, hW1⟩ : ∃ W, w.alloc (.cells (kcs k) 43) = W := ⟨_, rfl⟩
  have t1 : Touch w W1 (fun _ => False) := hW1 ▸ (Touch.refl _ _).alloc _
  have H := Lib.hid (tuple_any a len cap xs W1 (hr.touch t1 (fun _ _ => .inr (fun h => h))))
  have hy2 : ((whyT xs : Int) != 0) = true := bne_iff_ne.2 (by omega)
  generalize tellT xs = T at *
  generalize tellG xs = G at *
  generalize whyT xs = y at *
  have T1 := Lib.hid t1
  clear hr t1
  simp only [kcs] at hW1 ⊢
  go_enter Try.func26, Try.ntmps26
  go_wp2_with fail
  (with_reducible refine H.out.mono ?_)
  rintro e w2 ⟨rfl, t2⟩
  have TT := Lib.hid (T1.out.trans t2 (fun _ _ h => h))
  clear H t2 hW1
  simp only [tv, tcs, hv]
  go_wp2_with fail
  go_ret
  exact ⟨rfl, (TT.out.alloc _).alloc _⟩
theorem tcp_long {xs : List Nat} (h : whyT xs = 0) (hp : (tellT xs).proto = 6) : 4 * (tellG xs).ihl + 20 ≤ xs.length ∧ (tellG xs).ihl < 16 := by
  have hf : whyF xs = 0 := by
    unfold whyT at h
    by_cases hf : whyF xs = 0
    · exact hf
    · rw [if_neg hf] at h; exact h
  have e1 : (tellT xs).proto = (tellH xs).proto := by unfold tellT; rw [if_pos h]
  have e2 : tellG xs = tellH xs := by unfold tellG; rw [if_pos h]
  have e3 : tellH xs = hdr xs := by unfold tellH; rw [if_pos hf]
  rw [e1] at hp
  have hr : refF (tellH xs).flags (tellH xs).off (tellH xs).proto (tellY xs) = 0 := by unfold whyT at h; rwa [if_pos hf] at h
  rw [hp] at hr
  have hy : 20 ≤ (tellY xs).length := by
    unfold refF at hr
    by_cases h1 : wholeB (tellH xs).flags (tellH xs).off = false
    · rw [if_pos h1] at hr; omega
    · rw [if_neg h1, if_neg (by omega)] at hr
      by_cases h2 : tcpB (tellY xs) = false
      · rw [if_pos ⟨rfl, h2⟩] at hr; omega
      · unfold tcpB at h2
        by_cases h3 : (tellY xs).length < 20
        · rw [if_pos h3] at h2; exact absurd rfl h2
        · omega
  unfold tellY at hy
  rw [if_pos hf] at hy
  obtain ⟨z1, z2, z3, z4, z5, z6, z7⟩ := why_zero hf
  rw [e2, e3]
  refine ⟨?_, ?_⟩
  · simp at hy; omega
  · show gb xs 0 % 16 < 16; omega
/-- Is it this tuple? -/
def isK (T : Tup) (k : KArg) : Prop := (T.src : Int) = k.src ∧ (T.dst : Int) = k.dst ∧ (T.proto : Int) = k.proto ∧ (T.sport : Int) = k.sport ∧ (T.dport : Int) = k.dport
set_option maxRecDepth 20000 in
set_option maxHeartbeats 4000000 in
theorem ends_ok (k : KArg) (a : Option Addr) (len cap : Nat) (xs : List Nat) (w : World) (hr : RowB w a len cap xs) (hy : whyT xs = 0) :
    Calls Try.prog 26 #[.agg (kcs k), .slice a len cap] w fun e w' => ∃ v : Bool, e = .returned (.bool v) ∧ (v = true ↔ (isK (tellT xs) k ∧ k.proto = 6 ∧ bits BinOp.and IntKind.u8 (gb xs (4 * (tellG xs).ihl + 13) : Nat) 5 ≠ 0)) ∧ Touch w w' (fun _ => False) := by
  obtain ⟨W1, hW1⟩ : ∃ W, w.alloc (.cells (kcs k) 43) = W := ⟨_, rfl⟩
  have t1 : Touch w W1 (fun _ => False) := hW1 ▸ (Touch.refl _ _).alloc _
  have hk : W1.heap[w.heap.size]? = some _ := hW1 ▸ heap_alloc_new w _
  have hr1 := hr.touch t1 (fun _ _ => .inr (fun h => h))
  have H := Lib.hid (tuple_any a len cap xs W1 hr1)
  have hy2 : ((whyT xs : Int) != 0) = false := by simp [hy]
  have hl := @tcp_long xs hy
  have hx := hr.1
  generalize tellT xs = T at *
  generalize tellG xs = G at *
  generalize whyT xs = y at *
  have T1 := Lib.hid t1
  have HK := Lib.hid hk
  have HR := Lib.hid hr1
  have HL := Lib.hid hl
  have HX := Lib.hid hx
  clear hr t1 hk hr1 hl hx
  simp only [kcs] at hW1 ⊢
  go_enter Try.func26, Try.ntmps26
  go_wp2_with fail
  (with_reducible refine H.out.mono ?_)
  rintro e w2 ⟨rfl, t2⟩
  have TT := Lib.hid (T1.out.trans t2 (fun _ _ h => h))
  have hk2 := t2.keeps HK.out (fun h => h)
  have HR := Lib.hid (HR.out.touch t2 (fun _ _ => .inr (fun h => h)))
  have k0 := cell_of_cells hk2 0
  have k1 := cell_of_cells hk2 1
  have k2 := cell_of_cells hk2 2
  have k3 := cell_of_cells hk2 3
  have k4 := cell_of_cells hk2 4
  simp [kcs] at k0 k1 k2 k3 k4
  have hlt := heap_lt hk2
  clear H t2 hW1 hk2
  simp only [tv, tcs, hv]
  by_cases hT : (T.proto : Int) = 6
  · have hl := HL.out (by omega)
    obtain ⟨b, off, rfl⟩ := HR.out.some (by have := HX.out; omega)
    have hx := HX.out
    have cb := HR.out.gb (4 * G.ihl + 13) (by omega)
    have hbl : b < w2.heap.size := by
      rcases HR.out.lt _ rfl with h0 | h0
      · omega
      · exact h0
    have b13 := gb_lt xs HR.out.2.2.2.2.1 (4 * G.ihl + 13)
    have i1 : (0 : Int) ≤ 4 * (G.ihl : Int) + 13 := by omega
    have i2 : 4 * (G.ihl : Int) + 13 < (len : Int) := by omega
    have i3 : (G.ihl : Int) < 16 := by omega
    have e1 : (4 * (G.ihl : Int) + 13).toNat = 4 * G.ihl + 13 := by omega
    clear hl hx
    go_wp2_with fail
    all_goals (go_ret; refine ⟨_, rfl, ?_, (TT.out.alloc _).alloc _⟩; unfold isK; (first | (simp_all; done) | (simp_all; omega)))
  · go_wp2_with fail
    all_goals (first | (go_ret; refine ⟨_, rfl, ?_, (TT.out.alloc _).alloc _⟩; unfold isK; (first | (simp_all; done) | (simp_all; omega))) | (exfalso; simp_all; done) | (exfalso; simp_all; omega))
end Go.Proofs.Ythjdebcjfpokoaa
