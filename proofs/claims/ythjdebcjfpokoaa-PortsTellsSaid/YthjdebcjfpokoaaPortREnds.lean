/- What the reference's Ends answers. -/
import Derived.Test.YthjdebcjfpokoaaPortRTup
import Derived.Test.YthjdebcjfpokoaaPortAwake
set_option linter.unusedVariables false
namespace Go.Proofs.Ythjdebcjfpokoaa
open Go.RowKit

/-- Where somebody speaks by TCP, what is behind the header has its flags. -/
theorem tcp_body {xs : List Nat} (h : whyT xs = 0) (hp : (tellT xs).proto = 6) : 14 ≤ (tellY xs).length ∧ gb (tellY xs) 13 = gb xs (4 * (tellG xs).ihl + 13) := by
  have hf : whyF xs = 0 := by
    unfold whyT at h
    by_cases hf : whyF xs = 0
    · exact hf
    · rw [if_neg hf] at h; exact h
  have e1 : (tellT xs).proto = (tellH xs).proto := by unfold tellT; rw [if_pos h]
  have e2 : tellG xs = tellH xs := by unfold tellG; rw [if_pos h]
  have e3 : tellH xs = hdr xs := by unfold tellH; rw [if_pos hf]
  rw [e1] at hp
  have hr : refF (tellH xs).flags (tellH xs).off (tellH xs).proto (tellY xs) = 0 := by unfold whyT at h; rwa [if_pos hf] at h
  rw [hp] at hr
  have hy : 20 ≤ (tellY xs).length := by
    unfold refF at hr
    by_cases h1 : wholeB (tellH xs).flags (tellH xs).off = false
    · rw [if_pos h1] at hr; omega
    · rw [if_neg h1, if_neg (by omega)] at hr
      by_cases h2 : tcpB (tellY xs) = false
      · rw [if_pos ⟨rfl, h2⟩] at hr; omega
      · unfold tcpB at h2
        by_cases h3 : (tellY xs).length < 20
        · rw [if_pos h3] at h2; exact absurd rfl h2
        · omega
  refine ⟨by omega, ?_⟩
  rw [e2, e3]
  have hY : tellY xs = (xs.take (hdr xs).len).drop (4 * (hdr xs).ihl) := by unfold tellY; rw [if_pos hf]
  rw [hY] at hy ⊢
  unfold gb
  rw [List.getD_eq_getElem?_getD, List.getD_eq_getElem?_getD, List.getElem?_drop, List.getElem?_take_of_lt (by simp at hy; omega)]

set_option maxRecDepth 20000 in
set_option maxHeartbeats 8000000 in
theorem rends_any (k : KArg) (a : Option Addr) (len cap : Nat) (xs : List Nat) (w : World) (hr : RowB w a len cap xs) (hlen : len ≤ 140737488351232) :
    Calls Try.prog 27 #[.agg (kcs k), .slice a len cap] w fun e w' => e = .returned (.bool (endsB k xs)) ∧ Touch w w' (fun _ => False) := by
  obtain ⟨W1, hW1⟩ : ∃ W, w.alloc (.cells (kcs k) 43) = W := ⟨_, rfl⟩
  have t1 : Touch w W1 (fun _ => False) := hW1 ▸ (Touch.refl _ _).alloc _
  have HK : RowKit.Hid (W1.heap[w.heap.size]? = some (.cells (kcs k) 43 (0, 0))) := Lib.hid (hW1 ▸ heap_alloc_new w _)
  have hr1 := hr.touch t1 (fun _ _ => .inr (fun h => h))
  have H := Lib.hid (rtuple_any a len cap xs W1 hr1 hlen)
  have hb := @tcp_body xs
  have HP := Lib.hid (fun W h => rparse_is a len cap xs W h hlen)
  have hE : endsB k xs = true ↔ (whyT xs = 0 ∧ isK (tellT xs) k ∧ k.proto = 6 ∧ bits BinOp.and IntKind.u8 (gb xs (4 * (tellG xs).ihl + 13) : Nat) 5 ≠ 0) := by unfold endsB; rw [decide_eq_true_iff]; exact Iff.rfl
  have HF := Lib.hid (fun (h1 : whyT xs = 0) (h2 : (tellT xs).proto = 6) => (hb h1 h2).2)
  have HB := Lib.hid (fun (h1 : whyT xs = 0) (h2 : (tellT xs).proto = 6) => (hb h1 h2).1)
  clear hb
  generalize tellY xs = ys at *
  generalize tellH xs = h' at *
  generalize whyF xs = y' at *
  generalize gb xs (4 * (tellG xs).ihl + 13) = fb at *
  generalize endsB k xs = E at *
  generalize tellT xs = T at *
  generalize tellG xs = G at *
  generalize hyT : whyT xs = y at *
  have HR1 := Lib.hid hr1
  have HT := Lib.hid t1
  have HW1 := Lib.hid hW1
  have HE := Lib.hid hE
  clear hr hr1 t1 hW1 hE
  by_cases hy : y = 0
  case neg =>
    have hyn : ((y : Int) != 0) = true := bne_iff_ne.2 (by omega)
    have hEf : E = false := by
      cases E with
      | false => rfl
      | true => exact absurd (HE.out.1 rfl).1 hy
    subst hEf
    clear HE HF HB
    simp only [kcs] at HW1 ⊢
    go_enter Try.func27, Try.ntmps27
    go_upto_region 1 with fail
    rw [HW1.out]
    go_wp2_with fail
    (with_reducible refine H.out.mono ?_)
    rintro e w2 ⟨rfl, t2⟩
    have HT := Lib.hid (HT.out.trans t2 (fun _ _ h => h))
    simp only [tv, tcs, hv]
    clear H t2
    go_wp2_with fail
    go_ret
    exact ⟨rfl, (HT.out.alloc _).alloc _⟩
  case pos =>
    have hyn : ((y : Int) != 0) = false := by simp [hy]
    have HE2 : RowKit.Hid (E = true ↔ (isK T k ∧ k.proto = 6 ∧ bits BinOp.and IntKind.u8 (fb : Nat) 5 ≠ 0)) := Lib.hid (by rw [HE.out]; exact ⟨fun h => h.2, fun h => ⟨hy, h⟩⟩)
    clear HE
    simp only [kcs] at HW1 ⊢
    go_enter Try.func27, Try.ntmps27
    go_upto_region 1 with fail
    rw [HW1.out]
    go_wp2_with fail
    (with_reducible refine H.out.mono ?_)
    rintro e w2 ⟨rfl, t2⟩
    have hk2 := t2.keeps HK.out (fun h => h)
    obtain ⟨k0, k1, k2, k3, k4⟩ := kcells_of hk2
    have hlt := heap_lt hk2
    have HT := Lib.hid (HT.out.trans t2 (fun _ _ h => h))
    have HR := Lib.hid (HR1.out.touch t2 (fun _ _ => .inr (fun h => h)))
    simp only [tv, tcs, hv]
    clear H t2 hk2
    by_cases hT : (T.proto : Int) = 6
    case neg =>
      clear HF HB HP
      go_wp2_with fail
      all_goals (first | (go_ret; refine ⟨?_, (HT.out.alloc _).alloc _⟩; have hE := HE2.out; clear HE2; unfold isK at hE; (first | (simp_all; done) | (simp_all; omega))) | (exfalso; simp_all; done) | (exfalso; simp_all; omega))
    case pos =>
      have HF := Lib.hid (HF.out hy (by omega))
      have hb14 := HB.out hy (by omega)
      clear HB
      go_wp2_with fail
      all_goals (try (first
        | (go_ret; refine ⟨?_, (HT.out.alloc _).alloc _⟩; have hE := HE2.out; clear HE2; unfold isK at hE; (first | (simp_all; done) | (simp_all; omega)))
        | (exfalso; simp_all; done) | (exfalso; simp_all; omega)))
      (with_reducible refine (HP.out _ (HR.out.touch (((Touch.refl w2 (fun _ => False)).alloc _).alloc _) (fun _ _ => .inr (fun h => h)))).mono ?_)
      rintro e w5 ⟨a5, c5, rfl, hr5, t5, hb5⟩
      obtain ⟨b5, o5, rfl⟩ := hr5.some (by omega)
      have c13 := hr5.gb 13 (by omega)
      rw [HF.out] at c13
      have b13 := gb_lt ys hr5.2.2.2.2.1 13
      rw [HF.out] at b13
      have i13 : (13 : Int) < ys.length := by omega
      have T5 := Lib.hid (((HT.out.alloc _).alloc _).trans t5 (fun _ _ h => h))
      have l5 : b5 < w5.heap.size := (hr5.lt _ rfl).resolve_left (by omega)
      simp only [hv]
      clear hr5 t5 hb5
      go_wp2_with fail
      go_ret
      refine ⟨?_, T5.out.alloc _⟩
      have hE := HE2.out
      clear HE2
      unfold isK at hE
      generalize bits BinOp.and IntKind.u8 (fb : Int) 5 = z at *
      have e : (z != (0 : Int)) = E := by
        by_cases hz : z = 0
        · have : E = false := by
            cases E with
            | false => rfl
            | true => exact absurd hz (hE.1 rfl).2.2
          rw [this, hz]; rfl
        · have : E = true := hE.2 ⟨⟨by omega, by omega, by omega, by omega, by omega⟩, by omega, hz⟩
          rw [this]; exact bne_iff_ne.2 hz
      rw [← e]; rfl
end Go.Proofs.Ythjdebcjfpokoaa
