/- DiskCopies holds: a copy goes on by itself. -/
import Derived.Test.YtmokcfmlolohaaaIAZ
import Derived.Test.YtmokcfmlolohaaaRdkCpZ
import Derived.Test.YtmokcfmlolohaaaFrDiskCopiesZ
set_option linter.unusedVariables false
set_option linter.unusedSimpArgs false
namespace Go.Proofs.Ytmokcfmlolohaaa
open Go.RowKit

set_option maxRecDepth 20000 in
set_option maxHeartbeats 16000000 in
theorem copies3_walk (a a2 : Option Addr) (n c n2 c2 : Nat) (L L2 : List CallB) (w : World) (hr : RowS w a n c 5 (L.map CallB.cells)) (hok : ∀ k ∈ L, CallKOk k.c ∧ RowB w k.a k.l k.cp k.xs) (hr2 : RowS w a2 n2 c2 5 (L2.map CallB.cells)) (hok2 : ∀ k ∈ L2, CallKOk k.c ∧ RowB w k.a k.l k.cp k.xs) :
    Calls Try.prog 7 #[.slice a n c, .slice a2 n2 c2] w fun e w' => e = .returned (.bool true) ∧ Touch w w' (fun _ => False) := by
  have HSH := Lib.hid (dshort_any w a n c L hr (fun k hk => ⟨(hok k hk).2.2.2.2.1, (hok k hk).1.name, (hok k hk).1.tn⟩))
  have HSH2 : RowKit.Hid (∀ W, Touch w W (fun _ => False) → Calls Try.prog 12 #[.slice a2 n2 c2] W fun e w' => e = .returned (.bool (shortOk L2)) ∧ Touch W w' (fun _ => False)) := Lib.hid (fun W t => dshort_any W a2 n2 c2 L2 (hr2.still t) (fun k hk => ⟨(hok2 k hk).2.2.2.2.1, (hok2 k hk).1.name, (hok2 k hk).1.tn⟩))
  have hLl : L.length = n := by have := hr.hlen; simpa using this
  have hLl2 : L2.length = n2 := by have := hr2.hlen; simpa using this
  have hnc := hr.hcap
  have hnm := hr.hmax
  have hnc2 := hr2.hcap
  have hnm2 := hr2.hmax
  have HR := Lib.hid hr
  have HOK := Lib.hid hok
  have HLL := Lib.hid hLl
  have HR2 := Lib.hid hr2
  have HOK2 := Lib.hid hok2
  have HLL2 := Lib.hid hLl2
  clear hr hok hLl hr2 hok2 hLl2
  go_enter Try.func7, Try.ntmps7
  go_wp2_with fail
  refine HSH.out.mono ?_
  rintro e w0 ⟨rfl, t0⟩
  have HT0 := Lib.hid t0
  clear t0
  cases hb : shortOk L with
  | false =>
    go_wp2_with fail
    refine (awake3 w0).mono ?_
    rintro e w2 ⟨rfl, t2⟩
    have HT := Lib.hid (HT0.out.trans t2 (fun _ _ h => h))
    clear t2
    go_wp2_with fail
    go_ret
    exact ⟨rfl, HT.out⟩
  | true =>
    have h120 : n ≤ 120 := by
      unfold shortOk at hb
      rw [Bool.and_eq_true] at hb
      have := of_decide_eq_true hb.1
      rwa [HLL.out] at this
    have HSM : RowKit.Hid (∀ k ∈ L, k.l ≤ 3000) := Lib.hid (fun k hk => by
      unfold shortOk at hb
      rw [Bool.and_eq_true] at hb
      exact (of_decide_eq_true (List.all_eq_true.1 hb.2 k hk)).1)
    clear hb
    go_wp2_with fail
    refine (HSH2.out _ HT0.out).mono ?_
    rintro e w1 ⟨rfl, t1⟩
    have HT1 := Lib.hid (HT0.out.trans t1 (fun _ _ h => h))
    clear t1
    cases hb : shortOk L2 with
    | false =>
      go_wp2_with fail
      refine (awake3 w1).mono ?_
      rintro e w2 ⟨rfl, t2⟩
      have HT := Lib.hid (HT1.out.trans t2 (fun _ _ h => h))
      clear t2
      go_wp2_with fail
      go_ret
      exact ⟨rfl, HT.out⟩
    | true =>
      have h120b : n2 ≤ 120 := by
        unfold shortOk at hb
        rw [Bool.and_eq_true] at hb
        have := of_decide_eq_true hb.1
        rwa [HLL2.out] at this
      have HSM2 : RowKit.Hid (∀ k ∈ L2, k.l ≤ 3000) := Lib.hid (fun k hk => by
        unfold shortOk at hb
        rw [Bool.and_eq_true] at hb
        exact (of_decide_eq_true (List.all_eq_true.1 hb.2 k hk)).1)
      have HR := Lib.hid (HR.out.still HT1.out)
      have HOK : RowKit.Hid (∀ k ∈ L, CallKOk k.c ∧ RowB w1 k.a k.l k.cp k.xs) := Lib.hid (fun k hk => ⟨(HOK.out k hk).1, (HOK.out k hk).2.touch HT1.out (fun _ _ => .inr (fun h => h))⟩)
      have HT2 := HT1
      clear hb HSH HSH2
      go_wp2_with fail
      (with_reducible refine (dnew_any w1 20000 ⟨by decide, by decide⟩).mono ?_)
      rintro e w2 ⟨d, h2, rfl, n2'⟩
      have HN2 := Lib.hid n2'
      clear n2'
      go_wp2_with fail
      (with_reducible refine (rnew_any w2 20000).mono ?_)
      rintro e w3 ⟨rfl, x3, t3⟩
      obtain ⟨m, hm⟩ : ∃ m, w2.heap.size = m := ⟨_, rfl⟩
      have hb0 := both_new HN2.out x3 t3
      rw [hm] at hb0 ⊢
      have HD : RowKit.Hid (∃ (h : DkH) (hR : RH) (st : DkS) (R : RS) (G : List Nat), Both w1 w3 d m h hR st R G ∧ G.length ≤ 0 ∧ st.C.length ≤ 0) := Lib.hid ⟨_, _, _, _, _, hb0, Nat.le_refl _, Nat.le_refl _⟩
      clear x3 t3 hb0 hm
      go_wp2_with fail
      go_loopw [26] (fun s wr => ∃ (k : Nat) (h : DkH) (hR : RH) (st : DkS) (R : RS) (G : List Nat), k ≤ n ∧ s = .int .i64 k ∧ Both w1 wr d m h hR st R G ∧ G.length ≤ k + 0 ∧ st.C.length ≤ k + 0) (fun s _ => n - (RowKit.intOf s).toNat)
      case atStart =>
        obtain ⟨h, hR, st, R, G, hb, hg, hc⟩ := HD.out
        exact ⟨0, h, hR, st, R, G, Nat.zero_le _, rfl, hb, by omega, by omega⟩
      case round =>
        obtain ⟨k, h, hR, st, R, G, hk, rfl, hb, hg, hc⟩ := hrel
        have HB := Lib.hid hb
        clear hb
        by_cases hlt : k < n
        case neg =>
          obtain rfl : n = k := by omega
          have hlI : ¬ (n : Int) < n := by omega
          obtain ⟨wA, hwA⟩ : ∃ W, W = wr := ⟨_, rfl⟩
          rw [← hwA] at HB ⊢
          have HCY := Lib.hid (dcopy_any wA d h st HB.out.n.m HB.out.cx (by omega))
          have HBD := HB
          have HGD : RowKit.Hid (G.length ≤ 120 ∧ st.C.length ≤ 120) := Lib.hid ⟨by omega, by omega⟩
          have HTA := Lib.hid (HT2.out.trans HB.out.n.t (fun _ _ h => h))
          clear hwA hg hc HD
          go_wp2_with fail
          (with_reducible refine HCY.out.mono ?_)
          rintro e w3 ⟨tw, h', E, rfl, n3, o3⟩
          have b3 := cp_both HB.out n3 o3
          have HL := Lib.hid (rlike_any w1 w3 tw m h' hR (cpS st E) R (G.map (phE E)) b3 (by rw [List.length_map]; have := HGD.out.1; omega) (by show (st.C.map _).length ≤ _; rw [List.length_map]; have := HGD.out.2; omega))
          have HN3 := Lib.hid (And.intro n3 o3)
          clear n3 o3 b3
          go_wp2_with fail
          (with_reducible refine HL.out.mono ?_)
          rintro e w6 ⟨rfl, t6⟩
          have n6 := HN3.out.1.still t6
          have HCX := Lib.hid (rcopy_any w6 m hR R ((HB.out.x.still HN3.out.1.t).still t6))
          have HN6 := Lib.hid n6
          clear n6 t6
          go_wp2_with fail
          (with_reducible refine HCX.out.mono ?_)
          rintro e w7 ⟨rfl, x7, t7⟩
          obtain ⟨y, hy⟩ : ∃ y, w6.heap.size = y := ⟨_, rfl⟩
          have b7 := cp_both2 HB.out HN6.out HN3.out.2 t7 rfl x7
          rw [hy] at b7 ⊢
          have HD7 : RowKit.Hid (∃ (h : DkH) (hR : RH) (st : DkS) (R : RS) (G : List Nat), Both wA w7 tw y h hR st R G ∧ G.length ≤ 120 ∧ st.C.length ≤ 120) := Lib.hid ⟨_, _, _, _, _, b7, by rw [List.length_map]; exact HGD.out.1, by show (st.C.map _).length ≤ _; rw [List.length_map]; exact HGD.out.2⟩
          have HR2 := Lib.hid (HR2.out.still HTA.out)
          have HOK2 : RowKit.Hid (∀ k ∈ L2, CallKOk k.c ∧ RowB wA k.a k.l k.cp k.xs) := Lib.hid (fun k hk => ⟨(HOK2.out k hk).1, (HOK2.out k hk).2.touch HTA.out (fun _ _ => .inr (fun h => h))⟩)
          clear x7 t7 b7 hy
          go_wp2_with fail
          go_loopw [49] (fun s wr => ∃ (k : Nat) (h : DkH) (hR : RH) (st : DkS) (R : RS) (G : List Nat), k ≤ n2 ∧ s = .int .i64 k ∧ Both wA wr tw y h hR st R G ∧ G.length ≤ k + 120 ∧ st.C.length ≤ k + 120) (fun s _ => n2 - (RowKit.intOf s).toNat)
          case atStart =>
            obtain ⟨h, hR, st, R, G, hb, hg, hc⟩ := HD7.out
            exact ⟨0, h, hR, st, R, G, Nat.zero_le _, rfl, hb, by omega, by omega⟩
          case round =>
            obtain ⟨k, h, hR, st, R, G, hk, rfl, hb, hg, hc⟩ := hrel
            have HB := Lib.hid hb
            clear hb
            by_cases hlt : k < n2
            case neg =>
              obtain rfl : n2 = k := by omega
              have hlI : ¬ (n2 : Int) < n2 := by omega
              obtain ⟨wB, hwB⟩ : ∃ W, W = wr := ⟨_, rfl⟩
              rw [← hwB] at HB ⊢
              have hbd := HBD.out.still HB.out.n.t
              have HL1 := Lib.hid (rlike_any w1 wB d m _ _ _ _ _ hbd (by have := HGD.out.1; omega) (by have := HGD.out.2; omega))
              have HGB : RowKit.Hid (G.length ≤ 50000 ∧ st.C.length ≤ 50000) := Lib.hid ⟨by omega, by omega⟩
              clear hbd hg hc hwB
              go_wp2_with fail
              (with_reducible refine HL1.out.mono ?_)
              rintro e w8 ⟨rfl, t8⟩
              have HB8 := Lib.hid (HB.out.still t8)
              clear t8
              go_wp2_with fail
              (with_reducible refine (rlike_any wA w8 tw y _ _ _ _ _ HB8.out HGB.out.1 HGB.out.2).mono ?_)
              rintro e w9 ⟨rfl, t9⟩
              have HT9 := Lib.hid (HTA.out.trans (HB8.out.n.t.trans t9 (fun _ _ h => h)) (fun _ _ h => h))
              clear t9
              go_wp2_with fail
              (with_reducible refine (awake3 w9).mono ?_)
              rintro e w10 ⟨rfl, t10⟩
              have HT10 := Lib.hid (HT9.out.trans t10 (fun _ _ h => h))
              clear t10
              go_wp2_with fail
              go_ret
              exact ⟨rfl, HT10.out⟩
            case pos =>
              have hlI : (k : Int) < n2 := by omega
              have hkL : k < L2.length := by rw [HLL2.out]; exact hlt
              have r1 := HR2.out.still (HB.out.n.t)
              obtain ⟨b1, o1, e1⟩ := r1.some (by omega)
              rw [e1] at r1
              obtain ⟨p0, p1, p2, p3, p4⟩ := callB_cells r1 k hkL
              obtain ⟨hok1, hrow⟩ := HOK2.out _ (List.getElem_mem hkL)
              have hsm := HSM2.out _ (List.getElem_mem hkL)
              obtain ⟨qq, hqq⟩ : ∃ q, L2[k] = q := ⟨_, rfl⟩
              rw [hqq] at p0 p1 p2 p3 p4 hok1 hrow hsm
              obtain ⟨⟨q0, q1, q2, q3⟩, qa, ql, qc, qx⟩ := qq
              simp only at p0 p1 p2 p3 p4 hok1 hrow hsm
              have hwk : wrap64 ((k : Int) + 1) = (k : Int) + 1 := by unfold wrap64; omega
              have HWK := Lib.hid hwk
              obtain ⟨W4, hW4⟩ : ∃ W, wr.alloc (.cells #[.int .i64 q0, .int .i64 q1, .string q2, .string q3, .slice qa ql qc] 31) = W := ⟨_, rfl⟩
              have g4 : W4.heap[wr.heap.size]? = some (.cells #[.int .i64 q0, .int .i64 q1, .string q2, .string q3, .slice qa ql qc] 31 (0, 0)) := hW4 ▸ heap_alloc_new ..
              have t4 : Touch wr W4 (fun _ => False) := hW4 ▸ (Touch.refl wr _).alloc _
              have HDO := Lib.hid (rdo_any wA W4 tw y h hR st R G (HB.out.still t4) (by omega) (by omega) ⟨q0, q1, q2, q3⟩ qa ql qc qx hok1 hsm hrow)
              unfold CallK.agg at HDO
              simp only at HDO
              have HW4 := Lib.hid hW4
              have HGC : RowKit.Hid (G.length ≤ k + 120 ∧ st.C.length ≤ k + 120) := Lib.hid ⟨hg, hc⟩
              rw [e1]
              clear r1 hqq hwk hok1 hrow hsm t4 hg hc hW4
              go_upto_region 16 with (fail)
              try rw [HW4.out]
              have y0 : W4.cell? ⟨wr.heap.size, 0, none⟩ = some (.int .i64 q0) := cell_of_cells g4 0
              have y1 : W4.cell? ⟨wr.heap.size, 1, none⟩ = some (.int .i64 q1) := cell_of_cells g4 1
              have y2 : W4.cell? ⟨wr.heap.size, 2, none⟩ = some (.string q2) := cell_of_cells g4 2
              have y3 : W4.cell? ⟨wr.heap.size, 3, none⟩ = some (.string q3) := cell_of_cells g4 3
              have y4 : W4.cell? ⟨wr.heap.size, 4, none⟩ = some (.slice qa ql qc) := cell_of_cells g4 4
              clear p0 p1 p2 p3 p4 g4 HW4
              go_wp2_with fail
              (with_reducible refine HDO.out.mono ?_)
              rintro e w5 ⟨rfl, ⟨h2', hR2, st2, R2, G2, b2, hG2, hC2⟩, t5⟩
              have HX : RowKit.Hid (∃ (k' : Nat) (h : DkH) (hR : RH) (st : DkS) (R : RS) (G : List Nat), k' ≤ n2 ∧ Value.int .i64 ((k : Int) + 1) = .int .i64 k' ∧ Both wA w5 tw y h hR st R G ∧ G.length ≤ k' + 120 ∧ st.C.length ≤ k' + 120) := Lib.hid ⟨k + 1, _, _, _, _, _, by omega, by go_num, b2, by have := HGC.out.1; omega, by have := HGC.out.2; omega⟩
              clear b2 t5 hG2 hC2 y0 y1 y2 y3 y4
              go_wp2_with fail
              (try rw [HWK.out])
              go_roundw
              · exact HX.out
              · simp only [RowKit.intOf]; omega
        case pos =>
          have hlI : (k : Int) < n := by omega
          have hkL : k < L.length := by rw [HLL.out]; exact hlt
          have r1 := HR.out.still (HB.out.n.t)
          obtain ⟨b1, o1, e1⟩ := r1.some (by omega)
          rw [e1] at r1
          obtain ⟨p0, p1, p2, p3, p4⟩ := callB_cells r1 k hkL
          obtain ⟨hok1, hrow⟩ := HOK.out _ (List.getElem_mem hkL)
          have hsm := HSM.out _ (List.getElem_mem hkL)
          obtain ⟨qq, hqq⟩ : ∃ q, L[k] = q := ⟨_, rfl⟩
          rw [hqq] at p0 p1 p2 p3 p4 hok1 hrow hsm
          obtain ⟨⟨q0, q1, q2, q3⟩, qa, ql, qc, qx⟩ := qq
          simp only at p0 p1 p2 p3 p4 hok1 hrow hsm
          have hwk : wrap64 ((k : Int) + 1) = (k : Int) + 1 := by unfold wrap64; omega
          have HWK := Lib.hid hwk
          obtain ⟨W4, hW4⟩ : ∃ W, wr.alloc (.cells #[.int .i64 q0, .int .i64 q1, .string q2, .string q3, .slice qa ql qc] 31) = W := ⟨_, rfl⟩
          have g4 : W4.heap[wr.heap.size]? = some (.cells #[.int .i64 q0, .int .i64 q1, .string q2, .string q3, .slice qa ql qc] 31 (0, 0)) := hW4 ▸ heap_alloc_new ..
          have t4 : Touch wr W4 (fun _ => False) := hW4 ▸ (Touch.refl wr _).alloc _
          have HDO := Lib.hid (rdo_any w1 W4 d m h hR st R G (HB.out.still t4) (by omega) (by omega) ⟨q0, q1, q2, q3⟩ qa ql qc qx hok1 hsm hrow)
          unfold CallK.agg at HDO
          simp only at HDO
          have HW4 := Lib.hid hW4
          have HGC : RowKit.Hid (G.length ≤ k + 0 ∧ st.C.length ≤ k + 0) := Lib.hid ⟨hg, hc⟩
          rw [e1]
          clear r1 hqq hwk hok1 hrow hsm t4 hg hc hW4
          go_upto_region 7 with (fail)
          try rw [HW4.out]
          have y0 : W4.cell? ⟨wr.heap.size, 0, none⟩ = some (.int .i64 q0) := cell_of_cells g4 0
          have y1 : W4.cell? ⟨wr.heap.size, 1, none⟩ = some (.int .i64 q1) := cell_of_cells g4 1
          have y2 : W4.cell? ⟨wr.heap.size, 2, none⟩ = some (.string q2) := cell_of_cells g4 2
          have y3 : W4.cell? ⟨wr.heap.size, 3, none⟩ = some (.string q3) := cell_of_cells g4 3
          have y4 : W4.cell? ⟨wr.heap.size, 4, none⟩ = some (.slice qa ql qc) := cell_of_cells g4 4
          clear p0 p1 p2 p3 p4 g4 HW4
          go_wp2_with fail
          (with_reducible refine HDO.out.mono ?_)
          rintro e w5 ⟨rfl, ⟨h2', hR2, st2, R2, G2, b2, hG2, hC2⟩, t5⟩
          have HX : RowKit.Hid (∃ (k' : Nat) (h : DkH) (hR : RH) (st : DkS) (R : RS) (G : List Nat), k' ≤ n ∧ Value.int .i64 ((k : Int) + 1) = .int .i64 k' ∧ Both w1 w5 d m h hR st R G ∧ G.length ≤ k' + 0 ∧ st.C.length ≤ k' + 0) := Lib.hid ⟨k + 1, _, _, _, _, _, by omega, by go_num, b2, by have := HGC.out.1; omega, by have := HGC.out.2; omega⟩
          clear b2 t5 hG2 hC2 y0 y1 y2 y3 y4
          go_wp2_with fail
          (try rw [HWK.out])
          go_roundw
          · exact HX.out
          · simp only [RowKit.intOf]; omega
theorem diskCopies_holds : Rows.DiskCopiesSaid := by
  refine diskCopies.said fun H enc W base v0 v1 d0 d1 p0 p1 h0 h1 => ?_
  obtain ⟨a, cap, L, rfl, hL, hok⟩ := h0.callsK
  obtain ⟨a2, cap2, L2, rfl, hL2, hok2⟩ := h1.callsK
  exact (copies3_walk a a2 L.length cap L2.length cap2 L L2 W hL hok hL2 hok2).mono fun e w' h => ⟨h.1, h.2.below (fun _ _ h => h.elim) (Nat.le_refl _)⟩
end Go.Proofs.Ytmokcfmlolohaaa
