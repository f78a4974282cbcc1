/- Records: what the reference's Encode answers for a set of backends. -/
import Derived.Test.YtbklngcocbnijaaRecREncZ
import Derived.Deep.CutBlock
set_option linter.unusedVariables false
set_option linter.unusedSimpArgs false
namespace Go.Proofs.Ytbklngcocbnijaa
open Go.RowKit

theorem bq_of {w : World} {B : Nat} {x : BkD} {T : TypeId} (hb : w.heap[B]? = some (.cells #[.int .i64 x.id, .int .u32 x.addr, .int .i64 x.weight] T (0, 0))) :
    w.cell? ⟨B, 0, none⟩ = some (.int .i64 x.id) ∧ w.cell? ⟨B, 1, none⟩ = some (.int .u32 x.addr) ∧ w.cell? ⟨B, 2, none⟩ = some (.int .i64 x.weight) := ⟨cell_of_cells hb 0, cell_of_cells hb 1, cell_of_cells hb 2⟩
/-- At the head of the loop over the backends. -/
def EnAt (w W1 W2 : World) (r : RecD) (a : Option Addr) (cap : Nat) (xs : List Nat) (b : Value) (wr : World) : Prop :=
  ∃ a9 c9, b = .slice a9 xs.length c9 ∧ OwnB wr W2.heap.size 5 (.slice a9 xs.length c9) xs ∧ Touch w wr (fun _ => False) ∧ Touch W2 wr (fun _ => False) ∧ wr.heap[w.heap.size]? = some (.cells (rcs r a cap) 29 (0, 0)) ∧ wr.heap[W1.heap.size]? = some (.cells (f3 0 0 none 0 0) 39 (0, 0))
set_option maxRecDepth 20000 in
set_option maxHeartbeats 8000000 in
theorem renc_k3 (r : RecD) (a : Option Addr) (cap : Nat) (v : Int) (w : World) (hr : RowK w a r.bs.length cap r.bs) (hl : r.bs.length ≤ 100000) (ok : RecOk r) (hv : verB v = true) (hm : mayRB r = true) (hk : r.kind = 3) :
    Calls Try.prog 25 #[.agg (rcs r a cap), .int .i64 v] w (EncIs w r v) := by
  have he : encE r v = 0 := by unfold encE; rw [if_pos hv, if_pos hm]
  have less := less_of hm
  have hlen := bodyF_le r v hm
  have hX : EncIs w r v = fun e w' => ∃ (a' : Option Addr) (c' : Nat), e = .returned (.tuple #[.agg (f3 3 v a' (bodyF r v).length c'), .int .i64 0]) ∧ FreshB w w' (.slice a' (bodyF r v).length c') (bodyF r v) := by
    funext e w'
    unfold EncIs encK encV encB
    rw [if_pos he, if_pos he, if_pos he, he, hk]
  have hbd : bodyF r v = beB 4 (u64N r.gen) ++ (beB 1 (u64N r.bs.length) ++ bksF v r.bs) := by unfold bodyF; rw [if_neg (by omega), if_neg (by omega), if_pos hk]
  obtain ⟨W1, hW1⟩ : ∃ W, w.alloc (.cells (rcs r a cap) 29) = W := ⟨_, rfl⟩
  obtain ⟨W2, hW2⟩ : ∃ W, W1.alloc (.cells #[.int .i64 0, .int .i64 0, .slice none 0 0] 39) = W := ⟨_, rfl⟩
  have t1 : Touch w W1 (fun _ => False) := hW1 ▸ (Touch.refl _ _).alloc _
  have t2 : Touch W1 W2 (fun _ => False) := hW2 ▸ (Touch.refl _ _).alloc _
  have HB : RowKit.Hid (W2.heap[w.heap.size]? = some (.cells (rcs r a cap) 29 (0, 0))) := Lib.hid (t2.keeps (hW1 ▸ heap_alloc_new w _) (fun h => h))
  have HF : RowKit.Hid (W2.heap[W1.heap.size]? = some (.cells (f3 0 0 none 0 0) 39 (0, 0))) := Lib.hid (hW2 ▸ heap_alloc_new W1 _)
  have HT := Lib.hid (t1.trans t2 (fun _ _ h => h))
  have HR := Lib.hid ((hr.still t1).still t2)
  have HIR := Lib.hid infoRec
  have HIF := Lib.hid infoFr
  have HSZ : RowKit.Hid (w.heap.size < W1.heap.size ∧ W1.heap.size < W2.heap.size) := Lib.hid ⟨by rw [← hW1]; simp, by rw [← hW2]; simp⟩
  have HV : RowKit.Hid (∀ w, Calls Try.prog 51 #[.int .i64 v] w fun e w' => e = .returned (.bool true) ∧ w = w') := Lib.hid (fun w => (rversion_any v w).mono fun e w' h => ⟨hv ▸ h.1, h.2.symm⟩)
  have HM : RowKit.Hid (Calls Try.prog 19 #[.agg (rcs r a cap)] W2 fun e w' => e = .returned (.bool true) ∧ Touch W2 w' (fun _ => False)) := Lib.hid (hm ▸ rmay_any r a cap W2 HR.out hl)
  have HX := Lib.hid hX
  have HBD := Lib.hid hbd
  have HKD := Lib.hid hk
  have HRW := Lib.hid hr
  have HVV := Lib.hid (verB_cases v hv)
  have HOK := Lib.hid ok
  have HBE : RowKit.Hid (-9223372036854775808 ≤ r.be ∧ r.be ≤ 9223372036854775807) := Lib.hid ok.be
  have HUN : RowKit.Hid (-9223372036854775808 ≤ r.un ∧ r.un ≤ 9223372036854775807) := Lib.hid ok.un
  have HFB : RowKit.Hid (-9223372036854775808 ≤ r.fb ∧ r.fb ≤ 9223372036854775807) := Lib.hid ok.fb
  have HFS : RowKit.Hid (-9223372036854775808 ≤ r.fs ∧ r.fs ≤ 9223372036854775807) := Lib.hid ok.fs
  have HLE := Lib.hid less
  have HLN := Lib.hid hlen
  generalize EncIs w r v = X at *
  clear hX hbd hr t1 t2 he hv hm less hk ok hlen
  simp only [rcs] at hW1
  simp only [rcs]
  go_enter Try.func25, Try.ntmps25
  go_upto_region 6 with (first
    | (go_at_call 51; (with_reducible refine (HV.out _).mono ?_); rintro e w' ⟨rfl, rfl⟩)
    | (refine wpList_load_row rfl 29 (.tmp 2) rfl w.heap.size rfl _ _ _ _ HB.out Try.underlying29 rfl HIR.out ?_)
    | (go_at_call 19; (refine HM.out.mono ?_); rintro e w3 ⟨rfl, t3⟩; have HF := Lib.hid (t3.keeps HF.out (fun h => h)); have HB := Lib.hid (t3.keeps HB.out (fun h => h)); have HR := Lib.hid (HR.out.still t3); have HT := Lib.hid (HT.out.trans t3 (fun _ _ h => h)); have HT2 := Lib.hid t3; clear t3))
  obtain ⟨k0, k1, k2, k3, k4, k5, k6, k7, k8, k9, k10, k11, k12, k13⟩ := rcells_of HB.out
  rw [HKD.out] at k0
  clear HV HM HR
  have hcv := HLE.out.gen HKD.out
  have HMD : RowKit.Hid (IntKind.u32.wrap r.gen = r.gen) := Lib.hid (by rw [IntKind.wrap_u32]; exact Int.emod_eq_of_lt hcv.1 (by omega))
  have HRL : RowKit.Hid (∀ W : World, RowB (W.alloc (.cells #[.int .u8 (IntKind.u8.wrap (r.bs.length : Int))] 5)) (some ⟨W.heap.size, 0, none⟩) 1 1 (beB 1 (u64N r.bs.length))) := Lib.hid (fun W => row_lit W #[.int .u8 (IntKind.u8.wrap (r.bs.length : Int))] 1 (beB 1 (u64N r.bs.length)) (by rw [IntKind.wrap_u8]; exact be_one r.bs.length) (beB_length _ _) (beB_small _ _) (by omega))
  clear hcv
  go_upto_region 17 with fail
  have HT0 := HT
  have HT20 := HT2
  have HB0 := HB
  have HF0 := HF
  have q9 : (w3.alloc (.cells #[.int .u8 (IntKind.u8.wrap (r.bs.length : Int))] 5)).cell? ⟨w.heap.size, 9, none⟩ = some (.int .i64 r.gen) := cell_of_cells (((Touch.refl w3 (fun _ => False)).alloc _).keeps HB0.out (fun h => h)) 9
  have t2 := (Touch.refl w3 (fun _ => False)).drew
  have HT := Lib.hid (HT.out.trans t2 (fun _ _ h => h))
  have HT2 := Lib.hid (HT2.out.trans t2 (fun _ _ h => h))
  have HB := Lib.hid (t2.keeps HB.out (fun h => h))
  have HF := Lib.hid (t2.keeps HF.out (fun h => h))
  clear t2
  go_cut [6] (fun s wx => ∃ a9 c9, s = .slice a9 5 c9 ∧ OwnB wx W2.heap.size 5 (.slice a9 5 c9) (beB 4 (u64N r.gen) ++ beB 1 (u64N r.bs.length)) ∧ Touch w wx (fun _ => False) ∧ Touch W2 wx (fun _ => False) ∧ wx.heap[w.heap.size]? = some (.cells (rcs r a cap) 29 (0, 0)) ∧ wx.heap[W1.heap.size]? = some (.cells (f3 0 0 none 0 0) 39 (0, 0)))
  case first =>
    go_wp2_with fail
    go_region_law (first
      | (have _u := HRA; refine step_appendB rfl _ _ 37 rfl 5 Try.underlying37 infoB W2.heap.size (.slice a62 4 d62) _ rfl HO.out _ _ _ (beB 1 (u64N r.bs.length)) rfl HRA.out 5 ((beB 4 (u64N r.gen) ++ beB 1 (u64N r.bs.length))) rfl (by simp [beB_length]) (by omega) HT2.out.size ?_; intro a68 d68 w68 hown hrow hg hpl; have HT := Lib.hid (HT.out.grown hg (fun j hj hlt => by have h1 := (HO.out.own.lt j hj).1; have h2 := HSZ.out; omega)); have HT2 := Lib.hid (HT2.out.grown hg (fun j hj hlt => by have h1 := (HO.out.own.lt j hj).1; omega)); have HB := Lib.hid ((hg.block w.heap.size (heap_lt HB.out) (fun e => by have h1 := (HO.out.own.lt _ e.symm).1; have h2 := HSZ.out; omega)).trans HB.out); have HF := Lib.hid ((hg.block W1.heap.size (heap_lt HF.out) (fun e => by have h1 := (HO.out.own.lt _ e.symm).1; have h2 := HSZ.out; omega)).trans HF.out); have HO := Lib.hid hown; clear k0 k1 k2 k3 k4 k5 k6 k7 k8 k9 k10 k11 k12 k13; obtain ⟨k0, k1, k2, k3, k4, k5, k6, k7, k8, k9, k10, k11, k12, k13⟩ := rcells_of HB.out; rw [HKD.out] at k0; clear hown hrow hg hpl)
      | (have _u := HO; refine step_appendB rfl _ _ 37 rfl 5 Try.underlying37 infoB W2.heap.size (.slice a62 4 d62) _ rfl (HO.out.touch ((Touch.refl _ (fun _ => False)).alloc _) (fun _ _ h => h)) _ _ _ (beB 1 (u64N r.bs.length)) rfl (HRL.out _) 5 (beB 4 (u64N r.gen) ++ beB 1 (u64N r.bs.length)) rfl (by simp [beB_length]) (by omega) (by have := HT2.out.size; simp; omega) ?_; intro a68 d68 w68 hown hrow hg hpl; have HT := Lib.hid ((HT.out.alloc _).grown hg (fun j hj hlt => by have h1 := (HO.out.own.lt j hj).1; have h2 := HSZ.out; omega)); have HT2 := Lib.hid ((HT2.out.alloc _).grown hg (fun j hj hlt => by have h1 := (HO.out.own.lt j hj).1; omega)); have HB := Lib.hid ((hg.block w.heap.size (by have := heap_lt HB.out; simp; omega) (fun e => by have h1 := (HO.out.own.lt _ e.symm).1; have h2 := HSZ.out; omega)).trans ((Below.heap_alloc _ _ _ (heap_lt HB.out)).trans HB.out)); have HF := Lib.hid ((hg.block W1.heap.size (by have := heap_lt HF.out; simp; omega) (fun e => by have h1 := (HO.out.own.lt _ e.symm).1; have h2 := HSZ.out; omega)).trans ((Below.heap_alloc _ _ _ (heap_lt HF.out)).trans HF.out)); have HO := Lib.hid hown; clear k0 k1 k2 k3 k4 k5 k6 k7 k8 k9 k10 k11 k12 k13; obtain ⟨k0, k1, k2, k3, k4, k5, k6, k7, k8, k9, k10, k11, k12, k13⟩ := rcells_of HB.out; rw [HKD.out] at k0; clear hown hrow hg hpl)
      | (go_simp; go_at_call 57; (try rw [HMD.out]); (with_reducible refine (ref_u32 r.gen _ (HLE.out.gen HKD.out)).mono ?_); rintro e w62 ⟨a62, d62, rfl, hf⟩; have t9 := hf.2; have HO := Lib.hid (hf.1.base (base' := W2.heap.size) (fun j hj => by have h1 := (hf.1.own.lt j hj).1; have h2 := HT2.out.size; omega)); have HT := Lib.hid (HT.out.trans t9 (fun _ _ h => h)); have HT2 := Lib.hid (HT2.out.trans t9 (fun _ _ h => h)); have HB := Lib.hid (t9.keeps HB.out (fun h => h)); have HF := Lib.hid (t9.keeps HF.out (fun h => h)); clear k0 k1 k2 k3 k4 k5 k6 k7 k8 k9 k10 k11 k12 k13; obtain ⟨k0, k1, k2, k3, k4, k5, k6, k7, k8, k9, k10, k11, k12, k13⟩ := rcells_of HB.out; rw [HKD.out] at k0; clear hf t9)
      | (go_simp; go_at_call 57; (try rw [HMD.out]); (with_reducible refine (ref_u32 r.gen _ (HLE.out.gen HKD.out)).mono ?_); rintro e w62 ⟨a62, d62, rfl, hf⟩; have HRA := Lib.hid (((HRL.out w3).touch ((Touch.refl _ (fun _ => False)).drew) (fun _ _ => .inr (fun h => h))).touch hf.2 (fun _ _ => .inr (fun h => h))); have t9 := (((Touch.refl w3 (fun _ => False)).alloc (.cells #[.int .u8 (IntKind.u8.wrap (r.bs.length : Int))] 5)).drew).trans hf.2 (fun _ _ h => h); have HT := HT0; have HT2 := HT20; have HB := HB0; have HF := HF0; have HO := Lib.hid (hf.1.base (base' := W2.heap.size) (fun j hj => by have h1 := (hf.1.own.lt j hj).1; have h2 : W2.heap.size ≤ w3.heap.size := HT2.out.size; simp at h1; omega)); have HT := Lib.hid (HT.out.trans t9 (fun _ _ h => h)); have HT2 := Lib.hid (HT2.out.trans t9 (fun _ _ h => h)); have HB := Lib.hid (t9.keeps HB.out (fun h => h)); have HF := Lib.hid (t9.keeps HF.out (fun h => h)); clear k0 k1 k2 k3 k4 k5 k6 k7 k8 k9 k10 k11 k12 k13; obtain ⟨k0, k1, k2, k3, k4, k5, k6, k7, k8, k9, k10, k11, k12, k13⟩ := rcells_of HB.out; rw [HKD.out] at k0; clear hf t9))
    all_goals (go_wp2_with fail; go_meet; exact ⟨_, _, rfl, HO.out, HT.out, HT2.out, HB.out, HF.out⟩)
  case rest =>
    obtain ⟨a9, d9, rfl, p1, p2, p3, p4, p5⟩ := hcut
    clear HB HF HT HT2 HRL HMD
    have HO := Lib.hid p1
    have HT := Lib.hid p2
    have HT2 := Lib.hid p3
    have HB := Lib.hid p4
    have HF := Lib.hid p5
    clear p1 p2 p3 p4 p5 k0 k1 k2 k3 k4 k5 k6 k7 k8 k9 k10 k11 k12 k13
    obtain ⟨k0, k1, k2, k3, k4, k5, k6, k7, k8, k9, k10, k11, k12, k13⟩ := rcells_of HB.out
    rw [HKD.out] at k0
    obtain ⟨P, hP⟩ : ∃ P, beB 4 (u64N r.gen) ++ beB 1 (u64N r.bs.length) = P := ⟨_, rfl⟩
    have hPl : P.length = 5 := by rw [← hP]; simp [beB_length]
    have hBD2 : bodyF r v = P ++ bksF v r.bs := by rw [HBD.out, ← hP, List.append_assoc]
    rw [hP] at HO
    have HPL := Lib.hid hPl
    have HBD2 := Lib.hid hBD2
    have HBN := Lib.hid (HLE.out.bs HKD.out)
    clear hP hPl hBD2 HBD
    have hmx := HRW.out.hmax
    have hmc := HRW.out.hcap
    go_wp2_with fail
    go_loopw [6, 72] (fun b i wr => ∃ k : Nat, k ≤ r.bs.length ∧ i = .int .i64 k ∧ EnAt w W1 W2 r a cap (P ++ bksF v (r.bs.take k)) b wr) (fun _ i _ => r.bs.length - (intOf i).toNat)
    case atStart => exact ⟨0, Nat.zero_le _, rfl, a9, d9, by simp [bksF, HPL.out], by rw [show (P ++ bksF v (r.bs.take 0)) = P by simp [bksF], HPL.out]; exact HO.out, HT.out, HT2.out, HB.out, HF.out⟩
    case round =>
      clear HO HT HT2 HB HF k0 k1 k2 k3 k4 k5 k6 k7 k8 k9 k10 k11 k12 k13
      obtain ⟨k, hk, rfl, a6, d6, rfl, p1, p2, p3, p4, p5⟩ := hrel
      obtain ⟨L0, hL0⟩ : ∃ n, (P ++ bksF v (r.bs.take k)).length = n := ⟨_, rfl⟩
      rw [hL0] at p1 ⊢
      have HO := Lib.hid p1
      have HT := Lib.hid p2
      have HT2 := Lib.hid p3
      have HB := Lib.hid p4
      have HF := Lib.hid p5
      have HRK := Lib.hid (HRW.out.still p2)
      clear p1 p2 p3 p4 p5
      obtain ⟨k0, k1, k2, k3, k4, k5, k6, k7, k8, k9, k10, k11, k12, k13⟩ := rcells_of HB.out
      rw [HKD.out] at k0
      by_cases hlt : k < r.bs.length
      case neg =>
        obtain rfl : r.bs.length = k := by omega
        have hlt' : ¬ (r.bs.length : Int) < r.bs.length := by omega
        rw [List.take_length] at hL0 HO
        rw [← HBD2.out] at hL0 HO
        go_wp2_with (refine store_row rfl 39 (.tmp 4) (.tmp 112) rfl W1.heap.size _ rfl rfl _ _ HF.out HIF.out rfl rfl ?_)
        refine ret_row1 rfl rfl W1.heap.size 39 (f3 3 v a6 L0 d6) (0, 0) _ rfl (setRow_heap _ _ _ _ _ _ HF.out) Try.underlying39 rfl infoFr _ rfl ?_
        rw [HX.out, hL0]
        exact ⟨a6, d6, rfl, (HO.out.touch ((Touch.refl _ (fun k => k = W1.heap.size)).setRow _ _ (fun _ => rfl)) (fun j hj h => by have h1 := (HO.out.own.lt j hj).1; have h2 := HSZ.out; omega)).base (base' := w.heap.size) (fun j hj => by have h1 := (HO.out.own.lt j hj).1; have h2 := HSZ.out; omega), HT.out.setRow _ _ (fun h => absurd h (by have := HSZ.out; omega))⟩
      case pos =>
        have hkl := hlt
        obtain ⟨b, off, rfl⟩ := HRK.out.some (by omega)
        obtain ⟨c0, c1, c2⟩ := RowK.cells HRK.out k hkl
        have i1 : (k : Int) < r.bs.length := by omega
        have HSN := Lib.hid (bksF_snoc v r.bs k hkl)
        have hbo := HOK.out.bs _ (List.getElem_mem hkl)
        have hls : L0 ≤ 1000 := by
          have h1 := bksF_le v (r.bs.take k)
          have h2 : (r.bs.take k).length ≤ 16 := by have := HBN.out; simp; omega
          have h3 := HPL.out
          rw [List.length_append] at hL0
          omega
        obtain ⟨x, hx⟩ : ∃ x, r.bs[k] = x := ⟨_, rfl⟩
        rw [hx] at c0 c1 c2 HSN hbo
        obtain ⟨P0, hP0⟩ : ∃ P0, P ++ bksF v (r.bs.take k) = P0 := ⟨_, rfl⟩
        rw [hP0] at hL0 HO
        have hl1 : (P0 ++ beB 2 (u64N x.id)).length = L0 + 2 := by simp [beB_length, hL0]
        have hl2 : (P0 ++ beB 2 (u64N x.id) ++ beB 4 (u64N x.addr)).length = L0 + 6 := by simp [beB_length, hL0]
        have hl3 : (P0 ++ beB 2 (u64N x.id) ++ beB 4 (u64N x.addr) ++ beB 1 (u64N x.weight)).length = L0 + 7 := by simp [beB_length, hL0]
        have hq1 : v < 2 → P ++ bksF v (r.bs.take (k + 1)) = P0 ++ beB 2 (u64N x.id) ++ beB 4 (u64N x.addr) := by
          intro h; rw [HSN.out, ← List.append_assoc, hP0]; simp [bkF, h]
        have hq2 : ¬ v < 2 → P ++ bksF v (r.bs.take (k + 1)) = P0 ++ beB 2 (u64N x.id) ++ beB 4 (u64N x.addr) ++ beB 1 (u64N x.weight) := by
          intro h; rw [HSN.out, ← List.append_assoc, hP0]; simp [bkF, h]
        have HL1 := Lib.hid hl1
        have HL2 := Lib.hid hl2
        have HL3 := Lib.hid hl3
        have HQ1 := Lib.hid hq1
        have HQ2 := Lib.hid hq2
        have HID : RowKit.Hid (-9223372036854775808 ≤ x.id ∧ x.id ≤ 9223372036854775807) := Lib.hid hbo.id
        have HAD : RowKit.Hid (0 ≤ x.addr ∧ x.addr ≤ 4294967295) := Lib.hid hbo.addr
        have HRL : RowKit.Hid (∀ W : World, RowB (W.alloc (.cells #[.int .u8 (x.weight % 256)] 5)) (some ⟨W.heap.size, 0, none⟩) 1 1 (beB 1 (u64N x.weight))) := Lib.hid (fun W => row_lit W #[.int .u8 (x.weight % 256)] 1 (beB 1 (u64N x.weight)) (be_one x.weight) (beB_length _ _) (beB_small _ _) (by omega))
        clear hl1 hl2 hl3 hq1 hq2 hbo hx hP0 hL0
        obtain ⟨V, hV⟩ : ∃ W, wr.alloc (.cells #[.int .i64 x.id, .int .u32 x.addr, .int .i64 x.weight] 61) = W := ⟨_, rfl⟩
        have HO0 := HO
        have tV : Touch wr V (fun _ => False) := hV ▸ (Touch.refl _ _).alloc _
        have HXB : RowKit.Hid (V.heap[wr.heap.size]? = some (.cells #[.int .i64 x.id, .int .u32 x.addr, .int .i64 x.weight] 61 (0, 0))) := Lib.hid (hV ▸ heap_alloc_new wr _)
        have HO := Lib.hid (HO.out.touch tV (fun _ _ h => h))
        have HT := Lib.hid (HT.out.trans tV (fun _ _ h => h))
        have HT2 := Lib.hid (HT2.out.trans tV (fun _ _ h => h))
        have HB := Lib.hid (tV.keeps HB.out (fun h => h))
        have HF := Lib.hid (tV.keeps HF.out (fun h => h))
        have HNX : RowKit.Hid (∀ j, (Value.slice a6 L0 d6).ownBlock = some j → j ≠ wr.heap.size) := Lib.hid (fun j hj => by have := (HO0.out.own.lt j hj).2; omega)
        clear tV
        go_upto_region 21 with fail
        have t2 := (Touch.refl V (fun _ => False)).drew
        have HO := Lib.hid (HO.out.touch t2 (fun _ _ h => h))
        have HT := Lib.hid (HT.out.trans t2 (fun _ _ h => h))
        have HT2 := Lib.hid (HT2.out.trans t2 (fun _ _ h => h))
        have HB := Lib.hid (t2.keeps HB.out (fun h => h))
        have HF := Lib.hid (t2.keeps HF.out (fun h => h))
        obtain ⟨x0, x1, x2⟩ := bq_of HXB.out
        have HXB := Lib.hid (t2.keeps HXB.out (fun h => h))
        clear t2 c0 c1 c2 k0 k1 k2 k3 k4 k5 k6 k7 k8 k9 k10 k11 k12 k13 HRK HSN
        go_region_law (first
          | (have _u := HR83; refine step_appendB rfl _ _ 37 rfl 5 Try.underlying37 infoB W2.heap.size (.slice a80 (L0 + 2) d80) _ rfl HO.out _ _ _ (beB 4 (u64N x.addr)) rfl HR83.out (L0 + 6) ((P0 ++ beB 2 (u64N x.id) ++ beB 4 (u64N x.addr))) rfl HL2.out (by omega) HT2.out.size ?_; intro a84 d84 w84 hown hrow hg hpl; have HT := Lib.hid (HT.out.grown hg (fun j hj hlt => by have h1 := (HO.out.own.lt j hj).1; have h2 := HSZ.out; omega)); have HT2 := Lib.hid (HT2.out.grown hg (fun j hj hlt => by have h1 := (HO.out.own.lt j hj).1; omega)); have HB := Lib.hid ((hg.block w.heap.size (heap_lt HB.out) (fun e => by have h1 := (HO.out.own.lt _ e.symm).1; have h2 := HSZ.out; omega)).trans HB.out); have HF := Lib.hid ((hg.block W1.heap.size (heap_lt HF.out) (fun e => by have h1 := (HO.out.own.lt _ e.symm).1; have h2 := HSZ.out; omega)).trans HF.out); have HXB := Lib.hid ((hg.block wr.heap.size (heap_lt HXB.out) (fun e => by have h1 := HNX.out _ e.symm; omega)).trans HXB.out); have HO := Lib.hid hown; clear x0 x1 x2; obtain ⟨x0, x1, x2⟩ := bq_of HXB.out; skip; clear hown hrow hg hpl)
          | (have _u := HR79; refine step_appendB rfl _ _ 37 rfl 5 Try.underlying37 infoB W2.heap.size (.slice a6 L0 d6) _ rfl HO.out _ _ _ (beB 2 (u64N x.id)) rfl HR79.out (L0 + 2) ((P0 ++ beB 2 (u64N x.id))) rfl HL1.out (by omega) HT2.out.size ?_; intro a80 d80 w80 hown hrow hg hpl; have HT := Lib.hid (HT.out.grown hg (fun j hj hlt => by have h1 := (HO.out.own.lt j hj).1; have h2 := HSZ.out; omega)); have HT2 := Lib.hid (HT2.out.grown hg (fun j hj hlt => by have h1 := (HO.out.own.lt j hj).1; omega)); have HB := Lib.hid ((hg.block w.heap.size (heap_lt HB.out) (fun e => by have h1 := (HO.out.own.lt _ e.symm).1; have h2 := HSZ.out; omega)).trans HB.out); have HF := Lib.hid ((hg.block W1.heap.size (heap_lt HF.out) (fun e => by have h1 := (HO.out.own.lt _ e.symm).1; have h2 := HSZ.out; omega)).trans HF.out); have HXB := Lib.hid ((hg.block wr.heap.size (heap_lt HXB.out) (fun e => by have h1 := HNX.out _ e.symm; omega)).trans HXB.out); have HNX : RowKit.Hid (∀ j, (Value.slice a80 (L0 + 2) d80).ownBlock = some j → j ≠ wr.heap.size) := Lib.hid (fun j hj => by rcases hpl j hj with h5 | h5; exact HNX.out j h5; have := heap_lt HXB.out; have h6 := HL79.out; omega); have HO := Lib.hid hown; clear x0 x1 x2; obtain ⟨x0, x1, x2⟩ := bq_of HXB.out; skip; clear hown hrow hg hpl)
          | (go_simp; go_at_call_of 56 (Value.int .i64 x.id); (with_reducible refine (ref_u16 x.id _ HID.out).mono ?_); rintro e w79 ⟨a79, d79, rfl, hf⟩; have t9 := hf.2; have HR79 := Lib.hid (fresh_row hf (by simp [beB_length, tbF_length])); have HO := Lib.hid (HO.out.touch t9 (fun _ _ h => h)); have HT := Lib.hid (HT.out.trans t9 (fun _ _ h => h)); have HT2 := Lib.hid (HT2.out.trans t9 (fun _ _ h => h)); have HB := Lib.hid (t9.keeps HB.out (fun h => h)); have HF := Lib.hid (t9.keeps HF.out (fun h => h)); skip; have HXB := Lib.hid (t9.keeps HXB.out (fun h => h)); have HL79 : RowKit.Hid (wr.heap.size < w79.heap.size) := Lib.hid (heap_lt HXB.out); clear x0 x1 x2; obtain ⟨x0, x1, x2⟩ := bq_of HXB.out; clear hf t9)
          | (go_simp; go_at_call_of 57 (Value.int .u32 x.addr); (with_reducible refine (ref_u32 x.addr _ HAD.out).mono ?_); rintro e w83 ⟨a83, d83, rfl, hf⟩; have t9 := hf.2; have HR83 := Lib.hid (fresh_row hf (by simp [beB_length, tbF_length])); have HO := Lib.hid (HO.out.touch t9 (fun _ _ h => h)); have HT := Lib.hid (HT.out.trans t9 (fun _ _ h => h)); have HT2 := Lib.hid (HT2.out.trans t9 (fun _ _ h => h)); have HB := Lib.hid (t9.keeps HB.out (fun h => h)); have HF := Lib.hid (t9.keeps HF.out (fun h => h)); skip; have HXB := Lib.hid (t9.keeps HXB.out (fun h => h)); clear x0 x1 x2; obtain ⟨x0, x1, x2⟩ := bq_of HXB.out; clear hf t9))
        all_goals (
          by_cases h2 : v < 2
          · have hge : ¬ 2 ≤ v := by omega
            go_wp2_with fail
            go_roundw
            · refine ⟨k + 1, hlt, by go_num, ?_⟩
              rw [HQ1.out h2]
              exact ⟨a84, d84, by rw [HL2.out], by rw [HL2.out]; exact HO.out, HT.out, HT2.out, HB.out, HF.out⟩
            · simp [intOf]; omega
          · have hge : 2 ≤ v := by omega
            go_wp2_with (at_builtin; have _u := HRL; refine wpList_appendB rfl _ _ 37 rfl 5 Try.underlying37 infoB W2.heap.size (.slice a84 (L0 + 6) d84) (P0 ++ beB 2 (u64N x.id) ++ beB 4 (u64N x.addr)) rfl (HO.out.touch ((Touch.refl _ (fun _ => False)).alloc _) (fun _ _ h => h)) _ _ _ (beB 1 (u64N x.weight)) rfl (HRL.out _) (L0 + 7) (P0 ++ beB 2 (u64N x.id) ++ beB 4 (u64N x.addr) ++ beB 1 (u64N x.weight)) rfl HL3.out (by omega) (by have := HT2.out.size; simp; omega) W2.heap.size W2 ((HT2.out.alloc _).below (fun _ _ h => h.elim) (Nat.le_refl _)) (Nat.le_refl _) ?_; intro a92 d92 w92 hown hrow hg hb hs hp16 hpl; have HT := Lib.hid ((HT.out.alloc _).grown hg (fun j hj hlt => by have h1 := (HO.out.own.lt j hj).1; have h2 := HSZ.out; omega)); have HT2 := Lib.hid ((HT2.out.alloc _).grown hg (fun j hj hlt => by have h1 := (HO.out.own.lt j hj).1; omega)); have HB := Lib.hid ((hg.block w.heap.size (by have := heap_lt HB.out; simp; omega) (fun e => by have h1 := (HO.out.own.lt _ e.symm).1; have h2 := HSZ.out; omega)).trans ((Below.heap_alloc _ _ _ (heap_lt HB.out)).trans HB.out)); have HF := Lib.hid ((hg.block W1.heap.size (by have := heap_lt HF.out; simp; omega) (fun e => by have h1 := (HO.out.own.lt _ e.symm).1; have h2 := HSZ.out; omega)).trans ((Below.heap_alloc _ _ _ (heap_lt HF.out)).trans HF.out)); have HO := Lib.hid hown; clear hown hrow hg hb hs hp16 hpl x0 x1 x2)
            go_roundw
            · refine ⟨k + 1, hlt, by go_num, ?_⟩
              rw [HQ2.out h2]
              exact ⟨a92, d92, by rw [HL3.out], by rw [HL3.out]; exact HO.out, HT.out, HT2.out, HB.out, HF.out⟩
            · simp [intOf]; omega)
theorem renc_any (r : RecD) (a : Option Addr) (cap : Nat) (v : Int) (w : World) (hr : RowK w a r.bs.length cap r.bs) (ok : RecOk r) (hl : r.bs.length ≤ 100000) :
    Calls Try.prog 25 #[.agg (rcs r a cap), .int .i64 v] w (EncIs w r v) := by
  by_cases he : encE r v = 0
  · have h : verB v = true ∧ mayRB r = true := by
      unfold encE at he
      by_cases hv : verB v = true
      · rw [if_pos hv] at he
        by_cases hm : mayRB r = true
        · exact ⟨hv, hm⟩
        · rw [if_neg hm] at he; omega
      · rw [if_neg hv] at he; omega
    rcases kind_of h.2 with hk | hk | hk | hk | hk | hk
    · exact renc_k1 r a cap v w hr hl ok h.1 h.2 hk
    · exact renc_k2 r a cap v w hr hl ok h.1 h.2 hk
    · exact renc_k3 r a cap v w hr hl ok h.1 h.2 hk
    · exact renc_k4 r a cap v w hr hl ok h.1 h.2 hk
    · exact renc_k5 r a cap v w hr hl ok h.1 h.2 hk
    · exact renc_k6 r a cap v w hr hl ok h.1 h.2 hk
  · exact renc_bad r a cap v w hr hl he

end Go.Proofs.Ytbklngcocbnijaa
