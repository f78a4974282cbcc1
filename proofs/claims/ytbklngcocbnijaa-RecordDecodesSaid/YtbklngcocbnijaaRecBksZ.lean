/- Records: what a writer's walk over a set of backends puts. -/
import Derived.Test.YtbklngcocbnijaaRecFlowZ
set_option linter.unusedVariables false
set_option linter.unusedSimpArgs false
namespace Go.Proofs.Ytbklngcocbnijaa
open Go.RowKit

def bkF (v : Int) (b : BkD) : List Nat := beB 2 (u64N b.id) ++ beB 4 (u64N b.addr) ++ (if v < 2 then [] else beB 1 (u64N b.weight))
def bksF (v : Int) (bs : List BkD) : List Nat := (bs.map (bkF v)).flatten
theorem bkF_le (v : Int) (b : BkD) : (bkF v b).length ≤ 7 := by unfold bkF; split <;> simp [beB_length]
theorem bksF_le (v : Int) : ∀ bs : List BkD, (bksF v bs).length ≤ 7 * bs.length
  | [] => by simp [bksF]
  | b :: r => by
    have h1 := bksF_le v r
    have h2 := bkF_le v b
    simp only [bksF, List.map_cons, List.flatten_cons, List.length_append, List.length_cons] at h1 ⊢
    omega
theorem bksF_snoc (v : Int) (bs : List BkD) (k : Nat) (h : k < bs.length) : bksF v (bs.take (k + 1)) = bksF v (bs.take k) ++ bkF v bs[k] := by
  unfold bksF; rw [List.take_succ_eq_append_getElem h]; simp only [List.map_append, List.map_cons, List.map_nil, List.flatten_append, List.flatten_cons, List.flatten_nil, List.append_nil]
/-- At the head of the loop over the backends. -/
def BkAt (w : World) (base G R : Nat) (D D2 : Nat → Prop) (xs : List Nat) (v : Int) (r : RecD) (a : Option Addr) (cap k : Nat) (wr : World) : Prop :=
  WrD wr base G D2 (xs ++ beB 1 (u64N r.bs.length) ++ bksF v (r.bs.take k)) ∧ wr.heap[R]? = some (.cells (rcs r a cap) 29 (0, 0)) ∧ wr.heap[w.heap.size]? = some (.cells (wcs G) 76 (0, 0)) ∧ RowK wr a r.bs.length cap r.bs ∧ Touch w wr (fun k => base ≤ k ∧ ¬ D k)

set_option maxRecDepth 20000 in
set_option maxHeartbeats 8000000 in
theorem wbacks_v1 (base G R : Nat) (D : Nat → Prop) (xs : List Nat) (r : RecD) (a : Option Addr) (cap : Nat) (w : World) (h : WrD w base G D xs) (hr : w.heap[R]? = some (.cells (rcs r a cap) 29 (0, 0))) (hR : R < base)
    (hk : RowK w a r.bs.length cap r.bs) (ha : ∀ x, a = some x → r.bs.length = 0 ∨ x.block < base) (ok : ∀ b ∈ r.bs, BkOk b) (hn : r.bs.length ≤ 16) (hlen : xs.length ≤ 800000) :
    Calls Try.prog 79 #[.agg (wcs G), .pointer (some ⟨R, 0, none⟩), .int .i64 1] w (PutD w base G D xs (beB 1 (u64N r.bs.length) ++ bksF 1 r.bs)) := by
  obtain ⟨W1, hW1⟩ : ∃ W, w.alloc (.cells (wcs G) 76) = W := ⟨_, rfl⟩
  have hw1 : WrD W1 base G (fun k => D k ∨ k = w.heap.size) xs := hW1 ▸ h.more _
  have hc1 : W1.heap[w.heap.size]? = some (.cells (wcs G) 76 (0, 0)) := hW1 ▸ heap_alloc_new w _
  have t1 : Touch w W1 (fun k => base ≤ k ∧ ¬ D k) := hW1 ▸ (Touch.refl _ _).alloc _
  have HW := Lib.hid hw1
  have HC := Lib.hid hc1
  have HB := Lib.hid (t1.keeps hr (fun h => absurd h.1 (by omega)))
  have HT := Lib.hid t1
  have HRB := Lib.hid hR
  have HL := Lib.hid hlen
  have HOK := Lib.hid ok
  obtain ⟨k0, k1, k2, k3, k4, k5, k6, k7, k8, k9, k10, k11, k12, k13⟩ := rcells_of HB.out
  obtain ⟨m0, m1, m2, m3, m4, m5⟩ := wcells_of HC.out
  obtain ⟨W2, hW2⟩ : ∃ W, W1.alloc (.cells #[.int .i64 r.bs.length] 3) = W := ⟨_, rfl⟩
  have hw2 : WrD W2 base G (fun k => (D k ∨ k = w.heap.size) ∨ k = W1.heap.size) xs := hW2 ▸ hw1.more _
  have hn2 : W2.heap[W1.heap.size]? = some (.cells #[.int .i64 r.bs.length] 3 (0, 0)) := hW2 ▸ heap_alloc_new W1 _
  have t2 : Touch W1 W2 (fun _ => False) := hW2 ▸ (Touch.refl _ _).alloc _
  have HW := Lib.hid hw2
  have HC := Lib.hid (t2.keeps HC.out (fun h => h))
  have HB := Lib.hid (t2.keeps HB.out (fun h => h))
  have HN := Lib.hid hn2
  have HK := Lib.hid ((hk.touch t1 (fun x hx => (ha x hx).imp id (fun h1 h2 => by have := h2.1; omega))).still t2)
  have HT := Lib.hid (t1.trans t2 (fun _ _ h => h.elim))
  have HRA := Lib.hid ha
  have n0 : W2.cell? ⟨W1.heap.size, 0, none⟩ = some (.int .i64 r.bs.length) := cell_of_cells hn2 0
  clear k0 k1 k2 k3 k4 k5 k6 k7 k8 k9 k10 k11 k12 k13 m0 m1 m2 m3 m4 m5
  obtain ⟨j0, j1, j2, j3, j4, j5, j6, j7, j8, j9, j10, j11, j12, j13⟩ : _ ∧ _ ∧ _ ∧ _ ∧ _ ∧ _ ∧ _ ∧ _ ∧ _ ∧ _ ∧ _ ∧ _ ∧ _ ∧ _ := rcells_of (w := W1) (t1.keeps hr (fun h => absurd h.1 (by omega)))
  obtain ⟨k0, k1, k2, k3, k4, k5, k6, k7, k8, k9, k10, k11, k12, k13⟩ := rcells_of HB.out
  obtain ⟨m0, m1, m2, m3, m4, m5⟩ := wcells_of HC.out
  have HH := Lib.hid hn
  have hmx := hk.hmax
  have hmc := hk.hcap
  clear hw2 hn2 t2 hk ha hn
  clear h hr hw1 hc1 t1 hR hlen ok
  simp only [wcs] at hW1
  simp only [wcs]
  go_enter Try.func79, Try.ntmps79
  go_upto_region 2 with fail
  clear j0 j1 j2 j3 j4 j5 j6 j7 j8 j9 j10 j11 j12 j13
  go_wp2_with (go_at_call 72; (with_reducible refine (w_u8 base G W1.heap.size 0 _ _ _ _ HW.out n0 (by have := HH.out; omega) (by have := HL.out; omega)).mono ?_); rintro e w3 ⟨rfl, h1, h2⟩; have HW := Lib.hid h1; have HB := Lib.hid (h2.keeps HB.out (fun h => absurd h.1 (by have := HRB.out; omega))); have HC := Lib.hid (h2.keeps HC.out (fun h => h.2 (.inl (.inr rfl)))); have HN := Lib.hid (h2.keeps HN.out (fun h => h.2 (.inr rfl))); have HK := Lib.hid (HK.out.touch h2 (fun x hx => (HRA.out x hx).imp id (fun h1 h2 => by have := h2.1; omega))); have HT := Lib.hid (HT.out.trans h2 (fun k hk h => ⟨h.1, fun hd => h.2 (.inl (.inl hd))⟩)); clear h1 h2 k0 k1 k2 k3 k4 k5 k6 k7 k8 k9 k10 k11 k12 k13 m0 m1 m2 m3 m4 m5 n0; obtain ⟨k0, k1, k2, k3, k4, k5, k6, k7, k8, k9, k10, k11, k12, k13⟩ := rcells_of HB.out; obtain ⟨m0, m1, m2, m3, m4, m5⟩ := wcells_of HC.out; have n0 := cell_of_cells HN.out 0; simp at n0)
  have hll : ¬ (r.bs.length : Int) < r.bs.length := by omega
  go_quiet (fail)
  have tq := (Touch.refl w3 (fun _ => False)).drewN nq
  generalize w3.drewN nq = w4 at *
  have HW := Lib.hid (HW.out.still tq)
  have HB := Lib.hid (tq.keeps HB.out (fun h => h))
  have HC := Lib.hid (tq.keeps HC.out (fun h => h))
  have HK := Lib.hid (HK.out.still tq)
  have HT := Lib.hid (HT.out.trans tq (fun _ _ h => h.elim))
  clear tq HN n0 hll k0 k1 k2 k3 k4 k5 k6 k7 k8 k9 k10 k11 k12 k13 m0 m1 m2 m3 m4 m5
  obtain ⟨k0, k1, k2, k3, k4, k5, k6, k7, k8, k9, k10, k11, k12, k13⟩ := rcells_of HB.out
  go_wp2_with fail
  go_loopw [34] (fun i wr => ∃ k : Nat, k ≤ r.bs.length ∧ i = .int .i64 k ∧ BkAt w base G R D (fun k => (D k ∨ k = w.heap.size) ∨ k = W1.heap.size) xs 1 r a cap k wr) (fun i _ => r.bs.length - (intOf i).toNat)
  case atStart => exact ⟨0, Nat.zero_le _, rfl, by simpa [bksF] using HW.out, HB.out, HC.out, HK.out, HT.out⟩
  case round =>
    clear HW HB HC HK HT k0 k1 k2 k3 k4 k5 k6 k7 k8 k9 k10 k11 k12 k13
    obtain ⟨k, hk, rfl, hw, hb, hc, hkk, ht⟩ := hrel
    have HW := Lib.hid hw
    have HB := Lib.hid hb
    have HC := Lib.hid hc
    have HK := Lib.hid hkk
    have HT := Lib.hid ht
    clear hw hb hc hkk ht
    obtain ⟨k0, k1, k2, k3, k4, k5, k6, k7, k8, k9, k10, k11, k12, k13⟩ := rcells_of HB.out
    obtain ⟨m0, m1, m2, m3, m4, m5⟩ := wcells_of HC.out
    by_cases hlt : k < r.bs.length
    case neg =>
      obtain rfl : r.bs.length = k := by omega
      have hlt' : ¬ (r.bs.length : Int) < r.bs.length := by omega
      go_wp2
      go_end0
      refine ⟨rfl, ?_, HT.out⟩
      have hw := HW.out.mono (D' := D) (fun k hk => .inl (.inl hk))
      rw [List.take_length] at hw
      simpa only [List.append_assoc] using hw
    case pos =>
      have hkl := hlt
      obtain ⟨b, off, rfl⟩ := HK.out.some (by omega)
      obtain ⟨c0, c1, c2⟩ := RowK.cells HK.out k hkl
      have i1 : (k : Int) < r.bs.length := by omega
      have HKL := Lib.hid (bksF_le 1 (r.bs.take k))
      have HTL : RowKit.Hid ((r.bs.take k).length ≤ 16) := Lib.hid (by have := HH.out; simp; omega)
      have HSN := Lib.hid (bksF_snoc 1 r.bs k hkl)
      have HBO := Lib.hid (HOK.out _ (List.getElem_mem hkl))
      have HBF : RowKit.Hid (bkF 1 r.bs[k] = beB 2 (u64N r.bs[k].id) ++ beB 4 (u64N r.bs[k].addr) ++ []) := Lib.hid (by simp [bkF])
      go_wp2_with fail
      go_still_tail 5, (by kernel_rfl)
      change wpList _ _ _ _ _ wr.drew
      have HQ := Lib.hid (w_u16 base G b (off + k * 3) _ _ _ wr.drew HW.out.drew c0 HBO.out.id (by have := HL.out; have := HKL.out; have := HTL.out; simp only [List.length_append, beB_length]; omega))
      go_wp2_with (go_at_call 73; (with_reducible refine HQ.out.mono ?_); rintro e w5 ⟨rfl, h1, h2⟩; have t9 := ((Touch.refl wr _).drew).trans h2 (fun _ _ h => h); have HW := Lib.hid h1; have HB := Lib.hid (t9.keeps HB.out (fun h => absurd h.1 (by have := HRB.out; omega))); have HC := Lib.hid (t9.keeps HC.out (fun h => h.2 (.inl (.inr rfl)))); have HK := Lib.hid (HK.out.touch t9 (fun x hx => (HRA.out x hx).imp id (fun h1 h2 => by have := h2.1; omega))); have HT := Lib.hid (HT.out.trans t9 (fun k hk h => ⟨h.1, fun hd => h.2 (.inl (.inl hd))⟩)); clear t9; clear h1 h2 k0 k1 k2 k3 k4 k5 k6 k7 k8 k9 k10 k11 k12 k13 m0 m1 m2 m3 m4 m5 c0 c1 c2; obtain ⟨k0, k1, k2, k3, k4, k5, k6, k7, k8, k9, k10, k11, k12, k13⟩ := rcells_of HB.out; obtain ⟨m0, m1, m2, m3, m4, m5⟩ := wcells_of HC.out; obtain ⟨c0, c1, c2⟩ := RowK.cells HK.out k hkl; clear HQ)
      go_wp2_with fail
      go_still_tail 5, (by kernel_rfl)
      change wpList _ _ _ _ _ w5.drew
      have HQ := Lib.hid (w_addr base G b (off + k * 3 + 1) _ _ _ w5.drew HW.out.drew c1 HBO.out.addr (by have := HL.out; have := HKL.out; have := HTL.out; simp only [List.length_append, beB_length]; omega))
      go_wp2_with (go_at_call 75; (with_reducible refine HQ.out.mono ?_); rintro e w6 ⟨rfl, h1, h2⟩; have t9 := ((Touch.refl w5 _).drew).trans h2 (fun _ _ h => h); have HW := Lib.hid h1; have HB := Lib.hid (t9.keeps HB.out (fun h => absurd h.1 (by have := HRB.out; omega))); have HC := Lib.hid (t9.keeps HC.out (fun h => h.2 (.inl (.inr rfl)))); have HK := Lib.hid (HK.out.touch t9 (fun x hx => (HRA.out x hx).imp id (fun h1 h2 => by have := h2.1; omega))); have HT := Lib.hid (HT.out.trans t9 (fun k hk h => ⟨h.1, fun hd => h.2 (.inl (.inl hd))⟩)); clear t9; clear h1 h2 k0 k1 k2 k3 k4 k5 k6 k7 k8 k9 k10 k11 k12 k13 m0 m1 m2 m3 m4 m5 c0 c1 c2; obtain ⟨k0, k1, k2, k3, k4, k5, k6, k7, k8, k9, k10, k11, k12, k13⟩ := rcells_of HB.out; obtain ⟨m0, m1, m2, m3, m4, m5⟩ := wcells_of HC.out; obtain ⟨c0, c1, c2⟩ := RowK.cells HK.out k hkl; clear HQ)
      go_wp2
      go_roundw
      case rel =>
        refine ⟨k + 1, hlt, by go_num, ?_, HB.out, HC.out, HK.out, HT.out⟩
        rw [HSN.out, HBF.out]
        simpa only [List.append_assoc, List.append_nil] using HW.out
      case measure => simp [intOf]; omega

set_option maxRecDepth 20000 in
set_option maxHeartbeats 8000000 in
theorem wbacks_v2 (base G R : Nat) (D : Nat → Prop) (xs : List Nat) (r : RecD) (a : Option Addr) (cap : Nat) (w : World) (h : WrD w base G D xs) (hr : w.heap[R]? = some (.cells (rcs r a cap) 29 (0, 0))) (hR : R < base)
    (hk : RowK w a r.bs.length cap r.bs) (ha : ∀ x, a = some x → r.bs.length = 0 ∨ x.block < base) (ok : ∀ b ∈ r.bs, BkOk b) (hn : r.bs.length ≤ 16) (hlen : xs.length ≤ 800000) :
    Calls Try.prog 79 #[.agg (wcs G), .pointer (some ⟨R, 0, none⟩), .int .i64 2] w (PutD w base G D xs (beB 1 (u64N r.bs.length) ++ bksF 2 r.bs)) := by
  obtain ⟨W1, hW1⟩ : ∃ W, w.alloc (.cells (wcs G) 76) = W := ⟨_, rfl⟩
  have hw1 : WrD W1 base G (fun k => D k ∨ k = w.heap.size) xs := hW1 ▸ h.more _
  have hc1 : W1.heap[w.heap.size]? = some (.cells (wcs G) 76 (0, 0)) := hW1 ▸ heap_alloc_new w _
  have t1 : Touch w W1 (fun k => base ≤ k ∧ ¬ D k) := hW1 ▸ (Touch.refl _ _).alloc _
  have HW := Lib.hid hw1
  have HC := Lib.hid hc1
  have HB := Lib.hid (t1.keeps hr (fun h => absurd h.1 (by omega)))
  have HT := Lib.hid t1
  have HRB := Lib.hid hR
  have HL := Lib.hid hlen
  have HOK := Lib.hid ok
  obtain ⟨k0, k1, k2, k3, k4, k5, k6, k7, k8, k9, k10, k11, k12, k13⟩ := rcells_of HB.out
  obtain ⟨m0, m1, m2, m3, m4, m5⟩ := wcells_of HC.out
  obtain ⟨W2, hW2⟩ : ∃ W, W1.alloc (.cells #[.int .i64 r.bs.length] 3) = W := ⟨_, rfl⟩
  have hw2 : WrD W2 base G (fun k => (D k ∨ k = w.heap.size) ∨ k = W1.heap.size) xs := hW2 ▸ hw1.more _
  have hn2 : W2.heap[W1.heap.size]? = some (.cells #[.int .i64 r.bs.length] 3 (0, 0)) := hW2 ▸ heap_alloc_new W1 _
  have t2 : Touch W1 W2 (fun _ => False) := hW2 ▸ (Touch.refl _ _).alloc _
  have HW := Lib.hid hw2
  have HC := Lib.hid (t2.keeps HC.out (fun h => h))
  have HB := Lib.hid (t2.keeps HB.out (fun h => h))
  have HN := Lib.hid hn2
  have HK := Lib.hid ((hk.touch t1 (fun x hx => (ha x hx).imp id (fun h1 h2 => by have := h2.1; omega))).still t2)
  have HT := Lib.hid (t1.trans t2 (fun _ _ h => h.elim))
  have HRA := Lib.hid ha
  have n0 : W2.cell? ⟨W1.heap.size, 0, none⟩ = some (.int .i64 r.bs.length) := cell_of_cells hn2 0
  clear k0 k1 k2 k3 k4 k5 k6 k7 k8 k9 k10 k11 k12 k13 m0 m1 m2 m3 m4 m5
  obtain ⟨j0, j1, j2, j3, j4, j5, j6, j7, j8, j9, j10, j11, j12, j13⟩ : _ ∧ _ ∧ _ ∧ _ ∧ _ ∧ _ ∧ _ ∧ _ ∧ _ ∧ _ ∧ _ ∧ _ ∧ _ ∧ _ := rcells_of (w := W1) (t1.keeps hr (fun h => absurd h.1 (by omega)))
  obtain ⟨k0, k1, k2, k3, k4, k5, k6, k7, k8, k9, k10, k11, k12, k13⟩ := rcells_of HB.out
  obtain ⟨m0, m1, m2, m3, m4, m5⟩ := wcells_of HC.out
  have HH := Lib.hid hn
  have hmx := hk.hmax
  have hmc := hk.hcap
  clear hw2 hn2 t2 hk ha hn
  clear h hr hw1 hc1 t1 hR hlen ok
  simp only [wcs] at hW1
  simp only [wcs]
  go_enter Try.func79, Try.ntmps79
  go_upto_region 2 with fail
  clear j0 j1 j2 j3 j4 j5 j6 j7 j8 j9 j10 j11 j12 j13
  go_wp2_with (go_at_call 72; (with_reducible refine (w_u8 base G W1.heap.size 0 _ _ _ _ HW.out n0 (by have := HH.out; omega) (by have := HL.out; omega)).mono ?_); rintro e w3 ⟨rfl, h1, h2⟩; have HW := Lib.hid h1; have HB := Lib.hid (h2.keeps HB.out (fun h => absurd h.1 (by have := HRB.out; omega))); have HC := Lib.hid (h2.keeps HC.out (fun h => h.2 (.inl (.inr rfl)))); have HN := Lib.hid (h2.keeps HN.out (fun h => h.2 (.inr rfl))); have HK := Lib.hid (HK.out.touch h2 (fun x hx => (HRA.out x hx).imp id (fun h1 h2 => by have := h2.1; omega))); have HT := Lib.hid (HT.out.trans h2 (fun k hk h => ⟨h.1, fun hd => h.2 (.inl (.inl hd))⟩)); clear h1 h2 k0 k1 k2 k3 k4 k5 k6 k7 k8 k9 k10 k11 k12 k13 m0 m1 m2 m3 m4 m5 n0; obtain ⟨k0, k1, k2, k3, k4, k5, k6, k7, k8, k9, k10, k11, k12, k13⟩ := rcells_of HB.out; obtain ⟨m0, m1, m2, m3, m4, m5⟩ := wcells_of HC.out; have n0 := cell_of_cells HN.out 0; simp at n0)
  have hll : ¬ (r.bs.length : Int) < r.bs.length := by omega
  go_quiet (fail)
  have tq := (Touch.refl w3 (fun _ => False)).drewN nq
  generalize w3.drewN nq = w4 at *
  have HW := Lib.hid (HW.out.still tq)
  have HB := Lib.hid (tq.keeps HB.out (fun h => h))
  have HC := Lib.hid (tq.keeps HC.out (fun h => h))
  have HK := Lib.hid (HK.out.still tq)
  have HT := Lib.hid (HT.out.trans tq (fun _ _ h => h.elim))
  clear tq HN n0 hll k0 k1 k2 k3 k4 k5 k6 k7 k8 k9 k10 k11 k12 k13 m0 m1 m2 m3 m4 m5
  obtain ⟨k0, k1, k2, k3, k4, k5, k6, k7, k8, k9, k10, k11, k12, k13⟩ := rcells_of HB.out
  go_wp2_with fail
  go_loopw [34] (fun i wr => ∃ k : Nat, k ≤ r.bs.length ∧ i = .int .i64 k ∧ BkAt w base G R D (fun k => (D k ∨ k = w.heap.size) ∨ k = W1.heap.size) xs 2 r a cap k wr) (fun i _ => r.bs.length - (intOf i).toNat)
  case atStart => exact ⟨0, Nat.zero_le _, rfl, by simpa [bksF] using HW.out, HB.out, HC.out, HK.out, HT.out⟩
  case round =>
    clear HW HB HC HK HT k0 k1 k2 k3 k4 k5 k6 k7 k8 k9 k10 k11 k12 k13
    obtain ⟨k, hk, rfl, hw, hb, hc, hkk, ht⟩ := hrel
    have HW := Lib.hid hw
    have HB := Lib.hid hb
    have HC := Lib.hid hc
    have HK := Lib.hid hkk
    have HT := Lib.hid ht
    clear hw hb hc hkk ht
    obtain ⟨k0, k1, k2, k3, k4, k5, k6, k7, k8, k9, k10, k11, k12, k13⟩ := rcells_of HB.out
    obtain ⟨m0, m1, m2, m3, m4, m5⟩ := wcells_of HC.out
    by_cases hlt : k < r.bs.length
    case neg =>
      obtain rfl : r.bs.length = k := by omega
      have hlt' : ¬ (r.bs.length : Int) < r.bs.length := by omega
      go_wp2
      go_end0
      refine ⟨rfl, ?_, HT.out⟩
      have hw := HW.out.mono (D' := D) (fun k hk => .inl (.inl hk))
      rw [List.take_length] at hw
      simpa only [List.append_assoc] using hw
    case pos =>
      have hkl := hlt
      obtain ⟨b, off, rfl⟩ := HK.out.some (by omega)
      obtain ⟨c0, c1, c2⟩ := RowK.cells HK.out k hkl
      have i1 : (k : Int) < r.bs.length := by omega
      have HKL := Lib.hid (bksF_le 2 (r.bs.take k))
      have HTL : RowKit.Hid ((r.bs.take k).length ≤ 16) := Lib.hid (by have := HH.out; simp; omega)
      have HSN := Lib.hid (bksF_snoc 2 r.bs k hkl)
      have HBO := Lib.hid (HOK.out _ (List.getElem_mem hkl))
      have HBF : RowKit.Hid (bkF 2 r.bs[k] = beB 2 (u64N r.bs[k].id) ++ beB 4 (u64N r.bs[k].addr) ++ beB 1 (u64N r.bs[k].weight)) := Lib.hid (by simp [bkF])
      go_wp2_with fail
      go_still_tail 5, (by kernel_rfl)
      change wpList _ _ _ _ _ wr.drew
      have HQ := Lib.hid (w_u16 base G b (off + k * 3) _ _ _ wr.drew HW.out.drew c0 HBO.out.id (by have := HL.out; have := HKL.out; have := HTL.out; simp only [List.length_append, beB_length]; omega))
      go_wp2_with (go_at_call 73; (with_reducible refine HQ.out.mono ?_); rintro e w5 ⟨rfl, h1, h2⟩; have t9 := ((Touch.refl wr _).drew).trans h2 (fun _ _ h => h); have HW := Lib.hid h1; have HB := Lib.hid (t9.keeps HB.out (fun h => absurd h.1 (by have := HRB.out; omega))); have HC := Lib.hid (t9.keeps HC.out (fun h => h.2 (.inl (.inr rfl)))); have HK := Lib.hid (HK.out.touch t9 (fun x hx => (HRA.out x hx).imp id (fun h1 h2 => by have := h2.1; omega))); have HT := Lib.hid (HT.out.trans t9 (fun k hk h => ⟨h.1, fun hd => h.2 (.inl (.inl hd))⟩)); clear t9; clear h1 h2 k0 k1 k2 k3 k4 k5 k6 k7 k8 k9 k10 k11 k12 k13 m0 m1 m2 m3 m4 m5 c0 c1 c2; obtain ⟨k0, k1, k2, k3, k4, k5, k6, k7, k8, k9, k10, k11, k12, k13⟩ := rcells_of HB.out; obtain ⟨m0, m1, m2, m3, m4, m5⟩ := wcells_of HC.out; obtain ⟨c0, c1, c2⟩ := RowK.cells HK.out k hkl; clear HQ)
      go_wp2_with fail
      go_still_tail 5, (by kernel_rfl)
      change wpList _ _ _ _ _ w5.drew
      have HQ := Lib.hid (w_addr base G b (off + k * 3 + 1) _ _ _ w5.drew HW.out.drew c1 HBO.out.addr (by have := HL.out; have := HKL.out; have := HTL.out; simp only [List.length_append, beB_length]; omega))
      go_wp2_with (go_at_call 75; (with_reducible refine HQ.out.mono ?_); rintro e w6 ⟨rfl, h1, h2⟩; have t9 := ((Touch.refl w5 _).drew).trans h2 (fun _ _ h => h); have HW := Lib.hid h1; have HB := Lib.hid (t9.keeps HB.out (fun h => absurd h.1 (by have := HRB.out; omega))); have HC := Lib.hid (t9.keeps HC.out (fun h => h.2 (.inl (.inr rfl)))); have HK := Lib.hid (HK.out.touch t9 (fun x hx => (HRA.out x hx).imp id (fun h1 h2 => by have := h2.1; omega))); have HT := Lib.hid (HT.out.trans t9 (fun k hk h => ⟨h.1, fun hd => h.2 (.inl (.inl hd))⟩)); clear t9; clear h1 h2 k0 k1 k2 k3 k4 k5 k6 k7 k8 k9 k10 k11 k12 k13 m0 m1 m2 m3 m4 m5 c0 c1 c2; obtain ⟨k0, k1, k2, k3, k4, k5, k6, k7, k8, k9, k10, k11, k12, k13⟩ := rcells_of HB.out; obtain ⟨m0, m1, m2, m3, m4, m5⟩ := wcells_of HC.out; obtain ⟨c0, c1, c2⟩ := RowK.cells HK.out k hkl; clear HQ)
      go_wp2_with fail
      go_still_tail 5, (by kernel_rfl)
      change wpList _ _ _ _ _ w6.drew
      have HQ := Lib.hid (w_u8 base G b (off + k * 3 + 2) _ _ _ w6.drew HW.out.drew c2 HBO.out.weight (by have := HL.out; have := HKL.out; have := HTL.out; simp only [List.length_append, beB_length]; omega))
      go_wp2_with (go_at_call 72; (with_reducible refine HQ.out.mono ?_); rintro e w7 ⟨rfl, h1, h2⟩; have t9 := ((Touch.refl w6 _).drew).trans h2 (fun _ _ h => h); have HW := Lib.hid h1; have HB := Lib.hid (t9.keeps HB.out (fun h => absurd h.1 (by have := HRB.out; omega))); have HC := Lib.hid (t9.keeps HC.out (fun h => h.2 (.inl (.inr rfl)))); have HK := Lib.hid (HK.out.touch t9 (fun x hx => (HRA.out x hx).imp id (fun h1 h2 => by have := h2.1; omega))); have HT := Lib.hid (HT.out.trans t9 (fun k hk h => ⟨h.1, fun hd => h.2 (.inl (.inl hd))⟩)); clear t9; clear h1 h2 k0 k1 k2 k3 k4 k5 k6 k7 k8 k9 k10 k11 k12 k13 m0 m1 m2 m3 m4 m5 c0 c1 c2; obtain ⟨k0, k1, k2, k3, k4, k5, k6, k7, k8, k9, k10, k11, k12, k13⟩ := rcells_of HB.out; obtain ⟨m0, m1, m2, m3, m4, m5⟩ := wcells_of HC.out; obtain ⟨c0, c1, c2⟩ := RowK.cells HK.out k hkl; clear HQ)
      go_wp2
      go_roundw
      case rel =>
        refine ⟨k + 1, hlt, by go_num, ?_, HB.out, HC.out, HK.out, HT.out⟩
        rw [HSN.out, HBF.out]
        simpa only [List.append_assoc, List.append_nil] using HW.out
      case measure => simp [intOf]; omega

set_option maxRecDepth 20000 in
set_option maxHeartbeats 8000000 in
theorem wbacks_v3 (base G R : Nat) (D : Nat → Prop) (xs : List Nat) (r : RecD) (a : Option Addr) (cap : Nat) (w : World) (h : WrD w base G D xs) (hr : w.heap[R]? = some (.cells (rcs r a cap) 29 (0, 0))) (hR : R < base)
    (hk : RowK w a r.bs.length cap r.bs) (ha : ∀ x, a = some x → r.bs.length = 0 ∨ x.block < base) (ok : ∀ b ∈ r.bs, BkOk b) (hn : r.bs.length ≤ 16) (hlen : xs.length ≤ 800000) :
    Calls Try.prog 79 #[.agg (wcs G), .pointer (some ⟨R, 0, none⟩), .int .i64 3] w (PutD w base G D xs (beB 1 (u64N r.bs.length) ++ bksF 3 r.bs)) := by
  obtain ⟨W1, hW1⟩ : ∃ W, w.alloc (.cells (wcs G) 76) = W := ⟨_, rfl⟩
  have hw1 : WrD W1 base G (fun k => D k ∨ k = w.heap.size) xs := hW1 ▸ h.more _
  have hc1 : W1.heap[w.heap.size]? = some (.cells (wcs G) 76 (0, 0)) := hW1 ▸ heap_alloc_new w _
  have t1 : Touch w W1 (fun k => base ≤ k ∧ ¬ D k) := hW1 ▸ (Touch.refl _ _).alloc _
  have HW := Lib.hid hw1
  have HC := Lib.hid hc1
  have HB := Lib.hid (t1.keeps hr (fun h => absurd h.1 (by omega)))
  have HT := Lib.hid t1
  have HRB := Lib.hid hR
  have HL := Lib.hid hlen
  have HOK := Lib.hid ok
  obtain ⟨k0, k1, k2, k3, k4, k5, k6, k7, k8, k9, k10, k11, k12, k13⟩ := rcells_of HB.out
  obtain ⟨m0, m1, m2, m3, m4, m5⟩ := wcells_of HC.out
  obtain ⟨W2, hW2⟩ : ∃ W, W1.alloc (.cells #[.int .i64 r.bs.length] 3) = W := ⟨_, rfl⟩
  have hw2 : WrD W2 base G (fun k => (D k ∨ k = w.heap.size) ∨ k = W1.heap.size) xs := hW2 ▸ hw1.more _
  have hn2 : W2.heap[W1.heap.size]? = some (.cells #[.int .i64 r.bs.length] 3 (0, 0)) := hW2 ▸ heap_alloc_new W1 _
  have t2 : Touch W1 W2 (fun _ => False) := hW2 ▸ (Touch.refl _ _).alloc _
  have HW := Lib.hid hw2
  have HC := Lib.hid (t2.keeps HC.out (fun h => h))
  have HB := Lib.hid (t2.keeps HB.out (fun h => h))
  have HN := Lib.hid hn2
  have HK := Lib.hid ((hk.touch t1 (fun x hx => (ha x hx).imp id (fun h1 h2 => by have := h2.1; omega))).still t2)
  have HT := Lib.hid (t1.trans t2 (fun _ _ h => h.elim))
  have HRA := Lib.hid ha
  have n0 : W2.cell? ⟨W1.heap.size, 0, none⟩ = some (.int .i64 r.bs.length) := cell_of_cells hn2 0
  clear k0 k1 k2 k3 k4 k5 k6 k7 k8 k9 k10 k11 k12 k13 m0 m1 m2 m3 m4 m5
  obtain ⟨j0, j1, j2, j3, j4, j5, j6, j7, j8, j9, j10, j11, j12, j13⟩ : _ ∧ _ ∧ _ ∧ _ ∧ _ ∧ _ ∧ _ ∧ _ ∧ _ ∧ _ ∧ _ ∧ _ ∧ _ ∧ _ := rcells_of (w := W1) (t1.keeps hr (fun h => absurd h.1 (by omega)))
  obtain ⟨k0, k1, k2, k3, k4, k5, k6, k7, k8, k9, k10, k11, k12, k13⟩ := rcells_of HB.out
  obtain ⟨m0, m1, m2, m3, m4, m5⟩ := wcells_of HC.out
  have HH := Lib.hid hn
  have hmx := hk.hmax
  have hmc := hk.hcap
  clear hw2 hn2 t2 hk ha hn
  clear h hr hw1 hc1 t1 hR hlen ok
  simp only [wcs] at hW1
  simp only [wcs]
  go_enter Try.func79, Try.ntmps79
  go_upto_region 2 with fail
  clear j0 j1 j2 j3 j4 j5 j6 j7 j8 j9 j10 j11 j12 j13
  go_wp2_with (go_at_call 72; (with_reducible refine (w_u8 base G W1.heap.size 0 _ _ _ _ HW.out n0 (by have := HH.out; omega) (by have := HL.out; omega)).mono ?_); rintro e w3 ⟨rfl, h1, h2⟩; have HW := Lib.hid h1; have HB := Lib.hid (h2.keeps HB.out (fun h => absurd h.1 (by have := HRB.out; omega))); have HC := Lib.hid (h2.keeps HC.out (fun h => h.2 (.inl (.inr rfl)))); have HN := Lib.hid (h2.keeps HN.out (fun h => h.2 (.inr rfl))); have HK := Lib.hid (HK.out.touch h2 (fun x hx => (HRA.out x hx).imp id (fun h1 h2 => by have := h2.1; omega))); have HT := Lib.hid (HT.out.trans h2 (fun k hk h => ⟨h.1, fun hd => h.2 (.inl (.inl hd))⟩)); clear h1 h2 k0 k1 k2 k3 k4 k5 k6 k7 k8 k9 k10 k11 k12 k13 m0 m1 m2 m3 m4 m5 n0; obtain ⟨k0, k1, k2, k3, k4, k5, k6, k7, k8, k9, k10, k11, k12, k13⟩ := rcells_of HB.out; obtain ⟨m0, m1, m2, m3, m4, m5⟩ := wcells_of HC.out; have n0 := cell_of_cells HN.out 0; simp at n0)
  have hll : ¬ (r.bs.length : Int) < r.bs.length := by omega
  go_quiet (fail)
  have tq := (Touch.refl w3 (fun _ => False)).drewN nq
  generalize w3.drewN nq = w4 at *
  have HW := Lib.hid (HW.out.still tq)
  have HB := Lib.hid (tq.keeps HB.out (fun h => h))
  have HC := Lib.hid (tq.keeps HC.out (fun h => h))
  have HK := Lib.hid (HK.out.still tq)
  have HT := Lib.hid (HT.out.trans tq (fun _ _ h => h.elim))
  clear tq HN n0 hll k0 k1 k2 k3 k4 k5 k6 k7 k8 k9 k10 k11 k12 k13 m0 m1 m2 m3 m4 m5
  obtain ⟨k0, k1, k2, k3, k4, k5, k6, k7, k8, k9, k10, k11, k12, k13⟩ := rcells_of HB.out
  go_wp2_with fail
  go_loopw [34] (fun i wr => ∃ k : Nat, k ≤ r.bs.length ∧ i = .int .i64 k ∧ BkAt w base G R D (fun k => (D k ∨ k = w.heap.size) ∨ k = W1.heap.size) xs 3 r a cap k wr) (fun i _ => r.bs.length - (intOf i).toNat)
  case atStart => exact ⟨0, Nat.zero_le _, rfl, by simpa [bksF] using HW.out, HB.out, HC.out, HK.out, HT.out⟩
  case round =>
    clear HW HB HC HK HT k0 k1 k2 k3 k4 k5 k6 k7 k8 k9 k10 k11 k12 k13
    obtain ⟨k, hk, rfl, hw, hb, hc, hkk, ht⟩ := hrel
    have HW := Lib.hid hw
    have HB := Lib.hid hb
    have HC := Lib.hid hc
    have HK := Lib.hid hkk
    have HT := Lib.hid ht
    clear hw hb hc hkk ht
    obtain ⟨k0, k1, k2, k3, k4, k5, k6, k7, k8, k9, k10, k11, k12, k13⟩ := rcells_of HB.out
    obtain ⟨m0, m1, m2, m3, m4, m5⟩ := wcells_of HC.out
    by_cases hlt : k < r.bs.length
    case neg =>
      obtain rfl : r.bs.length = k := by omega
      have hlt' : ¬ (r.bs.length : Int) < r.bs.length := by omega
      go_wp2
      go_end0
      refine ⟨rfl, ?_, HT.out⟩
      have hw := HW.out.mono (D' := D) (fun k hk => .inl (.inl hk))
      rw [List.take_length] at hw
      simpa only [List.append_assoc] using hw
    case pos =>
      have hkl := hlt
      obtain ⟨b, off, rfl⟩ := HK.out.some (by omega)
      obtain ⟨c0, c1, c2⟩ := RowK.cells HK.out k hkl
      have i1 : (k : Int) < r.bs.length := by omega
      have HKL := Lib.hid (bksF_le 3 (r.bs.take k))
      have HTL : RowKit.Hid ((r.bs.take k).length ≤ 16) := Lib.hid (by have := HH.out; simp; omega)
      have HSN := Lib.hid (bksF_snoc 3 r.bs k hkl)
      have HBO := Lib.hid (HOK.out _ (List.getElem_mem hkl))
      have HBF : RowKit.Hid (bkF 3 r.bs[k] = beB 2 (u64N r.bs[k].id) ++ beB 4 (u64N r.bs[k].addr) ++ beB 1 (u64N r.bs[k].weight)) := Lib.hid (by simp [bkF])
      go_wp2_with fail
      go_still_tail 5, (by kernel_rfl)
      change wpList _ _ _ _ _ wr.drew
      have HQ := Lib.hid (w_u16 base G b (off + k * 3) _ _ _ wr.drew HW.out.drew c0 HBO.out.id (by have := HL.out; have := HKL.out; have := HTL.out; simp only [List.length_append, beB_length]; omega))
      go_wp2_with (go_at_call 73; (with_reducible refine HQ.out.mono ?_); rintro e w5 ⟨rfl, h1, h2⟩; have t9 := ((Touch.refl wr _).drew).trans h2 (fun _ _ h => h); have HW := Lib.hid h1; have HB := Lib.hid (t9.keeps HB.out (fun h => absurd h.1 (by have := HRB.out; omega))); have HC := Lib.hid (t9.keeps HC.out (fun h => h.2 (.inl (.inr rfl)))); have HK := Lib.hid (HK.out.touch t9 (fun x hx => (HRA.out x hx).imp id (fun h1 h2 => by have := h2.1; omega))); have HT := Lib.hid (HT.out.trans t9 (fun k hk h => ⟨h.1, fun hd => h.2 (.inl (.inl hd))⟩)); clear t9; clear h1 h2 k0 k1 k2 k3 k4 k5 k6 k7 k8 k9 k10 k11 k12 k13 m0 m1 m2 m3 m4 m5 c0 c1 c2; obtain ⟨k0, k1, k2, k3, k4, k5, k6, k7, k8, k9, k10, k11, k12, k13⟩ := rcells_of HB.out; obtain ⟨m0, m1, m2, m3, m4, m5⟩ := wcells_of HC.out; obtain ⟨c0, c1, c2⟩ := RowK.cells HK.out k hkl; clear HQ)
      go_wp2_with fail
      go_still_tail 5, (by kernel_rfl)
      change wpList _ _ _ _ _ w5.drew
      have HQ := Lib.hid (w_addr base G b (off + k * 3 + 1) _ _ _ w5.drew HW.out.drew c1 HBO.out.addr (by have := HL.out; have := HKL.out; have := HTL.out; simp only [List.length_append, beB_length]; omega))
      go_wp2_with (go_at_call 75; (with_reducible refine HQ.out.mono ?_); rintro e w6 ⟨rfl, h1, h2⟩; have t9 := ((Touch.refl w5 _).drew).trans h2 (fun _ _ h => h); have HW := Lib.hid h1; have HB := Lib.hid (t9.keeps HB.out (fun h => absurd h.1 (by have := HRB.out; omega))); have HC := Lib.hid (t9.keeps HC.out (fun h => h.2 (.inl (.inr rfl)))); have HK := Lib.hid (HK.out.touch t9 (fun x hx => (HRA.out x hx).imp id (fun h1 h2 => by have := h2.1; omega))); have HT := Lib.hid (HT.out.trans t9 (fun k hk h => ⟨h.1, fun hd => h.2 (.inl (.inl hd))⟩)); clear t9; clear h1 h2 k0 k1 k2 k3 k4 k5 k6 k7 k8 k9 k10 k11 k12 k13 m0 m1 m2 m3 m4 m5 c0 c1 c2; obtain ⟨k0, k1, k2, k3, k4, k5, k6, k7, k8, k9, k10, k11, k12, k13⟩ := rcells_of HB.out; obtain ⟨m0, m1, m2, m3, m4, m5⟩ := wcells_of HC.out; obtain ⟨c0, c1, c2⟩ := RowK.cells HK.out k hkl; clear HQ)
      go_wp2_with fail
      go_still_tail 5, (by kernel_rfl)
      change wpList _ _ _ _ _ w6.drew
      have HQ := Lib.hid (w_u8 base G b (off + k * 3 + 2) _ _ _ w6.drew HW.out.drew c2 HBO.out.weight (by have := HL.out; have := HKL.out; have := HTL.out; simp only [List.length_append, beB_length]; omega))
      go_wp2_with (go_at_call 72; (with_reducible refine HQ.out.mono ?_); rintro e w7 ⟨rfl, h1, h2⟩; have t9 := ((Touch.refl w6 _).drew).trans h2 (fun _ _ h => h); have HW := Lib.hid h1; have HB := Lib.hid (t9.keeps HB.out (fun h => absurd h.1 (by have := HRB.out; omega))); have HC := Lib.hid (t9.keeps HC.out (fun h => h.2 (.inl (.inr rfl)))); have HK := Lib.hid (HK.out.touch t9 (fun x hx => (HRA.out x hx).imp id (fun h1 h2 => by have := h2.1; omega))); have HT := Lib.hid (HT.out.trans t9 (fun k hk h => ⟨h.1, fun hd => h.2 (.inl (.inl hd))⟩)); clear t9; clear h1 h2 k0 k1 k2 k3 k4 k5 k6 k7 k8 k9 k10 k11 k12 k13 m0 m1 m2 m3 m4 m5 c0 c1 c2; obtain ⟨k0, k1, k2, k3, k4, k5, k6, k7, k8, k9, k10, k11, k12, k13⟩ := rcells_of HB.out; obtain ⟨m0, m1, m2, m3, m4, m5⟩ := wcells_of HC.out; obtain ⟨c0, c1, c2⟩ := RowK.cells HK.out k hkl; clear HQ)
      go_wp2
      go_roundw
      case rel =>
        refine ⟨k + 1, hlt, by go_num, ?_, HB.out, HC.out, HK.out, HT.out⟩
        rw [HSN.out, HBF.out]
        simpa only [List.append_assoc, List.append_nil] using HW.out
      case measure => simp [intOf]; omega
end Go.Proofs.Ytbklngcocbnijaa
