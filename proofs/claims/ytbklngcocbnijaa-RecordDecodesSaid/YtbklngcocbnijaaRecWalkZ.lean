/- Records: what a writer's walk over a record puts; Encode of package record. -/
import Derived.Test.YtbklngcocbnijaaRecBksZ
import Derived.Test.YtbklngcocbnijaaRecInZ
set_option linter.unusedVariables false
set_option linter.unusedSimpArgs false
namespace Go.Proofs.Ytbklngcocbnijaa
open Go.RowKit

theorem wflow_any (base G R : Nat) (D : Nat → Prop) (xs : List Nat) (r : RecD) (a : Option Addr) (cap : Nat) (v : Int) (hv : verB v = true) (w : World) (h : WrD w base G D xs) (hr : w.heap[R]? = some (.cells (rcs r a cap) 29 (0, 0))) (hR : R < base) (ok : FlowOk r) (hlen : xs.length ≤ 800000) :
    Calls Try.prog 78 #[.agg (wcs G), .pointer (some ⟨R, 1, none⟩), .int .i64 v] w (PutD w base G D xs (flowF r v)) := by
  rcases verB_cases v hv with rfl | rfl | rfl
  · exact wflow_v1 base G R D xs r a cap w h hr hR ok hlen
  · exact wflow_v2 base G R D xs r a cap w h hr hR ok hlen
  · exact wflow_v3 base G R D xs r a cap w h hr hR ok hlen
theorem wbacks_any (base G R : Nat) (D : Nat → Prop) (xs : List Nat) (r : RecD) (a : Option Addr) (cap : Nat) (v : Int) (hv : verB v = true) (w : World) (h : WrD w base G D xs) (hr : w.heap[R]? = some (.cells (rcs r a cap) 29 (0, 0))) (hR : R < base)
    (hk : RowK w a r.bs.length cap r.bs) (ha : ∀ x, a = some x → r.bs.length = 0 ∨ x.block < base) (ok : ∀ b ∈ r.bs, BkOk b) (hn : r.bs.length ≤ 16) (hlen : xs.length ≤ 800000) :
    Calls Try.prog 79 #[.agg (wcs G), .pointer (some ⟨R, 0, none⟩), .int .i64 v] w (PutD w base G D xs (beB 1 (u64N r.bs.length) ++ bksF v r.bs)) := by
  rcases verB_cases v hv with rfl | rfl | rfl
  · exact wbacks_v1 base G R D xs r a cap w h hr hR hk ha ok hn hlen
  · exact wbacks_v2 base G R D xs r a cap w h hr hR hk ha ok hn hlen
  · exact wbacks_v3 base G R D xs r a cap w h hr hR hk ha ok hn hlen
/-- The body of a record. -/
def bodyF (r : RecD) (v : Int) : List Nat :=
  if r.kind = 1 then flowF r v
  else if r.kind = 2 then tbF r.t
  else if r.kind = 3 then beB 4 (u64N r.gen) ++ (beB 1 (u64N r.bs.length) ++ bksF v r.bs)
  else if r.kind = 4 then beB 2 (u64N r.be) ++ beB 8 (u64N r.un)
  else if r.kind = 5 then beB 2 (u64N r.be)
  else beB 4 (u64N r.ct)
structure RecLess (r : RecD) : Prop where
  fg : r.kind = 1 → 0 ≤ r.fg ∧ r.fg ≤ 4294967295
  gen : r.kind = 3 → 0 ≤ r.gen ∧ r.gen ≤ 4294967295
  ct : r.kind = 6 → 0 ≤ r.ct ∧ r.ct ≤ 4294967295
  bs : r.kind = 3 → r.bs.length ≤ 16

set_option maxRecDepth 20000 in
set_option maxHeartbeats 4000000 in
theorem wwalk_k1 (base G R : Nat) (D : Nat → Prop) (xs : List Nat) (r : RecD) (a : Option Addr) (cap : Nat) (v : Int) (hv : verB v = true) (hk : r.kind = 1) (w : World) (h : WrD w base G D xs) (hr : w.heap[R]? = some (.cells (rcs r a cap) 29 (0, 0))) (hR : R < base)
    (hrow : RowK w a r.bs.length cap r.bs) (ha : ∀ x, a = some x → r.bs.length = 0 ∨ x.block < base) (ok : RecOk r) (less : RecLess r) (hlen : xs.length ≤ 700000) :
    Calls Try.prog 53 #[.agg (wcs G), .pointer (some ⟨R, 0, none⟩), .int .i64 v] w (PutD w base G D xs (bodyF r v)) := by
  have hp : bodyF r v = flowF r v := by unfold bodyF; rw [if_pos hk]
  rw [hp]
  have HKD := Lib.hid hk
  have HV := Lib.hid hv
  have HLE := Lib.hid less
  have HRW := Lib.hid hrow
  have HRA := Lib.hid ha
  have hl8 : xs.length ≤ 800000 := by omega
  have HL8 := Lib.hid hl8
  have hkd : r.kind = 1 := hk
  clear hp hv less hrow ha hk hl8
  obtain ⟨W1, hW1⟩ : ∃ W, w.alloc (.cells (wcs G) 76) = W := ⟨_, rfl⟩
  have hw1 : WrD W1 base G (fun k => D k ∨ k = w.heap.size) xs := hW1 ▸ h.more _
  have hc1 : W1.heap[w.heap.size]? = some (.cells (wcs G) 76 (0, 0)) := hW1 ▸ heap_alloc_new w _
  have t1 : Touch w W1 (fun k => base ≤ k ∧ ¬ D k) := hW1 ▸ (Touch.refl _ _).alloc _
  have HW := Lib.hid hw1
  have HC := Lib.hid hc1
  have HB := Lib.hid (t1.keeps hr (fun h => absurd h.1 (by omega)))
  have HT := Lib.hid t1
  have HRB := Lib.hid hR
  have HL := Lib.hid hlen
  have HOK := Lib.hid ok
  obtain ⟨k0, k1, k2, k3, k4, k5, k6, k7, k8, k9, k10, k11, k12, k13⟩ := rcells_of HB.out
  obtain ⟨m0, m1, m2, m3, m4, m5⟩ := wcells_of HC.out
  rw [hkd] at k0
  clear hkd
  clear h hr hw1 hc1 t1 hR hlen ok
  simp only [wcs] at hW1
  simp only [wcs]
  go_enter Try.func53, Try.ntmps53
  go_wp2_with fail
  go_still_tail 5, (by kernel_rfl)
  change wpList _ _ _ _ _ W1.drew
  have HQ := Lib.hid (wflow_any base G R _ xs r a cap v HV.out W1.drew HW.out.drew HB.out HRB.out ⟨HOK.out.t, HOK.out.fb, HLE.out.fg HKD.out, HOK.out.fs⟩ HL8.out)
  simp only [wcs] at HQ
  go_wp2_with (go_at_call 78; (with_reducible refine HQ.out.mono ?_); rintro e w2 ⟨rfl, h1, h2⟩; have t9 := ((Touch.refl W1 _).drew).trans h2 (fun _ _ h => h); have HW := Lib.hid h1; have HB := Lib.hid (t9.keeps HB.out (fun h => absurd h.1 (by have := HRB.out; omega))); have HC := Lib.hid (t9.keeps HC.out (fun h => h.2 (.inr rfl))); have HT := Lib.hid (HT.out.trans t9 (fun k hk h => ⟨h.1, fun hd => h.2 (.inl hd)⟩)); have T9 := Lib.hid t9; clear t9; clear h1 h2 k0 k1 k2 k3 k4 k5 k6 k7 k8 k9 k10 k11 k12 k13 m0 m1 m2 m3 m4 m5; obtain ⟨k0, k1, k2, k3, k4, k5, k6, k7, k8, k9, k10, k11, k12, k13⟩ := rcells_of HB.out; obtain ⟨m0, m1, m2, m3, m4, m5⟩ := wcells_of HC.out; clear HQ)
  go_end0
  refine ⟨rfl, ?_, HT.out⟩
  have hw := HW.out.mono (D' := D) (fun k hk => .inl hk)
  simpa only [List.append_assoc] using hw

set_option maxRecDepth 20000 in
set_option maxHeartbeats 4000000 in
theorem wwalk_k2 (base G R : Nat) (D : Nat → Prop) (xs : List Nat) (r : RecD) (a : Option Addr) (cap : Nat) (v : Int) (hv : verB v = true) (hk : r.kind = 2) (w : World) (h : WrD w base G D xs) (hr : w.heap[R]? = some (.cells (rcs r a cap) 29 (0, 0))) (hR : R < base)
    (hrow : RowK w a r.bs.length cap r.bs) (ha : ∀ x, a = some x → r.bs.length = 0 ∨ x.block < base) (ok : RecOk r) (less : RecLess r) (hlen : xs.length ≤ 700000) :
    Calls Try.prog 53 #[.agg (wcs G), .pointer (some ⟨R, 0, none⟩), .int .i64 v] w (PutD w base G D xs (bodyF r v)) := by
  have hp : bodyF r v = tbF r.t := by unfold bodyF; rw [if_neg (by omega), if_pos hk]
  rw [hp]
  have HKD := Lib.hid hk
  have HV := Lib.hid hv
  have HLE := Lib.hid less
  have HRW := Lib.hid hrow
  have HRA := Lib.hid ha
  have hl8 : xs.length ≤ 800000 := by omega
  have HL8 := Lib.hid hl8
  have hkd : r.kind = 2 := hk
  clear hp hv less hrow ha hk hl8
  obtain ⟨W1, hW1⟩ : ∃ W, w.alloc (.cells (wcs G) 76) = W := ⟨_, rfl⟩
  have hw1 : WrD W1 base G (fun k => D k ∨ k = w.heap.size) xs := hW1 ▸ h.more _
  have hc1 : W1.heap[w.heap.size]? = some (.cells (wcs G) 76 (0, 0)) := hW1 ▸ heap_alloc_new w _
  have t1 : Touch w W1 (fun k => base ≤ k ∧ ¬ D k) := hW1 ▸ (Touch.refl _ _).alloc _
  have HW := Lib.hid hw1
  have HC := Lib.hid hc1
  have HB := Lib.hid (t1.keeps hr (fun h => absurd h.1 (by omega)))
  have HT := Lib.hid t1
  have HRB := Lib.hid hR
  have HL := Lib.hid hlen
  have HOK := Lib.hid ok
  obtain ⟨k0, k1, k2, k3, k4, k5, k6, k7, k8, k9, k10, k11, k12, k13⟩ := rcells_of HB.out
  obtain ⟨m0, m1, m2, m3, m4, m5⟩ := wcells_of HC.out
  rw [hkd] at k0
  clear hkd
  clear h hr hw1 hc1 t1 hR hlen ok
  simp only [wcs] at hW1
  simp only [wcs]
  go_enter Try.func53, Try.ntmps53
  go_wp2_with fail
  go_still_tail 6, (by kernel_rfl)
  change wpList _ _ _ _ _ W1.drew
  have HQ := Lib.hid (w_tuple base G R 1 _ _ r.t W1.drew HW.out.drew HOK.out.t (by have := HL.out; (try simp only [List.length_append, beB_length, tbF_length]); omega) k1 k2 k3 k4 k5)
  go_wp2_with (go_at_call 77; (with_reducible refine HQ.out.mono ?_); rintro e w2 ⟨rfl, h1, h2⟩; have t9 := ((Touch.refl W1 _).drew).trans h2 (fun _ _ h => h); have HW := Lib.hid h1; have HB := Lib.hid (t9.keeps HB.out (fun h => absurd h.1 (by have := HRB.out; omega))); have HC := Lib.hid (t9.keeps HC.out (fun h => h.2 (.inr rfl))); have HT := Lib.hid (HT.out.trans t9 (fun k hk h => ⟨h.1, fun hd => h.2 (.inl hd)⟩)); have T9 := Lib.hid t9; clear t9; clear h1 h2 k0 k1 k2 k3 k4 k5 k6 k7 k8 k9 k10 k11 k12 k13 m0 m1 m2 m3 m4 m5; obtain ⟨k0, k1, k2, k3, k4, k5, k6, k7, k8, k9, k10, k11, k12, k13⟩ := rcells_of HB.out; obtain ⟨m0, m1, m2, m3, m4, m5⟩ := wcells_of HC.out; clear HQ)
  go_end0
  refine ⟨rfl, ?_, HT.out⟩
  have hw := HW.out.mono (D' := D) (fun k hk => .inl hk)
  simpa only [List.append_assoc] using hw

set_option maxRecDepth 20000 in
set_option maxHeartbeats 4000000 in
theorem wwalk_k4 (base G R : Nat) (D : Nat → Prop) (xs : List Nat) (r : RecD) (a : Option Addr) (cap : Nat) (v : Int) (hv : verB v = true) (hk : r.kind = 4) (w : World) (h : WrD w base G D xs) (hr : w.heap[R]? = some (.cells (rcs r a cap) 29 (0, 0))) (hR : R < base)
    (hrow : RowK w a r.bs.length cap r.bs) (ha : ∀ x, a = some x → r.bs.length = 0 ∨ x.block < base) (ok : RecOk r) (less : RecLess r) (hlen : xs.length ≤ 700000) :
    Calls Try.prog 53 #[.agg (wcs G), .pointer (some ⟨R, 0, none⟩), .int .i64 v] w (PutD w base G D xs (bodyF r v)) := by
  have hp : bodyF r v = beB 2 (u64N r.be) ++ beB 8 (u64N r.un) := by unfold bodyF; rw [if_neg (by omega), if_neg (by omega), if_neg (by omega), if_pos hk]
  rw [hp]
  have HKD := Lib.hid hk
  have HV := Lib.hid hv
  have HLE := Lib.hid less
  have HRW := Lib.hid hrow
  have HRA := Lib.hid ha
  have hl8 : xs.length ≤ 800000 := by omega
  have HL8 := Lib.hid hl8
  have hkd : r.kind = 4 := hk
  clear hp hv less hrow ha hk hl8
  obtain ⟨W1, hW1⟩ : ∃ W, w.alloc (.cells (wcs G) 76) = W := ⟨_, rfl⟩
  have hw1 : WrD W1 base G (fun k => D k ∨ k = w.heap.size) xs := hW1 ▸ h.more _
  have hc1 : W1.heap[w.heap.size]? = some (.cells (wcs G) 76 (0, 0)) := hW1 ▸ heap_alloc_new w _
  have t1 : Touch w W1 (fun k => base ≤ k ∧ ¬ D k) := hW1 ▸ (Touch.refl _ _).alloc _
  have HW := Lib.hid hw1
  have HC := Lib.hid hc1
  have HB := Lib.hid (t1.keeps hr (fun h => absurd h.1 (by omega)))
  have HT := Lib.hid t1
  have HRB := Lib.hid hR
  have HL := Lib.hid hlen
  have HOK := Lib.hid ok
  obtain ⟨k0, k1, k2, k3, k4, k5, k6, k7, k8, k9, k10, k11, k12, k13⟩ := rcells_of HB.out
  obtain ⟨m0, m1, m2, m3, m4, m5⟩ := wcells_of HC.out
  rw [hkd] at k0
  clear hkd
  clear h hr hw1 hc1 t1 hR hlen ok
  simp only [wcs] at hW1
  simp only [wcs]
  go_enter Try.func53, Try.ntmps53
  go_wp2_with fail
  go_still_tail 5, (by kernel_rfl)
  change wpList _ _ _ _ _ W1.drew
  have HQ := Lib.hid (w_u16 base G R 11 _ _ _ W1.drew HW.out.drew k11 HOK.out.be (by have := HL.out; (try simp only [List.length_append, beB_length, tbF_length]); omega))
  go_wp2_with (go_at_call 73; (with_reducible refine HQ.out.mono ?_); rintro e w2 ⟨rfl, h1, h2⟩; have t9 := ((Touch.refl W1 _).drew).trans h2 (fun _ _ h => h); have HW := Lib.hid h1; have HB := Lib.hid (t9.keeps HB.out (fun h => absurd h.1 (by have := HRB.out; omega))); have HC := Lib.hid (t9.keeps HC.out (fun h => h.2 (.inr rfl))); have HT := Lib.hid (HT.out.trans t9 (fun k hk h => ⟨h.1, fun hd => h.2 (.inl hd)⟩)); have T9 := Lib.hid t9; clear t9; clear h1 h2 k0 k1 k2 k3 k4 k5 k6 k7 k8 k9 k10 k11 k12 k13 m0 m1 m2 m3 m4 m5; obtain ⟨k0, k1, k2, k3, k4, k5, k6, k7, k8, k9, k10, k11, k12, k13⟩ := rcells_of HB.out; obtain ⟨m0, m1, m2, m3, m4, m5⟩ := wcells_of HC.out; clear HQ)
  go_wp2_with fail
  go_still_tail 5, (by kernel_rfl)
  change wpList _ _ _ _ _ w2.drew
  have HQ := Lib.hid (w_i64 base G R 12 _ _ _ w2.drew HW.out.drew k12 HOK.out.un (by have := HL.out; (try simp only [List.length_append, beB_length, tbF_length]); omega))
  go_wp2_with (go_at_call 76; (with_reducible refine HQ.out.mono ?_); rintro e w3 ⟨rfl, h1, h2⟩; have t9 := ((Touch.refl w2 _).drew).trans h2 (fun _ _ h => h); have HW := Lib.hid h1; have HB := Lib.hid (t9.keeps HB.out (fun h => absurd h.1 (by have := HRB.out; omega))); have HC := Lib.hid (t9.keeps HC.out (fun h => h.2 (.inr rfl))); have HT := Lib.hid (HT.out.trans t9 (fun k hk h => ⟨h.1, fun hd => h.2 (.inl hd)⟩)); have T9 := Lib.hid t9; clear t9; clear h1 h2 k0 k1 k2 k3 k4 k5 k6 k7 k8 k9 k10 k11 k12 k13 m0 m1 m2 m3 m4 m5; obtain ⟨k0, k1, k2, k3, k4, k5, k6, k7, k8, k9, k10, k11, k12, k13⟩ := rcells_of HB.out; obtain ⟨m0, m1, m2, m3, m4, m5⟩ := wcells_of HC.out; clear HQ)
  go_end0
  refine ⟨rfl, ?_, HT.out⟩
  have hw := HW.out.mono (D' := D) (fun k hk => .inl hk)
  simpa only [List.append_assoc] using hw

set_option maxRecDepth 20000 in
set_option maxHeartbeats 4000000 in
theorem wwalk_k5 (base G R : Nat) (D : Nat → Prop) (xs : List Nat) (r : RecD) (a : Option Addr) (cap : Nat) (v : Int) (hv : verB v = true) (hk : r.kind = 5) (w : World) (h : WrD w base G D xs) (hr : w.heap[R]? = some (.cells (rcs r a cap) 29 (0, 0))) (hR : R < base)
    (hrow : RowK w a r.bs.length cap r.bs) (ha : ∀ x, a = some x → r.bs.length = 0 ∨ x.block < base) (ok : RecOk r) (less : RecLess r) (hlen : xs.length ≤ 700000) :
    Calls Try.prog 53 #[.agg (wcs G), .pointer (some ⟨R, 0, none⟩), .int .i64 v] w (PutD w base G D xs (bodyF r v)) := by
  have hp : bodyF r v = beB 2 (u64N r.be) := by unfold bodyF; rw [if_neg (by omega), if_neg (by omega), if_neg (by omega), if_neg (by omega), if_pos hk]
  rw [hp]
  have HKD := Lib.hid hk
  have HV := Lib.hid hv
  have HLE := Lib.hid less
  have HRW := Lib.hid hrow
  have HRA := Lib.hid ha
  have hl8 : xs.length ≤ 800000 := by omega
  have HL8 := Lib.hid hl8
  have hkd : r.kind = 5 := hk
  clear hp hv less hrow ha hk hl8
  obtain ⟨W1, hW1⟩ : ∃ W, w.alloc (.cells (wcs G) 76) = W := ⟨_, rfl⟩
  have hw1 : WrD W1 base G (fun k => D k ∨ k = w.heap.size) xs := hW1 ▸ h.more _
  have hc1 : W1.heap[w.heap.size]? = some (.cells (wcs G) 76 (0, 0)) := hW1 ▸ heap_alloc_new w _
  have t1 : Touch w W1 (fun k => base ≤ k ∧ ¬ D k) := hW1 ▸ (Touch.refl _ _).alloc _
  have HW := Lib.hid hw1
  have HC := Lib.hid hc1
  have HB := Lib.hid (t1.keeps hr (fun h => absurd h.1 (by omega)))
  have HT := Lib.hid t1
  have HRB := Lib.hid hR
  have HL := Lib.hid hlen
  have HOK := Lib.hid ok
  obtain ⟨k0, k1, k2, k3, k4, k5, k6, k7, k8, k9, k10, k11, k12, k13⟩ := rcells_of HB.out
  obtain ⟨m0, m1, m2, m3, m4, m5⟩ := wcells_of HC.out
  rw [hkd] at k0
  clear hkd
  clear h hr hw1 hc1 t1 hR hlen ok
  simp only [wcs] at hW1
  simp only [wcs]
  go_enter Try.func53, Try.ntmps53
  go_wp2_with fail
  go_still_tail 5, (by kernel_rfl)
  change wpList _ _ _ _ _ W1.drew
  have HQ := Lib.hid (w_u16 base G R 11 _ _ _ W1.drew HW.out.drew k11 HOK.out.be (by have := HL.out; (try simp only [List.length_append, beB_length, tbF_length]); omega))
  go_wp2_with (go_at_call 73; (with_reducible refine HQ.out.mono ?_); rintro e w2 ⟨rfl, h1, h2⟩; have t9 := ((Touch.refl W1 _).drew).trans h2 (fun _ _ h => h); have HW := Lib.hid h1; have HB := Lib.hid (t9.keeps HB.out (fun h => absurd h.1 (by have := HRB.out; omega))); have HC := Lib.hid (t9.keeps HC.out (fun h => h.2 (.inr rfl))); have HT := Lib.hid (HT.out.trans t9 (fun k hk h => ⟨h.1, fun hd => h.2 (.inl hd)⟩)); have T9 := Lib.hid t9; clear t9; clear h1 h2 k0 k1 k2 k3 k4 k5 k6 k7 k8 k9 k10 k11 k12 k13 m0 m1 m2 m3 m4 m5; obtain ⟨k0, k1, k2, k3, k4, k5, k6, k7, k8, k9, k10, k11, k12, k13⟩ := rcells_of HB.out; obtain ⟨m0, m1, m2, m3, m4, m5⟩ := wcells_of HC.out; clear HQ)
  go_end0
  refine ⟨rfl, ?_, HT.out⟩
  have hw := HW.out.mono (D' := D) (fun k hk => .inl hk)
  simpa only [List.append_assoc] using hw

set_option maxRecDepth 20000 in
set_option maxHeartbeats 4000000 in
theorem wwalk_k6 (base G R : Nat) (D : Nat → Prop) (xs : List Nat) (r : RecD) (a : Option Addr) (cap : Nat) (v : Int) (hv : verB v = true) (hk : r.kind = 6) (w : World) (h : WrD w base G D xs) (hr : w.heap[R]? = some (.cells (rcs r a cap) 29 (0, 0))) (hR : R < base)
    (hrow : RowK w a r.bs.length cap r.bs) (ha : ∀ x, a = some x → r.bs.length = 0 ∨ x.block < base) (ok : RecOk r) (less : RecLess r) (hlen : xs.length ≤ 700000) :
    Calls Try.prog 53 #[.agg (wcs G), .pointer (some ⟨R, 0, none⟩), .int .i64 v] w (PutD w base G D xs (bodyF r v)) := by
  have hp : bodyF r v = beB 4 (u64N r.ct) := by unfold bodyF; rw [if_neg (by omega), if_neg (by omega), if_neg (by omega), if_neg (by omega), if_neg (by omega)]
  rw [hp]
  have HKD := Lib.hid hk
  have HV := Lib.hid hv
  have HLE := Lib.hid less
  have HRW := Lib.hid hrow
  have HRA := Lib.hid ha
  have hl8 : xs.length ≤ 800000 := by omega
  have HL8 := Lib.hid hl8
  have hkd : r.kind = 6 := hk
  clear hp hv less hrow ha hk hl8
  obtain ⟨W1, hW1⟩ : ∃ W, w.alloc (.cells (wcs G) 76) = W := ⟨_, rfl⟩
  have hw1 : WrD W1 base G (fun k => D k ∨ k = w.heap.size) xs := hW1 ▸ h.more _
  have hc1 : W1.heap[w.heap.size]? = some (.cells (wcs G) 76 (0, 0)) := hW1 ▸ heap_alloc_new w _
  have t1 : Touch w W1 (fun k => base ≤ k ∧ ¬ D k) := hW1 ▸ (Touch.refl _ _).alloc _
  have HW := Lib.hid hw1
  have HC := Lib.hid hc1
  have HB := Lib.hid (t1.keeps hr (fun h => absurd h.1 (by omega)))
  have HT := Lib.hid t1
  have HRB := Lib.hid hR
  have HL := Lib.hid hlen
  have HOK := Lib.hid ok
  obtain ⟨k0, k1, k2, k3, k4, k5, k6, k7, k8, k9, k10, k11, k12, k13⟩ := rcells_of HB.out
  obtain ⟨m0, m1, m2, m3, m4, m5⟩ := wcells_of HC.out
  rw [hkd] at k0
  clear hkd
  clear h hr hw1 hc1 t1 hR hlen ok
  simp only [wcs] at hW1
  simp only [wcs]
  go_enter Try.func53, Try.ntmps53
  go_wp2_with fail
  go_still_tail 5, (by kernel_rfl)
  change wpList _ _ _ _ _ W1.drew
  have HQ := Lib.hid (w_u32 base G R 13 _ _ _ W1.drew HW.out.drew k13 (HLE.out.ct HKD.out) (by have := HL.out; (try simp only [List.length_append, beB_length, tbF_length]); omega))
  go_wp2_with (go_at_call 74; (with_reducible refine HQ.out.mono ?_); rintro e w2 ⟨rfl, h1, h2⟩; have t9 := ((Touch.refl W1 _).drew).trans h2 (fun _ _ h => h); have HW := Lib.hid h1; have HB := Lib.hid (t9.keeps HB.out (fun h => absurd h.1 (by have := HRB.out; omega))); have HC := Lib.hid (t9.keeps HC.out (fun h => h.2 (.inr rfl))); have HT := Lib.hid (HT.out.trans t9 (fun k hk h => ⟨h.1, fun hd => h.2 (.inl hd)⟩)); have T9 := Lib.hid t9; clear t9; clear h1 h2 k0 k1 k2 k3 k4 k5 k6 k7 k8 k9 k10 k11 k12 k13 m0 m1 m2 m3 m4 m5; obtain ⟨k0, k1, k2, k3, k4, k5, k6, k7, k8, k9, k10, k11, k12, k13⟩ := rcells_of HB.out; obtain ⟨m0, m1, m2, m3, m4, m5⟩ := wcells_of HC.out; clear HQ)
  go_end0
  refine ⟨rfl, ?_, HT.out⟩
  have hw := HW.out.mono (D' := D) (fun k hk => .inl hk)
  simpa only [List.append_assoc] using hw

set_option maxRecDepth 20000 in
set_option maxHeartbeats 4000000 in
theorem wwalk_k3 (base G R : Nat) (D : Nat → Prop) (xs : List Nat) (r : RecD) (a : Option Addr) (cap : Nat) (v : Int) (hv : verB v = true) (hk : r.kind = 3) (w : World) (h : WrD w base G D xs) (hr : w.heap[R]? = some (.cells (rcs r a cap) 29 (0, 0))) (hR : R < base)
    (hrow : RowK w a r.bs.length cap r.bs) (ha : ∀ x, a = some x → r.bs.length = 0 ∨ x.block < base) (ok : RecOk r) (less : RecLess r) (hlen : xs.length ≤ 700000) :
    Calls Try.prog 53 #[.agg (wcs G), .pointer (some ⟨R, 0, none⟩), .int .i64 v] w (PutD w base G D xs (bodyF r v)) := by
  have hp : bodyF r v = beB 4 (u64N r.gen) ++ (beB 1 (u64N r.bs.length) ++ bksF v r.bs) := by unfold bodyF; rw [if_neg (by omega), if_neg (by omega), if_pos hk]
  rw [hp]
  have HKD := Lib.hid hk
  have HV := Lib.hid hv
  have HLE := Lib.hid less
  have HRW := Lib.hid hrow
  have HRA := Lib.hid ha
  have hl8 : xs.length ≤ 800000 := by omega
  have HL8 := Lib.hid hl8
  have hkd : r.kind = 3 := hk
  clear hp hv less hrow ha hk hl8
  obtain ⟨W1, hW1⟩ : ∃ W, w.alloc (.cells (wcs G) 76) = W := ⟨_, rfl⟩
  have hw1 : WrD W1 base G (fun k => D k ∨ k = w.heap.size) xs := hW1 ▸ h.more _
  have hc1 : W1.heap[w.heap.size]? = some (.cells (wcs G) 76 (0, 0)) := hW1 ▸ heap_alloc_new w _
  have t1 : Touch w W1 (fun k => base ≤ k ∧ ¬ D k) := hW1 ▸ (Touch.refl _ _).alloc _
  have HW := Lib.hid hw1
  have HC := Lib.hid hc1
  have HB := Lib.hid (t1.keeps hr (fun h => absurd h.1 (by omega)))
  have HT := Lib.hid t1
  have HRB := Lib.hid hR
  have HL := Lib.hid hlen
  have HOK := Lib.hid ok
  obtain ⟨k0, k1, k2, k3, k4, k5, k6, k7, k8, k9, k10, k11, k12, k13⟩ := rcells_of HB.out
  obtain ⟨m0, m1, m2, m3, m4, m5⟩ := wcells_of HC.out
  have hW1w : Touch w W1 (fun k => base ≤ k) := t1.mono (fun _ _ h => h.1)
  have HIC : RowKit.Hid ((Try.prog.info? 76).map (·.size) = some (wcs G).size) := Lib.hid (by kernel_rfl)
  rw [hkd] at k0
  clear hkd
  clear h hr hw1 hc1 t1 hR hlen ok
  simp only [wcs] at hW1
  simp only [wcs]
  go_enter Try.func53, Try.ntmps53
  go_wp2_with fail
  go_still_tail 5, (by kernel_rfl)
  change wpList _ _ _ _ _ W1.drew
  have HQ := Lib.hid (w_u32 base G R 9 _ _ _ W1.drew HW.out.drew k9 (HLE.out.gen HKD.out) (by have := HL.out; (try simp only [List.length_append, beB_length, tbF_length]); omega))
  go_wp2_with (go_at_call 74; (with_reducible refine HQ.out.mono ?_); rintro e w2 ⟨rfl, h1, h2⟩; have t9 := ((Touch.refl W1 _).drew).trans h2 (fun _ _ h => h); have HW := Lib.hid h1; have HB := Lib.hid (t9.keeps HB.out (fun h => absurd h.1 (by have := HRB.out; omega))); have HC := Lib.hid (t9.keeps HC.out (fun h => h.2 (.inr rfl))); have HT := Lib.hid (HT.out.trans t9 (fun k hk h => ⟨h.1, fun hd => h.2 (.inl hd)⟩)); have T9 := Lib.hid t9; clear t9; clear h1 h2 k0 k1 k2 k3 k4 k5 k6 k7 k8 k9 k10 k11 k12 k13 m0 m1 m2 m3 m4 m5; obtain ⟨k0, k1, k2, k3, k4, k5, k6, k7, k8, k9, k10, k11, k12, k13⟩ := rcells_of HB.out; obtain ⟨m0, m1, m2, m3, m4, m5⟩ := wcells_of HC.out; clear HQ)
  have HQ := Lib.hid (wbacks_any base G R _ _ r a cap v HV.out w2 HW.out HB.out HRB.out (((HRW.out.touch (S := fun k => base ≤ k) (hW1w) (fun x hx => (HRA.out x hx).imp id (fun h1 h2 => by omega))).touch T9.out (fun x hx => (HRA.out x hx).imp id (fun h1 h2 => by have := h2.1; omega)))) HRA.out HOK.out.bs (HLE.out.bs HKD.out) (by have := HL.out; (try simp only [List.length_append, beB_length, tbF_length]); omega))
  simp only [wcs] at HQ
  go_wp2_with (first
    | (refine wpList_load_row rfl 76 (.tmp 3) rfl w.heap.size rfl _ _ _ _ HC.out Try.underlying76 rfl HIC.out ?_)
    | (go_at_call 79; (with_reducible refine HQ.out.mono ?_); rintro e w3 ⟨rfl, h1, h2⟩; have t9 := h2; have HW := Lib.hid h1; have HB := Lib.hid (t9.keeps HB.out (fun h => absurd h.1 (by have := HRB.out; omega))); have HC := Lib.hid (t9.keeps HC.out (fun h => h.2 (.inr rfl))); have HT := Lib.hid (HT.out.trans t9 (fun k hk h => ⟨h.1, fun hd => h.2 (.inl hd)⟩)); have T9 := Lib.hid t9; clear t9; clear h1 h2 k0 k1 k2 k3 k4 k5 k6 k7 k8 k9 k10 k11 k12 k13 m0 m1 m2 m3 m4 m5; obtain ⟨k0, k1, k2, k3, k4, k5, k6, k7, k8, k9, k10, k11, k12, k13⟩ := rcells_of HB.out; obtain ⟨m0, m1, m2, m3, m4, m5⟩ := wcells_of HC.out))
  go_end0
  refine ⟨rfl, ?_, HT.out⟩
  have hw := HW.out.mono (D' := D) (fun k hk => .inl hk)
  simpa only [List.append_assoc] using hw
end Go.Proofs.Ytbklngcocbnijaa
