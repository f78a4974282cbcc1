/- A chooser asked: by number, by tuple; one that there isn't; the known choice. -/
import Derived.Test.YtfjnhaoiecndpaaCho3
import Derived.Lib.QuietBelow
import Derived.BigQuiet
set_option linter.unusedVariables false
namespace Go.Proofs.Ytfjnhaoiecndpaa
open Go.RowKit

theorem findV_form (bs : List BkD) (id : Int) : ∃ (b : BkD) (x : Bool), findV bs id = .tuple #[bkV' b, .bool x] := by
  unfold findV
  cases findF bs id with
  | none => exact ⟨bkZ, false, rfl⟩
  | some b => exact ⟨b, true, rfl⟩

set_option maxRecDepth 20000 in
set_option maxHeartbeats 2000000 in
theorem cfind_any (n C : Nat) (ab : Option Addr) (lb cb : Nat) (at_ : Option Addr) (lt ct m : Nat) (bs : List BkD) (id : Int) (w : World)
    (hc : w.heap[C]? = some (.cells (chC n ab lb cb at_ lt ct m) 49 (0, 0))) (hr : RowK w ab lb cb bs) :
    Calls Try.prog 6 #[.pointer (some ⟨C, 0, none⟩), .int .i64 id] w fun e w' => e = .returned (findV bs id) ∧ Touch w w' (fun _ => False) := by
  obtain ⟨W0, hW0⟩ : ∃ W, w.alloc (.cells #[.int .i64 0, .int .u32 0, .int .i64 0] 28) = W := ⟨_, rfl⟩
  have t0 : Touch w W0 (fun _ => False) := hW0 ▸ (Touch.refl w _).alloc _
  have g0 : W0.heap[w.heap.size]? = some (.cells #[.int .i64 0, .int .u32 0, .int .i64 0] 28 (0, 0)) := hW0 ▸ heap_alloc_new ..
  have hc1 : W0.cell? ⟨C, 1, none⟩ = some (.slice ab lb cb) := cell_of_cells (t0.keeps hc (fun h => h)) 1
  have HFN := Lib.hid (find_any ab lb cb bs id W0 (hr.still t0))
  have HT0 := Lib.hid t0
  have HG0 := Lib.hid g0
  have HII := Lib.hid infoBk3
  have HW0 := Lib.hid hW0
  have HC1 := Lib.hid hc1
  obtain ⟨⟨bi, ba, bw⟩, x, hfv⟩ := findV_form bs id
  have HFV := Lib.hid hfv
  rw [hfv] at HFN
  clear t0 g0 hW0 hc hr hc1 hfv
  go_enter Try.func6, Try.ntmps6
  go_upto_region 1 with (fail)
  rw [HW0.out]
  have hc1 := HC1.out
  go_wp2_with fail
  refine HFN.out.mono ?_
  rintro e w3 ⟨rfl, t3⟩
  have HG3 := Lib.hid (t3.keeps HG0.out (fun h => h))
  have HT3 := Lib.hid (HT0.out.trans t3 (fun _ _ h => h))
  simp only [bkV']
  clear t3 hc1
  go_wp2_with (refine store_row rfl 28 (.tmp 4) (.tmp 15) rfl w.heap.size _ rfl rfl _ _ HG3.out HII.out rfl rfl ?_)
  refine ret_row1 rfl rfl w.heap.size _ #[.int .i64 bi, .int .u32 ba, .int .i64 bw] _ _ rfl (setRow_heap _ _ _ _ _ _ HG3.out) Try.underlying28 rfl HII.out (.bool x) rfl ?_
  exact ⟨by rw [HFV.out]; rfl, HT3.out.setRow _ _ (fun h => absurd h (Nat.lt_irrefl _))⟩

set_option maxRecDepth 20000 in
set_option maxHeartbeats 4000000 in
theorem pick_any (n C : Nat) (ab : Option Addr) (lb cb G m : Nat) (bs : List BkD) (T : List Int) (t : TupD) (w : World) (hn : 0 < n) (hn2 : n ≤ 251) (ok : TupOk t) (hm : mayTB t = true)
    (hc : w.heap[C]? = some (.cells (chC n ab lb cb (some ⟨G, 0, none⟩) n n m) 49 (0, 0))) (hr : RowK w ab lb cb bs) (hi : RowI w (some ⟨G, 0, none⟩) n n T) :
    Calls Try.prog 5 #[.pointer (some ⟨C, 0, none⟩), .agg (tcs t)] w fun e w' => (∃ (h : hashF t % n < T.length), e = .returned (findV bs T[hashF t % n])) ∧ Touch w w' (fun _ => False) := by
  obtain ⟨W0, hW0⟩ : ∃ W, (w.alloc (.cells (tcs t) 25)).alloc (.cells #[.int .i64 0, .int .u32 0, .int .i64 0] 28) = W := ⟨_, rfl⟩
  have t0 : Touch w W0 (fun _ => False) := hW0 ▸ ((Touch.refl w _).alloc _).alloc _
  have gk : W0.heap[w.heap.size]? = some (.cells (tcs t) 25 (0, 0)) := hW0 ▸ ((Touch.refl (w.alloc (.cells (tcs t) 25)) (fun _ => False)).alloc _).keeps (heap_alloc_new ..) (fun h => h)
  have g0 : W0.heap[w.heap.size + 1]? = some (.cells #[.int .i64 0, .int .u32 0, .int .i64 0] 28 (0, 0)) := by
    have := heap_alloc_new (w.alloc (.cells (tcs t) 25)) (.cells #[.int .i64 0, .int .u32 0, .int .i64 0] 28)
    rw [hW0] at this
    simpa using this
  have HK := Lib.hid gk
  have HG0 := Lib.hid g0
  have HT0 := Lib.hid t0
  have HC := Lib.hid (t0.keeps hc (fun h => h))
  have HR := Lib.hid (hr.still t0)
  have HI := Lib.hid (hi.still t0)
  have HW0 := Lib.hid hW0
  have HII := Lib.hid infoBk3
  have HMT : RowKit.Hid (∀ W, Calls Try.prog 17 #[.agg (tcs t)] W fun e w' => e = .returned (.bool true) ∧ Touch W w' (fun _ => False)) := Lib.hid (fun W => by rw [← hm]; exact mayT_any t W)
  have HHA := Lib.hid (fun W => hash_any t ok W)
  have hhl := hashF_lt t
  obtain ⟨H, hH⟩ : ∃ H, hashF t = H := ⟨_, rfl⟩
  rw [hH] at HHA hhl ⊢
  have hTl := hi.1
  have hsl : H % n < n := Nat.mod_lt _ hn
  obtain ⟨s, hs⟩ : ∃ s, H % n = s := ⟨_, rfl⟩
  have hsT : s < T.length := by rw [hTl, ← hs]; exact hsl
  rw [hs] at hsl
  suffices h : Calls Try.prog 5 #[.pointer (some ⟨C, 0, none⟩), .agg (tcs t)] w fun e w' => e = .returned (findV bs T[s]) ∧ Touch w w' (fun _ => False) by
    refine h.mono ?_
    rintro e w' ⟨he, ht⟩
    subst hs
    exact ⟨⟨hsT, he⟩, ht⟩
  have hTs : RowKit.Hid (∀ W, Touch W0 W (fun _ => False) → W.cell? ⟨G, s, none⟩ = some (.int .i64 T[s])) := Lib.hid (fun W t => by
    obtain ⟨b, off, hb, hcl⟩ := (HI.out.still t).some hn
    cases hb
    have := hcl s hsT
    rwa [Nat.zero_add] at this)
  have HFV : RowKit.Hid (∀ W, Touch W0 W (fun _ => False) → Calls Try.prog 6 #[.pointer (some ⟨C, 0, none⟩), .int .i64 T[s]] W fun e w' => e = .returned (findV bs T[s]) ∧ Touch W w' (fun _ => False)) := Lib.hid (fun W t => cfind_any n C ab lb cb (some ⟨G, 0, none⟩) n n m bs T[s] W (t.keeps HC.out (fun h => h)) (HR.out.still t))
  obtain ⟨⟨bi, ba, bw⟩, x, hfv⟩ := findV_form bs T[s]
  rw [hfv] at HFV ⊢
  have HSE : RowKit.Hid ((H : Int) % (n : Int) = (s : Int)) := Lib.hid (by omega)
  have htm : Int.tmod (H : Int) (n : Int) = (s : Int) := by
    rw [Int.tmod_eq_emod_of_nonneg (by omega)]; exact HSE.out
  generalize T[s] = z at *
  obtain ⟨t1', t2', t3', t4', t5'⟩ := t
  simp only [tcs] at HK HW0 HMT HHA ⊢
  have HCX : RowKit.Hid (∀ W, Touch W0 W (fun _ => False) → W.cell? ⟨C, 2, none⟩ = some (.slice (some ⟨G, 0, none⟩) n n)) := Lib.hid (fun W t => cell_of_cells (t.keeps HC.out (fun h => h)) 2)
  have HKX : RowKit.Hid (∀ W, Touch W0 W (fun _ => False) → W.cell? ⟨w.heap.size, 0, none⟩ = some (.int .u32 t1') ∧ W.cell? ⟨w.heap.size, 1, none⟩ = some (.int .u32 t2') ∧ W.cell? ⟨w.heap.size, 2, none⟩ = some (.int .i64 t3') ∧ W.cell? ⟨w.heap.size, 3, none⟩ = some (.int .i64 t4') ∧ W.cell? ⟨w.heap.size, 4, none⟩ = some (.int .i64 t5')) := Lib.hid (fun W t => by
    have g := t.keeps HK.out (fun h => h)
    exact ⟨cell_of_cells g 0, cell_of_cells g 1, cell_of_cells g 2, cell_of_cells g 3, cell_of_cells g 4⟩)
  clear t0 gk g0 hW0 hc hr hi ok hm hH
  go_enter Try.func5, Try.ntmps5
  go_upto_region 1 with (fail)
  rw [HW0.out]
  have k2 := HCX.out W0 (Touch.refl _ _)
  obtain ⟨q0, q1, q2, q3, q4⟩ := HKX.out W0 (Touch.refl _ _)
  have hnz : ¬ (n : Int) = 0 := by omega
  have hnB : ((n : Int) == 0) = false := beq_eq_false_iff_ne.2 hnz
  go_wp2_with (go_at_call 17; (with_reducible refine (HMT.out _).mono ?_); rintro e w3 ⟨rfl, t3⟩; have T3 := Lib.hid t3; clear t3)
  clear k2 q0 q1 q2 q3 q4
  obtain ⟨q0, q1, q2, q3, q4⟩ := HKX.out w3 T3.out
  have x0 := fun d os => cell_regrown q0 d os
  have x1 := fun d os => cell_regrown q1 d os
  have x2 := fun d os => cell_regrown q2 d os
  have x3 := fun d os => cell_regrown q3 d os
  have x4 := fun d os => cell_regrown q4 d os
  have xc := fun d os => cell_regrown (HCX.out w3 T3.out) d os
  have cH := fun d os => Calls.regrown_of ((HHA.out (Sort.grow (redrawn w3 d) os)).mono (fun e w' h => ⟨h.1, h.2.below (fun _ _ h => h.elim) (Nat.le_refl _)⟩))
  have hwn : IntKind.u32.wrap (n : Int) = n := by rw [IntKind.wrap_u32]; omega
  have hwS : IntKind.i64.wrap (s : Int) = s := IntWalk.i64_in _ (by omega)
  have hwH : IntKind.u32.wrap (s : Int) = s := by rw [IntKind.wrap_u32]; omega
  have hn0 : ¬ n = 0 := by omega
  have hse := HSE.out
  refine wp_region_quiet_below (by kernel_rfl) (by kernel_rfl) ?_
  repeat (go_big_quiet_step (exact cH _ _))
  refine wpQuiet_nil ?_
  intro _ hw'
  obtain ⟨⟨dq, osq⟩, hw''⟩ := hw'
  subst hw''
  have t4 := T3.out.trans (Touch.ofBelow (S := fun _ => False) (below_regrown w3 dq osq) (fun k h1 h2 => by omega)) (fun _ _ h => h)
  obtain ⟨w4, hw4⟩ : ∃ w4, Sort.grow (redrawn w3 dq) osq = w4 := ⟨_, rfl⟩
  have e4 : Sort.grow (redrawn w3 (Regrown.mk dq osq).d) (Regrown.mk dq osq).os = w4 := hw4
  rw [hw4] at t4
  rw [e4]
  have T4 := Lib.hid t4
  clear x0 x1 x2 x3 x4 xc cH hwn hwS hwH hw4 e4 t4 q0 q1 q2 q3 q4
  have k2 := HCX.out w4 T4.out
  have kt := hTs.out w4 T4.out
  have hsI : (s : Int) < n := by omega
  have HFN := Lib.hid (HFV.out w4 T4.out)
  clear HFV
  simp only [bkV'] at HFN ⊢
  go_wp2_with fail
  refine HFN.out.mono ?_
  rintro e w5 ⟨rfl, t5⟩
  have HG5 := Lib.hid ((T4.out.trans t5 (fun _ _ h => h)).keeps HG0.out (fun h => h))
  have HT5 := Lib.hid (HT0.out.trans (T4.out.trans t5 (fun _ _ h => h)) (fun _ _ h => h))
  clear t5 k2 kt
  go_wp2_with (refine store_row rfl 28 (.tmp 4) (.tmp 42) rfl (w.heap.size + 1) _ rfl rfl _ _ HG5.out HII.out rfl rfl ?_)
  refine ret_row1 rfl rfl (w.heap.size + 1) _ #[.int .i64 bi, .int .u32 ba, .int .i64 bw] _ _ rfl (setRow_heap _ _ _ _ _ _ HG5.out) Try.underlying28 rfl HII.out (.bool x) rfl ?_
  exact ⟨rfl, HT5.out.setRow _ _ (fun h => absurd h (by omega))⟩
end Go.Proofs.Ytfjnhaoiecndpaa
