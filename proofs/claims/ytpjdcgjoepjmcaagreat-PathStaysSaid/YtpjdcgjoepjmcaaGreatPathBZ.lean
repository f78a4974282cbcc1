import Derived.Test.YtpjdcgjoepjmcaaGreatKAZ
import Derived.Test.YtpjdcgjoepjmcaaGreatPathRZ
set_option linter.unusedVariables false
set_option linter.unusedSimpArgs false
namespace Go.Proofs.YtpjdcgjoepjmcaaGreat
open Go.RowKit

theorem infoPlan : (Tryz.prog.info? 53).map (·.size) = some 5 := by kernel_rfl
def planV (v r b : Int) (p q : Value) : Array Value := #[.int .i64 v, .int .i64 r, .int .i64 b, p, q]
set_option maxRecDepth 20000 in
set_option maxHeartbeats 4000000 in
theorem dropped_any (r : Int) (w : World) : Calls Tryz.prog 47 #[.int .i64 r] w fun e w' => e = .returned (.agg (planV 1 r 0 (.slice none 0 0) (.slice none 0 0))) ∧ Touch w w' (fun _ => False) := by
  obtain ⟨W0, hW0⟩ : ∃ W, w.alloc (.cells (planV 0 0 0 (.slice none 0 0) (.slice none 0 0)) 53) = W := ⟨_, rfl⟩
  have t0 : Touch w W0 (fun _ => False) := hW0 ▸ (Touch.refl w _).alloc _
  have g0 : W0.heap[w.heap.size]? = some (.cells (planV 0 0 0 (.slice none 0 0) (.slice none 0 0)) 53 (0, 0)) := hW0 ▸ heap_alloc_new ..
  have HG0 := Lib.hid g0
  have HT0 := Lib.hid t0
  have HW0 := Lib.hid hW0
  have HPI := Lib.hid infoPlan
  simp only [planV] at HW0
  clear t0 g0 hW0
  go_enter Tryz.func47, Tryz.ntmps47
  go_upto_region 1 with (fail)
  rw [HW0.out]
  go_wp2_with (refine store_row rfl 53 (.tmp 2) (.tmp 5) rfl w.heap.size _ rfl rfl _ _ HG0.out HPI.out rfl rfl ?_)
  refine ret_row rfl rfl w.heap.size _ (planV 1 r 0 (.slice none 0 0) (.slice none 0 0)) _ _ rfl (setRow_heap _ _ _ _ _ _ HG0.out) Tryz.underlying53 rfl infoPlan ?_
  exact ⟨rfl, HT0.out.setRow _ _ (fun h => absurd h (Nat.lt_irrefl _))⟩
structure ChP (w : World) (C n : Nat) (bs : List BkD) (T : List Int) (ab : Option Addr) (lb cb G m : Nat) : Prop where
  hc : w.heap[C]? = some (.cells (chC n ab lb cb (some ⟨G, 0, none⟩) n n m) 100 (0, 0))
  hr : RowK w ab lb cb bs
  hi : RowI w (some ⟨G, 0, none⟩) n n T
theorem ChP.touch {S : Nat → Prop} {w w' : World} {C n : Nat} {bs : List BkD} {T : List Int} {ab : Option Addr} {lb cb G m : Nat} (h : ChP w C n bs T ab lb cb G m) (t : Touch w w' S) (h1 : ¬ S C) (h2 : ∀ x, ab = some x → ¬ S x.block) (h3 : ¬ S G) : ChP w' C n bs T ab lb cb G m :=
  ⟨t.keeps h.hc h1, h.hr.touch t (fun x hx => .inr (h2 x hx)), h.hi.touch t (fun x hx => .inr (fun e => by cases hx; exact h3 e))⟩
theorem ChP.still {w w' : World} {C n : Nat} {bs : List BkD} {T : List Int} {ab : Option Addr} {lb cb G m : Nat} (h : ChP w C n bs T ab lb cb G m) (t : Touch w w' (fun _ => False)) : ChP w' C n bs T ab lb cb G m := h.touch t (fun h => h) (fun _ _ h => h) (fun h => h)
theorem ChP.pick {w : World} {C n : Nat} {bs : List BkD} {T : List Int} {ab : Option Addr} {lb cb G m : Nat} (h : ChP w C n bs T ab lb cb G m) (hn : 0 < n) (hn2 : n ≤ 251) (t : TupD) (ok : TupOk t) :
    Calls Tryz.prog 81 #[.pointer (some ⟨C, 0, none⟩), .agg (tcs t)] w fun e w' => e = .returned (pickV bs T n t) ∧ Touch w w' (fun _ => False) :=
  pick_all n C ab lb cb G m bs T t w hn hn2 ok h.hc h.hr h.hi
theorem bkO_form (o : Option BkD) : ∃ (b : BkD) (x : Bool), bkO o = .tuple #[bkV' b, .bool x] := by
  cases o with
  | none => exact ⟨_, _, rfl⟩
  | some b => exact ⟨_, _, rfl⟩
set_option maxRecDepth 20000 in
set_option maxHeartbeats 12000000 in
theorem backend_any (w : World) (g : Nat) (h : FH) (most idle : Int) (M : List FlD) (d : FS w g h most idle M) (C n : Nat) (bs : List BkD) (T : List Int) (ab : Option Addr) (lb cb G m : Nat) (c : ChP w C n bs T ab lb cb G m) (hn : 0 < n) (hn2 : n ≤ 251) (k : TupD) (ok : TupOk k) :
    Calls Tryz.prog 48 #[.pointer (some ⟨g, 0, none⟩), .pointer (some ⟨C, 0, none⟩), .agg (tcs k)] w fun e w' => e = .returned (bkO (backF bs T n M k)) ∧ Touch w w' (fun _ => False) := by
  obtain ⟨Wa, hWa⟩ : ∃ W, w.alloc (.cells (tcs k) 37) = W := ⟨_, rfl⟩
  obtain ⟨W0, hW0⟩ : ∃ W, Wa.alloc (.cells #[.int .i64 0, .int .u32 0, .int .i64 0] 70) = W := ⟨_, rfl⟩
  have ta : Touch w Wa (fun _ => False) := hWa ▸ (Touch.refl w _).alloc _
  have t0' : Touch Wa W0 (fun _ => False) := hW0 ▸ (Touch.refl Wa _).alloc _
  have t0 := ta.trans t0' (fun _ _ h => h)
  have sa : Wa.heap.size = w.heap.size + 1 := by rw [← hWa]; simp
  have gk : W0.heap[w.heap.size]? = some (.cells (tcs k) 37 (0, 0)) := t0'.keeps (hWa ▸ heap_alloc_new ..) (fun h => h)
  have g0 : W0.heap[w.heap.size + 1]? = some (.cells #[.int .i64 0, .int .u32 0, .int .i64 0] 70 (0, 0)) := by
    rw [← sa]; exact hW0 ▸ heap_alloc_new ..
  have HGET := Lib.hid (fget_any W0 g h most idle M (d.still t0) k ok)
  have HG0 := Lib.hid g0
  have HGK := Lib.hid gk
  have HT0 := Lib.hid t0
  have HWa := Lib.hid hWa
  have HW0 := Lib.hid hW0
  have HCH := Lib.hid (c.still t0)
  obtain ⟨y, hy⟩ : ∃ y, getF M k = y := ⟨_, rfl⟩
  obtain ⟨kn, hkn⟩ : ∃ kn, hasF M k = kn := ⟨_, rfl⟩
  have hbf : backF bs T n M k = (match (if kn then findF bs y.fb else none) with | some b => some b | none => pickO bs T n k) := by subst hy hkn; rfl
  have HBF0 := Lib.hid hbf
  rw [hy, hkn] at HGET
  obtain ⟨q0, q1, q2, q3, q4⟩ : W0.cell? ⟨w.heap.size, 0, none⟩ = some (.int .u32 k.src) ∧ W0.cell? ⟨w.heap.size, 1, none⟩ = some (.int .u32 k.dst) ∧ W0.cell? ⟨w.heap.size, 2, none⟩ = some (.int .i64 k.proto) ∧ W0.cell? ⟨w.heap.size, 3, none⟩ = some (.int .i64 k.sport) ∧ W0.cell? ⟨w.heap.size, 4, none⟩ = some (.int .i64 k.dport) := ⟨cell_of_cells gk 0, cell_of_cells gk 1, cell_of_cells gk 2, cell_of_cells gk 3, cell_of_cells gk 4⟩
  have HQK : RowKit.Hid (∀ X, Touch W0 X (fun _ => False) → X.cell? ⟨w.heap.size, 0, none⟩ = some (.int .u32 k.src) ∧ X.cell? ⟨w.heap.size, 1, none⟩ = some (.int .u32 k.dst) ∧ X.cell? ⟨w.heap.size, 2, none⟩ = some (.int .i64 k.proto) ∧ X.cell? ⟨w.heap.size, 3, none⟩ = some (.int .i64 k.sport) ∧ X.cell? ⟨w.heap.size, 4, none⟩ = some (.int .i64 k.dport)) := Lib.hid (fun X x => by
    have g := x.keeps HGK.out (fun h => h)
    exact ⟨cell_of_cells g 0, cell_of_cells g 1, cell_of_cells g 2, cell_of_cells g 3, cell_of_cells g 4⟩)
  simp only [tcs, fca] at HGET HWa ⊢
  clear hWa hW0 ta t0' t0 gk g0 hbf d c hy hkn sa
  go_enter Tryz.func48, Tryz.ntmps48
  go_upto_region 1 with (fail)
  rw [HWa.out, HW0.out]
  go_wp2_with fail
  (with_reducible refine HGET.out.mono ?_)
  rintro e w1 ⟨rfl, t1⟩
  obtain ⟨W2, hW2⟩ : ∃ W, w1.alloc (.cells (fca y) 83) = W := ⟨_, rfl⟩
  have t2 : Touch w1 W2 (fun _ => False) := hW2 ▸ (Touch.refl w1 _).alloc _
  have g2 : W2.heap[w1.heap.size]? = some (.cells (fca y) 83 (0, 0)) := hW2 ▸ heap_alloc_new ..
  have y1 : W2.cell? ⟨w1.heap.size, 5, none⟩ = some (.int .i64 y.fb) := cell_of_cells g2 5
  have t02 := t1.trans t2 (fun _ _ h => h)
  have HT2 := Lib.hid t02
  have HW2 := Lib.hid hW2
  simp only [fca] at HW2
  clear t1 t2 g2 hW2 t02 q0 q1 q2 q3 q4
  go_upto_region 2 with (fail)
  rw [HW2.out]
  cases kn with
  | false =>
    have HBF := Lib.hid (show backF bs T n M k = pickO bs T n k from HBF0.out)
    have c3 := HCH.out.still HT2.out
    obtain ⟨q0, q1, q2, q3, q4⟩ := HQK.out W2 HT2.out
    have HGX := Lib.hid (HT2.out.keeps HG0.out (fun h => h))
    have HTX := Lib.hid (HT0.out.trans HT2.out (fun _ _ h => h))
    clear y1
    have hpk := c3.pick hn hn2 k ok
    rw [pickV_O] at hpk
    obtain ⟨b', x', hbx⟩ := bkO_form (pickO bs T n k)
    have HRES := Lib.hid (show bkO (backF bs T n M k) = .tuple #[bkV' b', .bool x'] by rw [HBF.out, hbx])
    rw [hbx] at hpk
    have HPK := Lib.hid hpk
    simp only [tcs, bkV'] at HPK
    clear hpk hbx c3
    go_wp2_with (first
      | (go_at_call 81; (with_reducible refine HPK.out.mono ?_); rintro e w6 ⟨rfl, t6⟩; have HG6 := Lib.hid (t6.keeps HGX.out (fun h => h)); have HT6 := Lib.hid (HTX.out.trans t6 (fun _ _ h => h)); clear t6)
      | (refine store_row rfl 70 (.tmp 6) (.tmp 31) rfl (w.heap.size + 1) _ rfl rfl _ _ HG6.out infoBk3 rfl rfl ?_))
    refine ret_row1 rfl rfl (w.heap.size + 1) _ #[.int .i64 b'.id, .int .u32 b'.addr, .int .i64 b'.weight] _ _ rfl (setRow_heap _ _ _ _ _ _ HG6.out) Tryz.underlying70 rfl infoBk3 (.bool x') rfl ?_
    exact ⟨by rw [HRES.out]; rfl, HT6.out.setRow _ _ (fun h => absurd h (by omega))⟩
  | true =>
    have hfd := cfind_any n C ab lb cb (some ⟨G, 0, none⟩) n n m bs y.fb W2 (HCH.out.still HT2.out).hc (HCH.out.still HT2.out).hr
    rw [findV_O] at hfd
    obtain ⟨o, ho⟩ : ∃ o, findF bs y.fb = o := ⟨_, rfl⟩
    rw [ho] at hfd
    have HFO := Lib.hid ho
    clear ho
    cases o with
    | some b =>
      have HFD := Lib.hid hfd
      have HRES := Lib.hid (show bkO (backF bs T n M k) = .tuple #[bkV' b, .bool true] by rw [HBF0.out, if_pos rfl, HFO.out]; rfl)
      simp only [bkO, bkV'] at HFD
      clear hfd
      go_wp2_with fail
      (with_reducible refine HFD.out.mono ?_)
      rintro e w4 ⟨rfl, t4⟩
      obtain ⟨W5, hW5⟩ : ∃ W, w4.alloc (.cells #[.int .i64 b.id, .int .u32 b.addr, .int .i64 b.weight] 70) = W := ⟨_, rfl⟩
      have t5 : Touch w4 W5 (fun _ => False) := hW5 ▸ (Touch.refl w4 _).alloc _
      have g5 : W5.heap[w4.heap.size]? = some (.cells #[.int .i64 b.id, .int .u32 b.addr, .int .i64 b.weight] 70 (0, 0)) := hW5 ▸ heap_alloc_new ..
      have t45 := t4.trans t5 (fun _ _ h => h)
      have HG5 := Lib.hid g5
      have HGX := Lib.hid (t45.keeps (HT2.out.keeps HG0.out (fun h => h)) (fun h => h))
      have HTX := Lib.hid ((HT0.out.trans HT2.out (fun _ _ h => h)).trans t45 (fun _ _ h => h))
      have HW5 := Lib.hid hW5
      clear t4 t5 g5 hW5 t45 y1
      go_upto_region 4 with (fail)
      rw [HW5.out]
      obtain ⟨z0, z1, z2⟩ : W5.cell? ⟨w4.heap.size, 0, none⟩ = some (.int .i64 b.id) ∧ W5.cell? ⟨w4.heap.size, 1, none⟩ = some (.int .u32 b.addr) ∧ W5.cell? ⟨w4.heap.size, 2, none⟩ = some (.int .i64 b.weight) := ⟨cell_of_cells HG5.out 0, cell_of_cells HG5.out 1, cell_of_cells HG5.out 2⟩
      go_wp2_with (refine store_row rfl 70 (.tmp 6) (.tmp 27) rfl (w.heap.size + 1) _ rfl rfl _ _ HGX.out infoBk3 rfl rfl ?_)
      refine ret_row1 rfl rfl (w.heap.size + 1) _ #[.int .i64 b.id, .int .u32 b.addr, .int .i64 b.weight] _ _ rfl (setRow_heap _ _ _ _ _ _ HGX.out) Tryz.underlying70 rfl infoBk3 (.bool true) rfl ?_
      exact ⟨by rw [HRES.out]; rfl, HTX.out.setRow _ _ (fun h => absurd h (by omega))⟩
    | none =>
      have HFD := Lib.hid hfd
      have HBF := Lib.hid (show backF bs T n M k = pickO bs T n k by rw [HBF0.out, if_pos rfl, HFO.out])
      simp only [bkO, bkV', bkZ] at HFD
      clear hfd
      go_wp2_with fail
      (with_reducible refine HFD.out.mono ?_)
      rintro e w4 ⟨rfl, t4⟩
      obtain ⟨W5, hW5⟩ : ∃ W, w4.alloc (.cells #[.int .i64 0, .int .u32 0, .int .i64 0] 70) = W := ⟨_, rfl⟩
      have t5 : Touch w4 W5 (fun _ => False) := hW5 ▸ (Touch.refl w4 _).alloc _
      have t25 := HT2.out.trans (t4.trans t5 (fun _ _ h => h)) (fun _ _ h => h)
      have c3 := HCH.out.still t25
      obtain ⟨q0, q1, q2, q3, q4⟩ := HQK.out W5 t25
      have HGX := Lib.hid (t25.keeps HG0.out (fun h => h))
      have HTX := Lib.hid (HT0.out.trans t25 (fun _ _ h => h))
      have HW5 := Lib.hid hW5
      clear t4 t5 hW5 t25 y1
      go_upto_region 4 with (fail)
      rw [HW5.out]
      have hpk := c3.pick hn hn2 k ok
      rw [pickV_O] at hpk
      obtain ⟨b', x', hbx⟩ := bkO_form (pickO bs T n k)
      have HRES := Lib.hid (show bkO (backF bs T n M k) = .tuple #[bkV' b', .bool x'] by rw [HBF.out, hbx])
      rw [hbx] at hpk
      have HPK := Lib.hid hpk
      simp only [tcs, bkV'] at HPK
      clear hpk hbx c3
      go_wp2_with (first
        | (go_at_call 81; (with_reducible refine HPK.out.mono ?_); rintro e w6 ⟨rfl, t6⟩; have HG6 := Lib.hid (t6.keeps HGX.out (fun h => h)); have HT6 := Lib.hid (HTX.out.trans t6 (fun _ _ h => h)); clear t6)
        | (refine store_row rfl 70 (.tmp 6) (.tmp 31) rfl (w.heap.size + 1) _ rfl rfl _ _ HG6.out infoBk3 rfl rfl ?_))
      refine ret_row1 rfl rfl (w.heap.size + 1) _ #[.int .i64 b'.id, .int .u32 b'.addr, .int .i64 b'.weight] _ _ rfl (setRow_heap _ _ _ _ _ _ HG6.out) Tryz.underlying70 rfl infoBk3 (.bool x') rfl ?_
      exact ⟨by rw [HRES.out]; rfl, HT6.out.setRow _ _ (fun h => absurd h (by omega))⟩
end Go.Proofs.YtpjdcgjoepjmcaaGreat
