import Derived.Test.YtpjdcgjoepjmcaaGreatKEZ
set_option linter.unusedVariables false
section
namespace Go.Proofs.YtpjdcgjoepjmcaaGreat
open Go.RowKit
structure Tup where
 src : Nat
 dst : Nat
 proto : Nat
 sport : Nat
 dport : Nat
def tcsP (t : Tup) : Array Value := #[.int .u32 (t.src : Nat), .int .u32 (t.dst : Nat), .int .i64 (t.proto : Nat), .int .i64 (t.sport : Nat), .int .i64 (t.dport : Nat)]
def tv (t : Tup) : Value := .agg (tcsP t)
def tup0 : Tup := ⟨0, 0, 0, 0, 0⟩
theorem infoT : (Tryz.prog.info? 37).map (·.size) = some 5 := by kernel_rfl
def whyT (xs : List Nat) : Nat := if whyF xs = 0 then refF (tellH xs).flags (tellH xs).off (tellH xs).proto (tellY xs) else whyF xs
def tellT (xs : List Nat) : Tup := if whyT xs = 0 then ⟨(tellH xs).src, (tellH xs).dst, (tellH xs).proto, gb (tellY xs) 0 * 256 + gb (tellY xs) 1, gb (tellY xs) 2 * 256 + gb (tellY xs) 3⟩ else tup0
def tellG (xs : List Nat) : Hdr := if whyT xs = 0 then tellH xs else hdr0
theorem ref_eight {f o p : Nat} {ys : List Nat} (h : refF f o p ys = 0) : 8 ≤ ys.length := by
 unfold refF tcpB udpB at h
 by_cases h1 : wholeB f o = false
 ·rw [if_pos h1] at h; omega
 ·rw [if_neg h1] at h
  by_cases h2 : p ≠ 6 ∧ p ≠ 17
  ·rw [if_pos h2] at h; omega
  ·rw [if_neg h2] at h
   by_cases h3 : ys.length < 8
   ·exfalso
    have : p = 6 ∨ p = 17 := by omega
    rcases this with rfl | rfl
    ·simp [show ys.length < 20 by omega] at h
    ·simp [h3] at h
   ·omega
theorem tellY_length (xs : List Nat) (h : ∀ x ∈ xs, x < 256) : (tellY xs).length < 65536 := by
 unfold tellY
 by_cases hy : whyF xs = 0
 ·rw [if_pos hy]
  have := gb_lt xs h 2
  have := gb_lt xs h 3
  have : (hdr xs).len < 65536 := by show gb xs 2 * 256 + gb xs 3 < 65536; omega
  simp; omega
 ·rw [if_neg hy]; simp
theorem cellsT {w : World} {B : Nat} {o0 o1 o2 o3 o4 : Value} {T : TypeId} (hb : w.heap[B]? = some (.cells #[o0, o1, o2, o3, o4] T (0, 0))) (v0 v1 v2 v3 v4 : Value) :
 (((((w.setCell ⟨B, 0, none⟩ v0).setCell ⟨B, 1, none⟩ v1).setCell ⟨B, 2, none⟩ v2).setCell ⟨B, 3, none⟩ v3).setCell ⟨B, 4, none⟩ v4).heap[B]? = some (.cells #[v0, v1, v2, v3, v4] T (0, 0)) := by
 have := (heap_setCell_same _ B 4 _ _ v4 (heap_setCell_same _ B 3 _ _ v3 (heap_setCell_same _ B 2 _ _ v2 (heap_setCell_same _ B 1 _ _ v1 (heap_setCell_same _ B 0 _ _ v0 hb)))))
 simpa using this
theorem touchT (w : World) (B : Nat) (v0 v1 v2 v3 v4 : Value) : Touch w (((((w.setCell ⟨B, 0, none⟩ v0).setCell ⟨B, 1, none⟩ v1).setCell ⟨B, 2, none⟩ v2).setCell ⟨B, 3, none⟩ v3).setCell ⟨B, 4, none⟩ v4) (fun k => k = B) := by
 have h := Touch.refl w (fun k => k = B)
 exact (((((h.into 0 v0).into 1 v1).into 2 v2).into 3 v3).into 4 v4)
set_option maxRecDepth 20000 in
set_option maxHeartbeats 8000000 in
theorem tuple_any (a : Option Addr) (len cap : Nat) (xs : List Nat) (w : World) (hr : RowB w a len cap xs) :
 Calls Tryz.prog 46 #[.slice a len cap] w fun e w' => e = .returned (.tuple #[tv (tellT xs), hv (tellG xs), .int .i64 (whyT xs)]) ∧ Touch w w' (fun _ => False) := by
 have HTy : RowKit.Hid ((Tryz.prog.info? 76).map (·.size) = some 11) := Lib.hid (by kernel_rfl)
 have HTt : RowKit.Hid ((Tryz.prog.info? 37).map (·.size) = some 5) := Lib.hid (by kernel_rfl)
 have hyl := tellY_length xs hr.2.2.2.2.1
 obtain ⟨W0, hW0⟩ : ∃ W, w.alloc (.cells #[.int .u32 0, .int .u32 0, .int .i64 0, .int .i64 0, .int .i64 0] 37) = W := ⟨_, rfl⟩
 have t0 : Touch w W0 (fun _ => False) := hW0 ▸ (Touch.refl _ _).alloc _
 have hs0 : W0.heap.size = w.heap.size + 1 := by rw [← hW0]; simp
 obtain ⟨W1, hW1⟩ : ∃ W, W0.alloc (.cells #[.int .i64 0, .int .i64 0, .int .i64 0, .int .i64 0, .int .i64 0, .int .i64 0, .int .i64 0, .int .i64 0, .int .i64 0, .int .u32 0, .int .u32 0] 76) = W := ⟨_, rfl⟩
 have t1 : Touch W0 W1 (fun _ => False) := hW1 ▸ (Touch.refl _ _).alloc _
 have T1 := t0.trans t1 (fun _ _ h => h)
 have h0 : W1.heap[w.heap.size]? = some _ := t1.keeps (hW0 ▸ heap_alloc_new w _) (fun h => h)
 have h1 : W1.heap[W0.heap.size]? = some _ := hW1 ▸ heap_alloc_new W0 _
 have H := Lib.hid (parse_is a len cap xs W1 (hr.touch T1 (fun _ _ => .inr (fun h => h))))
 have hT : tellT xs = if whyT xs = 0 then ⟨(tellH xs).src, (tellH xs).dst, (tellH xs).proto, gb (tellY xs) 0 * 256 + gb (tellY xs) 1, gb (tellY xs) 2 * 256 + gb (tellY xs) 3⟩ else tup0 := rfl
 have hG : tellG xs = if whyT xs = 0 then tellH xs else hdr0 := rfl
 have hWt : whyT xs = if whyF xs = 0 then refF (tellH xs).flags (tellH xs).off (tellH xs).proto (tellY xs) else whyF xs := rfl
 generalize tellH xs = h at *
 generalize tellY xs = ys at *
 generalize whyF xs = y at *
 generalize tellT xs = T at *
 generalize tellG xs = G at *
 generalize whyT xs = Y at *
 have HT := Lib.hid hT
 have HG := Lib.hid hG
 have HY := Lib.hid hWt
 have HA := Lib.hid h0
 have HB := Lib.hid h1
 have TT := Lib.hid T1
 have HS0 := Lib.hid hs0
 clear hr t0 t1 h0 h1 T1 hT hG hWt hs0
 by_cases hy : y = 0
 ·have hy' : ((y : Int) == 0) = true := beq_iff_eq.2 (by omega)
  have HE : RowKit.Hid (Y = refF h.flags h.off h.proto ys) := Lib.hid (by rw [HY.out, if_pos hy])
  go_enter Tryz.func46, Tryz.ntmps46
  go_wp2_with fail
  (with_reducible refine H.out.mono ?_)
  rintro e w2 ⟨a2, c2, rfl, hr2, t2, hb2⟩
  have TT := Lib.hid (TT.out.trans t2 (fun _ _ h => h))
  have HA := Lib.hid (t2.keeps HA.out (fun h => h))
  have HB := Lib.hid (t2.keeps HB.out (fun h => h))
  obtain ⟨W3, hW3⟩ : ∃ W, w2.alloc (.cells (hcs h) 76) = W := ⟨_, rfl⟩
  obtain ⟨B, hBe⟩ : ∃ B, w2.heap.size = B := ⟨_, rfl⟩
  have t3 : Touch w2 W3 (fun _ => False) := hW3 ▸ (Touch.refl w2 (fun _ => False)).alloc _
  have hc : W3.heap[B]? = some (.cells (hcs h) 76 (0, 0)) := hBe ▸ hW3 ▸ heap_alloc_new w2 _
  have HC := Lib.hid hc
  have hs1 := HS0.out
  have hlA := heap_lt HA.out
  have hlB := heap_lt HB.out
  have HN : RowKit.Hid (w.heap.size < B ∧ W0.heap.size < B) := Lib.hid (by omega)
  have TT := Lib.hid (TT.out.trans t3 (fun _ _ h => h))
  have HA := Lib.hid (t3.keeps HA.out (fun h => h))
  have HB := Lib.hid (t3.keeps HB.out (fun h => h))
  have HR := Lib.hid (hr2.touch t3 (fun _ _ => .inr (fun h => h)))
  clear t2 t3 hW1 hW0 H hr2 hlA hlB hs1 hc hb2
  simp only [hv, hcs] at hW3 ⊢
  go_wp2_with (refine wpList_load_row rfl 76 (.tmp 5) rfl B rfl _ _ _ _ HC.out Tryz.underlying76 rfl HTy.out ?_)
  simp only [hcs]
  (with_reducible refine (refuse_any _ _ _ _ _ _ _ _ _ _ _ _ _ _ ys _ HR.out hyl).mono ?_)
  rintro e w4 ⟨rfl, t4⟩
  have h8 := @ref_eight h.flags h.off h.proto ys
  generalize refF h.flags h.off h.proto ys = r at *
  have TT := Lib.hid (TT.out.trans t4 (fun _ _ h => h))
  have HA := Lib.hid (t4.keeps HA.out (fun h => h))
  have HB := Lib.hid (t4.keeps HB.out (fun h => h))
  have HC := Lib.hid (t4.keeps HC.out (fun h => h))
  have hr4 := HR.out.touch t4 (fun _ _ => .inr (fun h => h))
  clear HR t4 hW3
  by_cases hz : r = 0
  ·have hz' : ((r : Int) != 0) = false := by simp [hz]
   have h8 := h8 hz
   have hyl4 := hr4.1
   have e4 : ys = gb ys 0 :: gb ys 1 :: gb ys 2 :: gb ys 3 :: ys.drop 4 := by
    have := List.take_append_drop 4 ys
    rw [take_gb ys 4 (by omega)] at this
    exact this.symm
   have H := Lib.hid (newreader_any a2 ys.length c2 ys w4 hr4 (by omega))
   have E4 := Lib.hid e4
   clear hr4 hyl4 e4
   go_wp2_with fail
   (with_reducible refine H.out.mono ?_)
   rintro e w5 ⟨v, rfl, hnew⟩
   obtain ⟨G', rfl, hrd5, t5, hG'⟩ := hnew.rdE
   rw [E4.out] at hrd5
   have TT := Lib.hid (TT.out.trans t5 (fun _ _ h => h))
   have HG' : RowKit.Hid (w.heap.size ≤ G') := Lib.hid (by have := heap_lt HA.out; omega)
   have HN2 : RowKit.Hid (w.heap.size ≠ G' ∧ W0.heap.size ≠ G' ∧ B ≠ G') := Lib.hid (by
    have := heap_lt HA.out
    have := heap_lt HB.out
    have := heap_lt HC.out
    omega)
   have HA := Lib.hid (t5.keeps HA.out (fun h => h))
   have HB := Lib.hid (t5.keeps HB.out (fun h => h))
   have HC := Lib.hid (t5.keeps HC.out (fun h => h))
   clear hnew t5 H E4
   go_wp2_with fail
   have t6 := (Touch.refl w5 (fun _ => False)).drew
   obtain ⟨c0, c1, c2', c3, c4, c5, c6, c7, c8, c9, c10⟩ := hcells_of HC.out
   have HA := Lib.hid (t6.keeps HA.out (fun h => h))
   have HB := Lib.hid (t6.keeps HB.out (fun h => h))
   have HC := Lib.hid (t6.keeps HC.out (fun h => h))
   have TT := Lib.hid (TT.out.trans t6 (fun _ _ h => h))
   have HRd := Lib.hid (hrd5.still t6)
   have hN2 := HN2.out
   have hN := HN.out
   have hBA : ¬ (B = w.heap.size) := by omega
   have hBB : ¬ (B = W0.heap.size) := by omega
   have hne0 : ¬ (W0.heap.size = w.heap.size) := by have := HS0.out; omega
   have hne1 : ¬ (w.heap.size = W0.heap.size) := by have := HS0.out; omega
   clear t6 hrd5 h8
   go_region_held3 (fun w' => w'.cell? ⟨B, 0, none⟩ = some (.int .i64 (h.ihl : Nat)) ∧ w'.cell? ⟨B, 1, none⟩ = some (.int .i64 (h.tos : Nat)) ∧ w'.cell? ⟨B, 2, none⟩ = some (.int .i64 (h.len : Nat)) ∧ w'.cell? ⟨B, 3, none⟩ = some (.int .i64 (h.id : Nat)) ∧ w'.cell? ⟨B, 4, none⟩ = some (.int .i64 (h.flags : Nat)) ∧ w'.cell? ⟨B, 5, none⟩ = some (.int .i64 (h.off : Nat)) ∧ w'.cell? ⟨B, 6, none⟩ = some (.int .i64 (h.ttl : Nat)) ∧ w'.cell? ⟨B, 7, none⟩ = some (.int .i64 (h.proto : Nat)) ∧ w'.cell? ⟨B, 8, none⟩ = some (.int .i64 (h.sum : Nat)) ∧ w'.cell? ⟨B, 9, none⟩ = some (.int .u32 (h.src : Nat)) ∧ w'.cell? ⟨B, 10, none⟩ = some (.int .u32 (h.dst : Nat))) (first | (with_reducible exact hcells_of HC.out) | (with_reducible exact hcells_of ((touchT _ _ _ _ _ _ _).keeps HC.out hBA)) | (with_reducible exact hcells_of ((touchH _ _ _ _ _ _ _ _ _ _ _ _ _).keeps ((touchT _ _ _ _ _ _ _).keeps HC.out hBA) hBB)) | go_keep) (first
    | (have _u := HRd7; go_simp; go_at_call_of 80 (Value.pointer (some ⟨G', 0, none⟩)); have _u := HRd7; (with_reducible refine (e_U16 G' _ _ _ _ _ _ HRd7.out).mono ?_); rintro e w8 ⟨rfl, hrd8, t8⟩; have TT := Lib.hid (TT.out.trans t8 (fun k hk h => by subst h; have := HG'.out; omega)); have HA := Lib.hid (t8.keeps HA.out (by omega)); have HB := Lib.hid (t8.keeps HB.out (by omega)); have HC := Lib.hid (t8.keeps HC.out (by omega)); obtain ⟨g0, g1, g2, g3, g4, g5, g6, g7, g8, g9, g10⟩ := hcells_of HC.out; obtain ⟨r0, r1, r2, r3, r4, r5, r6, r7, r8, r9, r10⟩ := hcells_of (h := hdr0) HB.out; have fB := free_of_cells HB.out; have fA := free_of_cells HA.out; have q0 := cell_of_cells HA.out 0; have q1 := cell_of_cells HA.out 1; have q2 := cell_of_cells HA.out 2; have q3 := cell_of_cells HA.out 3; have q4 := cell_of_cells HA.out 4; simp at q0 q1 q2 q3 q4; clear t8 hrd8)
    | (go_simp; go_at_call_of 80 (Value.pointer (some ⟨G', 0, none⟩)); (with_reducible refine (e_U16 G' _ _ _ _ _ _ HRd.out).mono ?_); rintro e w7 ⟨rfl, hrd7, t7⟩; have HRd7 := Lib.hid hrd7; have TT := Lib.hid (TT.out.trans t7 (fun k hk h => by subst h; have := HG'.out; omega)); have HA := Lib.hid (t7.keeps HA.out (by omega)); have HB := Lib.hid (t7.keeps HB.out (by omega)); have HC := Lib.hid (t7.keeps HC.out (by omega)); obtain ⟨d0, d1, d2, d3, d4, d5, d6, d7, d8, d9, d10⟩ := hcells_of HC.out; clear t7 hrd7))
   go_wp2
   refine ret_rows1 (by rfl) (by rfl) w.heap.size _ _ _ _ (by rfl) (by exact (touchH _ _ _ _ _ _ _ _ _ _ _ _ _).keeps (cellsT HA.out _ _ _ _ _) hne1) Tryz.underlying37 rfl (by exact infoT) W0.heap.size _ _ _ _ (by rfl) (by exact cellsH ((touchT _ _ _ _ _ _ _).keeps HB.out hne0) _ _ _ _ _ _ _ _ _ _ _) Tryz.underlying76 rfl (by exact infoH) _ (by rfl) ?_
   refine ⟨?_, (TT.out.trans (touchT _ _ _ _ _ _ _) (fun k hk h => by subst h; omega)).trans (touchH _ _ _ _ _ _ _ _ _ _ _ _ _) (fun k hk h => by subst h; have := HS0.out; omega)⟩
   rw [HT.out, HG.out, HE.out, if_pos hz, if_pos hz]
   simp [tv, tcsP, hv, hz]
  ·have hz' : ((r : Int) != 0) = true := bne_iff_ne.2 (by omega)
   go_wp2_with (first
    | (refine store_row rfl 37 (.tmp 2) (.tmp 22) rfl w.heap.size _ rfl rfl _ _ HA.out HTt.out rfl rfl ?_)
    | (refine store_row rfl 76 (.tmp 3) (.tmp 23) rfl W0.heap.size _ rfl rfl _ _ ((setRow_other _ _ _ _ (by have := HS0.out; omega)).trans HB.out) HTy.out rfl rfl ?_))
   refine ret_rows1 rfl rfl w.heap.size ?t ?cs ?fr _ rfl ?hg Tryz.underlying37 rfl ?hi W0.heap.size ?t2 ?cs2 ?fr2 _ rfl ?hg2 Tryz.underlying76 rfl ?hi2 _ rfl ?hR
   case hg => refine (setRow_other _ _ _ _ (by have := HS0.out; omega)).trans ?_; exact setRow_heap _ _ _ _ _ _ HA.out
   case hi => exact HTt.out
   case hg2 =>
    have q : (w4.setRow w.heap.size #[.int .u32 0, .int .u32 0, .int .i64 0, .int .i64 0, .int .i64 0]).heap[W0.heap.size]? = some _ := (setRow_other _ _ _ _ (by have := HS0.out; omega)).trans HB.out
    exact setRow_heap _ _ _ _ _ _ q
   case hi2 => exact HTy.out
   case hR =>
    refine ⟨?_, (TT.out.setRow _ _ (fun h => absurd h (by omega))).setRow _ _ (fun h => absurd h (by have := HS0.out; omega))⟩
    rw [HT.out, HG.out, HE.out, if_neg hz, if_neg hz]
    simp [tv, tcsP, tup0, hv, hdr0]
 ·have hy' : ((y : Int) == 0) = false := beq_eq_false_iff_ne.2 (by omega)
  have hy2 : ((y : Int) != 0) = true := bne_iff_ne.2 (by omega)
  have HE : RowKit.Hid (Y = y) := Lib.hid (by rw [HY.out, if_neg hy])
  go_enter Tryz.func46, Tryz.ntmps46
  go_wp2_with fail
  (with_reducible refine H.out.mono ?_)
  rintro e w2 ⟨a2, c2, rfl, hr2, t2, hb2⟩
  have TT := Lib.hid (TT.out.trans t2 (fun _ _ h => h))
  have HA := Lib.hid (t2.keeps HA.out (fun h => h))
  have HB := Lib.hid (t2.keeps HB.out (fun h => h))
  obtain ⟨W3, hW3⟩ : ∃ W, w2.alloc (.cells (hcs h) 76) = W := ⟨_, rfl⟩
  have t3 : Touch w2 W3 (fun _ => False) := hW3 ▸ (Touch.refl w2 (fun _ => False)).alloc _
  have TT := Lib.hid (TT.out.trans t3 (fun _ _ h => h))
  have HA := Lib.hid (t3.keeps HA.out (fun h => h))
  have HB := Lib.hid (t3.keeps HB.out (fun h => h))
  clear t2 t3 hW1 hW0 H hr2
  simp only [hv, hcs] at hW3 ⊢
  go_wp2_with (first
   | (refine store_row rfl 37 (.tmp 2) (.tmp 22) rfl w.heap.size _ rfl rfl _ _ HA.out HTt.out rfl rfl ?_)
   | (refine store_row rfl 76 (.tmp 3) (.tmp 23) rfl W0.heap.size _ rfl rfl _ _ ((setRow_other _ _ _ _ (by have := HS0.out; omega)).trans HB.out) HTy.out rfl rfl ?_))
  refine ret_rows1 rfl rfl w.heap.size ?t ?cs ?fr _ rfl ?hg Tryz.underlying37 rfl ?hi W0.heap.size ?t2 ?cs2 ?fr2 _ rfl ?hg2 Tryz.underlying76 rfl ?hi2 _ rfl ?hR
  case hg => refine (setRow_other _ _ _ _ (by have := HS0.out; omega)).trans ?_; exact setRow_heap _ _ _ _ _ _ HA.out
  case hi => exact HTt.out
  case hg2 =>
   have q : (W3.setRow w.heap.size #[.int .u32 0, .int .u32 0, .int .i64 0, .int .i64 0, .int .i64 0]).heap[W0.heap.size]? = some _ := (setRow_other _ _ _ _ (by have := HS0.out; omega)).trans HB.out
   exact setRow_heap _ _ _ _ _ _ q
  case hi2 => exact HTy.out
  case hR =>
   refine ⟨?_, (TT.out.setRow _ _ (fun h => absurd h (by omega))).setRow _ _ (fun h => absurd h (by have := HS0.out; omega))⟩
   rw [HT.out, HG.out, HE.out, if_neg hy, if_neg hy]
   simp [tv, tcsP, tup0, hv, hdr0]
end Go.Proofs.YtpjdcgjoepjmcaaGreat
end
section
namespace Go.Proofs.YtpjdcgjoepjmcaaGreat
open Go.ChangeShapes Go.WideShapes Go.ChangeAt Go.RowKit
structure KArg where
 src : Int
 dst : Int
 proto : Int
 sport : Int
 dport : Int
structure KArg.Ok (k : KArg) : Prop where
 src : 0 ≤ k.src ∧ k.src ≤ 4294967295
 dst : 0 ≤ k.dst ∧ k.dst ≤ 4294967295
 proto : isI64 k.proto
 sport : isI64 k.sport
 dport : isI64 k.dport
def kcs (k : KArg) : Array Value := #[.int .u32 k.src, .int .u32 k.dst, .int .i64 k.proto, .int .i64 k.sport, .int .i64 k.dport]
def mayB (k : KArg) : Bool := decide ((k.proto = 6 ∨ k.proto = 17) ∧ 0 ≤ k.sport ∧ k.sport ≤ 65535 ∧ 0 ≤ k.dport ∧ k.dport ≤ 65535)
set_option maxRecDepth 20000 in
set_option maxHeartbeats 4000000 in
theorem may_any (k : KArg) (w : World) :
 Calls Tryz.prog 26 #[.agg (kcs k)] w fun e w' => e = .returned (.bool (mayB k)) ∧ Touch w w' (fun _ => False) := by
 have hm : mayB k = true ↔ ((k.proto = 6 ∨ k.proto = 17) ∧ 0 ≤ k.sport ∧ k.sport ≤ 65535 ∧ 0 ≤ k.dport ∧ k.dport ≤ 65535) := by unfold mayB; exact decide_eq_true_iff
 have HM := Lib.hid hm
 clear hm
 generalize mayB k = m at *
 simp only [kcs]
 go_enter Tryz.func26, Tryz.ntmps26
 go_wp2
 all_goals (go_ret; refine ⟨?_, (Touch.refl _ _).alloc _⟩; refine congrArg (fun b => Ending.returned (Value.bool b)) (?_ : _ = m); rw [Bool.eq_iff_iff, HM.out]; clear HM; (first | (simp_all; done) | (simp_all; omega) | trace_state))
end Go.Proofs.YtpjdcgjoepjmcaaGreat
end
section
namespace Go.Proofs.YtpjdcgjoepjmcaaGreat
open Go.RowKit
set_option maxRecDepth 20000 in
set_option maxHeartbeats 1000000 in
theorem bytes2_any (n : Int) (w : World) (hn : isI64 n) :
 Calls Tryz.prog 63 #[.int .i64 n] w fun e w' => ∃ a' cap', e = .returned (.slice a' 2 cap') ∧ FreshB w w' (.slice a' 2 cap') (beB 2 (u64N n)) := by
 unfold isI64 at hn
 go_enter Tryz.func63, Tryz.ntmps63
 go_wp2_with fail
 go_ret
 exact ⟨_, _, rfl, OwnB.lit w _ rfl _ (Nat.le_refl _) _ _ _ _ (be_two n) (beB_length _ _) (beB_small _ _) (by decide), (Touch.refl _ _).alloc _⟩
end Go.Proofs.YtpjdcgjoepjmcaaGreat
end
