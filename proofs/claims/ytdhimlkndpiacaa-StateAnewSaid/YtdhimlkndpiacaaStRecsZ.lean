/- The records that make a state anew. -/
import Derived.Test.YtdhimlkndpiacaaStVwZ
import Derived.Test.YtdhimlkndpiacaaHAZ
set_option linter.unusedVariables false
set_option linter.unusedSimpArgs false
namespace Go.Proofs.Ytdhimlkndpiacaa
open Go.RowKit

def geR (x : StS) (a : Option Addr) (c : Nat) : RecB := ⟨⟨3, noT, 0, 0, 0, x.gen, x.bs, 0, 0, 0⟩, a, c⟩
def drR (d : DR) : RecB := ⟨⟨4, noT, 0, 0, 0, 0, [], d.b, d.u, 0⟩, none, 0⟩
def flR (f : FlD) : RecB := ⟨⟨1, f.t, f.fb, f.fg, f.fs, 0, [], 0, 0, 0⟩, none, 0⟩
def recsV (x : StS) (a : Option Addr) (c : Nat) : List RecB := geR x a c :: (x.D.map drR ++ x.F.map flR)
theorem recsV_len (x : StS) (a : Option Addr) (c : Nat) : (recsV x a c).length = 1 + x.D.length + x.F.length := by
  unfold recsV; simp; omega
theorem recs_step {A : List RecB} {r : RecB} : A.map RecB.cells ++ [r.cells] = (A ++ [r]).map RecB.cells := by simp
theorem infoRecB : (Try.prog.info? 29).map (fun i => (i.zero, i.size, i.bytes)) = some (some (.agg (rcs noRB.r none 0)), 14, 120) := by kernel_rfl
theorem rcs_one (r : RecD) (a : Option Addr) (c : Nat) : ∀ u ∈ (rcs r a c).toList, u.oneCell' = true := by
  intro u hu
  simp only [rcs, List.mem_cons, List.not_mem_nil, or_false] at hu
  rcases hu with rfl | rfl | rfl | rfl | rfl | rfl | rfl | rfl | rfl | rfl | rfl | rfl | rfl | rfl <;> rfl
set_option maxRecDepth 20000 in
set_option maxHeartbeats 8000000 in
theorem records_any (w : World) (x : StS) (a1 : Option Addr) (c1 : Nat) (a2 : Option Addr) (c2 : Nat) (a3 : Option Addr) (c3 : Nat) (hx : VwAt w x a1 c1 a2 c2 a3 c3) (hD : x.D.length ≤ 100000) (hF : x.F.length ≤ 100000) :
    Calls Try.prog 32 #[.agg (vcs x a1 c1 a2 c2 a3 c3)] w fun e w' => ∃ a c, e = .returned (.slice a (1 + x.D.length + x.F.length) c) ∧ OwnS w' w.heap.size 29 14 (.slice a (1 + x.D.length + x.F.length) c) ((recsV x a1 c1).map RecB.cells) ∧ Touch w w' (fun _ => False) := by
  obtain ⟨W1, hW1⟩ : ∃ W, w.alloc (.cells (vcs x a1 c1 a2 c2 a3 c3) 36) = W := ⟨_, rfl⟩
  have t1 : Touch w W1 (fun _ => False) := hW1 ▸ (Touch.refl w _).alloc _
  have g1 : W1.heap[w.heap.size]? = some (.cells (vcs x a1 c1 a2 c2 a3 c3) 36 (0, 0)) := hW1 ▸ heap_alloc_new ..
  obtain ⟨K1, hK1⟩ : ∃ K, w.heap.size = K := ⟨_, rfl⟩
  rw [hK1] at g1
  have HX := Lib.hid hx
  have HT1 := Lib.hid t1
  have HG1 := Lib.hid g1
  have HW1 := Lib.hid (And.intro hW1 hK1)
  obtain ⟨W2, hW2⟩ : ∃ W, W1.alloc (.cells (rcs (geR x a1 c1).r a1 c1) 29) = W := ⟨_, rfl⟩
  have t2 : Touch W1 W2 (fun _ => False) := hW2 ▸ (Touch.refl W1 _).alloc _
  have o2 : OwnS W2 W1.heap.size 29 14 (.slice (some ⟨W1.heap.size, 0, none⟩) 1 1) ([geR x a1 c1].map RecB.cells) := hW2 ▸ OwnS.lit W1 W1.heap.size (Nat.le_refl _) 29 14 1 ([geR x a1 c1].map RecB.cells) _ (by simp [RecB.cells, geR]) rfl (by intro l hl; rw [List.map_cons, List.map_nil, List.mem_singleton] at hl; subst hl; rfl) (by omega)
  have HT2 := Lib.hid t2
  have HO2 := Lib.hid o2
  have HW2 := Lib.hid hW2
  have HRI := Lib.hid infoRecB
  obtain ⟨nD, hnD⟩ : ∃ n, x.D.length = n := ⟨_, rfl⟩
  obtain ⟨nF, hnF⟩ : ∃ n, x.F.length = n := ⟨_, rfl⟩
  have HND := Lib.hid hnD
  have HNF := Lib.hid hnF
  have HB : RowKit.Hid (nD ≤ 100000 ∧ nF ≤ 100000) := Lib.hid (by omega)
  have h0 : W1.cell? ⟨K1, 0, none⟩ = some (.int .i64 x.gen) := cell_of_cells g1 0
  have h1 : W1.cell? ⟨K1, 1, none⟩ = some (.slice a1 x.bs.length c1) := cell_of_cells g1 1
  simp only [rcs, geR, noT, List.length_map] at HW2
  rw [hnD, hnF]
  clear t1 g1 t2 o2 hW1 hW2 hK1 hx hD hF hnD hnF
  go_enter Try.func32, Try.ntmps32
  go_upto_region 1 with (fail)
  rw [HW1.out.1, HW1.out.2]
  go_upto_region 2 with (fail)
  rw [HW2.out]
  clear h0 h1
  have HK1 : RowKit.Hid (∀ W, Touch W1 W (fun _ => False) → W.cell? ⟨K1, 2, none⟩ = some (.slice a2 nD c2) ∧ W.cell? ⟨K1, 3, none⟩ = some (.slice a3 nF c3)) := Lib.hid (fun W t => by
    have h := t.keeps HG1.out (fun h => h)
    refine ⟨?_, ?_⟩
    · rw [← HND.out]; exact cell_of_cells h 2
    · rw [← HNF.out]; exact cell_of_cells h 3)
  have HRD : RowKit.Hid (∀ W, Touch W1 W (fun _ => False) → RowS W a2 nD c2 2 (x.D.map dcl)) := Lib.hid (fun W t => by rw [← HND.out]; exact HX.out.d.still (HT1.out.trans t (fun _ _ h => h)))
  have HRF : RowKit.Hid (∀ W, Touch W1 W (fun _ => False) → RowS W a3 nF c3 8 (x.F.map fcl)) := Lib.hid (fun W t => by rw [← HNF.out]; exact HX.out.f.still (HT1.out.trans t (fun _ _ h => h)))
  have hk2 := (HK1.out _ HT2.out).1
  go_wp2_with fail
  go_loopw [3, 17] (fun s3 s17 wr => ∃ (j : Nat) (a : Option Addr) (c : Nat), j ≤ nD ∧ s17 = .int .i64 j ∧ s3 = .slice a (1 + j) c ∧ OwnS wr W1.heap.size 29 14 (.slice a (1 + j) c) ((geR x a1 c1 :: (x.D.take j).map drR).map RecB.cells) ∧ Touch W1 wr (fun _ => False)) (fun _ s17 _ => nD - (RowKit.intOf s17).toNat)
  case atStart => exact ⟨0, _, _, Nat.zero_le _, rfl, rfl, HO2.out, HT2.out⟩
  case round =>
    obtain ⟨j, a, c, hj, rfl, rfl, ho, ht⟩ := hrel
    have HO := Lib.hid ho
    have HT := Lib.hid ht
    clear ho ht hk2
    by_cases hlt : j < nD
    case pos =>
      have hrow := HRD.out _ HT.out
      obtain ⟨g, off, rfl⟩ := hrow.some (by omega)
      have hjL : j < x.D.length := by rw [HND.out]; exact hlt
      obtain ⟨d0, d1⟩ := dr_cells hrow j hjL
      have hcap := hrow.hcap
      have hmax := hrow.hmax
      have htk : (geR x a1 c1 :: (x.D.take j).map drR) ++ [drR (gd x.D j)] = geR x a1 c1 :: (x.D.take (j + 1)).map drR := by
        rw [List.take_succ_eq_append_getElem hjL, List.map_append, ← gd_get x.D j hjL]; rfl
      have HTK := Lib.hid htk
      generalize gd x.D j = d at *
      obtain ⟨w4, hw4⟩ : ∃ W, wr.alloc (.cells #[.int .i64 d.b, .int .i64 d.u] 55) = W := ⟨_, rfl⟩
      have t4 : Touch wr w4 (fun _ => False) := hw4 ▸ (Touch.refl wr _).alloc _
      have g4 : w4.heap[wr.heap.size]? = some (.cells #[.int .i64 d.b, .int .i64 d.u] 55 (0, 0)) := hw4 ▸ heap_alloc_new ..
      obtain ⟨K5, hK5⟩ : ∃ K, wr.heap.size = K := ⟨_, rfl⟩
      rw [hK5] at g4
      have HW4 := Lib.hid (And.intro hw4 hK5)
      have HT4 := Lib.hid (HT.out.trans t4 (fun _ _ h => h))
      have HO4 := Lib.hid (HO.out.still t4)
      have hsz : W1.heap.size ≤ w4.heap.size := HT4.out.size
      have x0 : w4.cell? ⟨K5, 0, none⟩ = some (.int .i64 d.b) := cell_of_cells g4 0
      have x1 : w4.cell? ⟨K5, 1, none⟩ = some (.int .i64 d.u) := cell_of_cells g4 1
      obtain ⟨w5, hw5⟩ : ∃ W, w4.alloc (.cells (rcs (drR d).r none 0) 29) = W := ⟨_, rfl⟩
      have HW5 := Lib.hid hw5
      simp only [rcs, drR, noT, List.length_nil] at HW5
      have hlI : (j : Int) < nD := by omega
      have hjB : 1 + j ≤ 4000000 := by have := HB.out; omega
      have HJB := Lib.hid hjB
      clear hrow htk t4 g4 hw4 hK5 hw5 hjL hjB
      go_upto_region 5 with (fail)
      rw [HW4.out.1, HW4.out.2]
      clear d0 d1
      go_upto_region 6 with (at_builtin; (with_reducible refine wp_add1 (w := w4) (HO4.out.still ((Touch.refl w4 (fun _ => False)).alloc _)) rfl rfl rfl (by simp [Value.oneCell']) HJB.out 40 Try.underlying40 _ 120 HRI.out rfl (by decide) (by decide) hsz rfl _ _ rfl rfl rfl ?_); intro a5 c5 w6 ho5 t5 p5; have HO5 := Lib.hid ho5; have HT5 := Lib.hid t5; clear ho5 t5 p5)
      have HX' : RowKit.Hid (∃ (j' : Nat) (a : Option Addr) (c : Nat), j' ≤ nD ∧ Value.int .i64 ((j : Int) + 1) = .int .i64 j' ∧ Value.slice a5 (1 + j + 1) c5 = .slice a (1 + j') c ∧ OwnS w6 W1.heap.size 29 14 (.slice a (1 + j') c) ((geR x a1 c1 :: (x.D.take j').map drR).map RecB.cells) ∧ Touch W1 w6 (fun _ => False)) := Lib.hid ⟨j + 1, a5, c5, by omega, by go_num, rfl, by rw [← HTK.out, ← recs_step]; exact HO5.out, HT4.out.trans HT5.out (fun k hk e => by have h1 := (HO.out.own.lt _ e).1; omega)⟩
      clear x0 x1
      go_wp2_with fail
      go_roundw
      · exact HX'.out
      · simp only [RowKit.intOf]; omega
    case neg =>
      obtain rfl : nD = j := by omega
      have hlI : ¬ (nD : Int) < nD := by omega
      have hk3 := (HK1.out _ HT.out).2
      have htk : (x.D.take nD).map drR = x.D.map drR := by rw [List.take_of_length_le (by rw [HND.out]; exact Nat.le_refl _)]
      rw [htk] at HO
      clear htk hlt hj
      go_upto_region 7 with (fail)
      clear hlI
      go_wp2_with fail
      go_loopw [3, 33] (fun s3 s33 wr => ∃ (j : Nat) (a : Option Addr) (c : Nat), j ≤ nF ∧ s33 = .int .i64 j ∧ s3 = .slice a (1 + nD + j) c ∧ OwnS wr W1.heap.size 29 14 (.slice a (1 + nD + j) c) ((geR x a1 c1 :: (x.D.map drR ++ (x.F.take j).map flR)).map RecB.cells) ∧ Touch W1 wr (fun _ => False)) (fun _ s33 _ => nF - (RowKit.intOf s33).toNat)
      case atStart => exact ⟨0, a, c, Nat.zero_le _, rfl, rfl, by simpa using HO.out, HT.out⟩
      case round =>
        obtain ⟨j, a, c, hj, rfl, rfl, ho, ht⟩ := hrel
        clear HO HT
        have HO := Lib.hid ho
        have HT := Lib.hid ht
        clear ho ht hk3
        by_cases hlt : j < nF
        case neg =>
          obtain rfl : nF = j := by omega
          have hlI : ¬ (nF : Int) < nF := by omega
          have htk : (x.F.take nF).map flR = x.F.map flR := by rw [List.take_of_length_le (by rw [HNF.out]; exact Nat.le_refl _)]
          rw [htk] at HO
          clear htk hlt hj
          go_wp2_with fail
          go_ret
          exact ⟨a, c, rfl, HO.out.rebase (fun x hx => Nat.le_trans HT1.out.size (HO.out.own.lt x hx).1), HT1.out.trans HT.out (fun _ _ h => h)⟩
        case pos =>
          have hrow := HRF.out _ HT.out
          obtain ⟨g, off, rfl⟩ := hrow.some (by omega)
          have hjL : j < x.F.length := by rw [HNF.out]; exact hlt
          obtain ⟨d0, d1, d2, d3, d4, d5, d6, d7⟩ := sameFr_cells hrow j hjL
          have hcap := hrow.hcap
          have hmax := hrow.hmax
          have htk : (geR x a1 c1 :: (x.D.map drR ++ (x.F.take j).map flR)) ++ [flR x.F[j]] = geR x a1 c1 :: (x.D.map drR ++ (x.F.take (j + 1)).map flR) := by
            rw [List.take_succ_eq_append_getElem hjL, List.map_append]; simp
          have HTK := Lib.hid htk
          generalize x.F[j] = f at *
          obtain ⟨w4, hw4⟩ : ∃ W, wr.alloc (.cells (fca f) 26) = W := ⟨_, rfl⟩
          have t4 : Touch wr w4 (fun _ => False) := hw4 ▸ (Touch.refl wr _).alloc _
          have g4 : w4.heap[wr.heap.size]? = some (.cells (fca f) 26 (0, 0)) := hw4 ▸ heap_alloc_new ..
          obtain ⟨K5, hK5⟩ : ∃ K, wr.heap.size = K := ⟨_, rfl⟩
          rw [hK5] at g4
          have HW4 := Lib.hid (And.intro hw4 hK5)
          have HT4 := Lib.hid (HT.out.trans t4 (fun _ _ h => h))
          have HO4 := Lib.hid (HO.out.still t4)
          have hsz : W1.heap.size ≤ w4.heap.size := HT4.out.size
          obtain ⟨x0, x1, x2, x3, x4, x5, x6, x7⟩ := fcells_of g4
          simp only [fca] at HW4
          have hlI : (j : Int) < nF := by omega
          have HJB : RowKit.Hid (1 + nD + j ≤ 4000000) := Lib.hid (by have := HB.out; omega)
          clear hrow htk t4 g4 hw4 hK5 hjL
          go_upto_region 10 with (fail)
          rw [HW4.out.1, HW4.out.2]
          clear d0 d1 d2 d3 d4 d5 d6 d7
          go_upto_region 11 with (at_builtin; (with_reducible refine wp_add1 (w := w4) (HO4.out.still ((Touch.refl w4 (fun _ => False)).alloc _)) rfl rfl rfl (by simp [Value.oneCell']) HJB.out 40 Try.underlying40 _ 120 HRI.out rfl (by decide) (by decide) hsz rfl _ _ rfl rfl rfl ?_); intro a5 c5 w6 ho5 t5 p5; have HO5 := Lib.hid ho5; have HT5 := Lib.hid t5; clear ho5 t5 p5)
          have HX' : RowKit.Hid (∃ (j' : Nat) (a : Option Addr) (c : Nat), j' ≤ nF ∧ Value.int .i64 ((j : Int) + 1) = .int .i64 j' ∧ Value.slice a5 (1 + nD + j + 1) c5 = .slice a (1 + nD + j') c ∧ OwnS w6 W1.heap.size 29 14 (.slice a (1 + nD + j') c) ((geR x a1 c1 :: (x.D.map drR ++ (x.F.take j').map flR)).map RecB.cells) ∧ Touch W1 w6 (fun _ => False)) := Lib.hid ⟨j + 1, a5, c5, by omega, by go_num, rfl, by rw [← HTK.out, ← recs_step]; exact HO5.out, HT4.out.trans HT5.out (fun k hk e => by have h1 := (HO.out.own.lt _ e).1; omega)⟩
          clear x0 x1 x2 x3 x4 x5 x6 x7
          go_wp2_with fail
          go_roundw
          · exact HX'.out
          · simp only [RowKit.intOf]; omega
end Go.Proofs.Ytdhimlkndpiacaa
