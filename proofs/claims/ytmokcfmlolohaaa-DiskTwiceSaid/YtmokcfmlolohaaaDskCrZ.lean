/- A disk's crash. -/
import Derived.Test.YtmokcfmlolohaaaDskNewZ
import Derived.Test.YtmokcfmlolohaaaCalm3Z
set_option linter.unusedVariables false
set_option linter.unusedSimpArgs false
namespace Go.Proofs.Ytmokcfmlolohaaa
open Go.RowKit

/-- One file behind a crash, with its pick ahead of the others'. -/
def dkCr1 (x : NmD) (ps : List Nat) (F : Nat → DkFc) : Nat → DkFc := match x.f with
  | none => F
  | some g => keepF F g ((F g).s + pick0 ps ((F g).b.length - (F g).s))
def dkCrF : List NmD → List Nat → (Nat → DkFc) → (Nat → DkFc)
  | [], _, F => F
  | x :: L, ps, F => dkCrF L ps.tail (dkCr1 x ps F)
theorem dkCrF_append : ∀ (L M : List NmD) (ps : List Nat) (F : Nat → DkFc), dkCrF (L ++ M) ps F = dkCrF M (ps.drop L.length) (dkCrF L ps F)
  | [], M, ps, F => rfl
  | x :: L, M, ps, F => by
    rw [List.cons_append, dkCrF, dkCrF, dkCrF_append L M]
    congr 1
    cases ps <;> simp
theorem dkCrF_snoc (L : List NmD) (ps : List Nat) (F : Nat → DkFc) (k : Nat) (hk : k < L.length) : dkCrF (L.take (k + 1)) ps F = dkCr1 L[k] (ps.drop k) (dkCrF (L.take k) ps F) := by
  rw [List.take_succ_eq_append_getElem hk, dkCrF_append, dkCrF, dkCrF, List.length_take, Nat.min_eq_left (Nat.le_of_lt hk)]
def dkCrS (st : DkS) (ps : List Nat) : List NmD := dkAll st.S (st.C.take (pick0 ps st.C.length))
def dkCrash (st : DkS) (ps : List Nat) : DkS := { st with fail := 0, S := dkCrS st ps, C := [], F := dkCrF (dkSort (dkCrS st ps)) ps.tail st.F }
theorem pick0_le (ps : List Nat) (m : Nat) : pick0 ps m ≤ m := by
  cases ps with
  | nil => exact Nat.zero_le _
  | cons x t => have := Nat.mod_lt x (show 0 < m + 1 by omega); unfold pick0; simp only; omega
theorem strRow_cell {w : World} {b off n c : Nat} {M : List NmD} (r : RowS w (some ⟨b, off, none⟩) n c 1 (strRow M)) (k : Nat) (hk : k < M.length) : w.cell? ⟨b, off + k, none⟩ = some (.string M[k].n) := by
  have hk' : k < (strRow M).length := by unfold strRow; simpa using hk
  have e : (strRow M)[k] = [Value.string M[k].n] := by simp [strRow]
  have := RowS.cell r k hk' 0 (.string M[k].n) (by rw [e]; rfl)
  simpa using this
theorem infoChosen : (Try.prog.info? 77).map (·.size) = some 1 := by kernel_rfl
set_option maxRecDepth 20000 in
set_option maxHeartbeats 16000000 in
theorem dcrash_any (w : World) (d : Nat) (h0 : DkH) (st : DkS) (m : DkM w d h0 st) (a : Option Addr) (len cap : Nat) (ps : List Nat) (hr : RowB w a len cap ps) (hoff : ∀ x, a = some x → len = 0 ∨ ¬ footK h0 x.block) (hCl : st.C.length ≤ 100000) :
    Calls Try.prog 22 #[.pointer (some ⟨d, 0, none⟩), .slice a len cap] w fun e w' => e = .returned (.tuple #[]) ∧ DkStep w w' d h0 (dkCrash st ps) := by
  obtain ⟨W1, hW1⟩ : ∃ W, w.alloc (.cells #[.slice a len cap] 77) = W := ⟨_, rfl⟩
  obtain ⟨B, hB⟩ : ∃ B, w.heap.size = B := ⟨_, rfl⟩
  have t1 : Touch w W1 (fun _ => False) := hW1 ▸ (Touch.refl w _).alloc _
  have g1 : W1.heap[B]? = some (.cells #[.slice a len cap] 77 (0, 0)) := hB ▸ hW1 ▸ heap_alloc_new ..
  have hBf : ∀ h : DkH, (∀ k, footK h k → footK h0 k ∨ B < k) → ¬ footK h B := fun h hh hf => by
    rcases hh B hf with h1 | h1
    · have := m.lt B h1; omega
    · omega
  have m1 := m.still t1
  obtain ⟨c0, c1, c2, c3, c4, c5⟩ := m1.cells
  obtain ⟨P, hP⟩ : ∃ P : Nat → Prop, P = fun k => k < B ∧ ¬ footK h0 k := ⟨_, rfl⟩
  have HPK : RowKit.Hid (PicksIs W1 B P ps) := Lib.hid ⟨a, len, cap, g1, hr.touch t1 (fun _ _ => .inr (fun h => h)), fun x hx => by
    rcases hr.lt x hx with h1 | h1
    · exact .inl h1
    · rcases hoff x hx with h2 | h2
      · exact .inl h2
      · exact .inr ⟨by omega, by rw [hP]; exact ⟨by omega, h2⟩⟩⟩
  have HM := Lib.hid m
  have HM1 := Lib.hid m1
  have HT1 := Lib.hid t1
  have HBE := Lib.hid hB
  have HBF0 := Lib.hid hBf
  have HPP := Lib.hid hP
  have HW1 := Lib.hid hW1
  have HNX1 := Lib.hid (fun W p => dnext_any W B P ps p st.C.length (by omega))
  clear m m1 t1 g1 hBf hB hP hW1 hr hoff c0 c1 c2 c4 c5
  go_enter Try.func22, Try.ntmps22
  go_upto_region 2 with (fail)
  rw [HW1.out, HBE.out]
  go_wp2_with fail
  refine (HNX1.out _ HPK.out).mono ?_
  rintro e w2 ⟨rfl, pk2, t2⟩
  have hp2 := pick0_le ps st.C.length
  have hB0 := HBF0.out h0 (fun k hk => .inl hk)
  have m2 := HM1.out.touch t2 (fun k hk e => hB0 (e ▸ hk))
  have HS := Lib.hid (dsettle_any w2 d h0 st m2 (pick0 ps st.C.length) hp2 (by omega))
  obtain ⟨n, hn⟩ : ∃ n, pick0 ps st.C.length = n := ⟨_, rfl⟩
  rw [hn] at HS hp2
  have HPK := Lib.hid pk2
  have HM2 := Lib.hid m2
  have HT2 := Lib.hid (HT1.out.trans t2 (fun k hk e => by have := HBE.out; omega))
  have HN := Lib.hid (And.intro hn hp2)
  have HB0 := Lib.hid hB0
  rw [hn]
  clear pk2 t2 m2 hn hp2 hB0 c3
  go_wp2_with fail
  refine HS.out.mono ?_
  rintro e w3 ⟨rfl, o3, t3, g3⟩
  have x2 := cell_of_cells g3 2
  have HCL := Lib.hid (mcloneN_any w3 h0.ms _ o3)
  have HO3 := Lib.hid o3
  have HT3 := Lib.hid t3
  have HG3 := Lib.hid g3
  clear o3 t3 g3
  go_wp2_with fail
  refine HCL.out.mono ?_
  rintro e w4 ⟨rfl, o4, t4⟩
  have g4 := t4.keeps HG3.out (fun h => h)
  have x1 := cell_of_cells g4 1
  have f1 := free_of_cells g4 1
  obtain ⟨mn, hmn⟩ : ∃ mn, w3.heap.size = mn := ⟨_, rfl⟩
  rw [hmn] at o4 ⊢
  obtain ⟨W5, hW5⟩ : ∃ W, w4.setCell ⟨d, 1, none⟩ (.map (some mn)) = W := ⟨_, rfl⟩
  have g5 := heap_setCell_same w4 d 1 _ _ (.map (some mn)) g4
  rw [hW5] at g5
  have t5 : Touch w4 W5 (fun k => k = d) := hW5 ▸ (Touch.refl w4 _).into 1 _
  have hdlt : d < w3.heap.size := heap_lt HG3.out
  have ho5 : OwnN W5 mn (dkAll st.S (st.C.take n)) := o4.touch t5 (fun e => by have e : mn = d := e; omega)
  have hs5 : OwnN W5 h0.ms (dkAll st.S (st.C.take n)) := (HO3.out.still t4).touch t5 (fun e => by
    have h1 := HM2.out.ts
    have e : h0.ms = d := e
    rw [e, HM2.out.td] at h1; cases h1)
  have hT25 : Touch w2 W5 (fun k => k = d ∨ k = h0.ms) := (HT3.out.trans t4 (fun _ _ h => h.elim)).trans t5 (fun _ _ e => .inl e)
  obtain ⟨h5, m5, t5', mo5, ne5⟩ := HM2.out.settled n HN.out.2 st.F rfl hT25 hs5 g5 ho5 HM2.out.fails (.inr (by rw [← hmn]; exact HT3.out.size))
  have hBd : ¬ footK h5 B := HBF0.out h5 (fun k hk => (ne5 k hk).imp (fun h => h) (fun hh => by have h1 := HT2.out.size; have h2 := HPK.out; obtain ⟨_, _, _, h3, _⟩ := h2; have := heap_lt h3; omega))
  have hPf : ∀ k, P k → ¬ footK h5 k := fun k hk hf => by
    rw [HPP.out] at hk
    rcases ne5 k hf with h1 | h1
    · exact hk.2 h1
    · obtain ⟨_, _, _, h3, _⟩ := HPK.out
      have := heap_lt h3
      omega
  have hpk5 := HPK.out.touch hT25 (fun e => by
    rcases e with e | e
    · exact HB0.out (by unfold footK; rw [e, HM2.out.td]; simp)
    · exact HB0.out (by unfold footK; rw [e, HM2.out.ts]; simp)) (fun k hk e => by
    rw [HPP.out] at hk
    rcases e with e | e
    · exact hk.2 (by unfold footK; rw [e, HM2.out.td]; simp)
    · exact hk.2 (by unfold footK; rw [e, HM2.out.ts]; simp))
  have hST5 : DkStep w W5 d h0 { st with ops := st.ops, fail := st.fail, S := dkAll st.S (st.C.take n), C := [] } := DkStep.trans HM2.out (HT2.out.mono (fun _ _ h => h.elim)) (fun _ h => h) (fun _ hk => .inl hk) ⟨h5, m5, t5', mo5, ne5⟩
  obtain ⟨N, hN⟩ : ∃ N, dkAll st.S (st.C.take n) = N := ⟨_, rfl⟩
  rw [hN] at m5 hST5
  have hgN : DkGood h5.T N := by have := m5.goodS; exact this
  have hmn5 : h5.mn = mn := by
    have h1 := (m5.cells).2.1
    have h2 := cell_of_cells g5 1
    rw [h1] at h2
    simp at h2
    exact h2
  have y1 : W5.cell? ⟨d, 1, none⟩ = some (.map (some mn)) := by rw [← hmn5]; exact m5.cells.2.1
  have oN : OwnN W5 mn N := hN ▸ ho5
  have HKY := Lib.hid (keysN_any W5 mn)
  have HSR := Lib.hid (sortedN_any W5 mn N oN (by have := hgN.len; omega))
  have HM5 := Lib.hid m5
  have HST5 := Lib.hid hST5
  have HBD := Lib.hid hBd
  have HPF5 := Lib.hid hPf
  have HPK := Lib.hid hpk5
  have HGN := Lib.hid hgN
  have HMN5 := Lib.hid hmn5
  have HNN := Lib.hid (And.intro hN (And.intro HN.out.1 (And.intro mo5 ne5)))
  have HT5' := Lib.hid t5'
  have HBL : RowKit.Hid (B < W5.heap.size) := Lib.hid (by obtain ⟨_, _, _, h3, _⟩ := hpk5; exact heap_lt h3)
  clear o4 t4 g4 g5 t5 hdlt ho5 hs5 hT25 m5 t5' mo5 ne5 hBd hPf hpk5 hST5 hN hgN hmn5 oN x2 hmn
  go_wp2_with fail
  refine HKY.out.mono ?_
  rintro e w6 ⟨rfl, rfl⟩
  go_wp2_with fail
  refine HSR.out.mono ?_
  rintro e w7 ⟨an, cn, rfl, ho7, t7⟩
  have HRW := Lib.hid ho7
  have HT7 := Lib.hid t7
  obtain ⟨K, hK⟩ : ∃ K, N.length = K := ⟨_, rfl⟩
  have HKK := Lib.hid hK
  have hK2 : K ≤ 200 := by have := HGN.out.len; omega
  rw [hK] at ho7
  have HRW := Lib.hid ho7
  have hpk7 := Lib.hid (HPK.out.touch t7 (fun h => h) (fun _ _ h => h))
  have hm7 := Lib.hid (HM5.out.still t7)
  rw [hK]
  clear ho7 t7 x1 f1 y1 hW5 hK
  go_wp2_with fail
  go_loopw [34] (fun s34 wr => ∃ (k : Nat) (h : DkH), k ≤ K ∧ s34 = .int .i64 k ∧ DkM wr d h { st with ops := st.ops, fail := st.fail, S := N, C := [], F := dkCrF ((dkSort N).take k) ps.tail st.F } ∧ PicksIs wr B P (ps.tail.drop k) ∧ Touch w7 wr (fun x => x = B ∨ footK h5 x) ∧ (∀ x, h5.T x = .fb → h.T x = .fb) ∧ ∀ x, footK h x → footK h5 x ∨ w7.heap.size ≤ x) (fun s34 _ => K - (RowKit.intOf s34).toNat)
  case atStart => exact ⟨0, h5, Nat.zero_le _, rfl, hm7.out, hpk7.out, Touch.refl _ _, fun _ h => h, fun _ h => .inl h⟩
  case round =>
    obtain ⟨k, h, hk, rfl, hm, hpk, ht, hmo, hne⟩ := hrel
    have HM := Lib.hid hm
    have HPK := Lib.hid hpk
    have HT := Lib.hid ht
    have HMO := Lib.hid hmo
    have HNE := Lib.hid hne
    clear hm hpk ht hmo hne hpk7 hm7 HKY HSR
    by_cases hlt : k < K
    case neg =>
      obtain rfl : K = k := by omega
      obtain ⟨c0, c1, c2, c3, c4, c5⟩ := HM.out.cells
      have f5 := free_of_cells HM.out.head 5
      obtain ⟨W9, hW9⟩ : ∃ W, wr.setCell ⟨d, 5, none⟩ (.int .i64 0) = W := ⟨_, rfl⟩
      have g9 := heap_setCell_same wr d 5 _ _ (.int .i64 0) HM.out.head
      rw [hW9] at g9
      have t9 : Touch wr W9 (fun k => k = d) := hW9 ▸ (Touch.refl wr _).into 5 _
      have HR : RowKit.Hid (DkStep w W9 d h0 (dkCrash st ps)) := Lib.hid (by
        have hmf := HM.out.turn t9 HM.out.quota ⟨Int.le_refl 0, show (0 : Int) ≤ 9223372036854775807 by decide⟩ g9
        have e1 : (dkSort N).take K = dkSort N := List.take_of_length_le (by rw [dkSort_len, HKK.out]; exact Nat.le_refl _)
        rw [e1] at hmf
        have e2 : dkCrS st ps = N := by unfold dkCrS; rw [HNN.out.2.1, HNN.out.1]
        have hB7 : w.heap.size ≤ B := by have := HBE.out; omega
        have hW5s : w.heap.size ≤ w7.heap.size := Nat.le_trans HT2.out.size (Nat.le_trans HT5'.out.size HT7.out.size)
        unfold dkCrash
        rw [e2]
        refine ⟨h, hmf, ?_, fun x hx => HMO.out x (HNN.out.2.2.1 x hx), fun x hx => ?_⟩
        · refine (((HT2.out.mono (T := footK h0) (fun _ _ h => h.elim)).trans HT5'.out (fun _ _ h => h)).trans HT7.out (fun _ _ h => h.elim)).trans (HT.out.trans t9 (T := fun k => k = d) (S := fun x => x = B ∨ footK h5 x) (fun x hx e => .inr (by have e : x = d := e; rw [e]; exact footK_d HM5.out))) (fun x hx e => ?_)
          rcases e with e | e
          · omega
          · rcases HNN.out.2.2.2 x e with h1 | h1
            · exact h1
            · have := HT2.out.size; omega
        · rcases HNE.out x hx with h1 | h1
          · rcases HNN.out.2.2.2 x h1 with h2 | h2
            · exact .inl h2
            · exact .inr (Nat.le_trans HT2.out.size h2)
          · exact .inr (Nat.le_trans hW5s h1))
      clear c0 c1 c2 c3 c4 g9 t9
      go_wp2_with fail
      go_end0
      exact ⟨rfl, HR.out⟩
    case pos =>
      have hlI : (k : Int) < K := by omega
      have hkL : k < (dkSort N).length := by rw [dkSort_len, HKK.out]; exact hlt
      have hrow : RowS wr an K cn 1 (strRow (dkSort N)) := by
        obtain ⟨-, hr, hb⟩ := HRW.out.row'
        refine hr.touch HT.out (fun x hx => .inr (fun e => ?_))
        have h1 := hb x hx
        rcases e with e | e
        · obtain ⟨_, _, _, h3, _⟩ := HPK.out
          have := HBL.out
          omega
        · have := HM5.out.lt _ e
          omega
      obtain ⟨b, off, han⟩ := hrow.some (by omega)
      rw [han] at hrow
      have hcell := strRow_cell hrow k hkL
      have hnm := HM.out.nm.get (k := (dkSort N)[k].n) (by
        obtain ⟨h1, h2, -⟩ := HGN.out.ref _ ((dkSort_perm N).mem_iff.1 (List.getElem_mem hkL))
        unfold szN; omega)
      have hget : getN N (dkSort N)[k].n = (dkSort N)[k].f := getN_of HGN.out.nd ((dkSort_perm N).mem_iff.1 (List.getElem_mem hkL))
      have hNN : DkS.N { st with ops := st.ops, fail := st.fail, S := N, C := [], F := dkCrF ((dkSort N).take k) ps.tail st.F } = N := rfl
      rw [hNN, hget] at hnm
      have hsnoc := dkCrF_snoc (dkSort N) ps.tail st.F k hkL
      obtain ⟨x, hx⟩ : ∃ x, (dkSort N)[k] = x := ⟨_, rfl⟩
      have hxref := HGN.out.ref _ ((dkSort_perm N).mem_iff.1 (List.getElem_mem hkL))
      rw [hx] at hcell hnm hsnoc hxref
      obtain ⟨-, -, g, hxf, hg5⟩ := hxref
      have HG := Lib.hid (HMO.out g hg5)
      rw [hxf] at hnm
      simp only [pvN, Option.map_some] at hnm
      obtain ⟨Fk, hFk⟩ : ∃ F, dkCrF ((dkSort N).take k) ps.tail st.F = F := ⟨_, rfl⟩
      rw [hFk] at hsnoc HM
      unfold dkCr1 at hsnoc
      rw [hxf] at hsnoc
      simp only at hsnoc
      have hf := HM.out.files g HG.out
      obtain ⟨s, hs⟩ : ∃ s, (Fk g).s = s := ⟨_, rfl⟩
      obtain ⟨L, hL⟩ : ∃ L, (Fk g).b.length = L := ⟨_, rfl⟩
      have hsl : s ≤ L := by rw [← hs, ← hL]; exact hf.sure
      have hLl : L ≤ 1048576 := by rw [← hL]; exact hf.len
      obtain ⟨j, hj⟩ : ∃ j, pick0 (ps.tail.drop k) (L - s) = j := ⟨_, rfl⟩
      have hjl : j ≤ L - s := by rw [← hj]; exact pick0_le _ _
      rw [hs, hL, hj] at hsnoc
      have HYY : RowKit.Hid (∀ W, DkM W d h { st with ops := st.ops, fail := st.fail, S := N, C := [], F := Fk } → W.cell? ⟨g, 0, none⟩ = some (.slice (h.ao g) L (h.co g)) ∧ W.cell? ⟨g, 1, none⟩ = some (.int .i64 s)) := Lib.hid (fun W mm => by
        have := (mm.files g HG.out).cells
        rwa [show ({ st with ops := st.ops, fail := st.fail, S := N, C := [], F := Fk } : DkS).F g = Fk g from rfl, hL, hs] at this)
      have e1 : IntKind.i64.wrap ((L : Int) - (s : Int)) = ((L - s : Nat) : Int) := by
        rw [IntWalk.i64_in _ (by omega)]; omega
      have e2 : IntKind.i64.wrap ((s : Int) + (j : Int)) = ((s + j : Nat) : Int) := by
        rw [IntWalk.i64_in _ (by omega)]; omega
      have HNX : RowKit.Hid (∀ W, PicksIs W B P (ps.tail.drop k) → Calls Try.prog 48 #[.pointer (some ⟨B, 0, none⟩), .int .i64 (IntKind.i64.wrap ((L : Int) - (s : Int)))] W fun e w' => e = .returned (.int .i64 (j : Int)) ∧ PicksIs w' B P (ps.tail.drop (k + 1)) ∧ Touch W w' (fun k => k = B)) := Lib.hid (fun W p => by
        have := dnext_any W B P _ p (L - s) (by omega)
        rw [hj, List.tail_drop] at this
        rw [e1]
        exact this)
      have HKP : RowKit.Hid (∀ W, DkM W d h { st with ops := st.ops, fail := st.fail, S := N, C := [], F := Fk } → Calls Try.prog 52 #[.pointer (some ⟨g, 0, none⟩), .int .i64 (IntKind.i64.wrap ((s : Int) + (j : Int)))] W fun e w' => e = .returned (.tuple #[]) ∧ DkStep W w' d h { st with ops := st.ops, fail := st.fail, S := N, C := [], F := dkCrF ((dkSort N).take (k + 1)) ps.tail st.F }) := Lib.hid (fun W mm => by
        have := dkeep_any W d h _ mm g HG.out (s + j) (by show s + j ≤ (Fk g).b.length; omega)
        rw [e2, hsnoc]
        exact this)
      have hBF : ¬ footK h B := fun hf => by
        rcases HNE.out B hf with h1 | h1
        · exact HBD.out h1
        · obtain ⟨_, _, _, h3, _⟩ := HPK.out
          have h4 : B < w7.heap.size := Nat.lt_of_lt_of_le HBL.out HT7.out.size
          omega
      have HBF := Lib.hid hBF
      have HPF : RowKit.Hid (∀ k, P k → ¬ footK h k) := Lib.hid (fun x hx hf => by
        rcases HNE.out x hf with h1 | h1
        · exact HPF5.out x hx h1
        · rw [HPP.out] at hx
          have h7 := HT7.out.size
          have := HBL.out
          omega)
      have HEND : RowKit.Hid (∀ w6 h6, DkM w6 d h6 { st with ops := st.ops, fail := st.fail, S := N, C := [], F := dkCrF ((dkSort N).take (k + 1)) ps.tail st.F } → PicksIs w6 B P (ps.tail.drop (k + 1)) → Touch wr w6 (fun x => x = B ∨ footK h x) → (∀ x, h.T x = .fb → h6.T x = .fb) → (∀ x, footK h6 x → footK h x ∨ wr.heap.size ≤ x) →
          ∃ (k' : Nat) (h : DkH), k' ≤ K ∧ Value.int .i64 ((k : Int) + 1) = .int .i64 k' ∧ DkM w6 d h { st with ops := st.ops, fail := st.fail, S := N, C := [], F := dkCrF ((dkSort N).take k') ps.tail st.F } ∧ PicksIs w6 B P (ps.tail.drop k') ∧ Touch w7 w6 (fun x => x = B ∨ footK h5 x) ∧ (∀ x, h5.T x = .fb → h.T x = .fb) ∧ ∀ x, footK h x → footK h5 x ∨ w7.heap.size ≤ x) := Lib.hid (fun w6 h6 m6 p6 t6 mo6 ne6 =>
        ⟨k + 1, h6, by omega, by go_num, m6, p6, HT.out.trans t6 (fun x hx e => e.imp (fun h => h) (fun hf => by
          rcases HNE.out x hf with h1 | h1
          · exact h1
          · omega)), fun x hx => mo6 x (HMO.out x hx), fun x hx => by
          rcases ne6 x hx with h1 | h1
          · exact HNE.out x h1
          · exact .inr (Nat.le_trans HT.out.size h1)⟩)
      have HY := Lib.hid (HYY.out wr HM.out)
      have hy1 : wr.cell? ⟨d, 1, none⟩ = some (.map (some h.mn)) := HM.out.cells.2.1
      rw [han]
      clear hrow hget hNN hsnoc hx hxf hg5 hFk hf hs hL hj e1 e2 hBF hkL
      go_upto_region 8 with (fail)
      go_wp2_with fail
      have HM := Lib.hid (HM.out.touch ((Touch.refl wr (fun _ => False)).drew) (fun _ _ h => h))
      have HPK := Lib.hid (HPK.out.touch ((Touch.refl wr (fun _ => False)).drew) (fun h => h) (fun _ _ h => h))
      have HY := Lib.hid (HYY.out _ HM.out)
      clear hcell hnm hy1
      have hS := (Touch.refl wr (fun k => k = B ∨ footK h k)).drew
      refine wp_region_tree3 (fun w' => Touch wr w' (fun k => k = B ∨ footK h k)) (.take 0 (.take 1 (.take 2 (.take 3 (.take 5 (.take 6 (.take 7 (.take 10 (.take 11 (.take 12 (.three 4 8 13 (.two 8 13 (.take 9 (.one 13 (.take 14 (.one 15 (.take 16 (.one 17 .fin)))))) (.one 8 (.take 9 (.take 14 (.one 15 (.take 16 (.one 17 .fin))))))) (.take 9 (.two 4 13 (.one 13 (.take 14 (.one 15 (.take 16 (.one 17 .fin))))) (.take 14 (.two 4 15 (.one 15 (.take 16 (.one 17 .fin))) (.one 4 (.take 16 (.one 17 .fin))))))) (.two 4 8 (.one 8 (.take 9 (.take 14 (.one 15 (.take 16 (.one 17 .fin)))))) (.take 9 (.take 14 (.two 4 15 (.one 15 (.take 16 (.one 17 .fin))) (.one 4 (.take 16 (.one 17 .fin)))))))))))))))))) (by kernel_rfl) (by kernel_rfl) (by kernel_rfl) (by kernel_rfl) hS ?_
      refine walk3_take ?_
      (refine takeN_take (v := ?_) (some 44) rfl rfl (fun _ _ _ h => h) (by rfl) ?_ ?_; rotate_left; (focus (intro w' hw'; go_simp; (try with_reducible rfl))); (try simp only [Act.put, List.setIfInBounds_toArray, List.set_cons_zero, List.set_cons_succ]))
      refine walk3_take ?_
      (refine takeN_take (v := ?_) (some 45) rfl rfl (fun _ _ _ h => h) (by rfl) ?_ ?_; rotate_left; (focus (intro w' hw'; go_simp; (try with_reducible rfl))); (try simp only [Act.put, List.setIfInBounds_toArray, List.set_cons_zero, List.set_cons_succ]))
      refine walk3_take ?_
      (refine takeN_take (v := ?_) (some 46) rfl rfl (fun _ _ _ h => h) (by rfl) ?_ ?_; rotate_left; (focus (intro w' hw'; go_simp; (try with_reducible rfl))); (try simp only [Act.put, List.setIfInBounds_toArray, List.set_cons_zero, List.set_cons_succ]))
      refine walk3_take ?_
      (refine takeN_take (v := ?_) (some 47) rfl rfl (fun _ _ _ h => h) (by rfl) ?_ ?_; rotate_left; (focus (intro w' hw'; go_simp; (try with_reducible rfl))); (try simp only [Act.put, List.setIfInBounds_toArray, List.set_cons_zero, List.set_cons_succ]))
      refine walk3_take ?_
      (refine takeN_take (v := ?_) (some 49) rfl rfl (fun _ _ _ h => h) (by rfl) ?_ ?_; rotate_left; (focus (intro w' hw'; go_simp; (try with_reducible rfl))); (try simp only [Act.put, List.setIfInBounds_toArray, List.set_cons_zero, List.set_cons_succ]))
      refine walk3_take ?_
      (refine takeN_take (v := ?_) (some 50) rfl rfl (fun _ _ _ h => h) (by rfl) ?_ ?_; rotate_left; (focus (intro w' hw'; go_simp; (try with_reducible rfl))); (try simp only [Act.put, List.setIfInBounds_toArray, List.set_cons_zero, List.set_cons_succ]))
      refine walk3_take ?_
      (refine takeN_take (v := ?_) (some 51) rfl rfl (fun _ _ _ h => h) (by rfl) ?_ ?_; rotate_left; (focus (intro w' hw'; go_simp; (try with_reducible rfl))); (try simp only [Act.put, List.setIfInBounds_toArray, List.set_cons_zero, List.set_cons_succ]))
      refine walk3_take ?_
      (refine takeN_take (v := ?_) (some 54) rfl rfl (fun _ _ _ h => h) (by rfl) ?_ ?_; rotate_left; (focus (intro w' hw'; go_simp; (try with_reducible rfl))); (try simp only [Act.put, List.setIfInBounds_toArray, List.set_cons_zero, List.set_cons_succ]))
      refine walk3_take ?_
      (refine takeN_take (v := ?_) (some 55) rfl rfl (fun _ _ _ h => h) (by rfl) ?_ ?_; rotate_left; (focus (intro w' hw'; go_simp; (try with_reducible rfl))); (try simp only [Act.put, List.setIfInBounds_toArray, List.set_cons_zero, List.set_cons_succ]))
      refine walk3_take ?_
      (refine takeN_take (v := ?_) (some 56) rfl rfl (fun _ _ _ h => h) (by rfl) ?_ ?_; rotate_left; (focus (intro w' hw'; go_simp; (try with_reducible rfl))); (try simp only [Act.put, List.setIfInBounds_toArray, List.set_cons_zero, List.set_cons_succ]))
      refine walk3_three ?_ ?_ ?_
      · (have y1 := HY.out.2; refine runN_do (v := .int .i64 s) (w' := _) (some 48) rfl rfl (by rfl) (by go_simp; (try with_reducible rfl)) hS (fun hS => ?_); clear y1; (try simp only [Act.put, List.setIfInBounds_toArray, List.set_cons_zero, List.set_cons_succ]))
        refine walk3_two ?_ ?_
        · (have y0 := HY.out.1; refine runN_do (v := .slice (h.ao g) L (h.co g)) (w' := _) (some 52) rfl rfl (by rfl) (by go_simp; (try with_reducible rfl)) hS (fun hS => ?_); clear y0; (try simp only [Act.put, List.setIfInBounds_toArray, List.set_cons_zero, List.set_cons_succ]))
          refine walk3_take ?_
          (refine takeN_take (v := ?_) (some 53) rfl rfl (fun _ _ _ h => h) (by rfl) ?_ ?_; rotate_left; (focus (intro w' hw'; go_simp; (try with_reducible rfl))); (try simp only [Act.put, List.setIfInBounds_toArray, List.set_cons_zero, List.set_cons_succ]))
          refine walk3_one ?_
          (have y1 := HY.out.2; refine runN_do (v := .int .i64 s) (w' := _) (some 57) rfl rfl (by rfl) (by go_simp; (try with_reducible rfl)) hS (fun hS => ?_); clear y1; (try simp only [Act.put, List.setIfInBounds_toArray, List.set_cons_zero, List.set_cons_succ]))
          refine walk3_take ?_
          (refine takeN_take (v := ?_) (some 58) rfl rfl (fun _ _ _ h => h) (by rfl) ?_ ?_; rotate_left; (focus (intro w' hw'; go_simp; (try with_reducible rfl))); (try simp only [Act.put, List.setIfInBounds_toArray, List.set_cons_zero, List.set_cons_succ]))
          refine walk3_one ?_
          (refine runN_call 59 48 _ _ _ (HNX.out _ HPK.out) rfl rfl rfl (by rfl) rfl (enter_dnext _ _ _) ?_; rintro e w5 ⟨rfl, pk5, t5⟩; have HPK := Lib.hid pk5; have HM := Lib.hid (HM.out.touch t5 (fun k hk e => HBF.out (e ▸ hk))); have HY := Lib.hid (HYY.out w5 HM.out); refine ⟨_, rfl, hS.trans t5 (fun _ _ e => .inl e), fun hS => ?_⟩; clear pk5 t5; (try simp only [Act.put, List.setIfInBounds_toArray, List.set_cons_zero, List.set_cons_succ]))
          refine walk3_take ?_
          (refine takeN_take (v := ?_) (some 60) rfl rfl (fun _ _ _ h => h) (by rfl) ?_ ?_; rotate_left; (focus (intro w' hw'; go_simp; (try with_reducible rfl))); (try simp only [Act.put, List.setIfInBounds_toArray, List.set_cons_zero, List.set_cons_succ]))
          refine walk3_one ?_
          (refine runN_call 61 52 _ _ _ (HKP.out _ HM.out) rfl rfl rfl (by rfl) rfl (enter_dkeep _ _ _) ?_; rintro e w6 ⟨rfl, h6, m6, t6, mo6, ne6⟩; have HE6 := Lib.hid (HEND.out w6 h6 m6 (HPK.out.touch t6 HBF.out HPF.out) (hS.trans t6 (fun _ _ e => .inr e)) mo6 (fun k hk => (ne6 k hk).imp (fun h => h) (fun hh => Nat.le_trans hS.size hh))); refine ⟨_, rfl, hS.trans t6 (fun _ _ e => .inr e), fun hS => ?_⟩; clear m6 t6 mo6 ne6; (try simp only [Act.put, List.setIfInBounds_toArray, List.set_cons_zero, List.set_cons_succ]))
          refine walk3_fin ?_
          go_wp2_with fail
          go_roundw
          · exact HE6.out
          · simp only [RowKit.intOf]; omega
        · (have y1 := HY.out.2; refine runN_do (v := .int .i64 s) (w' := _) (some 57) rfl rfl (by rfl) (by go_simp; (try with_reducible rfl)) hS (fun hS => ?_); clear y1; (try simp only [Act.put, List.setIfInBounds_toArray, List.set_cons_zero, List.set_cons_succ]))
          refine walk3_one ?_
          (have y0 := HY.out.1; refine runN_do (v := .slice (h.ao g) L (h.co g)) (w' := _) (some 52) rfl rfl (by rfl) (by go_simp; (try with_reducible rfl)) hS (fun hS => ?_); clear y0; (try simp only [Act.put, List.setIfInBounds_toArray, List.set_cons_zero, List.set_cons_succ]))
          refine walk3_take ?_
          (refine takeN_take (v := ?_) (some 53) rfl rfl (fun _ _ _ h => h) (by rfl) ?_ ?_; rotate_left; (focus (intro w' hw'; go_simp; (try with_reducible rfl))); (try simp only [Act.put, List.setIfInBounds_toArray, List.set_cons_zero, List.set_cons_succ]))
          refine walk3_take ?_
          (refine takeN_take (v := ?_) (some 58) rfl rfl (fun _ _ _ h => h) (by rfl) ?_ ?_; rotate_left; (focus (intro w' hw'; go_simp; (try with_reducible rfl))); (try simp only [Act.put, List.setIfInBounds_toArray, List.set_cons_zero, List.set_cons_succ]))
          refine walk3_one ?_
          (refine runN_call 59 48 _ _ _ (HNX.out _ HPK.out) rfl rfl rfl (by rfl) rfl (enter_dnext _ _ _) ?_; rintro e w5 ⟨rfl, pk5, t5⟩; have HPK := Lib.hid pk5; have HM := Lib.hid (HM.out.touch t5 (fun k hk e => HBF.out (e ▸ hk))); have HY := Lib.hid (HYY.out w5 HM.out); refine ⟨_, rfl, hS.trans t5 (fun _ _ e => .inl e), fun hS => ?_⟩; clear pk5 t5; (try simp only [Act.put, List.setIfInBounds_toArray, List.set_cons_zero, List.set_cons_succ]))
          refine walk3_take ?_
          (refine takeN_take (v := ?_) (some 60) rfl rfl (fun _ _ _ h => h) (by rfl) ?_ ?_; rotate_left; (focus (intro w' hw'; go_simp; (try with_reducible rfl))); (try simp only [Act.put, List.setIfInBounds_toArray, List.set_cons_zero, List.set_cons_succ]))
          refine walk3_one ?_
          (refine runN_call 61 52 _ _ _ (HKP.out _ HM.out) rfl rfl rfl (by rfl) rfl (enter_dkeep _ _ _) ?_; rintro e w6 ⟨rfl, h6, m6, t6, mo6, ne6⟩; have HE6 := Lib.hid (HEND.out w6 h6 m6 (HPK.out.touch t6 HBF.out HPF.out) (hS.trans t6 (fun _ _ e => .inr e)) mo6 (fun k hk => (ne6 k hk).imp (fun h => h) (fun hh => Nat.le_trans hS.size hh))); refine ⟨_, rfl, hS.trans t6 (fun _ _ e => .inr e), fun hS => ?_⟩; clear m6 t6 mo6 ne6; (try simp only [Act.put, List.setIfInBounds_toArray, List.set_cons_zero, List.set_cons_succ]))
          refine walk3_fin ?_
          go_wp2_with fail
          go_roundw
          · exact HE6.out
          · simp only [RowKit.intOf]; omega
      · (have y0 := HY.out.1; refine runN_do (v := .slice (h.ao g) L (h.co g)) (w' := _) (some 52) rfl rfl (by rfl) (by go_simp; (try with_reducible rfl)) hS (fun hS => ?_); clear y0; (try simp only [Act.put, List.setIfInBounds_toArray, List.set_cons_zero, List.set_cons_succ]))
        refine walk3_take ?_
        (refine takeN_take (v := ?_) (some 53) rfl rfl (fun _ _ _ h => h) (by rfl) ?_ ?_; rotate_left; (focus (intro w' hw'; go_simp; (try with_reducible rfl))); (try simp only [Act.put, List.setIfInBounds_toArray, List.set_cons_zero, List.set_cons_succ]))
        refine walk3_two ?_ ?_
        · (have y1 := HY.out.2; refine runN_do (v := .int .i64 s) (w' := _) (some 48) rfl rfl (by rfl) (by go_simp; (try with_reducible rfl)) hS (fun hS => ?_); clear y1; (try simp only [Act.put, List.setIfInBounds_toArray, List.set_cons_zero, List.set_cons_succ]))
          refine walk3_one ?_
          (have y1 := HY.out.2; refine runN_do (v := .int .i64 s) (w' := _) (some 57) rfl rfl (by rfl) (by go_simp; (try with_reducible rfl)) hS (fun hS => ?_); clear y1; (try simp only [Act.put, List.setIfInBounds_toArray, List.set_cons_zero, List.set_cons_succ]))
          refine walk3_take ?_
          (refine takeN_take (v := ?_) (some 58) rfl rfl (fun _ _ _ h => h) (by rfl) ?_ ?_; rotate_left; (focus (intro w' hw'; go_simp; (try with_reducible rfl))); (try simp only [Act.put, List.setIfInBounds_toArray, List.set_cons_zero, List.set_cons_succ]))
          refine walk3_one ?_
          (refine runN_call 59 48 _ _ _ (HNX.out _ HPK.out) rfl rfl rfl (by rfl) rfl (enter_dnext _ _ _) ?_; rintro e w5 ⟨rfl, pk5, t5⟩; have HPK := Lib.hid pk5; have HM := Lib.hid (HM.out.touch t5 (fun k hk e => HBF.out (e ▸ hk))); have HY := Lib.hid (HYY.out w5 HM.out); refine ⟨_, rfl, hS.trans t5 (fun _ _ e => .inl e), fun hS => ?_⟩; clear pk5 t5; (try simp only [Act.put, List.setIfInBounds_toArray, List.set_cons_zero, List.set_cons_succ]))
          refine walk3_take ?_
          (refine takeN_take (v := ?_) (some 60) rfl rfl (fun _ _ _ h => h) (by rfl) ?_ ?_; rotate_left; (focus (intro w' hw'; go_simp; (try with_reducible rfl))); (try simp only [Act.put, List.setIfInBounds_toArray, List.set_cons_zero, List.set_cons_succ]))
          refine walk3_one ?_
          (refine runN_call 61 52 _ _ _ (HKP.out _ HM.out) rfl rfl rfl (by rfl) rfl (enter_dkeep _ _ _) ?_; rintro e w6 ⟨rfl, h6, m6, t6, mo6, ne6⟩; have HE6 := Lib.hid (HEND.out w6 h6 m6 (HPK.out.touch t6 HBF.out HPF.out) (hS.trans t6 (fun _ _ e => .inr e)) mo6 (fun k hk => (ne6 k hk).imp (fun h => h) (fun hh => Nat.le_trans hS.size hh))); refine ⟨_, rfl, hS.trans t6 (fun _ _ e => .inr e), fun hS => ?_⟩; clear m6 t6 mo6 ne6; (try simp only [Act.put, List.setIfInBounds_toArray, List.set_cons_zero, List.set_cons_succ]))
          refine walk3_fin ?_
          go_wp2_with fail
          go_roundw
          · exact HE6.out
          · simp only [RowKit.intOf]; omega
        · (have y1 := HY.out.2; refine runN_do (v := .int .i64 s) (w' := _) (some 57) rfl rfl (by rfl) (by go_simp; (try with_reducible rfl)) hS (fun hS => ?_); clear y1; (try simp only [Act.put, List.setIfInBounds_toArray, List.set_cons_zero, List.set_cons_succ]))
          refine walk3_take ?_
          (refine takeN_take (v := ?_) (some 58) rfl rfl (fun _ _ _ h => h) (by rfl) ?_ ?_; rotate_left; (focus (intro w' hw'; go_simp; (try with_reducible rfl))); (try simp only [Act.put, List.setIfInBounds_toArray, List.set_cons_zero, List.set_cons_succ]))
          refine walk3_two ?_ ?_
          · (have y1 := HY.out.2; refine runN_do (v := .int .i64 s) (w' := _) (some 48) rfl rfl (by rfl) (by go_simp; (try with_reducible rfl)) hS (fun hS => ?_); clear y1; (try simp only [Act.put, List.setIfInBounds_toArray, List.set_cons_zero, List.set_cons_succ]))
            refine walk3_one ?_
            (refine runN_call 59 48 _ _ _ (HNX.out _ HPK.out) rfl rfl rfl (by rfl) rfl (enter_dnext _ _ _) ?_; rintro e w5 ⟨rfl, pk5, t5⟩; have HPK := Lib.hid pk5; have HM := Lib.hid (HM.out.touch t5 (fun k hk e => HBF.out (e ▸ hk))); have HY := Lib.hid (HYY.out w5 HM.out); refine ⟨_, rfl, hS.trans t5 (fun _ _ e => .inl e), fun hS => ?_⟩; clear pk5 t5; (try simp only [Act.put, List.setIfInBounds_toArray, List.set_cons_zero, List.set_cons_succ]))
            refine walk3_take ?_
            (refine takeN_take (v := ?_) (some 60) rfl rfl (fun _ _ _ h => h) (by rfl) ?_ ?_; rotate_left; (focus (intro w' hw'; go_simp; (try with_reducible rfl))); (try simp only [Act.put, List.setIfInBounds_toArray, List.set_cons_zero, List.set_cons_succ]))
            refine walk3_one ?_
            (refine runN_call 61 52 _ _ _ (HKP.out _ HM.out) rfl rfl rfl (by rfl) rfl (enter_dkeep _ _ _) ?_; rintro e w6 ⟨rfl, h6, m6, t6, mo6, ne6⟩; have HE6 := Lib.hid (HEND.out w6 h6 m6 (HPK.out.touch t6 HBF.out HPF.out) (hS.trans t6 (fun _ _ e => .inr e)) mo6 (fun k hk => (ne6 k hk).imp (fun h => h) (fun hh => Nat.le_trans hS.size hh))); refine ⟨_, rfl, hS.trans t6 (fun _ _ e => .inr e), fun hS => ?_⟩; clear m6 t6 mo6 ne6; (try simp only [Act.put, List.setIfInBounds_toArray, List.set_cons_zero, List.set_cons_succ]))
            refine walk3_fin ?_
            go_wp2_with fail
            go_roundw
            · exact HE6.out
            · simp only [RowKit.intOf]; omega
          · (refine runN_call 59 48 _ _ _ (HNX.out _ HPK.out) rfl rfl rfl (by rfl) rfl (enter_dnext _ _ _) ?_; rintro e w5 ⟨rfl, pk5, t5⟩; have HPK := Lib.hid pk5; have HM := Lib.hid (HM.out.touch t5 (fun k hk e => HBF.out (e ▸ hk))); have HY := Lib.hid (HYY.out w5 HM.out); refine ⟨_, rfl, hS.trans t5 (fun _ _ e => .inl e), fun hS => ?_⟩; clear pk5 t5; (try simp only [Act.put, List.setIfInBounds_toArray, List.set_cons_zero, List.set_cons_succ]))
            refine walk3_one ?_
            (have y1 := HY.out.2; refine runN_do (v := .int .i64 s) (w' := _) (some 48) rfl rfl (by rfl) (by go_simp; (try with_reducible rfl)) hS (fun hS => ?_); clear y1; (try simp only [Act.put, List.setIfInBounds_toArray, List.set_cons_zero, List.set_cons_succ]))
            refine walk3_take ?_
            (refine takeN_take (v := ?_) (some 60) rfl rfl (fun _ _ _ h => h) (by rfl) ?_ ?_; rotate_left; (focus (intro w' hw'; go_simp; (try with_reducible rfl))); (try simp only [Act.put, List.setIfInBounds_toArray, List.set_cons_zero, List.set_cons_succ]))
            refine walk3_one ?_
            (refine runN_call 61 52 _ _ _ (HKP.out _ HM.out) rfl rfl rfl (by rfl) rfl (enter_dkeep _ _ _) ?_; rintro e w6 ⟨rfl, h6, m6, t6, mo6, ne6⟩; have HE6 := Lib.hid (HEND.out w6 h6 m6 (HPK.out.touch t6 HBF.out HPF.out) (hS.trans t6 (fun _ _ e => .inr e)) mo6 (fun k hk => (ne6 k hk).imp (fun h => h) (fun hh => Nat.le_trans hS.size hh))); refine ⟨_, rfl, hS.trans t6 (fun _ _ e => .inr e), fun hS => ?_⟩; clear m6 t6 mo6 ne6; (try simp only [Act.put, List.setIfInBounds_toArray, List.set_cons_zero, List.set_cons_succ]))
            refine walk3_fin ?_
            go_wp2_with fail
            go_roundw
            · exact HE6.out
            · simp only [RowKit.intOf]; omega
      · (have y1 := HY.out.2; refine runN_do (v := .int .i64 s) (w' := _) (some 57) rfl rfl (by rfl) (by go_simp; (try with_reducible rfl)) hS (fun hS => ?_); clear y1; (try simp only [Act.put, List.setIfInBounds_toArray, List.set_cons_zero, List.set_cons_succ]))
        refine walk3_two ?_ ?_
        · (have y1 := HY.out.2; refine runN_do (v := .int .i64 s) (w' := _) (some 48) rfl rfl (by rfl) (by go_simp; (try with_reducible rfl)) hS (fun hS => ?_); clear y1; (try simp only [Act.put, List.setIfInBounds_toArray, List.set_cons_zero, List.set_cons_succ]))
          refine walk3_one ?_
          (have y0 := HY.out.1; refine runN_do (v := .slice (h.ao g) L (h.co g)) (w' := _) (some 52) rfl rfl (by rfl) (by go_simp; (try with_reducible rfl)) hS (fun hS => ?_); clear y0; (try simp only [Act.put, List.setIfInBounds_toArray, List.set_cons_zero, List.set_cons_succ]))
          refine walk3_take ?_
          (refine takeN_take (v := ?_) (some 53) rfl rfl (fun _ _ _ h => h) (by rfl) ?_ ?_; rotate_left; (focus (intro w' hw'; go_simp; (try with_reducible rfl))); (try simp only [Act.put, List.setIfInBounds_toArray, List.set_cons_zero, List.set_cons_succ]))
          refine walk3_take ?_
          (refine takeN_take (v := ?_) (some 58) rfl rfl (fun _ _ _ h => h) (by rfl) ?_ ?_; rotate_left; (focus (intro w' hw'; go_simp; (try with_reducible rfl))); (try simp only [Act.put, List.setIfInBounds_toArray, List.set_cons_zero, List.set_cons_succ]))
          refine walk3_one ?_
          (refine runN_call 59 48 _ _ _ (HNX.out _ HPK.out) rfl rfl rfl (by rfl) rfl (enter_dnext _ _ _) ?_; rintro e w5 ⟨rfl, pk5, t5⟩; have HPK := Lib.hid pk5; have HM := Lib.hid (HM.out.touch t5 (fun k hk e => HBF.out (e ▸ hk))); have HY := Lib.hid (HYY.out w5 HM.out); refine ⟨_, rfl, hS.trans t5 (fun _ _ e => .inl e), fun hS => ?_⟩; clear pk5 t5; (try simp only [Act.put, List.setIfInBounds_toArray, List.set_cons_zero, List.set_cons_succ]))
          refine walk3_take ?_
          (refine takeN_take (v := ?_) (some 60) rfl rfl (fun _ _ _ h => h) (by rfl) ?_ ?_; rotate_left; (focus (intro w' hw'; go_simp; (try with_reducible rfl))); (try simp only [Act.put, List.setIfInBounds_toArray, List.set_cons_zero, List.set_cons_succ]))
          refine walk3_one ?_
          (refine runN_call 61 52 _ _ _ (HKP.out _ HM.out) rfl rfl rfl (by rfl) rfl (enter_dkeep _ _ _) ?_; rintro e w6 ⟨rfl, h6, m6, t6, mo6, ne6⟩; have HE6 := Lib.hid (HEND.out w6 h6 m6 (HPK.out.touch t6 HBF.out HPF.out) (hS.trans t6 (fun _ _ e => .inr e)) mo6 (fun k hk => (ne6 k hk).imp (fun h => h) (fun hh => Nat.le_trans hS.size hh))); refine ⟨_, rfl, hS.trans t6 (fun _ _ e => .inr e), fun hS => ?_⟩; clear m6 t6 mo6 ne6; (try simp only [Act.put, List.setIfInBounds_toArray, List.set_cons_zero, List.set_cons_succ]))
          refine walk3_fin ?_
          go_wp2_with fail
          go_roundw
          · exact HE6.out
          · simp only [RowKit.intOf]; omega
        · (have y0 := HY.out.1; refine runN_do (v := .slice (h.ao g) L (h.co g)) (w' := _) (some 52) rfl rfl (by rfl) (by go_simp; (try with_reducible rfl)) hS (fun hS => ?_); clear y0; (try simp only [Act.put, List.setIfInBounds_toArray, List.set_cons_zero, List.set_cons_succ]))
          refine walk3_take ?_
          (refine takeN_take (v := ?_) (some 53) rfl rfl (fun _ _ _ h => h) (by rfl) ?_ ?_; rotate_left; (focus (intro w' hw'; go_simp; (try with_reducible rfl))); (try simp only [Act.put, List.setIfInBounds_toArray, List.set_cons_zero, List.set_cons_succ]))
          refine walk3_take ?_
          (refine takeN_take (v := ?_) (some 58) rfl rfl (fun _ _ _ h => h) (by rfl) ?_ ?_; rotate_left; (focus (intro w' hw'; go_simp; (try with_reducible rfl))); (try simp only [Act.put, List.setIfInBounds_toArray, List.set_cons_zero, List.set_cons_succ]))
          refine walk3_two ?_ ?_
          · (have y1 := HY.out.2; refine runN_do (v := .int .i64 s) (w' := _) (some 48) rfl rfl (by rfl) (by go_simp; (try with_reducible rfl)) hS (fun hS => ?_); clear y1; (try simp only [Act.put, List.setIfInBounds_toArray, List.set_cons_zero, List.set_cons_succ]))
            refine walk3_one ?_
            (refine runN_call 59 48 _ _ _ (HNX.out _ HPK.out) rfl rfl rfl (by rfl) rfl (enter_dnext _ _ _) ?_; rintro e w5 ⟨rfl, pk5, t5⟩; have HPK := Lib.hid pk5; have HM := Lib.hid (HM.out.touch t5 (fun k hk e => HBF.out (e ▸ hk))); have HY := Lib.hid (HYY.out w5 HM.out); refine ⟨_, rfl, hS.trans t5 (fun _ _ e => .inl e), fun hS => ?_⟩; clear pk5 t5; (try simp only [Act.put, List.setIfInBounds_toArray, List.set_cons_zero, List.set_cons_succ]))
            refine walk3_take ?_
            (refine takeN_take (v := ?_) (some 60) rfl rfl (fun _ _ _ h => h) (by rfl) ?_ ?_; rotate_left; (focus (intro w' hw'; go_simp; (try with_reducible rfl))); (try simp only [Act.put, List.setIfInBounds_toArray, List.set_cons_zero, List.set_cons_succ]))
            refine walk3_one ?_
            (refine runN_call 61 52 _ _ _ (HKP.out _ HM.out) rfl rfl rfl (by rfl) rfl (enter_dkeep _ _ _) ?_; rintro e w6 ⟨rfl, h6, m6, t6, mo6, ne6⟩; have HE6 := Lib.hid (HEND.out w6 h6 m6 (HPK.out.touch t6 HBF.out HPF.out) (hS.trans t6 (fun _ _ e => .inr e)) mo6 (fun k hk => (ne6 k hk).imp (fun h => h) (fun hh => Nat.le_trans hS.size hh))); refine ⟨_, rfl, hS.trans t6 (fun _ _ e => .inr e), fun hS => ?_⟩; clear m6 t6 mo6 ne6; (try simp only [Act.put, List.setIfInBounds_toArray, List.set_cons_zero, List.set_cons_succ]))
            refine walk3_fin ?_
            go_wp2_with fail
            go_roundw
            · exact HE6.out
            · simp only [RowKit.intOf]; omega
          · (refine runN_call 59 48 _ _ _ (HNX.out _ HPK.out) rfl rfl rfl (by rfl) rfl (enter_dnext _ _ _) ?_; rintro e w5 ⟨rfl, pk5, t5⟩; have HPK := Lib.hid pk5; have HM := Lib.hid (HM.out.touch t5 (fun k hk e => HBF.out (e ▸ hk))); have HY := Lib.hid (HYY.out w5 HM.out); refine ⟨_, rfl, hS.trans t5 (fun _ _ e => .inl e), fun hS => ?_⟩; clear pk5 t5; (try simp only [Act.put, List.setIfInBounds_toArray, List.set_cons_zero, List.set_cons_succ]))
            refine walk3_one ?_
            (have y1 := HY.out.2; refine runN_do (v := .int .i64 s) (w' := _) (some 48) rfl rfl (by rfl) (by go_simp; (try with_reducible rfl)) hS (fun hS => ?_); clear y1; (try simp only [Act.put, List.setIfInBounds_toArray, List.set_cons_zero, List.set_cons_succ]))
            refine walk3_take ?_
            (refine takeN_take (v := ?_) (some 60) rfl rfl (fun _ _ _ h => h) (by rfl) ?_ ?_; rotate_left; (focus (intro w' hw'; go_simp; (try with_reducible rfl))); (try simp only [Act.put, List.setIfInBounds_toArray, List.set_cons_zero, List.set_cons_succ]))
            refine walk3_one ?_
            (refine runN_call 61 52 _ _ _ (HKP.out _ HM.out) rfl rfl rfl (by rfl) rfl (enter_dkeep _ _ _) ?_; rintro e w6 ⟨rfl, h6, m6, t6, mo6, ne6⟩; have HE6 := Lib.hid (HEND.out w6 h6 m6 (HPK.out.touch t6 HBF.out HPF.out) (hS.trans t6 (fun _ _ e => .inr e)) mo6 (fun k hk => (ne6 k hk).imp (fun h => h) (fun hh => Nat.le_trans hS.size hh))); refine ⟨_, rfl, hS.trans t6 (fun _ _ e => .inr e), fun hS => ?_⟩; clear m6 t6 mo6 ne6; (try simp only [Act.put, List.setIfInBounds_toArray, List.set_cons_zero, List.set_cons_succ]))
            refine walk3_fin ?_
            go_wp2_with fail
            go_roundw
            · exact HE6.out
            · simp only [RowKit.intOf]; omega
end Go.Proofs.Ytmokcfmlolohaaa
