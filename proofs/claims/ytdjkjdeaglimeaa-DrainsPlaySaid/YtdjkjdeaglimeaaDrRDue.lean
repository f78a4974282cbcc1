/- The reference's drains: Due. -/
import Derived.Test.YtdjkjdeaglimeaaDrRSet
set_option linter.unusedVariables false
set_option linter.unusedSimpArgs false
namespace Go.Proofs.Ytdjkjdeaglimeaa
open Go.RowKit

/-- By time, then number. -/
def ltU (a b : DR) : Prop := a.u < b.u ∨ (a.u = b.u ∧ a.b < b.b)
def SortU (A : List DR) : Prop := A.Pairwise ltU
theorem sortU_uniq {A B : List DR} (h : A.Perm B) (hA : SortU A) (hB : SortU B) : A = B :=
  List.Perm.eq_of_pairwise (le := ltU) (fun a b _ _ h1 h2 => by unfold ltU at h1 h2; omega) hA hB h
theorem sortU_put {O : List DR} {d : DR} {k : Nat} (hs : SortU O) (hk : k ≤ O.length) (h1 : ∀ j, k ≤ j → j < O.length → d.u < (gd O j).u) (h2 : k = 0 ∨ (gd O (k - 1)).u ≤ d.u) (h3 : ∀ x ∈ O, x.b < d.b) : SortU (O.take k ++ d :: O.drop k) := by
  have ht : SortU (O.take k ++ O.drop k) := by rw [List.take_append_drop]; exact hs
  unfold SortU at ht ⊢
  rw [List.pairwise_append] at ht ⊢
  obtain ⟨t1, t2, t3⟩ := ht
  have hlo : ∀ x ∈ O.take k, ltU x d := fun x hx => by
    obtain ⟨i, hi, rfl⟩ := List.getElem_of_mem hx
    have hik : i < k := by simp at hi; omega
    have hiO : i < O.length := by omega
    rw [List.getElem_take]
    have hb := h3 O[i] (List.getElem_mem _)
    have hu : O[i].u ≤ d.u := by
      rcases h2 with h2 | h2
      · omega
      · by_cases e : i = k - 1
        · subst e; rw [gd_get O _ (by omega)] at h2; exact h2
        · have h4 := List.pairwise_iff_getElem.1 hs i (k - 1) hiO (by omega) (by omega)
          rw [gd_get O _ (by omega)] at h2
          unfold ltU at h4
          omega
    unfold ltU
    omega
  have hhi : ∀ x ∈ O.drop k, ltU d x := fun x hx => by
    obtain ⟨i, hi, rfl⟩ := List.getElem_of_mem hx
    have hiO : k + i < O.length := by simp at hi; omega
    rw [List.getElem_drop]
    have := h1 (k + i) (by omega) hiO
    rw [gd_get O _ hiO] at this
    exact .inl this
  refine ⟨t1, List.pairwise_cons.2 ⟨hhi, t2⟩, fun x hx y hy => ?_⟩
  rcases List.mem_cons.1 hy with rfl | hy
  · exact hlo x hx
  · exact t3 x hx y hy
def remD (G A : List DR) : List DR := G.filter (fun x => !(A.any (fun d => decide (d.b = x.b))))
theorem remD_succ (G A : List DR) (j : Nat) (hj : j < A.length) : delD (remD G (A.take j)) (gd A j).b = remD G (A.take (j + 1)) := by
  unfold delD remD
  rw [List.filter_filter]
  congr 1
  funext x
  rw [List.take_succ_eq_append_getElem hj, List.any_append, ← gd_get A j hj]
  by_cases h : x.b = (gd A j).b
  · simp [h]
  · have : ¬ (gd A j).b = x.b := fun e => h e.symm
    simp [h, this]
theorem remD_end {G A : List DR} (hn : (G.map DR.b).Nodup) {now : Int} (hA : A.Perm (G.filter (fun d => decide (d.u ≤ now)))) : remD G A = G.filter (fun d => !decide (d.u ≤ now)) := by
  unfold remD
  apply List.filter_congr
  intro x hx
  congr 1
  rw [Bool.eq_iff_iff, List.any_eq_true, decide_eq_true_iff]
  constructor
  · rintro ⟨d, hd, e⟩
    have e := of_decide_eq_true e
    have h1 := List.mem_filter.1 (hA.mem_iff.1 hd)
    have : d = x := by
      have t1 := timeD_of hn h1.1
      have t2 := timeD_of hn hx
      rw [e] at t1
      cases d; cases x
      simp only at e t1 t2 ⊢
      rw [← e] at t2 ⊢
      rw [← e] at t1
      rw [← t1, t2]
    rw [← this]; exact of_decide_eq_true h1.2
  · intro h
    exact ⟨x, hA.mem_iff.2 (List.mem_filter.2 ⟨hx, decide_eq_true h⟩), decide_eq_true rfl⟩
theorem RD.touch {w w' : World} {b : Nat} {a : Option Addr} {c : Nat} {L : List DR} {S : Nat → Prop} (q : RD w b a c L) (t : Touch w w' S) (h1 : ¬ S b) (h2 : ∀ y, a = some y → ¬ S y.block) : RD w' b a c L :=
  ⟨t.keeps q.head h1, q.row.touch t (fun y hy => .inr (h2 y hy)), q.ne, q.pl, fun x hx => (q.lt x hx).imp (fun h => h) (fun h => Nat.lt_of_lt_of_le h t.size)⟩
theorem remD_nd {G A : List DR} (h : (G.map DR.b).Nodup) : ((remD G A).map DR.b).Nodup := h.sublist (List.filter_sublist.map _)
/-- What the reference's Due hands back, and what it leaves. -/
def RDDue (w w' : World) (b : Nat) (a0 : Option Addr) (A R : List DR) (v : Value) : Prop :=
  ∃ a1 c1 a' c', v = .slice a1 A.length c1 ∧ OwnS w' w.heap.size 3 1 (.slice a1 A.length c1) (icells A) ∧ RD w' b a' c' R ∧ Touch w w' (fun k => k = b) ∧ ∀ y, a' = some y → (w.heap.size ≤ y.block ∧ y.block < w'.heap.size) ∨ ∃ z, a0 = some z ∧ y.block = z.block
theorem infoD2 : (Try.prog.info? 76).map (·.size) = some 2 := by kernel_rfl
theorem take_f {G : List DR} {i : Nat} (hi : i < G.length) (p : DR → Bool) : (G.take (i + 1)).filter p = if p (gd G i) then (G.take i).filter p ++ [gd G i] else (G.take i).filter p := by
  rw [List.take_succ_eq_append_getElem hi, List.filter_append, ← gd_get G i hi]
  by_cases h : p (gd G i) = true
  · rw [if_pos h]; simp [h]
  · rw [if_neg h]; simp [h]
theorem rd_cell2 {w : World} {g off n c : Nat} {O : List DR} (r : RowS w (some ⟨g, off, none⟩) n c 2 (O.map dcl)) (i : Nat) (hi : i < O.length) : w.cell? ⟨g, off + i * 2, none⟩ = some (.int .i64 (gd O i).b) ∧ w.cell? ⟨g, off + i * 2 + 1, none⟩ = some (.int .i64 (gd O i).u) := by
  have hi' : i < (O.map dcl).length := by simpa using hi
  have e : (O.map dcl)[i] = dcl (gd O i) := by rw [List.getElem_map, gd_get O i hi]
  have h0 := r.cell i hi' 0 (.int .i64 (gd O i).b) (by rw [e]; rfl)
  have h1 := r.cell i hi' 1 (.int .i64 (gd O i).u) (by rw [e]; rfl)
  exact ⟨h0, h1⟩
set_option maxRecDepth 20000 in
set_option maxHeartbeats 16000000 in
theorem rddue_any (w : World) (b : Nat) (a : Option Addr) (c : Nat) (G : List DR) (q : RD w b a c G) (ha : ∀ y, a = some y → y.block < w.heap.size) (hl : G.length ≤ 1024) (hs : SortD G) (now : Int) (A : List DR) (hA : A.Perm (G.filter (fun d => decide (d.u ≤ now)))) (hAs : SortU A) :
    Calls Try.prog 32 #[.pointer (some ⟨b, 0, none⟩), .int .i64 now] w fun e w' => ∃ v, e = .returned v ∧ RDDue w w' b a A (G.filter (fun d => !decide (d.u ≤ now))) v := by
  have hnd : (G.map DR.b).Nodup := by
    have h1 : (G.map DR.b).Pairwise (· < ·) := List.pairwise_map.2 hs
    exact h1.imp (fun {a b} h e => by omega)
  have hAl : A.length ≤ 1024 := by
    have := hA.length_eq
    have h2 := List.length_filter_le (fun d : DR => decide (d.u ≤ now)) G
    omega
  rw [← remD_end hnd hA]
  obtain ⟨n, hn⟩ : ∃ n, G.length = n := ⟨_, rfl⟩
  have c0 : w.cell? ⟨b, 0, none⟩ = some (.slice a G.length c) := cell_of_cells q.head 0
  have hbl : b < w.heap.size := heap_lt q.head
  have hcap := q.row.hcap
  have hmax := q.row.hmax
  have HQ := Lib.hid q
  have HN := Lib.hid hn
  have HID := Lib.hid infoDrain
  have HII := Lib.hid infoIntD
  have HS := Lib.hid hs
  have HA := Lib.hid hA
  have HAS := Lib.hid hAs
  have HND := Lib.hid hnd
  have HA0 := Lib.hid ha
  rw [hn] at c0 hl hcap
  clear q hn hs hA hAs hnd ha
  go_enter Try.func32, Try.ntmps32
  go_wp2_with fail
  go_loopw [5, 17] (fun s5 s17 wr => ∃ (i : Nat) (O : List DR) (a' : Option Addr) (c' : Nat), i ≤ n ∧ s17 = .int .i64 i ∧ s5 = .slice a' O.length c' ∧ OwnS wr w.heap.size 76 2 (.slice a' O.length c') (O.map dcl) ∧ SortU O ∧ O.Perm ((G.take i).filter (fun d => decide (d.u ≤ now))) ∧ Touch w wr (fun _ => False)) (fun _ s17 _ => n - (RowKit.intOf s17).toNat)
  case atStart => exact ⟨0, [], none, 0, Nat.zero_le _, rfl, rfl, OwnS.nil _ _ _ _, List.Pairwise.nil, .refl _, Touch.refl _ _⟩
  case round =>
    obtain ⟨i, O, a', c', hi, rfl, rfl, ho, hso, hpo, ht⟩ := hrel
    have HO := Lib.hid ho
    have HSO := Lib.hid hso
    have HPO := Lib.hid hpo
    have HT := Lib.hid ht
    clear ho hso hpo ht
    by_cases hlt : i < n
    case neg =>
      obtain rfl : n = i := by omega
      have hOA : O = A := by
        have h1 := HPO.out
        rw [List.take_of_length_le (by rw [HN.out]; exact Nat.le_refl _)] at h1
        exact sortU_uniq (h1.trans HA.out.symm) HSO.out HAS.out
      subst hOA
      have hrow := HO.out.row'.2.1
      have hcapO := hrow.hcap
      have hmaxO := hrow.hmax
      have HRO := Lib.hid hrow
      obtain ⟨m, hm⟩ : ∃ m, O.length = m := ⟨_, rfl⟩
      have HM := Lib.hid hm
      have hout : ∀ y, a' = some y → w.heap.size ≤ y.block := fun y hy => (HO.out.row'.2.2 y hy).1
      have HOUT := Lib.hid hout
      have hq := HQ.out.still HT.out
      have HQ1 := Lib.hid hq
      rw [hm] at hrow hAl hcapO HRO ⊢
      clear hm hrow hout hq
      go_wp2_with fail
      obtain ⟨Wo, rfl⟩ : ∃ Wo, Wo = wr := ⟨_, rfl⟩
      go_loopw [9, 56] (fun s9 s56 wx => ∃ (j : Nat) (a2 : Option Addr) (c2 : Nat) (a3 : Option Addr) (c3 : Nat), j ≤ m ∧ s56 = .int .i64 j ∧ s9 = .slice a2 j c2 ∧ OwnS wx Wo.heap.size 3 1 (.slice a2 j c2) (icells (O.take j)) ∧ RD wx b a3 c3 (remD G (O.take j)) ∧ Touch Wo wx (fun k => k = b) ∧ (∀ y, a3 = some y → (w.heap.size ≤ y.block ∧ y.block < wx.heap.size) ∨ ∃ z, a = some z ∧ y.block = z.block) ∧ (∀ x y, a2 = some x → a3 = some y → x.block ≠ y.block)) (fun _ s56 _ => m - (RowKit.intOf s56).toNat)
      case atStart =>
        refine ⟨0, none, 0, a, c, Nat.zero_le _, rfl, rfl, OwnS.nil _ _ _ _, ?_, Touch.refl _ _, fun y hy => .inr ⟨y, hy, rfl⟩, fun x y hx => by cases hx⟩
        have e : remD G (O.take 0) = G := by unfold remD; simp
        rw [e]; exact HQ1.out
      case round =>
        obtain ⟨j, a2, c2, a3, c3, hj, rfl, rfl, ho2, hq2, ht2, hl2, hx2⟩ := hrel
        have HO2 := Lib.hid ho2
        have HQ2 := Lib.hid hq2
        have HT2 := Lib.hid ht2
        have HL2 := Lib.hid hl2
        have HX2 := Lib.hid hx2
        clear ho2 hq2 ht2 hl2 hx2
        by_cases hlt2 : j < m
        case neg =>
          obtain rfl : m = j := by omega
          have e : O.take m = O := List.take_of_length_le (by rw [HM.out]; exact Nat.le_refl _)
          have ho := HO2.out
          have hq := HQ2.out
          rw [e] at ho hq
          have HOE := Lib.hid ho
          have HQE := Lib.hid hq
          clear e ho hq
          go_wp2_with fail
          go_ret
          exact ⟨_, rfl, a2, c2, a3, c3, by rw [HM.out]; rfl, by rw [HM.out]; exact HOE.out.rebase (fun x hx => Nat.le_trans HT.out.size (HOE.out.own.lt x hx).1), HQE.out, (HT.out.mono (fun _ _ h => h.elim)).trans HT2.out (fun _ _ h => h), HL2.out⟩
        case pos =>
          have hrow := (HRO.out.touch HT2.out (fun y hy => .inr (fun e => by have h1 := HOUT.out y hy; omega)))
          obtain ⟨g, off, rfl⟩ := hrow.some (by omega)
          obtain ⟨d0, d1⟩ := rd_cell2 hrow j (by rw [HM.out]; exact hlt2)
          have hcp := hrow.hcap
          have hmx := hrow.hmax
          obtain ⟨x, hx⟩ : ∃ x, gd O j = x := ⟨_, rfl⟩
          rw [hx] at d0 d1
          obtain ⟨W2, hW2⟩ : ∃ W, wr.alloc (.cells #[.int .i64 x.b, .int .i64 x.u] 76) = W := ⟨_, rfl⟩
          have t2 : Touch wr W2 (fun _ => False) := hW2 ▸ (Touch.refl wr _).alloc _
          have g2 : W2.heap[wr.heap.size]? = some (.cells #[.int .i64 x.b, .int .i64 x.u] 76 (0, 0)) := hW2 ▸ heap_alloc_new ..
          have x0 : W2.cell? ⟨wr.heap.size, 0, none⟩ = some (.int .i64 x.b) := cell_of_cells g2 0
          have hsuc := remD_succ G O j (by rw [HM.out]; exact hlt2)
          rw [hx] at hsuc
          have hrl : (remD G (O.take j)).length ≤ 1024 := by
            have h1 := List.length_filter_le (fun x : DR => !((O.take j).any (fun d => decide (d.b = x.b)))) G
            unfold remD
            rw [HN.out] at h1
            omega
          have HCL := Lib.hid (rclear_any W2 b a3 c3 _ (HQ2.out.still t2) hrl (remD_nd HND.out) x.b)
          rw [hsuc] at HCL
          have htk : icells (O.take j) ++ [[.int .i64 x.b]] = icells (O.take (j + 1)) := by
            unfold icells
            rw [List.take_succ_eq_append_getElem (by rw [HM.out]; exact hlt2), List.map_append, ← gd_get O j (by rw [HM.out]; exact hlt2), hx]
            rfl
          have HTK := Lib.hid htk
          have HG2 := Lib.hid g2
          have HW2 := Lib.hid hW2
          have T2 := Lib.hid t2
          have hlI : (j : Int) < m := by omega
          have hszx : w.heap.size ≤ wr.heap.size := Nat.le_trans HT.out.size HT2.out.size
          clear hrow hx t2 g2 hW2 hsuc hrl htk
          go_upto_region 15 with (fail)
          rw [HW2.out]
          clear d0 d1
          go_wp2_with fail
          (with_reducible refine HCL.out.mono ?_)
          rintro e w3 ⟨rfl, a4, c4, q4, t4, p4⟩
          have hbx : wr.heap.size ≠ b := by omega
          have y0 : w3.cell? ⟨wr.heap.size, 0, none⟩ = some (.int .i64 x.b) := cell_of_cells (t4.keeps HG2.out hbx) 0
          have t5 : Touch w3 (w3.alloc (.cells #[.int .i64 x.b] 3)) (fun _ => False) := (Touch.refl w3 _).alloc _
          have HO3 := Lib.hid (((HO2.out.still T2.out).touch t4 (fun y hy e => by have h1 := (HO2.out.own.lt y hy).1; have h2 := HT.out.size; omega)).still t5)
          have HQ4 := Lib.hid q4
          have HT4 := Lib.hid t4
          have HP4 := Lib.hid p4
          have hsz3 : Wo.heap.size ≤ w3.heap.size := Nat.le_trans HT2.out.size (Nat.le_trans T2.out.size t4.size)
          clear q4 t4 p4 t5 x0
          go_upto_region 17 with (at_builtin; (with_reducible refine wp_add1 (w := w3) HO3.out rfl rfl rfl (by simp [Value.oneCell']) (by omega) 67 Try.underlying67 _ 8 HII.out rfl (by decide) (by decide) hsz3 rfl _ _ rfl rfl rfl ?_); intro a5 c5 w5 ho5 t5 p5; have HO5 := Lib.hid ho5; have HT5 := Lib.hid t5; have HP5 := Lib.hid p5; clear ho5 t5 p5)
          have hne4 : ∀ x y, a2 = some x → a4 = some y → x.block ≠ y.block := fun x' y hx hy => by
            have h1 := (HO2.out.row'.2.2 x' hx).2
            rcases HP4.out y hy with ⟨h2, _⟩ | ⟨z, hz, e⟩
            · have := T2.out.size; omega
            · rw [e]; exact HX2.out x' z hx hz
          have hlt4 : ∀ y, a4 = some y → y.block < w3.heap.size := fun y hy => by
            rcases HP4.out y hy with ⟨_, h2⟩ | ⟨z, hz, e⟩
            · exact h2
            · rw [e]
              have h5 := T2.out.size
              have h6 := HT4.out.size
              rcases HL2.out z hz with ⟨_, h2⟩ | ⟨z2, hz2, e2⟩
              · omega
              · rw [e2]; have := HA0.out z2 hz2; omega
          have HX : RowKit.Hid (∃ (j' : Nat) (a2 : Option Addr) (c2 : Nat) (a3 : Option Addr) (c3 : Nat), j' ≤ m ∧ Value.int .i64 ((j : Int) + 1) = .int .i64 j' ∧ Value.slice a5 (j + 1) c5 = .slice a2 j' c2 ∧ OwnS w5 Wo.heap.size 3 1 (.slice a2 j' c2) (icells (O.take j')) ∧ RD w5 b a3 c3 (remD G (O.take j')) ∧ Touch Wo w5 (fun k => k = b) ∧ (∀ y, a3 = some y → (w.heap.size ≤ y.block ∧ y.block < w5.heap.size) ∨ ∃ z, a = some z ∧ y.block = z.block) ∧ (∀ x y, a2 = some x → a3 = some y → x.block ≠ y.block)) := Lib.hid (by
            refine ⟨j + 1, a5, c5, a4, c4, by omega, by go_num, rfl, by rw [← HTK.out]; exact HO5.out, HQ4.out.touch HT5.out (fun e => by have h1 := (HO2.out.own.lt _ e).1; have h2 := HT.out.size; omega) (fun y hy e => ?_), ?_, fun y hy => ?_, fun x' y hx hy => ?_⟩
            · obtain ⟨z, hz, ez⟩ := own_some e
              exact hne4 z y hz hy ez
            · refine ((HT2.out.trans T2.out (fun _ _ h => h.elim)).trans HT4.out (fun _ _ h => h)).trans HT5.out (fun k hk e => ?_)
              have h1 := (HO2.out.own.lt _ e).1
              omega
            · rcases HP4.out y hy with ⟨h1, h2⟩ | ⟨z, hz, e⟩
              · exact .inl ⟨by have := T2.out.size; omega, Nat.lt_of_lt_of_le h2 HT5.out.size⟩
              · rw [e]
                rcases HL2.out z hz with ⟨h1, h2⟩ | h
                · exact .inl ⟨h1, by have := T2.out.size; have := HT4.out.size; have := HT5.out.size; omega⟩
                · exact .inr h
            · have h3 := HP5.out x'.block (by subst hx; rfl)
              rcases h3 with h3 | h3
              · obtain ⟨z, hz, ez⟩ := own_some h3
                rw [← ez]; exact hne4 z y hz hy
              · have := hlt4 y hy; omega)
          clear hne4 hlt4 y0
          go_wp2_with fail
          go_roundw
          · exact HX.out
          · simp only [RowKit.intOf]; omega
    case pos =>
      have hq := HQ.out.still HT.out
      obtain ⟨g, off, ea⟩ := hq.row.some (by rw [HN.out]; omega)
      subst ea
      have hqr := hq.row
      rw [HN.out] at hqr
      obtain ⟨d0, d1⟩ := rd_cell2 hqr i (by rw [HN.out]; exact hlt)
      have hxm := gd_mem G i (by rw [HN.out]; exact hlt)
      have hxb : ∀ y ∈ O, y.b < (gd G i).b := fun y hy => by
        have h1 := (List.mem_filter.1 (HPO.out.mem_iff.1 hy)).1
        obtain ⟨j, hj, rfl⟩ := List.getElem_of_mem h1
        have hji : j < i := by simp at hj; omega
        have := List.pairwise_iff_getElem.1 HS.out j i (by rw [HN.out]; omega) (by rw [HN.out]; omega) hji
        rw [List.getElem_take, gd_get G i (by rw [HN.out]; exact hlt)]
        exact this
      have htf := take_f (G := G) (i := i) (by rw [HN.out]; exact hlt) (fun d => decide (d.u ≤ now))
      obtain ⟨x, hx⟩ : ∃ x, gd G i = x := ⟨_, rfl⟩
      rw [hx] at d0 d1 hxb htf
      have HXB := Lib.hid hxb
      have HTF := Lib.hid htf
      obtain ⟨W2, hW2⟩ : ∃ W, wr.alloc (.cells #[.int .i64 x.b, .int .i64 x.u] 76) = W := ⟨_, rfl⟩
      have t2 : Touch wr W2 (fun _ => False) := hW2 ▸ (Touch.refl wr _).alloc _
      have g2 : W2.heap[wr.heap.size]? = some (.cells #[.int .i64 x.b, .int .i64 x.u] 76 (0, 0)) := hW2 ▸ heap_alloc_new ..
      have x0 : W2.cell? ⟨wr.heap.size, 0, none⟩ = some (.int .i64 x.b) := cell_of_cells g2 0
      have x1 : W2.cell? ⟨wr.heap.size, 1, none⟩ = some (.int .i64 x.u) := cell_of_cells g2 1
      have HG2 := Lib.hid g2
      have HT2 := Lib.hid (HT.out.trans t2 (fun _ _ h => h))
      have HO2 := Lib.hid (HO.out.still t2)
      have HW2 := Lib.hid hW2
      have hlI : (i : Int) < n := by omega
      clear hq hqr hxm hxb htf hx t2 g2 hW2
      by_cases hu : now < x.u
      · have HX : RowKit.Hid (∃ (i' : Nat) (O' : List DR) (a'' : Option Addr) (c'' : Nat), i' ≤ n ∧ Value.int .i64 ((i : Int) + 1) = .int .i64 i' ∧ Value.slice a' O.length c' = .slice a'' O'.length c'' ∧ OwnS W2 w.heap.size 76 2 (.slice a'' O'.length c'') (O'.map dcl) ∧ SortU O' ∧ O'.Perm ((G.take i').filter (fun d => decide (d.u ≤ now))) ∧ Touch w W2 (fun _ => False)) := Lib.hid ⟨i + 1, O, a', c', by omega, by go_num, rfl, HO2.out, HSO.out, by
          rw [HTF.out, if_neg (by simp; omega)]; exact HPO.out, HT2.out⟩
        go_upto_region 5 with (fail)
        rw [HW2.out]
        clear d0 d1
        go_wp2_with fail
        go_roundw
        · exact HX.out
        · simp only [RowKit.intOf]; omega
      · have hrow := HO2.out.row'.2.1
        have hOwn := HO2.out
        have hcapO := hrow.hcap
        have hmaxO := hrow.hmax
        have HRO := Lib.hid hrow
        have hm4 : O.length ≤ 1024 := by
          have h1 := HPO.out.length_eq
          have h2 := List.length_filter_le (fun d : DR => decide (d.u ≤ now)) (G.take i)
          have h3 : (G.take i).length ≤ i := by rw [List.length_take]; omega
          omega
        obtain ⟨m, hm⟩ : ∃ m, O.length = m := ⟨_, rfl⟩
        have HM := Lib.hid hm
        have HLT := Lib.hid (fun y hy => (HO2.out.row'.2.2 y hy))
        rw [hm] at hcapO HRO hm4 ⊢
        have HBLK := Lib.hid (show wr.heap.size < W2.heap.size from heap_lt HG2.out)
        clear hrow hOwn hm
        go_upto_region 5 with (fail)
        rw [HW2.out]
        clear d0 d1
        obtain ⟨blk, hblk⟩ : ∃ blk, wr.heap.size = blk := ⟨_, rfl⟩
        rw [hblk] at x0 x1 HG2 HBLK ⊢
        have HBK := Lib.hid hblk
        clear hblk
        have HHC : RowKit.Hid (∀ W, Touch W2 W (fun _ => False) → W.cell? ⟨blk, 1, none⟩ = some (.int .i64 x.u)) := Lib.hid (fun W t => cell_of_cells (t.keeps HG2.out (fun h => h)) 1)
        obtain ⟨W0, hW0⟩ : ∃ W0, W0 = wr := ⟨_, rfl⟩
        rw [← hW0] at HW2 HT HO
        clear hW0
        go_upto_block 2 with fail
        go_cut [8] (fun s8 wx => ∃ k : Nat, k ≤ m ∧ s8 = .int .i64 k ∧ (∀ j, k ≤ j → j < O.length → x.u < (gd O j).u) ∧ (k = 0 ∨ (gd O (k - 1)).u ≤ x.u) ∧ Touch W2 wx (fun _ => False))
        case first =>
          go_wp2_with fail
          go_loopw [8] (fun s8 wx => ∃ k : Nat, k ≤ m ∧ s8 = .int .i64 k ∧ (∀ j, k ≤ j → j < O.length → x.u < (gd O j).u) ∧ Touch W2 wx (fun _ => False)) (fun s8 _ => (RowKit.intOf s8).toNat)
          case atStart => exact ⟨m, Nat.le_refl _, rfl, fun j h1 h2 => by rw [HM.out] at h2; omega, Touch.refl _ _⟩
          case round =>
            obtain ⟨k, hk, rfl, hgt, htk⟩ := hrel
            have HGT := Lib.hid hgt
            have HTK := Lib.hid htk
            clear hgt htk
            cases k with
            | zero =>
              go_upto_region 7 with (fail)
              have hS := (Touch.refl wr (fun _ => False)).drew
              refine wp_region_sched (fun w' => Touch wr w' (fun _ => False)) [(0, true), (1, true), (2, true), (3, true), (4, true), (5, true), (6, true), (7, true), (8, true), (9, true), (10, true), (11, true), (12, true)] (by kernel_rfl) (by kernel_rfl) rfl (by kernel_rfl) hS ?_
              (refine walkS_take (v := ?_) (some 27) rfl rfl (fun _ _ _ h => h) (by rfl) ?_ ?_; rotate_left; (focus (intro w' hw'; go_simp; (try with_reducible rfl))); (try simp only [Act.put, List.setIfInBounds_toArray, List.set_cons_zero, List.set_cons_succ]))
              (refine walkS_take (v := ?_) (some 28) rfl rfl (fun _ _ _ h => h) (by rfl) ?_ ?_; rotate_left; (focus (intro w' hw'; go_simp; (try with_reducible rfl))); (try simp only [Act.put, List.setIfInBounds_toArray, List.set_cons_zero, List.set_cons_succ]))
              (refine walkS_take (v := ?_) (some 29) rfl rfl (fun _ _ _ h => h) (by rfl) ?_ ?_; rotate_left; (focus (intro w' hw'; go_simp; (try with_reducible rfl))); (try simp only [Act.put, List.setIfInBounds_toArray, List.set_cons_zero, List.set_cons_succ]))
              first | (refine walkS_skip (some 30) rfl rfl (by rfl) (fun _ _ _ h => h) hS ?_; (try simp only [Act.put, List.setIfInBounds_toArray, List.set_cons_zero, List.set_cons_succ])) | (refine walkS_take (v := ?_) (some 30) rfl rfl (fun _ _ _ h => h) (by rfl) ?_ ?_; rotate_left; (focus (intro w' hw'; go_simp; (try with_reducible rfl))); (try simp only [Act.put, List.setIfInBounds_toArray, List.set_cons_zero, List.set_cons_succ]))
              first | (refine walkS_skip (some 31) rfl rfl (by rfl) (fun _ _ _ h => h) hS ?_; (try simp only [Act.put, List.setIfInBounds_toArray, List.set_cons_zero, List.set_cons_succ])) | (refine walkS_take (v := ?_) (some 31) rfl rfl (fun _ _ _ h => h) (by rfl) ?_ ?_; rotate_left; (focus (intro w' hw'; go_simp; (try with_reducible rfl))); (try simp only [Act.put, List.setIfInBounds_toArray, List.set_cons_zero, List.set_cons_succ]))
              first | (refine walkS_skip (some 32) rfl rfl (by rfl) (fun _ _ _ h => h) hS ?_; (try simp only [Act.put, List.setIfInBounds_toArray, List.set_cons_zero, List.set_cons_succ])) | (refine walkS_take (v := ?_) (some 32) rfl rfl (fun _ _ _ h => h) (by rfl) ?_ ?_; rotate_left; (focus (intro w' hw'; go_simp; (try with_reducible rfl))); (try simp only [Act.put, List.setIfInBounds_toArray, List.set_cons_zero, List.set_cons_succ]))
              first | (refine walkS_skip (some 33) rfl rfl (by rfl) (fun _ _ _ h => h) hS ?_; (try simp only [Act.put, List.setIfInBounds_toArray, List.set_cons_zero, List.set_cons_succ])) | (refine walkS_take (v := ?_) (some 33) rfl rfl (fun _ _ _ h => h) (by rfl) ?_ ?_; rotate_left; (focus (intro w' hw'; go_simp; (try with_reducible rfl))); (try simp only [Act.put, List.setIfInBounds_toArray, List.set_cons_zero, List.set_cons_succ]))
              first | (refine walkS_skip (some 34) rfl rfl (by rfl) (fun _ _ _ h => h) hS ?_; (try simp only [Act.put, List.setIfInBounds_toArray, List.set_cons_zero, List.set_cons_succ])) | (refine walkS_take (v := ?_) (some 34) rfl rfl (fun _ _ _ h => h) (by rfl) ?_ ?_; rotate_left; (focus (intro w' hw'; go_simp; (try with_reducible rfl))); (try simp only [Act.put, List.setIfInBounds_toArray, List.set_cons_zero, List.set_cons_succ]))
              first | (refine walkS_skip (some 35) rfl rfl (by rfl) (fun _ _ _ h => h) hS ?_; (try simp only [Act.put, List.setIfInBounds_toArray, List.set_cons_zero, List.set_cons_succ])) | (refine walkS_take (v := ?_) (some 35) rfl rfl (fun _ _ _ h => h) (by rfl) ?_ ?_; rotate_left; (focus (intro w' hw'; go_simp; (try with_reducible rfl))); (try simp only [Act.put, List.setIfInBounds_toArray, List.set_cons_zero, List.set_cons_succ]))
              first | (refine walkS_skip (some 36) rfl rfl (by rfl) (fun _ _ _ h => h) hS ?_; (try simp only [Act.put, List.setIfInBounds_toArray, List.set_cons_zero, List.set_cons_succ])) | (refine walkS_take (v := ?_) (some 36) rfl rfl (fun _ _ _ h => h) (by rfl) ?_ ?_; rotate_left; (focus (intro w' hw'; go_simp; (try with_reducible rfl))); (try simp only [Act.put, List.setIfInBounds_toArray, List.set_cons_zero, List.set_cons_succ]))
              first | (refine walkS_skip (some 37) rfl rfl (by rfl) (fun _ _ _ h => h) hS ?_; (try simp only [Act.put, List.setIfInBounds_toArray, List.set_cons_zero, List.set_cons_succ])) | (refine walkS_take (v := ?_) (some 37) rfl rfl (fun _ _ _ h => h) (by rfl) ?_ ?_; rotate_left; (focus (intro w' hw'; go_simp; (try with_reducible rfl))); (try simp only [Act.put, List.setIfInBounds_toArray, List.set_cons_zero, List.set_cons_succ]))
              first | (refine walkS_skip (some 38) rfl rfl (by rfl) (fun _ _ _ h => h) hS ?_; (try simp only [Act.put, List.setIfInBounds_toArray, List.set_cons_zero, List.set_cons_succ])) | (refine walkS_take (v := ?_) (some 38) rfl rfl (fun _ _ _ h => h) (by rfl) ?_ ?_; rotate_left; (focus (intro w' hw'; go_simp; (try with_reducible rfl))); (try simp only [Act.put, List.setIfInBounds_toArray, List.set_cons_zero, List.set_cons_succ]))
              (refine walkS_take (v := ?_) (some 39) rfl rfl (fun _ _ _ h => h) (by rfl) ?_ ?_; rotate_left; (focus (intro w' hw'; go_simp; (try with_reducible rfl))); (try simp only [Act.put, List.setIfInBounds_toArray, List.set_cons_zero, List.set_cons_succ]))
              refine walkS_done ?_
              go_wp2_with fail
              go_meet
              exact ⟨0, Nat.zero_le _, rfl, HGT.out, .inl rfl, HTK.out.drew⟩
            | succ k =>
              have hrow := HRO.out.still HTK.out
              obtain ⟨g2, off2, ea⟩ := hrow.some (by omega)
              subst ea
              have HOC : RowKit.Hid (∀ W, Touch wr W (fun _ => False) → W.cell? ⟨g2, off2 + k * 2 + 1, none⟩ = some (.int .i64 (gd O k).u)) := Lib.hid (fun W t => (rd_cell2 (hrow.still t) k (by rw [HM.out]; omega)).2)
              have HXC : RowKit.Hid (∀ W, Touch wr W (fun _ => False) → W.cell? ⟨blk, 1, none⟩ = some (.int .i64 x.u)) := Lib.hid (fun W t => HHC.out W (HTK.out.trans t (fun _ _ h => h)))
              clear hrow
              have hkm : (k : Int) < m := by omega
              have hk0 : (0 : Int) ≤ k := by omega
              have HWK := Lib.hid (show IntKind.i64.wrap (k : Int) = k from by rw [IntKind.wrap_i64]; omega)
              by_cases hc : x.u < (gd O k).u
              · have HX : RowKit.Hid (∀ W, Touch W2 W (fun _ => False) → ∃ k' : Nat, k' ≤ m ∧ Value.int .i64 (k : Int) = .int .i64 k' ∧ (∀ j, k' ≤ j → j < O.length → x.u < (gd O j).u) ∧ Touch W2 W (fun _ => False)) := Lib.hid (fun W t => ⟨k, by omega, rfl, fun j h1 h2 => by
                  by_cases e : j = k
                  · rw [e]; exact hc
                  · exact HGT.out j (by omega) h2, t⟩)
                generalize (gd O k).u = ku at *
                go_upto_region 7 with (fail)
                have hS := (Touch.refl wr (fun _ => False)).drew
                refine wp_region_sched (fun w' => Touch wr w' (fun _ => False)) [(0, true), (1, true), (2, true), (3, true), (4, true), (5, true), (6, true), (7, true), (8, true), (9, true), (10, true), (11, true), (12, true)] (by kernel_rfl) (by kernel_rfl) rfl (by kernel_rfl) hS ?_
                (refine walkS_take (v := ?_) (some 27) rfl rfl (fun _ _ _ h => h) (by rfl) ?_ ?_; rotate_left; (focus (intro w' hw'; have y0 := HOC.out w' hw'; have y1 := HXC.out w' hw'; go_simp; (try with_reducible rfl))); (try simp only [Act.put, List.setIfInBounds_toArray, List.set_cons_zero, List.set_cons_succ]))
                (refine walkS_take (v := ?_) (some 28) rfl rfl (fun _ _ _ h => h) (by rfl) ?_ ?_; rotate_left; (focus (intro w' hw'; have y0 := HOC.out w' hw'; have y1 := HXC.out w' hw'; go_simp; (try with_reducible rfl))); (try simp only [Act.put, List.setIfInBounds_toArray, List.set_cons_zero, List.set_cons_succ]))
                (refine walkS_take (v := ?_) (some 29) rfl rfl (fun _ _ _ h => h) (by rfl) ?_ ?_; rotate_left; (focus (intro w' hw'; have y0 := HOC.out w' hw'; have y1 := HXC.out w' hw'; go_simp; (try with_reducible rfl))); (try simp only [Act.put, List.setIfInBounds_toArray, List.set_cons_zero, List.set_cons_succ]))
                (refine walkS_take (v := ?_) (some 30) rfl rfl (fun _ _ _ h => h) (by rfl) ?_ ?_; rotate_left; (focus (intro w' hw'; have y0 := HOC.out w' hw'; have y1 := HXC.out w' hw'; go_simp; (try with_reducible rfl))); (try simp only [Act.put, List.setIfInBounds_toArray, List.set_cons_zero, List.set_cons_succ]))
                (refine walkS_take (v := ?_) (some 31) rfl rfl (fun _ _ _ h => h) (by rfl) ?_ ?_; rotate_left; (focus (intro w' hw'; have y0 := HOC.out w' hw'; have y1 := HXC.out w' hw'; go_simp; (try with_reducible rfl))); (try simp only [Act.put, List.setIfInBounds_toArray, List.set_cons_zero, List.set_cons_succ]))
                (refine walkS_take (v := ?_) (some 32) rfl rfl (fun _ _ _ h => h) (by rfl) ?_ ?_; rotate_left; (focus (intro w' hw'; go_simp; rw [HWK.out])); (try simp only [Act.put, List.setIfInBounds_toArray, List.set_cons_zero, List.set_cons_succ]))
                (refine walkS_take (v := ?_) (some 33) rfl rfl (fun _ _ _ h => h) (by rfl) ?_ ?_; rotate_left; (focus (intro w' hw'; have y0 := HOC.out w' hw'; have y1 := HXC.out w' hw'; go_simp; (try with_reducible rfl))); (try simp only [Act.put, List.setIfInBounds_toArray, List.set_cons_zero, List.set_cons_succ]))
                (refine walkS_take (v := ?_) (some 34) rfl rfl (fun _ _ _ h => h) (by rfl) ?_ ?_; rotate_left; (focus (intro w' hw'; have y0 := HOC.out w' hw'; have y1 := HXC.out w' hw'; go_simp; (try with_reducible rfl))); (try simp only [Act.put, List.setIfInBounds_toArray, List.set_cons_zero, List.set_cons_succ]))
                (refine walkS_take (v := ?_) (some 35) rfl rfl (fun _ _ _ h => h) (by rfl) ?_ ?_; rotate_left; (focus (intro w' hw'; have y0 := HOC.out w' hw'; have y1 := HXC.out w' hw'; go_simp; (try with_reducible rfl))); (try simp only [Act.put, List.setIfInBounds_toArray, List.set_cons_zero, List.set_cons_succ]))
                (refine walkS_take (v := ?_) (some 36) rfl rfl (fun _ _ _ h => h) (by rfl) ?_ ?_; rotate_left; (focus (intro w' hw'; have y0 := HOC.out w' hw'; have y1 := HXC.out w' hw'; go_simp; (try with_reducible rfl))); (try simp only [Act.put, List.setIfInBounds_toArray, List.set_cons_zero, List.set_cons_succ]))
                (refine walkS_take (v := ?_) (some 37) rfl rfl (fun _ _ _ h => h) (by rfl) ?_ ?_; rotate_left; (focus (intro w' hw'; have y0 := HOC.out w' hw'; have y1 := HXC.out w' hw'; go_simp; (try with_reducible rfl))); (try simp only [Act.put, List.setIfInBounds_toArray, List.set_cons_zero, List.set_cons_succ]))
                (refine walkS_take (v := ?_) (some 38) rfl rfl (fun _ _ _ h => h) (by rfl) ?_ ?_; rotate_left; (focus (intro w' hw'; have y0 := HOC.out w' hw'; have y1 := HXC.out w' hw'; go_simp; (try with_reducible rfl))); (try simp only [Act.put, List.setIfInBounds_toArray, List.set_cons_zero, List.set_cons_succ]))
                (refine walkS_take (v := ?_) (some 39) rfl rfl (fun _ _ _ h => h) (by rfl) ?_ ?_; rotate_left; (focus (intro w' hw'; have y0 := HOC.out w' hw'; have y1 := HXC.out w' hw'; go_simp; (try with_reducible rfl))); (try simp only [Act.put, List.setIfInBounds_toArray, List.set_cons_zero, List.set_cons_succ]))
                refine walkS_done ?_
                go_wp2_with fail
                go_roundw
                · exact HX.out _ (HTK.out.trans ((Touch.refl wr (fun _ => False)).drew) (fun _ _ h => h))
                · simp only [RowKit.intOf]; omega
              · have HLE : RowKit.Hid ((gd O k).u ≤ x.u) := Lib.hid (by omega)
                obtain ⟨ku, hku⟩ : ∃ ku, (gd O k).u = ku := ⟨_, rfl⟩
                rw [hku] at HOC hc
                clear hku
                go_upto_region 7 with (fail)
                have hS := (Touch.refl wr (fun _ => False)).drew
                refine wp_region_sched (fun w' => Touch wr w' (fun _ => False)) [(0, true), (1, true), (2, true), (3, true), (4, true), (5, true), (6, true), (7, true), (8, true), (9, true), (10, true), (11, true), (12, true)] (by kernel_rfl) (by kernel_rfl) rfl (by kernel_rfl) hS ?_
                (refine walkS_take (v := ?_) (some 27) rfl rfl (fun _ _ _ h => h) (by rfl) ?_ ?_; rotate_left; (focus (intro w' hw'; have y0 := HOC.out w' hw'; have y1 := HXC.out w' hw'; go_simp; (try with_reducible rfl))); (try simp only [Act.put, List.setIfInBounds_toArray, List.set_cons_zero, List.set_cons_succ]))
                (refine walkS_take (v := ?_) (some 28) rfl rfl (fun _ _ _ h => h) (by rfl) ?_ ?_; rotate_left; (focus (intro w' hw'; have y0 := HOC.out w' hw'; have y1 := HXC.out w' hw'; go_simp; (try with_reducible rfl))); (try simp only [Act.put, List.setIfInBounds_toArray, List.set_cons_zero, List.set_cons_succ]))
                (refine walkS_take (v := ?_) (some 29) rfl rfl (fun _ _ _ h => h) (by rfl) ?_ ?_; rotate_left; (focus (intro w' hw'; have y0 := HOC.out w' hw'; have y1 := HXC.out w' hw'; go_simp; (try with_reducible rfl))); (try simp only [Act.put, List.setIfInBounds_toArray, List.set_cons_zero, List.set_cons_succ]))
                (refine walkS_take (v := ?_) (some 30) rfl rfl (fun _ _ _ h => h) (by rfl) ?_ ?_; rotate_left; (focus (intro w' hw'; have y0 := HOC.out w' hw'; have y1 := HXC.out w' hw'; go_simp; (try with_reducible rfl))); (try simp only [Act.put, List.setIfInBounds_toArray, List.set_cons_zero, List.set_cons_succ]))
                (refine walkS_take (v := ?_) (some 31) rfl rfl (fun _ _ _ h => h) (by rfl) ?_ ?_; rotate_left; (focus (intro w' hw'; have y0 := HOC.out w' hw'; have y1 := HXC.out w' hw'; go_simp; (try with_reducible rfl))); (try simp only [Act.put, List.setIfInBounds_toArray, List.set_cons_zero, List.set_cons_succ]))
                (refine walkS_take (v := ?_) (some 32) rfl rfl (fun _ _ _ h => h) (by rfl) ?_ ?_; rotate_left; (focus (intro w' hw'; go_simp; rw [HWK.out])); (try simp only [Act.put, List.setIfInBounds_toArray, List.set_cons_zero, List.set_cons_succ]))
                (refine walkS_take (v := ?_) (some 33) rfl rfl (fun _ _ _ h => h) (by rfl) ?_ ?_; rotate_left; (focus (intro w' hw'; have y0 := HOC.out w' hw'; have y1 := HXC.out w' hw'; go_simp; (try with_reducible rfl))); (try simp only [Act.put, List.setIfInBounds_toArray, List.set_cons_zero, List.set_cons_succ]))
                (refine walkS_take (v := ?_) (some 34) rfl rfl (fun _ _ _ h => h) (by rfl) ?_ ?_; rotate_left; (focus (intro w' hw'; have y0 := HOC.out w' hw'; have y1 := HXC.out w' hw'; go_simp; (try with_reducible rfl))); (try simp only [Act.put, List.setIfInBounds_toArray, List.set_cons_zero, List.set_cons_succ]))
                (refine walkS_take (v := ?_) (some 35) rfl rfl (fun _ _ _ h => h) (by rfl) ?_ ?_; rotate_left; (focus (intro w' hw'; have y0 := HOC.out w' hw'; have y1 := HXC.out w' hw'; go_simp; (try with_reducible rfl))); (try simp only [Act.put, List.setIfInBounds_toArray, List.set_cons_zero, List.set_cons_succ]))
                (refine walkS_take (v := ?_) (some 36) rfl rfl (fun _ _ _ h => h) (by rfl) ?_ ?_; rotate_left; (focus (intro w' hw'; have y0 := HOC.out w' hw'; have y1 := HXC.out w' hw'; go_simp; (try with_reducible rfl))); (try simp only [Act.put, List.setIfInBounds_toArray, List.set_cons_zero, List.set_cons_succ]))
                (refine walkS_take (v := ?_) (some 37) rfl rfl (fun _ _ _ h => h) (by rfl) ?_ ?_; rotate_left; (focus (intro w' hw'; have y0 := HOC.out w' hw'; have y1 := HXC.out w' hw'; go_simp; (try with_reducible rfl))); (try simp only [Act.put, List.setIfInBounds_toArray, List.set_cons_zero, List.set_cons_succ]))
                (refine walkS_take (v := ?_) (some 38) rfl rfl (fun _ _ _ h => h) (by rfl) ?_ ?_; rotate_left; (focus (intro w' hw'; have y0 := HOC.out w' hw'; have y1 := HXC.out w' hw'; go_simp; (try with_reducible rfl))); (try simp only [Act.put, List.setIfInBounds_toArray, List.set_cons_zero, List.set_cons_succ]))
                (refine walkS_take (v := ?_) (some 39) rfl rfl (fun _ _ _ h => h) (by rfl) ?_ ?_; rotate_left; (focus (intro w' hw'; have y0 := HOC.out w' hw'; have y1 := HXC.out w' hw'; go_simp; (try with_reducible rfl))); (try simp only [Act.put, List.setIfInBounds_toArray, List.set_cons_zero, List.set_cons_succ]))
                refine walkS_done ?_
                go_wp2_with fail
                go_meet
                exact ⟨k + 1, hk, rfl, HGT.out, .inr HLE.out, HTK.out.drew⟩
        case rest =>
          obtain ⟨k, hk, rfl, hgt, hle, htc⟩ := hcut
          have HPUT := Lib.hid (sortU_put HSO.out (by rw [HM.out]; exact hk) hgt hle HXB.out)
          have HRC := Lib.hid (HRO.out.still htc)
          have HTC := Lib.hid htc
          have HG : RowKit.Hid (∀ W, Touch wc W (fun _ => False) → W.heap[blk]? = some (.cells #[.int .i64 x.b, .int .i64 x.u] 76 (0, 0))) := Lib.hid (fun W t => t.keeps (htc.keeps HG2.out (fun h => h)) (fun h => h))
          have HI2 := Lib.hid infoD2
          have HX : RowKit.Hid (∀ W a'' c'', Touch wc W (fun _ => False) → OwnS W wc.heap.size 76 2 (.slice a'' (m + 1) c'') ((O.take k ++ x :: O.drop k).map dcl) → ∃ (i' : Nat) (O' : List DR) (a3 : Option Addr) (c3 : Nat), i' ≤ n ∧ Value.int .i64 ((i : Int) + 1) = .int .i64 i' ∧ Value.slice a'' (m + 1) c'' = .slice a3 O'.length c3 ∧ OwnS W w.heap.size 76 2 (.slice a3 O'.length c3) (O'.map dcl) ∧ SortU O' ∧ O'.Perm ((G.take i').filter (fun d => decide (d.u ≤ now))) ∧ Touch w W (fun _ => False)) := Lib.hid (fun W a'' c'' t ho => by
            have hlen : (O.take k ++ x :: O.drop k).length = m + 1 := by
              have := HM.out
              rw [List.length_append, List.length_cons, List.length_take, List.length_drop]; omega
            refine ⟨i + 1, O.take k ++ x :: O.drop k, a'', c'', by omega, by go_num, by rw [hlen], ?_, HPUT.out, ?_, (HT2.out.trans HTC.out (fun _ _ h => h)).trans t (fun _ _ h => h)⟩
            · rw [hlen]
              exact ho.rebase (fun y hy => by have h1 := (ho.own.lt y hy).1; have h2 := HT2.out.size; have h3 := HTC.out.size; omega)
            · rw [HTF.out, if_pos (by simp; omega)]
              have h1 : (O.take k ++ x :: O.drop k).Perm (x :: O) := by
                have h2 := List.perm_middle (a := x) (l₁ := O.take k) (l₂ := O.drop k)
                rwa [List.take_append_drop] at h2
              exact h1.trans ((HPO.out.cons x).trans (List.perm_append_comm (l₁ := [x]))))
          obtain hnone | ⟨g2, off2, hsome⟩ := own_plD HO2.out
          · subst hnone
            have hO0 : O = [] := by
              cases O with
              | nil => rfl
              | cons y O => obtain ⟨_, _, e⟩ := HRC.out.some (by have := HM.out; simp at this; omega); cases e
            have hm0 : m = 0 := by rw [← HM.out, hO0]; rfl
            have hk0 : k = 0 := by omega
            subst hO0
            subst hk0
            rw [hm0] at HRC HX hcapO ⊢
            clear HPUT HM hm0 hgt hle hk hm4 HO2 HRO
            have HRW : RowKit.Hid (RowS wc.drew none 0 c' 2 (([] : List DR).map dcl)) := Lib.hid (HRC.out.still ((Touch.refl wc (fun _ => False)).drew))
            go_upto_region 9 with (fail)
            have hS := (Touch.refl wc (fun _ => False)).drew
            refine wp_region_tree (fun w' => Touch wc w' (fun _ => False)) (.take 0 (.take 1 (.take 2 (.take 4 (.take 7 (.take 8 (.take 9 (.two 3 5 (.one 5 (.one 6 (.one 10 (.take 11 .fin)))) (.one 3 (.one 6 (.one 10 (.take 11 .fin)))))))))))) (by kernel_rfl) (by kernel_rfl) (by kernel_rfl) (by kernel_rfl) hS ?_
            refine walkT_take ?_
            (refine takeN_take (v := ?_) (some 42) rfl rfl (fun _ _ _ h => h) (by rfl) ?_ ?_; rotate_left; (focus (intro w' hw'; go_simp; (try with_reducible rfl))); (try simp only [Act.put, List.setIfInBounds_toArray, List.set_cons_zero, List.set_cons_succ]))
            refine walkT_take ?_
            (refine takeN_take (v := ?_) (some 43) rfl rfl (fun _ _ _ h => h) (by rfl) ?_ ?_; rotate_left; (focus (intro w' hw'; go_simp; (try with_reducible rfl))); (try simp only [Act.put, List.setIfInBounds_toArray, List.set_cons_zero, List.set_cons_succ]))
            refine walkT_take ?_
            (refine takeN_take (v := ?_) (some 44) rfl rfl (fun _ _ _ h => h) (by rfl) ?_ ?_; rotate_left; (focus (intro w' hw'; go_simp; (try with_reducible rfl))); (try simp only [Act.put, List.setIfInBounds_toArray, List.set_cons_zero, List.set_cons_succ]))
            refine walkT_take ?_
            (refine takeN_row (some 46) rfl rfl 76 (.tmp 7) rfl (blk) rfl _ _ _ _ (fun w' h => HG.out w' h) Try.underlying76 rfl HI2.out (fun _ _ _ h => h) (by rfl) ?_; (try simp only [Act.put, List.setIfInBounds_toArray, List.set_cons_zero, List.set_cons_succ]))
            refine walkT_take ?_
            (refine takeN_take (v := ?_) (some 49) rfl rfl (fun _ _ _ h => h) (by rfl) ?_ ?_; rotate_left; (focus (intro w' hw'; go_simp; (try with_reducible rfl))); (try simp only [Act.put, List.setIfInBounds_toArray, List.set_cons_zero, List.set_cons_succ]))
            refine walkT_take ?_
            (refine takeN_take (v := ?_) (some 50) rfl rfl (fun _ _ _ h => h) (by rfl) ?_ ?_; rotate_left; (focus (intro w' hw'; go_simp; (try with_reducible rfl))); (try simp only [Act.put, List.setIfInBounds_toArray, List.set_cons_zero, List.set_cons_succ]))
            refine walkT_take ?_
            (refine takeN_take (v := ?_) (some 51) rfl rfl (fun _ _ _ h => h) (by rfl) ?_ ?_; rotate_left; (focus (intro w' hw'; go_simp; (try with_reducible rfl))); (try simp only [Act.put, List.setIfInBounds_toArray, List.set_cons_zero, List.set_cons_succ]))
            refine walkT_two ?_ ?_
            · (refine runN_appS 45 (.const (.slice none 0 0)) (.tmp 44) _ rfl rfl rfl (by rfl) 76 Try.underlying61 (.agg #[.int .i64 0, .int .i64 0]) 2 16 infoDrain rfl (by decide) wc.heap.size _ _ rfl (OwnS.nil _ _ _ _) _ _ _ _ rfl (RowS.nil _ _ _ _ (by omega)) (by simp) (0) ((([] : List DR)).map dcl) (by simp) (by simp) (by simp only [maxLen]; omega) (by omega) hS.size ?_; intro a7 c7 w7 how9 hg9 hp9; have t9 := (Touch.refl _ (fun _ => False)).grown hg9 (fun k hk _ => by cases hk); have hS := hS.trans t9 (fun k h1 h2 => by first | exact h2.elim | (have h2 : wc.heap.size ≤ k := h2; omega)); refine ⟨hS, fun _ => ?_⟩; have HRW := Lib.hid (HRW.out.still t9); (try have HNW := Lib.hid (HNW.out.still t9)); have HO1 := Lib.hid how9; clear how9 hg9 hp9 t9; (try simp only [Act.put, List.setIfInBounds_toArray, List.set_cons_zero, List.set_cons_succ]))
              refine walkT_one ?_
              (refine runN_new 47 (fun W => .slice (some ⟨W.heap.size, 0, none⟩) 1 1) #[.int .i64 x.b, .int .i64 x.u] 76 rfl rfl (by rfl) (by intro W; go_simp <;> first | with_reducible rfl | rfl | exact ⟨rfl, rfl⟩) ?_; intro w7 hw7 hM7 hs7 t9; have hS := hS.trans t9 (fun _ _ h => h.elim); refine ⟨hS, fun _ => ?_⟩; have HNW := Lib.hid (show RowS w7 _ 1 1 2 [dcl x] by rw [hw7]; exact row_oneD _ x); have HRW := Lib.hid (HRW.out.still t9); (try have HO1 := Lib.hid (HO1.out.still t9)); clear hw7 hM7 hs7 t9; (try simp only [Act.put, List.setIfInBounds_toArray, List.set_cons_zero, List.set_cons_succ]))
              refine walkT_one ?_
              (refine runN_appS 48 (.tmp 45) (.tmp 47) _ rfl rfl rfl (by rfl) 76 Try.underlying61 (.agg #[.int .i64 0, .int .i64 0]) 2 16 infoDrain rfl (by decide) wc.heap.size _ _ rfl HO1.out _ _ _ _ rfl HNW.out (by simp [dcl, Value.oneCell']) (1) ((([] : List DR) ++ [x]).map dcl) (by simp) (by simp) (by simp only [maxLen]; omega) (by omega) hS.size ?_; intro a12 c12 w12 how9 hg9 hp9; have t9 := (Touch.refl _ (fun k => wc.heap.size ≤ k)).grown hg9 (fun k hk _ => (HO1.out.own.lt k hk).1); have hS := hS.trans t9 (fun k h1 h2 => by first | exact h2.elim | (have h2 : wc.heap.size ≤ k := h2; omega)); refine ⟨hS, fun _ => ?_⟩; have HRW := Lib.hid (HRW.out.touch t9 (fun y hy => by rcases HRC.out.lt y hy with h | h; exact .inl h; exact .inr (fun h2 => by have h2 : wc.heap.size ≤ y.block := h2; omega))); have HOB := Lib.hid how9; clear how9 hg9 hp9 t9; (try simp only [Act.put, List.setIfInBounds_toArray, List.set_cons_zero, List.set_cons_succ]))
              refine walkT_one ?_
              (refine runN_appS 52 (.tmp 48) (.tmp 51) _ rfl rfl rfl (by rfl) 76 Try.underlying61 (.agg #[.int .i64 0, .int .i64 0]) 2 16 infoDrain rfl (by decide) wc.heap.size _ _ rfl HOB.out _ _ _ _ rfl (RowS.nil _ _ _ _ (by omega)) (by simp) (1) ((([] : List DR) ++ x :: ([] : List DR)).map dcl) (by simp) (by simp) (by simp only [maxLen]; omega) (by omega) hS.size ?_; intro a19 c19 w19 how9 hg9 hp9; have t9 := (Touch.refl _ (fun k => wc.heap.size ≤ k)).grown hg9 (fun k hk _ => (HOB.out.own.lt k hk).1); have hS := hS.trans t9 (fun k h1 h2 => by first | exact h2.elim | (have h2 : wc.heap.size ≤ k := h2; omega)); refine ⟨hS, fun _ => ?_⟩; have HRW := Lib.hid (HRW.out.touch t9 (fun y hy => by rcases HRC.out.lt y hy with h | h; exact .inl h; exact .inr (fun h2 => by have h2 : wc.heap.size ≤ y.block := h2; omega))); have HO3 := Lib.hid how9; have HY := Lib.hid (HX.out _ _ _ hS how9); clear how9 hg9 hp9 t9; (try simp only [Act.put, List.setIfInBounds_toArray, List.set_cons_zero, List.set_cons_succ]))
              refine walkT_take ?_
              (refine takeN_take (v := ?_) (some 5) rfl rfl (fun _ _ _ h => h) (by rfl) ?_ ?_; rotate_left; (focus (intro w' hw'; go_simp; (try with_reducible rfl))); (try simp only [Act.put, List.setIfInBounds_toArray, List.set_cons_zero, List.set_cons_succ]))
              refine walkT_fin ?_
              go_wp2_with fail
              go_roundw
              · exact HY.out
              · simp only [RowKit.intOf]; omega
            · (refine runN_new 47 (fun W => .slice (some ⟨W.heap.size, 0, none⟩) 1 1) #[.int .i64 x.b, .int .i64 x.u] 76 rfl rfl (by rfl) (by intro W; go_simp <;> first | with_reducible rfl | rfl | exact ⟨rfl, rfl⟩) ?_; intro w7 hw7 hM7 hs7 t9; have hS := hS.trans t9 (fun _ _ h => h.elim); refine ⟨hS, fun _ => ?_⟩; have HNW := Lib.hid (show RowS w7 _ 1 1 2 [dcl x] by rw [hw7]; exact row_oneD _ x); have HRW := Lib.hid (HRW.out.still t9); (try have HO1 := Lib.hid (HO1.out.still t9)); clear hw7 hM7 hs7 t9; (try simp only [Act.put, List.setIfInBounds_toArray, List.set_cons_zero, List.set_cons_succ]))
              refine walkT_one ?_
              (refine runN_appS 45 (.const (.slice none 0 0)) (.tmp 44) _ rfl rfl rfl (by rfl) 76 Try.underlying61 (.agg #[.int .i64 0, .int .i64 0]) 2 16 infoDrain rfl (by decide) wc.heap.size _ _ rfl (OwnS.nil _ _ _ _) _ _ _ _ rfl (RowS.nil _ _ _ _ (by omega)) (by simp) (0) ((([] : List DR)).map dcl) (by simp) (by simp) (by simp only [maxLen]; omega) (by omega) hS.size ?_; intro a7 c7 w7 how9 hg9 hp9; have t9 := (Touch.refl _ (fun _ => False)).grown hg9 (fun k hk _ => by cases hk); have hS := hS.trans t9 (fun k h1 h2 => by first | exact h2.elim | (have h2 : wc.heap.size ≤ k := h2; omega)); refine ⟨hS, fun _ => ?_⟩; have HRW := Lib.hid (HRW.out.still t9); (try have HNW := Lib.hid (HNW.out.still t9)); have HO1 := Lib.hid how9; clear how9 hg9 hp9 t9; (try simp only [Act.put, List.setIfInBounds_toArray, List.set_cons_zero, List.set_cons_succ]))
              refine walkT_one ?_
              (refine runN_appS 48 (.tmp 45) (.tmp 47) _ rfl rfl rfl (by rfl) 76 Try.underlying61 (.agg #[.int .i64 0, .int .i64 0]) 2 16 infoDrain rfl (by decide) wc.heap.size _ _ rfl HO1.out _ _ _ _ rfl HNW.out (by simp [dcl, Value.oneCell']) (1) ((([] : List DR) ++ [x]).map dcl) (by simp) (by simp) (by simp only [maxLen]; omega) (by omega) hS.size ?_; intro a12 c12 w12 how9 hg9 hp9; have t9 := (Touch.refl _ (fun k => wc.heap.size ≤ k)).grown hg9 (fun k hk _ => (HO1.out.own.lt k hk).1); have hS := hS.trans t9 (fun k h1 h2 => by first | exact h2.elim | (have h2 : wc.heap.size ≤ k := h2; omega)); refine ⟨hS, fun _ => ?_⟩; have HRW := Lib.hid (HRW.out.touch t9 (fun y hy => by rcases HRC.out.lt y hy with h | h; exact .inl h; exact .inr (fun h2 => by have h2 : wc.heap.size ≤ y.block := h2; omega))); have HOB := Lib.hid how9; clear how9 hg9 hp9 t9; (try simp only [Act.put, List.setIfInBounds_toArray, List.set_cons_zero, List.set_cons_succ]))
              refine walkT_one ?_
              (refine runN_appS 52 (.tmp 48) (.tmp 51) _ rfl rfl rfl (by rfl) 76 Try.underlying61 (.agg #[.int .i64 0, .int .i64 0]) 2 16 infoDrain rfl (by decide) wc.heap.size _ _ rfl HOB.out _ _ _ _ rfl (RowS.nil _ _ _ _ (by omega)) (by simp) (1) ((([] : List DR) ++ x :: ([] : List DR)).map dcl) (by simp) (by simp) (by simp only [maxLen]; omega) (by omega) hS.size ?_; intro a19 c19 w19 how9 hg9 hp9; have t9 := (Touch.refl _ (fun k => wc.heap.size ≤ k)).grown hg9 (fun k hk _ => (HOB.out.own.lt k hk).1); have hS := hS.trans t9 (fun k h1 h2 => by first | exact h2.elim | (have h2 : wc.heap.size ≤ k := h2; omega)); refine ⟨hS, fun _ => ?_⟩; have HRW := Lib.hid (HRW.out.touch t9 (fun y hy => by rcases HRC.out.lt y hy with h | h; exact .inl h; exact .inr (fun h2 => by have h2 : wc.heap.size ≤ y.block := h2; omega))); have HO3 := Lib.hid how9; have HY := Lib.hid (HX.out _ _ _ hS how9); clear how9 hg9 hp9 t9; (try simp only [Act.put, List.setIfInBounds_toArray, List.set_cons_zero, List.set_cons_succ]))
              refine walkT_take ?_
              (refine takeN_take (v := ?_) (some 5) rfl rfl (fun _ _ _ h => h) (by rfl) ?_ ?_; rotate_left; (focus (intro w' hw'; go_simp; (try with_reducible rfl))); (try simp only [Act.put, List.setIfInBounds_toArray, List.set_cons_zero, List.set_cons_succ]))
              refine walkT_fin ?_
              go_wp2_with fail
              go_roundw
              · exact HY.out
              · simp only [RowKit.intOf]; omega
          · subst hsome
            have hkc : k ≤ c' := Nat.le_trans hk hcapO
            have HRW : RowKit.Hid (RowS wc.drew (some ⟨g2, off2, none⟩) m c' 2 (O.map dcl)) := Lib.hid (HRC.out.still ((Touch.refl wc (fun _ => False)).drew))
            clear hgt hle HO2 HRO
            go_upto_region 9 with (fail)
            have hS := (Touch.refl wc (fun _ => False)).drew
            refine wp_region_tree (fun w' => Touch wc w' (fun _ => False)) (.take 0 (.take 1 (.take 2 (.take 4 (.take 7 (.take 8 (.take 9 (.two 3 5 (.one 5 (.one 6 (.one 10 (.take 11 .fin)))) (.one 3 (.one 6 (.one 10 (.take 11 .fin)))))))))))) (by kernel_rfl) (by kernel_rfl) (by kernel_rfl) (by kernel_rfl) hS ?_
            refine walkT_take ?_
            (refine takeN_take (v := ?_) (some 42) rfl rfl (fun _ _ _ h => h) (by rfl) ?_ ?_; rotate_left; (focus (intro w' hw'; go_simp; (try with_reducible rfl))); (try simp only [Act.put, List.setIfInBounds_toArray, List.set_cons_zero, List.set_cons_succ]))
            refine walkT_take ?_
            (refine takeN_take (v := ?_) (some 43) rfl rfl (fun _ _ _ h => h) (by rfl) ?_ ?_; rotate_left; (focus (intro w' hw'; go_simp; (try with_reducible rfl))); (try simp only [Act.put, List.setIfInBounds_toArray, List.set_cons_zero, List.set_cons_succ]))
            refine walkT_take ?_
            (refine takeN_take (v := ?_) (some 44) rfl rfl (fun _ _ _ h => h) (by rfl) ?_ ?_; rotate_left; (focus (intro w' hw'; go_simp; (try with_reducible rfl))); (try simp only [Act.put, List.setIfInBounds_toArray, List.set_cons_zero, List.set_cons_succ]))
            refine walkT_take ?_
            (refine takeN_row (some 46) rfl rfl 76 (.tmp 7) rfl (blk) rfl _ _ _ _ (fun w' h => HG.out w' h) Try.underlying76 rfl HI2.out (fun _ _ _ h => h) (by rfl) ?_; (try simp only [Act.put, List.setIfInBounds_toArray, List.set_cons_zero, List.set_cons_succ]))
            refine walkT_take ?_
            (refine takeN_take (v := ?_) (some 49) rfl rfl (fun _ _ _ h => h) (by rfl) ?_ ?_; rotate_left; (focus (intro w' hw'; go_simp; (try with_reducible rfl))); (try simp only [Act.put, List.setIfInBounds_toArray, List.set_cons_zero, List.set_cons_succ]))
            refine walkT_take ?_
            (refine takeN_take (v := ?_) (some 50) rfl rfl (fun _ _ _ h => h) (by rfl) ?_ ?_; rotate_left; (focus (intro w' hw'; go_simp; (try with_reducible rfl))); (try simp only [Act.put, List.setIfInBounds_toArray, List.set_cons_zero, List.set_cons_succ]))
            refine walkT_take ?_
            (refine takeN_take (v := ?_) (some 51) rfl rfl (fun _ _ _ h => h) (by rfl) ?_ ?_; rotate_left; (focus (intro w' hw'; go_simp; (try with_reducible rfl))); (try simp only [Act.put, List.setIfInBounds_toArray, List.set_cons_zero, List.set_cons_succ]))
            refine walkT_two ?_ ?_
            · (refine runN_appS 45 (.const (.slice none 0 0)) (.tmp 44) _ rfl rfl rfl (by rfl) 76 Try.underlying61 (.agg #[.int .i64 0, .int .i64 0]) 2 16 infoDrain rfl (by decide) wc.heap.size _ _ rfl (OwnS.nil _ _ _ _) _ _ _ _ rfl (row_frontD HRW.out k hk) (one_dclD _) (k) ((O.take k).map dcl) (by simp) (by simp) (by simp only [maxLen]; omega) (by omega) hS.size ?_; intro a7 c7 w7 how9 hg9 hp9; have t9 := (Touch.refl _ (fun _ => False)).grown hg9 (fun k hk _ => by cases hk); have hS := hS.trans t9 (fun k h1 h2 => by first | exact h2.elim | (have h2 : wc.heap.size ≤ k := h2; omega)); refine ⟨hS, fun _ => ?_⟩; have HRW := Lib.hid (HRW.out.still t9); (try have HNW := Lib.hid (HNW.out.still t9)); have HO1 := Lib.hid how9; clear how9 hg9 hp9 t9; (try simp only [Act.put, List.setIfInBounds_toArray, List.set_cons_zero, List.set_cons_succ]))
              refine walkT_one ?_
              (refine runN_new 47 (fun W => .slice (some ⟨W.heap.size, 0, none⟩) 1 1) #[.int .i64 x.b, .int .i64 x.u] 76 rfl rfl (by rfl) (by intro W; go_simp <;> first | with_reducible rfl | rfl | exact ⟨rfl, rfl⟩) ?_; intro w7 hw7 hM7 hs7 t9; have hS := hS.trans t9 (fun _ _ h => h.elim); refine ⟨hS, fun _ => ?_⟩; have HNW := Lib.hid (show RowS w7 _ 1 1 2 [dcl x] by rw [hw7]; exact row_oneD _ x); have HRW := Lib.hid (HRW.out.still t9); (try have HO1 := Lib.hid (HO1.out.still t9)); clear hw7 hM7 hs7 t9; (try simp only [Act.put, List.setIfInBounds_toArray, List.set_cons_zero, List.set_cons_succ]))
              refine walkT_one ?_
              (refine runN_appS 48 (.tmp 45) (.tmp 47) _ rfl rfl rfl (by rfl) 76 Try.underlying61 (.agg #[.int .i64 0, .int .i64 0]) 2 16 infoDrain rfl (by decide) wc.heap.size _ _ rfl HO1.out _ _ _ _ rfl HNW.out (by simp [dcl, Value.oneCell']) (k + 1) ((O.take k ++ [x]).map dcl) (by simp) (by have := HM.out; simp; omega) (by simp only [maxLen]; omega) (by omega) hS.size ?_; intro a12 c12 w12 how9 hg9 hp9; have t9 := (Touch.refl _ (fun k => wc.heap.size ≤ k)).grown hg9 (fun k hk _ => (HO1.out.own.lt k hk).1); have hS := hS.trans t9 (fun k h1 h2 => by first | exact h2.elim | (have h2 : wc.heap.size ≤ k := h2; omega)); refine ⟨hS, fun _ => ?_⟩; have HRW := Lib.hid (HRW.out.touch t9 (fun y hy => by rcases HRC.out.lt y hy with h | h; exact .inl h; exact .inr (fun h2 => by have h2 : wc.heap.size ≤ y.block := h2; omega))); have HOB := Lib.hid how9; clear how9 hg9 hp9 t9; (try simp only [Act.put, List.setIfInBounds_toArray, List.set_cons_zero, List.set_cons_succ]))
              refine walkT_one ?_
              (refine runN_appS 52 (.tmp 48) (.tmp 51) _ rfl rfl rfl (by rfl) 76 Try.underlying61 (.agg #[.int .i64 0, .int .i64 0]) 2 16 infoDrain rfl (by decide) wc.heap.size _ _ rfl HOB.out _ _ _ _ rfl (row_backD HRW.out k hk) (one_dclD _) (m + 1) ((O.take k ++ x :: O.drop k).map dcl) (by simp) (by have := HM.out; simp; omega) (by simp only [maxLen]; omega) (by omega) hS.size ?_; intro a19 c19 w19 how9 hg9 hp9; have t9 := (Touch.refl _ (fun k => wc.heap.size ≤ k)).grown hg9 (fun k hk _ => (HOB.out.own.lt k hk).1); have hS := hS.trans t9 (fun k h1 h2 => by first | exact h2.elim | (have h2 : wc.heap.size ≤ k := h2; omega)); refine ⟨hS, fun _ => ?_⟩; have HRW := Lib.hid (HRW.out.touch t9 (fun y hy => by rcases HRC.out.lt y hy with h | h; exact .inl h; exact .inr (fun h2 => by have h2 : wc.heap.size ≤ y.block := h2; omega))); have HO3 := Lib.hid how9; have HY := Lib.hid (HX.out _ _ _ hS how9); clear how9 hg9 hp9 t9; (try simp only [Act.put, List.setIfInBounds_toArray, List.set_cons_zero, List.set_cons_succ]))
              refine walkT_take ?_
              (refine takeN_take (v := ?_) (some 5) rfl rfl (fun _ _ _ h => h) (by rfl) ?_ ?_; rotate_left; (focus (intro w' hw'; go_simp; (try with_reducible rfl))); (try simp only [Act.put, List.setIfInBounds_toArray, List.set_cons_zero, List.set_cons_succ]))
              refine walkT_fin ?_
              go_wp2_with fail
              go_roundw
              · exact HY.out
              · simp only [RowKit.intOf]; omega
            · (refine runN_new 47 (fun W => .slice (some ⟨W.heap.size, 0, none⟩) 1 1) #[.int .i64 x.b, .int .i64 x.u] 76 rfl rfl (by rfl) (by intro W; go_simp <;> first | with_reducible rfl | rfl | exact ⟨rfl, rfl⟩) ?_; intro w7 hw7 hM7 hs7 t9; have hS := hS.trans t9 (fun _ _ h => h.elim); refine ⟨hS, fun _ => ?_⟩; have HNW := Lib.hid (show RowS w7 _ 1 1 2 [dcl x] by rw [hw7]; exact row_oneD _ x); have HRW := Lib.hid (HRW.out.still t9); (try have HO1 := Lib.hid (HO1.out.still t9)); clear hw7 hM7 hs7 t9; (try simp only [Act.put, List.setIfInBounds_toArray, List.set_cons_zero, List.set_cons_succ]))
              refine walkT_one ?_
              (refine runN_appS 45 (.const (.slice none 0 0)) (.tmp 44) _ rfl rfl rfl (by rfl) 76 Try.underlying61 (.agg #[.int .i64 0, .int .i64 0]) 2 16 infoDrain rfl (by decide) wc.heap.size _ _ rfl (OwnS.nil _ _ _ _) _ _ _ _ rfl (row_frontD HRW.out k hk) (one_dclD _) (k) ((O.take k).map dcl) (by simp) (by simp) (by simp only [maxLen]; omega) (by omega) hS.size ?_; intro a7 c7 w7 how9 hg9 hp9; have t9 := (Touch.refl _ (fun _ => False)).grown hg9 (fun k hk _ => by cases hk); have hS := hS.trans t9 (fun k h1 h2 => by first | exact h2.elim | (have h2 : wc.heap.size ≤ k := h2; omega)); refine ⟨hS, fun _ => ?_⟩; have HRW := Lib.hid (HRW.out.still t9); (try have HNW := Lib.hid (HNW.out.still t9)); have HO1 := Lib.hid how9; clear how9 hg9 hp9 t9; (try simp only [Act.put, List.setIfInBounds_toArray, List.set_cons_zero, List.set_cons_succ]))
              refine walkT_one ?_
              (refine runN_appS 48 (.tmp 45) (.tmp 47) _ rfl rfl rfl (by rfl) 76 Try.underlying61 (.agg #[.int .i64 0, .int .i64 0]) 2 16 infoDrain rfl (by decide) wc.heap.size _ _ rfl HO1.out _ _ _ _ rfl HNW.out (by simp [dcl, Value.oneCell']) (k + 1) ((O.take k ++ [x]).map dcl) (by simp) (by have := HM.out; simp; omega) (by simp only [maxLen]; omega) (by omega) hS.size ?_; intro a12 c12 w12 how9 hg9 hp9; have t9 := (Touch.refl _ (fun k => wc.heap.size ≤ k)).grown hg9 (fun k hk _ => (HO1.out.own.lt k hk).1); have hS := hS.trans t9 (fun k h1 h2 => by first | exact h2.elim | (have h2 : wc.heap.size ≤ k := h2; omega)); refine ⟨hS, fun _ => ?_⟩; have HRW := Lib.hid (HRW.out.touch t9 (fun y hy => by rcases HRC.out.lt y hy with h | h; exact .inl h; exact .inr (fun h2 => by have h2 : wc.heap.size ≤ y.block := h2; omega))); have HOB := Lib.hid how9; clear how9 hg9 hp9 t9; (try simp only [Act.put, List.setIfInBounds_toArray, List.set_cons_zero, List.set_cons_succ]))
              refine walkT_one ?_
              (refine runN_appS 52 (.tmp 48) (.tmp 51) _ rfl rfl rfl (by rfl) 76 Try.underlying61 (.agg #[.int .i64 0, .int .i64 0]) 2 16 infoDrain rfl (by decide) wc.heap.size _ _ rfl HOB.out _ _ _ _ rfl (row_backD HRW.out k hk) (one_dclD _) (m + 1) ((O.take k ++ x :: O.drop k).map dcl) (by simp) (by have := HM.out; simp; omega) (by simp only [maxLen]; omega) (by omega) hS.size ?_; intro a19 c19 w19 how9 hg9 hp9; have t9 := (Touch.refl _ (fun k => wc.heap.size ≤ k)).grown hg9 (fun k hk _ => (HOB.out.own.lt k hk).1); have hS := hS.trans t9 (fun k h1 h2 => by first | exact h2.elim | (have h2 : wc.heap.size ≤ k := h2; omega)); refine ⟨hS, fun _ => ?_⟩; have HRW := Lib.hid (HRW.out.touch t9 (fun y hy => by rcases HRC.out.lt y hy with h | h; exact .inl h; exact .inr (fun h2 => by have h2 : wc.heap.size ≤ y.block := h2; omega))); have HO3 := Lib.hid how9; have HY := Lib.hid (HX.out _ _ _ hS how9); clear how9 hg9 hp9 t9; (try simp only [Act.put, List.setIfInBounds_toArray, List.set_cons_zero, List.set_cons_succ]))
              refine walkT_take ?_
              (refine takeN_take (v := ?_) (some 5) rfl rfl (fun _ _ _ h => h) (by rfl) ?_ ?_; rotate_left; (focus (intro w' hw'; go_simp; (try with_reducible rfl))); (try simp only [Act.put, List.setIfInBounds_toArray, List.set_cons_zero, List.set_cons_succ]))
              refine walkT_fin ?_
              go_wp2_with fail
              go_roundw
              · exact HY.out
              · simp only [RowKit.intOf]; omega
end Go.Proofs.Ytdjkjdeaglimeaa
