/- IA: RdkSim, RdkSim2, RdkSim3, RdkBoth, RdkStep, RdkDo, RdkLike. -/
import Derived.Test.YtmokcfmlolohaaaRdkCrZ
import Derived.Test.YtmokcfmlolohaaaRdkCopyZ
import Derived.Test.YtmokcfmlolohaaaDskArgsZ
section
/- The disk and the reference's disk: names alike. -/
set_option linter.unusedVariables false
set_option linter.unusedSimpArgs false
namespace Go.Proofs.Ytmokcfmlolohaaa
open Go.RowKit

theorem bl_iff : ∀ (a b : List UInt8), Op.bytesLess a b = true ↔ a < b
  | [], [] => by simp [Op.bytesLess]
  | [], y :: b => by simp [Op.bytesLess]
  | x :: a, [] => by simp [Op.bytesLess]
  | x :: a, y :: b => by
    have ih := bl_iff a b
    simp only [Op.bytesLess, Bool.or_eq_true, Bool.and_eq_true, decide_eq_true_eq, beq_iff_eq, List.cons_lt_cons_iff, ih]
def keyR (x : RN) : List UInt8 := x.n.data.toList
theorem ltR_iff (a b : RN) : ltR a b = true ↔ keyR a < keyR b := by
  unfold ltR keyR
  rw [Lib.toList_data, Lib.toList_data]
  exact bl_iff _ _
def SortR (l : List RN) : Prop := l.Pairwise (fun a b => keyR a < keyR b)
theorem keyR_inj {a b : RN} (h : keyR a = keyR b) : a.n = b.n := ByteArray.ext (Array.ext' h)
theorem SortR.nd {l : List RN} (h : SortR l) : (l.map RN.n).Nodup := by
  refine List.Pairwise.map _ (fun a b hab e => ?_) h
  have : keyR a = keyR b := by unfold keyR; rw [e]
  rw [this] at hab
  exact List.lt_irrefl _ hab
theorem SortR.wo {l : List RN} (h : SortR l) (k : ByteArray) : SortR (rWo l k) := List.Pairwise.sublist List.filter_sublist h
theorem rWo_not (l : List RN) (k : ByteArray) : ∀ x ∈ rWo l k, x.n ≠ k := by
  intro x hx
  have := (List.mem_filter.1 hx).2
  simpa using this
theorem insR_perm (r : RN) : ∀ (l : List RN), (insR r l).Perm (r :: l)
  | [] => List.Perm.refl _
  | x :: l => by
    unfold insR
    split
    · exact ((insR_perm r l).cons x).trans (List.Perm.swap r x l)
    · exact List.Perm.refl _
theorem key_total {a b : RN} (h : a.n ≠ b.n) (h2 : ¬ keyR a < keyR b) : keyR b < keyR a := by
  have h3 : keyR b ≤ keyR a := List.not_lt.1 h2
  by_cases h4 : keyR b < keyR a
  · exact h4
  · exact absurd (keyR_inj (List.le_antisymm (List.not_lt.1 h4) h3)) h
theorem ndR_inj : ∀ {l : List RN}, (l.map RN.n).Nodup → ∀ {u v : RN}, u ∈ l → v ∈ l → u.n = v.n → u = v
  | [], _, _, _, h, _, _ => by cases h
  | x :: l, hn, u, v, hu, hv, e => by
    rw [List.map_cons, List.nodup_cons] at hn
    rcases List.mem_cons.1 hu with h1 | h1
    · rcases List.mem_cons.1 hv with h2 | h2
      · rw [h1, h2]
      · exact absurd (List.mem_map.2 ⟨v, h2, by rw [← e, h1]⟩) hn.1
    · rcases List.mem_cons.1 hv with h2 | h2
      · exact absurd (List.mem_map.2 ⟨u, h1, by rw [e, h2]⟩) hn.1
      · exact ndR_inj hn.2 h1 h2 e
theorem SortR.ins {r : RN} : ∀ {l : List RN}, SortR l → (∀ x ∈ l, x.n ≠ r.n) → SortR (insR r l)
  | [], _, _ => List.pairwise_singleton _ _
  | x :: l, h, hn => by
    obtain ⟨h1, h2⟩ := List.pairwise_cons.1 h
    unfold insR
    by_cases hx : ltR x r = true
    · rw [if_pos hx]
      refine List.pairwise_cons.2 ⟨fun y hy => ?_, SortR.ins h2 (fun y hy => hn y (List.mem_cons_of_mem _ hy))⟩
      rcases List.mem_cons.1 ((insR_perm r l).mem_iff.1 hy) with e | hy
      · rw [e]; exact (ltR_iff _ _).1 hx
      · exact h1 y hy
    · rw [if_neg hx]
      have hrx : keyR r < keyR x := key_total (hn x List.mem_cons_self).symm.symm (fun h3 => hx ((ltR_iff _ _).2 h3))
      refine List.pairwise_cons.2 ⟨fun y hy => ?_, h⟩
      rcases List.mem_cons.1 hy with e | hy
      · rw [e]; exact hrx
      · exact List.lt_trans hrx (h1 y hy)
/-- A name of the reference's, as the disk has it. -/
def asN (G : List Nat) (x : RN) : NmD := ⟨x.n, G[x.f]?⟩
structure SimN (G : List Nat) (l : List RN) (M : List NmD) : Prop where
  s : SortR l
  f : ∀ x ∈ l, x.f < G.length
  p : (l.map (asN G)).Perm M
theorem asN_del (G : List Nat) (l : List RN) (k : ByteArray) : (rWo l k).map (asN G) = delN (l.map (asN G)) k := by
  unfold rWo delN
  rw [List.filter_map]
  rfl
theorem SimN.wo {G : List Nat} {l : List RN} {M : List NmD} (h : SimN G l M) (k : ByteArray) : SimN G (rWo l k) (delN M k) where
  s := h.s.wo k
  f := fun x hx => h.f x (List.mem_filter.1 hx).1
  p := by rw [asN_del]; exact h.p.filter _
theorem SimN.wi {G : List Nat} {l : List RN} {M : List NmD} (h : SimN G l M) (k : ByteArray) {i : Nat} (hi : i < G.length) : SimN G (rWi l k i) (putN M k G[i]?) where
  s := SortR.ins (h.s.wo k) (fun x hx => rWo_not l k x hx)
  f := fun x hx => by
    rcases List.mem_cons.1 ((insR_perm _ _).mem_iff.1 hx) with e | hx
    · rw [e]; exact hi
    · exact (h.wo k).f x hx
  p := by
    unfold rWi putN
    exact ((insR_perm _ _).map _).trans (List.Perm.cons _ (h.wo k).p)
theorem SimN.find {G : List Nat} {l : List RN} {M : List NmD} (h : SimN G l M) (hn : (M.map NmD.n).Nodup) (k : ByteArray) : getN M k = (rFind l k).bind (fun i => G[i]?) := by
  have hn2 : ((l.map (asN G)).map NmD.n).Nodup := (h.p.map NmD.n).nodup_iff.2 hn
  rw [← getN_perm h.p hn2 k]
  clear hn hn2
  have hf := h.f
  clear h
  induction l with
  | nil => rfl
  | cons x l ih =>
    rw [List.map_cons]
    unfold getN rFind
    by_cases e : x.n = k
    · rw [if_pos (show (asN G x).n = k from e), if_pos e]; rfl
    · rw [if_neg (show ¬ (asN G x).n = k from e), if_neg e]
      exact ih (fun y hy => hf y (List.mem_cons_of_mem _ hy))
theorem SimN.sort {G : List Nat} {l : List RN} {M : List NmD} (h : SimN G l M) : dkSort M = l.map (asN G) := by
  have h1 : (dkSort M).Pairwise (fun a b => decide (keyL a ≤ keyL b) = true) := List.pairwise_mergeSort (fun a b c => by simp only [decide_eq_true_eq]; exact fun x y => List.le_trans x y) (fun a b => by simp only [Bool.or_eq_true, decide_eq_true_eq]; exact List.le_total _ _) M
  have h2 : (l.map (asN G)).Pairwise (fun a b => decide (keyL a ≤ keyL b) = true) := by
    refine List.Pairwise.map _ (fun a b hab => ?_) h.s
    simp only [decide_eq_true_eq]
    exact List.le_of_lt hab
  refine List.Perm.eq_of_pairwise (fun a b ha hb x y => ?_) h1 h2 ((dkSort_perm M).trans h.p.symm)
  simp only [decide_eq_true_eq] at x y
  have e : keyL a = keyL b := List.le_antisymm x y
  have ha : a ∈ l.map (asN G) := h.p.mem_iff.2 ((dkSort_perm M).mem_iff.1 ha)
  obtain ⟨u, hu, rfl⟩ := List.mem_map.1 ha
  obtain ⟨v, hv, rfl⟩ := List.mem_map.1 hb
  have e2 : u.n = v.n := keyR_inj e
  have hn := h.s.nd
  rw [ndR_inj hn hu hv e2]
theorem SimN.names {G : List Nat} {l : List RN} {M : List NmD} (h : SimN G l M) : (dkSort M).map NmD.n = l.map RN.n := by
  rw [h.sort, List.map_map]; rfl
/-- The two disks are alike: G tells the block of each of the reference's files. -/
structure Sim (G : List Nat) (st : DkS) (R : RS) : Prop where
  qe : st.q = R.q
  oe : st.ops = R.n
  fe : st.fail = R.fail
  nd : G.Nodup
  len : G.length = R.F.length
  fil : ∀ i (h : i < G.length), st.F G[i] = fcAt R i
  cl : st.C.length = R.C.length
  nm : ∀ j, SimN G (rAll R.S (R.C.take j)) (dkAll st.S (st.C.take j))
  now : R.N = rAll R.S R.C
  ce : ∀ c ∈ R.C, c.fr ≠ ⟨#[]⟩ ∨ c.to_ ≠ ⟨#[]⟩
theorem Sim.N {G : List Nat} {st : DkS} {R : RS} (s : Sim G st R) : SimN G R.N st.N := by
  have := s.nm st.C.length
  rw [List.take_length, s.cl, List.take_length] at this
  rw [s.now]
  exact this
theorem Sim.op {G : List Nat} {st : DkS} {R : RS} (s : Sim G st R) : Sim G (dkOp st) (rOp R) where
  qe := s.qe
  oe := by show wrap64 (st.ops + 1) = wrap64 (R.n + 1); rw [s.oe]
  fe := by show (if st.fail = 0 then 0 else st.fail - 1) = (if R.fail = 0 then 0 else R.fail - 1); rw [s.fe]
  nd := s.nd
  len := s.len
  fil := s.fil
  cl := s.cl
  nm := s.nm
  now := s.now
  ce := s.ce
theorem Sim.fails {G : List Nat} {st : DkS} {R : RS} (s : Sim G st R) (n : Int) : Sim G { st with fail := max n 0 } { R with fail := max 0 n } where
  qe := s.qe
  oe := s.oe
  fe := Int.max_comm n 0
  nd := s.nd
  len := s.len
  fil := s.fil
  cl := s.cl
  nm := s.nm
  now := s.now
  ce := s.ce
theorem Sim.file {G : List Nat} {st : DkS} {R : RS} (s : Sim G st R) {i : Nat} (hi : i < G.length) (v : DkFc) : Sim G { st with F := fPut st.F G[i] v } { R with F := R.F.set i v } where
  qe := s.qe
  oe := s.oe
  fe := s.fe
  nd := s.nd
  len := by show G.length = (R.F.set i v).length; rw [List.length_set]; exact s.len
  fil := fun j hj => by
    have hj2 : j < R.F.length := by rw [← s.len]; exact hj
    have hi2 : i < R.F.length := by rw [← s.len]; exact hi
    show fPut st.F G[i] v G[j] = (R.F.set i v).getD j ⟨[], 0⟩
    by_cases e : i = j
    · subst e
      rw [fPut_same]
      simp [hi2]
    · have hne : G[j] ≠ G[i] := by
        have hp := List.pairwise_iff_getElem.1 s.nd
        rcases (by omega : i < j ∨ j < i) with h1 | h1
        · exact fun h => hp i j hi hj h1 h.symm
        · exact fun h => hp j i hj hi h1 h
      rw [fPut_ne _ _ hne, s.fil j hj]
      unfold fcAt
      simp [List.getElem?_set, e]
  cl := s.cl
  nm := s.nm
  now := s.now
  ce := s.ce
theorem Sim.chg {G : List Nat} {st : DkS} {R : RS} (s : Sim G st R) {c : DkCh} {rc : RC} (hc : SimN G (rTurn R.N rc) (dkDo st.N c)) (hne : rc.fr ≠ ⟨#[]⟩ ∨ rc.to_ ≠ ⟨#[]⟩) : Sim G { st with C := st.C ++ [c] } { R with N := rTurn R.N rc, C := R.C ++ [rc] } where
  qe := s.qe
  oe := s.oe
  fe := s.fe
  nd := s.nd
  len := s.len
  fil := s.fil
  cl := by show (st.C ++ [c]).length = (R.C ++ [rc]).length; rw [List.length_append, List.length_append, s.cl]; rfl
  nm := fun j => by
    show SimN G (rAll R.S ((R.C ++ [rc]).take j)) (dkAll st.S ((st.C ++ [c]).take j))
    by_cases hj : j ≤ st.C.length
    · rw [List.take_append_of_le_length (by rw [← s.cl]; exact hj), List.take_append_of_le_length hj]
      exact s.nm j
    · rw [List.take_of_length_le (by rw [List.length_append, ← s.cl, List.length_singleton]; omega), List.take_of_length_le (by rw [List.length_append, List.length_singleton]; omega), rAll_snoc, dkAll_snoc, ← s.now]
      exact hc
  now := by show rTurn R.N rc = rAll R.S (R.C ++ [rc]); rw [rAll_snoc, ← s.now]
  ce := fun x hx => by
    rcases List.mem_append.1 hx with h1 | h1
    · exact s.ce x h1
    · rw [List.mem_singleton.1 h1]; exact hne
theorem SimN.more {G : List Nat} {l : List RN} {M : List NmD} (h : SimN G l M) (g : Nat) : SimN (G ++ [g]) l M where
  s := h.s
  f := fun x hx => by rw [List.length_append]; exact Nat.lt_of_lt_of_le (h.f x hx) (Nat.le_add_right _ _)
  p := by
    have e : l.map (asN (G ++ [g])) = l.map (asN G) := List.map_congr_left (fun x hx => by
      unfold asN
      rw [List.getElem?_append_left (h.f x hx)])
    rw [e]; exact h.p
theorem Sim.new {G : List Nat} {st : DkS} {R : RS} (s : Sim G st R) {g : Nat} (hg : g ∉ G) (v : DkFc) : Sim (G ++ [g]) { st with F := fPut st.F g v } { R with F := R.F ++ [v] } where
  qe := s.qe
  oe := s.oe
  fe := s.fe
  nd := by
    rw [List.nodup_append]
    exact ⟨s.nd, by simp, fun a ha b hb e => hg (by rw [List.mem_singleton.1 hb] at e; exact e ▸ ha)⟩
  len := by show (G ++ [g]).length = (R.F ++ [v]).length; rw [List.length_append, List.length_append, s.len]; rfl
  fil := fun i hi => by
    show fPut st.F g v (G ++ [g])[i] = (R.F ++ [v]).getD i ⟨[], 0⟩
    by_cases h : i < G.length
    · have h2 : i < R.F.length := by rw [← s.len]; exact h
      have hne : G[i] ≠ g := fun e => hg (e ▸ List.getElem_mem h)
      rw [List.getElem_append_left h, fPut_ne _ _ hne, s.fil i h]
      unfold fcAt
      simp only [List.getD_eq_getElem?_getD, List.getElem?_append_left h2]
    · have e : i = G.length := by rw [List.length_append, List.length_singleton] at hi; omega
      subst e
      rw [List.getElem_append_right (Nat.le_refl _)]
      simp only [Nat.sub_self, List.getElem_cons_zero, fPut_same]
      rw [s.len]
      simp
  cl := s.cl
  nm := fun j => (s.nm j).more g
  now := s.now
  ce := s.ce
end Go.Proofs.Ytmokcfmlolohaaa

end

section
/- The disk and the reference's disk: each operation keeps them alike. -/
set_option linter.unusedVariables false
set_option linter.unusedSimpArgs false
namespace Go.Proofs.Ytmokcfmlolohaaa
open Go.RowKit

section
variable {G : List Nat} {st : DkS} {R : RS}
theorem Sim.none_ (s : Sim G st R) (hn : (st.N.map NmD.n).Nodup) {k : ByteArray} (h : rFind R.N k = none) : getN st.N k = none := by
  rw [s.N.find hn k, h]; rfl
theorem Sim.some_ (s : Sim G st R) (hn : (st.N.map NmD.n).Nodup) {k : ByteArray} {i : Nat} (h : rFind R.N k = some i) : ∃ hi : i < G.length, getN st.N k = some G[i] := by
  have hi : i < G.length := s.N.f _ (rFind_mem h)
  refine ⟨hi, ?_⟩
  rw [s.N.find hn k, h]
  exact List.getElem?_eq_getElem hi
theorem Sim.onF (s : Sim G st R) (hn : (st.N.map NmD.n).Nodup) (k : ByteArray) (h1 : ¬ R.fail = 1) : dkOnF st k = (rFind R.N k).bind (fun i => G[i]?) := by
  unfold dkOnF
  rw [if_neg (by rw [s.fe]; exact h1), s.N.find hn k]
theorem Sim.onE (s : Sim G st R) (hn : (st.N.map NmD.n).Nodup) (k : ByteArray) : dkOnE st k = rOnE R k := by
  unfold dkOnE rOnE
  rw [s.fe]
  by_cases h1 : R.fail = 1
  · rw [if_pos h1, if_pos h1]
  · rw [if_neg h1, if_neg h1]
    cases h : rFind R.N k with
    | none => rw [s.none_ hn h]; rfl
    | some i => obtain ⟨hi, e⟩ := s.some_ hn h; rw [e]; rfl
theorem Sim.onF1 (s : Sim G st R) (k : ByteArray) (h1 : R.fail = 1) : dkOnF st k = none := by unfold dkOnF; rw [if_pos (by rw [s.fe]; exact h1)]
theorem Sim.onFn (s : Sim G st R) (hn : (st.N.map NmD.n).Nodup) {k : ByteArray} (h1 : ¬ R.fail = 1) (h : rFind R.N k = none) : dkOnF st k = none := by rw [s.onF hn k h1, h]; rfl
theorem Sim.onFs (s : Sim G st R) (hn : (st.N.map NmD.n).Nodup) {k : ByteArray} {i : Nat} (h1 : ¬ R.fail = 1) (h : rFind R.N k = some i) : ∃ hi : i < G.length, dkOnF st k = some G[i] := by
  have hi : i < G.length := s.N.f _ (rFind_mem h)
  exact ⟨hi, by rw [s.onF hn k h1, h]; exact List.getElem?_eq_getElem hi⟩
theorem Sim.sync (s : Sim G st R) (hn : (st.N.map NmD.n).Nodup) (k : ByteArray) : Sim G (dkSync st k) (rSync R k) := by
  unfold dkSync rSync
  by_cases h1 : R.fail = 1
  · rw [s.onF1 k h1, if_pos h1]; exact s.op
  · rw [if_neg h1]
    cases h : rFind R.N k with
    | none => rw [s.onFn hn h1 h]; exact s.op
    | some i =>
      obtain ⟨hi, e⟩ := s.onFs hn h1 h
      rw [e]
      simp only
      rw [s.fil i hi]
      exact s.op.file hi _
theorem Sim.cut (s : Sim G st R) (hn : (st.N.map NmD.n).Nodup) (k : ByteArray) (n : Int) : dkCutE st k n = rCutE R k n ∧ Sim G (dkCut st k n) (rCut R k n) := by
  have hE := s.onE hn k
  unfold dkOnE rOnE at hE
  unfold dkCutE rCutE dkCut rCut
  by_cases h1 : R.fail = 1
  · rw [s.onF1 k h1, if_pos h1, if_pos h1]
    refine ⟨?_, s.op⟩
    unfold dkOnE
    rw [if_pos (by rw [s.fe]; exact h1)]
  · rw [if_neg h1, if_neg h1]
    cases h : rFind R.N k with
    | none =>
      rw [s.onFn hn h1 h]
      refine ⟨?_, s.op⟩
      unfold dkOnE
      rw [if_neg (by rw [s.fe]; exact h1), s.none_ hn h]; rfl
    | some i =>
      obtain ⟨hi, e⟩ := s.onFs hn h1 h
      rw [e]
      simp only
      rw [s.fil i hi]
      refine ⟨rfl, ?_⟩
      split
      · exact s.op
      · have := s.op.file hi ⟨(fcAt R i).b.take n.toNat, n.toNat⟩
        unfold keepF
        rw [s.fil i hi]
        exact this
theorem delN_comm (M : List NmD) (a b : ByteArray) : delN (delN M a) b = delN (delN M b) a := by
  unfold delN
  rw [List.filter_filter, List.filter_filter]
  congr 1
  funext d
  exact Bool.and_comm _ _
theorem Sim.nonempty (s : Sim G st R) (hs : ∀ x ∈ st.N, 1 ≤ x.n.size) {k : ByteArray} {i : Nat} (h : rFind R.N k = some i) : k ≠ ⟨#[]⟩ := by
  intro e
  have h1 := s.N.p.mem_iff.1 (List.mem_map.2 ⟨_, rFind_mem h, rfl⟩)
  have h2 := hs _ h1
  have h2 : 1 ≤ k.size := h2
  rw [e] at h2
  exact absurd h2 (by decide)
theorem Sim.rem (s : Sim G st R) (hn : (st.N.map NmD.n).Nodup) (hs : ∀ x ∈ st.N, 1 ≤ x.n.size) (k : ByteArray) : Sim G (dkRem st k) (rRem R k) := by
  unfold dkRem rRem
  by_cases h1 : R.fail = 1
  · rw [s.onF1 k h1, if_pos h1]; exact s.op
  · rw [if_neg h1]
    cases h : rFind R.N k with
    | none => rw [s.onFn hn h1 h]; exact s.op
    | some i =>
      obtain ⟨hi, e⟩ := s.onFs hn h1 h
      rw [e]
      have hk := s.nonempty hs h
      refine s.op.chg (c := ⟨2, k, ⟨#[]⟩, none⟩) (rc := ⟨k, ⟨#[]⟩, i⟩) ?_ (.inl hk)
      have e1 : rTurn R.N ⟨k, ⟨#[]⟩, i⟩ = rWo R.N k := by unfold rTurn; rw [if_pos rfl, if_neg hk]
      show SimN G (rTurn R.N ⟨k, ⟨#[]⟩, i⟩) (delN st.N k)
      rw [e1]
      exact s.N.wo k
theorem Sim.ren (s : Sim G st R) (hn : (st.N.map NmD.n).Nodup) (hs : ∀ x ∈ st.N, 1 ≤ x.n.size) (k t : ByteArray) : dkRenE st k t = rRenE R k t ∧ Sim G (dkRen st k t) (rRen R k t) := by
  unfold dkRenE rRenE dkRen rRen
  by_cases h1 : R.fail = 1
  · rw [s.onF1 k h1, if_pos h1, if_pos h1]
    refine ⟨?_, s.op⟩
    unfold dkOnE
    rw [if_pos (by rw [s.fe]; exact h1)]
  · rw [if_neg h1, if_neg h1]
    cases h : rFind R.N k with
    | none =>
      rw [s.onFn hn h1 h]
      refine ⟨?_, s.op⟩
      unfold dkOnE
      rw [if_neg (by rw [s.fe]; exact h1), s.none_ hn h]; rfl
    | some i =>
      obtain ⟨hi, e⟩ := s.onFs hn h1 h
      rw [e]
      simp only
      refine ⟨trivial, ?_⟩
      have hk := s.nonempty hs h
      by_cases hm : 1 ≤ t.size ∧ t.size ≤ 16
      · by_cases hkt : k = t
        · rw [if_neg (fun h => h.2 hkt), if_pos hm, if_pos hkt]; exact s.op
        · rw [if_pos ⟨hm, hkt⟩, if_pos hm, if_neg hkt]
          have htn : t ≠ ⟨#[]⟩ := fun e => by rw [e] at hm; exact absurd hm.1 (by decide)
          refine s.op.chg (c := ⟨1, k, t, none⟩) (rc := ⟨k, t, i⟩) ?_ (.inl hk)
          have e1 : rTurn R.N ⟨k, t, i⟩ = rWi (rWo R.N k) t i := by unfold rTurn; rw [if_neg htn, if_neg hk]
          show SimN G (rTurn R.N ⟨k, t, i⟩) (delN (putN st.N t (getN st.N k)) k)
          rw [e1]
          obtain ⟨_, eg⟩ := s.some_ hn h
          have h2 := (s.N.wo k).wi t hi
          have e2 : putN (delN st.N k) t G[i]? = delN (putN st.N t (getN st.N k)) k := by
            rw [eg, List.getElem?_eq_getElem hi]
            unfold putN
            rw [delN_comm]
            show _ = List.filter _ (_ :: _)
            rw [List.filter_cons, if_pos (by simpa using fun e => hkt e.symm)]
            rfl
          rw [← e2]
          exact h2
      · rw [if_neg (fun h => hm h.1), if_neg hm]; exact s.op
theorem Sim.dir (s : Sim G st R) : dkBeg st = rBeg R ∧ Sim G (dkSyncDir st) (rDir R) := by
  unfold dkBeg rBeg dkSyncDir rDir
  rw [s.fe]
  refine ⟨rfl, ?_⟩
  by_cases h1 : R.fail = 1
  · rw [if_pos h1, if_pos h1]; exact s.op
  · rw [if_neg h1, if_neg h1]
    have o := s.op
    exact ⟨o.qe, o.oe, o.fe, o.nd, o.len, o.fil, rfl, fun j => by
      show SimN G (rAll R.N (([] : List RC).take j)) (dkAll st.N (([] : List DkCh).take j))
      rw [List.take_nil, List.take_nil]
      exact s.N, rfl, fun c hc => by cases hc⟩
theorem Sim.read (s : Sim G st R) (hn : (st.N.map NmD.n).Nodup) (k : ByteArray) : dkRead st k = rRead R k ∧ (getN st.N k).isSome = (rFind R.N k).isSome := by
  unfold dkRead rRead
  cases h : rFind R.N k with
  | none => rw [s.none_ hn h]; exact ⟨rfl, rfl⟩
  | some i =>
    obtain ⟨hi, e⟩ := s.some_ hn h
    rw [e]
    simp only
    rw [s.fil i hi]
    exact ⟨rfl, rfl⟩
theorem Sim.size (s : Sim G st R) : dkSz st = rSum R R.N := by
  unfold dkSz
  rw [← dkSum_perm s.N.p]
  unfold dkSum rSum
  rw [List.map_map]
  congr 1
  refine List.map_congr_left (fun x hx => ?_)
  have hi := s.N.f x hx
  show dkLen st (asN G x) = rLen R x
  unfold dkLen rLen asN
  simp only [List.getElem?_eq_getElem hi]
  rw [s.fil _ hi]
  rfl
end
end Go.Proofs.Ytmokcfmlolohaaa

end

section
/- The disk and the reference's disk: Append and Crash keep them alike. -/
set_option linter.unusedVariables false
set_option linter.unusedSimpArgs false
namespace Go.Proofs.Ytmokcfmlolohaaa
open Go.RowKit

def FAl (G : List Nat) (F : Nat → DkFc) (L : List DkFc) : Prop := G.length = L.length ∧ ∀ i (h : i < G.length), F G[i] = L.getD i ⟨[], 0⟩
theorem FAl.put {G : List Nat} {F : Nat → DkFc} {L : List DkFc} (nd : G.Nodup) (h : FAl G F L) {i : Nat} (hi : i < G.length) (v : DkFc) : FAl G (fPut F G[i] v) (L.set i v) := by
  refine ⟨by rw [List.length_set]; exact h.1, fun j hj => ?_⟩
  have hi2 : i < L.length := by rw [← h.1]; exact hi
  by_cases e : i = j
  · subst e
    rw [fPut_same]
    simp [hi2]
  · have hne : G[j] ≠ G[i] := by
      have hp := List.pairwise_iff_getElem.1 nd
      rcases (by omega : i < j ∨ j < i) with h1 | h1
      · exact fun h => hp i j hi hj h1 h.symm
      · exact fun h => hp j i hj hi h1 h
    rw [fPut_ne _ _ hne, h.2 j hj]
    simp [List.getElem?_set, e]
theorem FAl.crash {G : List Nat} (nd : G.Nodup) : ∀ (l : List RN) (ps : List Nat) (F : Nat → DkFc) (L : List DkFc), (∀ x ∈ l, x.f < G.length) → FAl G F L → FAl G (dkCrF (l.map (asN G)) ps F) (rCrF l ps L)
  | [], ps, F, L, _, h => h
  | x :: l, ps, F, L, hf, h => by
    have hi := hf x List.mem_cons_self
    rw [List.map_cons]
    refine FAl.crash nd l ps.tail _ _ (fun y hy => hf y (List.mem_cons_of_mem _ hy)) ?_
    have e : dkCr1 (asN G x) ps F = keepF F G[x.f] ((F G[x.f]).s + pick0 ps ((F G[x.f]).b.length - (F G[x.f]).s)) := by
      unfold dkCr1 asN
      simp only [List.getElem?_eq_getElem hi]
    rw [e]
    unfold keepF rCr1 keepR
    rw [h.2 _ hi]
    exact h.put nd hi _
section
variable {G : List Nat} {st : DkS} {R : RS}
theorem Sim.crash (s : Sim G st R) (ps : List Nat) : Sim G (dkCrash st ps) (rCrash R ps) := by
  have hp : SimN G (rCrS R ps) (dkCrS st ps) := by
    unfold rCrS dkCrS
    rw [s.cl]
    exact s.nm _
  have hF : FAl G (dkCrF (dkSort (dkCrS st ps)) ps.tail st.F) (rCrF (rCrS R ps) ps.tail R.F) := by
    rw [hp.sort]
    exact FAl.crash s.nd _ _ _ _ hp.f ⟨s.len, s.fil⟩
  exact ⟨s.qe, s.oe, rfl, s.nd, hF.1, hF.2, rfl, fun j => by
    show SimN G (rAll (rCrS R ps) (([] : List RC).take j)) (dkAll (dkCrS st ps) (([] : List DkCh).take j))
    rw [List.take_nil, List.take_nil]
    exact hp, rfl, fun c hc => by cases hc⟩
theorem Sim.nlen (s : Sim G st R) : st.N.length = R.N.length := by rw [← s.N.p.length_eq, List.length_map]
theorem Sim.room (s : Sim G st R) (hn : (st.N.map NmD.n).Nodup) (k : ByteArray) (n : Nat) : dkRoom st (getN st.N k) n = true ↔ ¬ rFull R (rFind R.N k) n := by
  unfold dkRoom rFull
  rw [s.size, s.qe, s.nlen]
  cases h : rFind R.N k with
  | none =>
    rw [s.none_ hn h]
    simp only [Bool.and_eq_true, decide_eq_true_eq, rWas]
    constructor
    · rintro ⟨h1, h2, h3⟩ (h4 | h4 | ⟨-, h4⟩) <;> omega
    · intro h4
      have a1 : ¬ (R.q - (rSum R R.N : Nat) < (n : Int)) := fun h => h4 (.inl h)
      have a2 : ¬ ((1048576 : Int) - ((0 : Nat) : Int) < (n : Int)) := fun h => h4 (.inr (.inl h))
      have a3 : ¬ (200 ≤ R.N.length) := fun h => h4 (.inr (.inr ⟨trivial, h⟩))
      omega
  | some i =>
    obtain ⟨hi, e⟩ := s.some_ hn h
    rw [e]
    simp only [Bool.and_eq_true, decide_eq_true_eq, rWas]
    rw [s.fil i hi]
    constructor
    · rintro ⟨h1, h2⟩ (h4 | h4 | ⟨h4, -⟩)
      · omega
      · omega
      · cases h4
    · intro h4
      have a1 : ¬ (R.q - (rSum R R.N : Nat) < (n : Int)) := fun h => h4 (.inl h)
      have a2 : ¬ ((1048576 : Int) - (((fcAt R i).b.length : Nat) : Int) < (n : Int)) := fun h => h4 (.inr (.inl h))
      omega
theorem Sim.appE (s : Sim G st R) (hn : (st.N.map NmD.n).Nodup) (k : ByteArray) (n : Nat) : dkAppE st k n = rAppE R k n := by
  unfold dkAppE rAppE
  rw [s.fe]
  by_cases h1 : R.fail = 1
  · rw [if_pos h1, if_pos h1]
  · rw [if_neg h1, if_neg h1]
    by_cases h2 : 1 ≤ k.size ∧ k.size ≤ 16
    · have h2' : ¬ ¬ (1 ≤ k.size ∧ k.size ≤ 16) := fun h => h h2
      rw [if_neg h2', if_neg h2']
      by_cases h3 : rFull R (rFind R.N k) n
      · rw [if_pos h3, if_neg (fun h => (s.room hn k n).1 h h3)]
      · rw [if_neg h3, if_pos ((s.room hn k n).2 h3)]
    · rw [if_pos h2, if_pos h2]
theorem Sim.app (s : Sim G st R) (hn : (st.N.map NmD.n).Nodup) (k : ByteArray) (xs : List Nat) {g : Nat} (hg : g ∉ G) :
    Sim G (dkAppS st k g xs) (rApp R k xs) ∨ (Sim (G ++ [g]) (dkAppS st k g xs) (rApp R k xs) ∧ getN (dkAppS st k g xs).N k = some g) := by
  have hE := s.appE hn k xs.length
  unfold dkAppS rApp
  by_cases h0 : rAppE R k xs.length = 0
  · rw [if_neg (by rw [hE]; exact fun h => h h0), if_neg (fun h => h h0)]
    have hkn : k ≠ ⟨#[]⟩ := by
      intro e
      unfold rAppE at h0
      split at h0
      · cases h0
      · split at h0
        · cases h0
        · rename_i h2
          exact h2 (fun h => by rw [e] at h; exact absurd h.1 (by decide))
    cases h : rFind R.N k with
    | some i =>
      obtain ⟨hi, e⟩ := s.some_ hn h
      rw [e]
      simp only
      rw [s.fil i hi]
      exact .inl (s.op.file hi _)
    | none =>
      rw [s.none_ hn h]
      refine .inr ⟨?_, ?_⟩
      · have s1 := s.op.new hg ⟨xs, 0⟩
        have hl : R.F.length < (G ++ [g]).length := by rw [List.length_append, s.len]; exact Nat.lt_succ_self _
        have e1 : rTurn R.N ⟨⟨#[]⟩, k, R.F.length⟩ = rWi R.N k R.F.length := by unfold rTurn; rw [if_neg hkn, if_pos rfl]
        refine s1.chg (c := ⟨0, k, ⟨#[]⟩, some g⟩) (rc := ⟨⟨#[]⟩, k, R.F.length⟩) ?_ (.inr hkn)
        show SimN (G ++ [g]) (rTurn R.N ⟨⟨#[]⟩, k, R.F.length⟩) (putN st.N k (some g))
        rw [e1]
        have h3 := s1.N.wi k hl
        have e2 : (G ++ [g])[R.F.length]? = some g := by rw [← s.len]; simp
        rw [e2] at h3
        exact h3
      · show getN (dkAll st.S (st.C ++ [⟨0, k, ⟨#[]⟩, some g⟩])) k = some g
        rw [dkAll_snoc]
        show getN (putN st.N k (some g)) k = some g
        rw [getN_put, if_pos rfl]
  · rw [if_pos (by rw [hE]; exact h0), if_pos h0]
    exact .inl s.op
end
theorem Sim.start (q : Int) : Sim [] (dkNew q) (rNew q) where
  qe := by show min (max q 0) 67108864 = max 0 (min q 67108864); omega
  oe := rfl
  fe := rfl
  nd := List.nodup_nil
  len := rfl
  fil := fun i h => by cases h
  cl := rfl
  nm := fun j => by
    show SimN [] (rAll [] (([] : List RC).take j)) (dkAll [] (([] : List DkCh).take j))
    rw [List.take_nil, List.take_nil]
    exact ⟨List.Pairwise.nil, (fun x hx => by cases hx), List.Perm.refl _⟩
  now := rfl
  ce := fun c hc => by cases hc
end Go.Proofs.Ytmokcfmlolohaaa

end

section
/- The disk and the reference's disk, side by side in memory. -/
set_option linter.unusedVariables false
set_option linter.unusedSimpArgs false
namespace Go.Proofs.Ytmokcfmlolohaaa
open Go.RowKit

/-- A file of the reference's: the disk has it, or it has lost it (its copy has not). -/
def TgOk (w : World) (T : Nat → DkTg) (F : Nat → DkFc) (g : Nat) : Prop := T g = .fb ∨ (T g = .out ∧ g < w.heap.size ∧ (F g).b.length ≤ 1048576 ∧ (F g).s ≤ (F g).b.length)
structure Both (w0 w : World) (d m : Nat) (h : DkH) (hR : RH) (st : DkS) (R : RS) (G : List Nat) : Prop where
  n : DkN w0 w d h st
  x : RM w m hR R
  mw : w0.heap.size ≤ m
  ap : ∀ k, k = m ∨ footR hR k → ¬ footK h k
  s : Sim G st R
  tg : ∀ g ∈ G, TgOk w h.T st.F g
  cx : ∀ c ∈ st.C, c.k = 0 ∨ c.f = none
section
variable {w0 w w' : World} {d m : Nat} {h : DkH} {hR : RH} {st st' : DkS} {R R' : RS} {G : List Nat}
theorem Both.lt (b : Both w0 w d m h hR st R G) : ∀ k, k = m ∨ footR hR k → k < w.heap.size := by
  intro k hk
  rcases hk with rfl | hk
  · exact heap_lt b.x.head
  · exact (b.x.foot k hk).2
theorem Both.nd (b : Both w0 w d m h hR st R G) : (st.N.map NmD.n).Nodup := b.n.m.goodN.nd
theorem Both.ne (b : Both w0 w d m h hR st R G) : ∀ x ∈ st.N, 1 ≤ x.n.size := fun x hx => (b.n.m.goodN.ref x hx).1
/-- The reference's disk is good. -/
theorem Both.rv (b : Both w0 w d m h hR st R G) (hG : G.length ≤ 100000) (hC : st.C.length ≤ 100000) : RV R where
  nf := fun x hx => by rw [← b.s.len]; exact b.s.N.f x hx
  bl := fun f hf => by
    obtain ⟨i, hi, rfl⟩ := List.getElem_of_mem hf
    have hi2 : i < G.length := by rw [b.s.len]; exact hi
    have e := b.s.fil i hi2
    rw [fcAt_get hi] at e
    rcases b.tg _ (List.getElem_mem hi2) with hf | ⟨-, -, h1, h2⟩
    · have hf := b.n.m.files _ hf
      rw [e] at hf
      exact ⟨hf.len, hf.sure⟩
    · rw [e] at h1 h2
      exact ⟨h1, h2⟩
  nl := by rw [← b.s.nlen]; have := b.n.m.goodN.len; omega
  sl := by
    have h0 := b.s.nm 0
    rw [List.take_zero, List.take_zero] at h0
    have h1 := h0.p.length_eq
    have h2 := b.n.m.goodS.len
    rw [List.length_map] at h1
    have h1 : R.S.length = st.S.length := h1
    omega
  fl := by rw [← b.s.len]; exact hG
  cl := by rw [← b.s.cl]; exact hC
  fail := by rw [← b.s.fe]; exact b.n.m.fails
/-- A call of the disk's; then both are there, not yet alike. -/
theorem Both.left (b : Both w0 w d m h hR st R G) (t : DkTo w0 w w' d h st') : ∃ h', DkN w0 w' d h' st' ∧ RM w' m hR R ∧ (∀ k, k = m ∨ footR hR k → ¬ footK h' k) ∧ (∀ k, h.T k = .fb → h'.T k = .fb) ∧ (∀ k, footK h' k → footK h k ∨ w.heap.size ≤ k) ∧ w.heap.size ≤ w'.heap.size := by
  obtain ⟨h', n', mo, ne, t'⟩ := t
  refine ⟨h', n', b.x.touch t' (b.ap m (.inl rfl)) (fun k hk => b.ap k (.inr hk)), fun k hk hf => ?_, mo, ne, t'.size⟩
  rcases ne k hf with h1 | h1
  · exact b.ap k hk h1
  · have := b.lt k hk
    omega
/-- A call of the reference's behind it: both are alike again. -/
theorem both_right {h' : DkH} {G' : List Nat} (n : DkN w0 w d h' st') (x : RM w m hR R) (mw : w0.heap.size ≤ m) (ap : ∀ k, k = m ∨ footR hR k → ¬ footK h' k) (t : RT w w' m hR R') (s : Sim G' st' R') (tg : ∀ g ∈ G', TgOk w h'.T st'.F g) (cx : ∀ c ∈ st'.C, c.k = 0 ∨ c.f = none) : ∃ hR', Both w0 w' d m h' hR' st' R' G' := by
  obtain ⟨hR', x', t', ne⟩ := t
  have hm : ¬ footK h' m := ap m (.inl rfl)
  refine ⟨hR', ⟨n.m.touch t' (fun k hk e => by have e : k = m := e; exact hm (e ▸ hk)), n.t.trans t' (fun k hk e => by have e : k = m := e; omega), n.f⟩, x', mw, fun k hk hf => ?_, s, fun g hg => (tg g hg).imp (fun h => h) (fun h => ⟨h.1, Nat.lt_of_lt_of_le h.2.1 t'.size, h.2.2⟩), cx⟩
  rcases hk with rfl | hk
  · exact hm hf
  · rcases ne k hk with h1 | h1
    · exact ap k (.inr h1) hf
    · have := n.m.lt k hf
      omega
theorem Both.still (b : Both w0 w d m h hR st R G) (t : Touch w w' (fun _ => False)) : Both w0 w' d m h hR st R G := ⟨b.n.still t, b.x.still t, b.mw, b.ap, b.s, fun g hg => (b.tg g hg).imp (fun h => h) (fun h => ⟨h.1, Nat.lt_of_lt_of_le h.2.1 t.size, h.2.2⟩), b.cx⟩
end
/-- Two new disks are alike. -/
theorem both_new {w0 w1 w2 : World} {d : Nat} {h : DkH} {q : Int} (n : DkN w0 w1 d h (dkNew q)) (x : RM w2 w1.heap.size rH0 (rNew q)) (t : Touch w1 w2 (fun _ => False)) : Both w0 w2 d w1.heap.size h rH0 (dkNew q) (rNew q) [] :=
  ⟨n.still t, x, n.t.size, fun k hk hf => by
    rcases hk with rfl | hk
    · exact Nat.lt_irrefl _ (n.m.lt _ hf)
    · exact foot0 k hk, Sim.start q, (fun g hg => by cases hg), (fun c hc => by cases hc)⟩
end Go.Proofs.Ytmokcfmlolohaaa

end

section
/- Both disks take a call. -/
set_option linter.unusedVariables false
set_option linter.unusedSimpArgs false
namespace Go.Proofs.Ytmokcfmlolohaaa
open Go.RowKit

/-- Both are there behind a call, alike. -/
def Res (w0 w' : World) (d m : Nat) (g c : Nat) : Prop := ∃ h' hR' st' R' G', Both w0 w' d m h' hR' st' R' G' ∧ G'.length ≤ g + 1 ∧ st'.C.length ≤ c + 1
section
variable {w0 w w2 w3 : World} {d m : Nat} {h : DkH} {hR : RH} {st st' : DkS} {R R' : RS} {G : List Nat}
theorem RT.touch (t : RT w w2 m hR R') : Touch w w2 (fun k => k = m) := by
  obtain ⟨_, _, t, _⟩ := t
  exact t
theorem DkTo.touch (t : DkTo w0 w w2 d h st') : Touch w w2 (footK h) := by
  obtain ⟨_, _, _, _, t⟩ := t
  exact t
/-- Files change only if they have a name, or had one at some time since the names were sure. -/
def FrOk (st st' : DkS) : Prop := ∀ g, st'.F g = st.F g ∨ (∃ j, j ≤ st.C.length ∧ ∃ x ∈ dkAll st.S (st.C.take j), x.f = some g) ∨ ∃ x ∈ st'.N, x.f = some g
theorem FrOk.same (e : st'.F = st.F) : FrOk st st' := fun g => .inl (by rw [e])
theorem FrOk.put {g : Nat} {f : DkFc} {k : ByteArray} (hg : getN st.N k = some g) (e : st'.F = fPut st.F g f) : FrOk st st' := fun x => by
  by_cases hx : x = g
  · subst hx
    exact .inr (.inl ⟨st.C.length, Nat.le_refl _, _, by rw [List.take_length]; exact getN_mem hg, rfl⟩)
  · exact .inl (by rw [e]; unfold fPut; rw [if_neg hx])
theorem tg_step (b : Both w0 w d m h hR st R G) {h' : DkH} (n' : DkN w0 w2 d h' st') (mo : ∀ k, h.T k = .fb → h'.T k = .fb) (ne : ∀ k, footK h' k → footK h k ∨ w.heap.size ≤ k) (hz : w.heap.size ≤ w2.heap.size) (fr : FrOk st st') : ∀ g ∈ G, TgOk w2 h'.T st'.F g := by
  intro g hg
  rcases b.tg g hg with h1 | ⟨h1, h2, h3⟩
  · exact .inl (mo g h1)
  · have ho : h'.T g = .out := by
      cases hT : h'.T g with
      | out => rfl
      | _ => rcases ne g (by unfold footK; rw [hT]; simp) with h4 | h4
             · exact absurd h1 h4
             · omega
    have e : st'.F g = st.F g := by
      rcases fr g with e | ⟨j, hj, x, hx, e⟩ | ⟨x, hx, e⟩
      · exact e
      · obtain ⟨_, _, g', e1, e2⟩ := (b.n.m.good j hj).ref x hx
        rw [e] at e1; cases e1
        rw [h1] at e2; cases e2
      · obtain ⟨_, _, g', e1, e2⟩ := n'.m.goodN.ref x hx
        rw [e] at e1; cases e1
        rw [ho] at e2; cases e2
    exact .inr ⟨ho, by omega, by rw [e]; exact h3⟩
theorem both_step (b : Both w0 w d m h hR st R G) (hto : DkTo w0 w w2 d h st') (rt : RT w2 w3 m hR R') (s : Sim G st' R') (hc : st'.C.length ≤ st.C.length + 1) (fr : FrOk st st') (cx : ∀ c ∈ st'.C, c.k = 0 ∨ c.f = none) : Res w0 w3 d m G.length st.C.length := by
  obtain ⟨h', n', x', ap', mo, ne, hz⟩ := b.left hto
  obtain ⟨hR', b'⟩ := both_right n' x' b.mw ap' rt s (tg_step b n' mo ne hz fr) cx
  exact ⟨_, _, _, _, _, b', Nat.le_succ _, hc⟩
theorem snoc_cx {C : List DkCh} {c : DkCh} (h : ∀ x ∈ C, x.k = 0 ∨ x.f = none) (hc : c.k = 0 ∨ c.f = none) : ∀ x ∈ C ++ [c], x.k = 0 ∨ x.f = none := fun x hx => by
  rcases List.mem_append.1 hx with h1 | h1
  · exact h x h1
  · rw [List.mem_singleton.1 h1]; exact hc
theorem app_fr (st : DkS) (k : ByteArray) (g : Nat) (xs : List Nat) : FrOk st (dkAppS st k g xs) := by
  unfold dkAppS
  split
  · exact .same rfl
  · cases hg : getN st.N k with
    | some f => exact .put hg rfl
    | none =>
      intro x
      by_cases hx : x = g
      · subst hx
        refine .inr (.inr ⟨⟨k, some x⟩, ?_, rfl⟩)
        show _ ∈ dkAll st.S (st.C ++ [⟨0, k, ⟨#[]⟩, some x⟩])
        rw [dkAll_snoc]
        show _ ∈ putN _ _ _
        exact List.mem_cons_self
      · exact .inl (by show fPut st.F g _ x = _; unfold fPut; rw [if_neg hx])
theorem app_cx (b : ∀ c ∈ st.C, c.k = 0 ∨ c.f = none) (k : ByteArray) (g : Nat) (xs : List Nat) : ∀ c ∈ (dkAppS st k g xs).C, c.k = 0 ∨ c.f = none := by
  unfold dkAppS
  split
  · exact b
  · split
    · exact snoc_cx b (.inl rfl)
    · exact b
theorem above : ∀ G : List Nat, ∃ n, ∀ x ∈ G, x < n
  | [] => ⟨0, fun x hx => by cases hx⟩
  | y :: G => by
    obtain ⟨n, hn⟩ := above G
    refine ⟨n + y + 1, fun x hx => ?_⟩
    rcases List.mem_cons.1 hx with e | h
    · omega
    · have := hn x h; omega
theorem both_app (b : Both w0 w d m h hR st R G) {k : ByteArray} {g : Nat} {xs : List Nat} (hg : h.T g = .out) (hto : DkTo w0 w w2 d h (dkAppS st k g xs)) (rt : RT w2 w3 m hR (rApp R k xs)) : Res w0 w3 d m G.length st.C.length := by
  have hc : (dkAppS st k g xs).C.length ≤ st.C.length + 1 := by
    unfold dkAppS
    split
    · exact Nat.le_succ _
    · split
      · show (st.C ++ [_]).length ≤ _
        rw [List.length_append]; exact Nat.le_refl _
      · exact Nat.le_succ _
  by_cases hgG : g ∈ G
  · -- then no file was made, and g is of no use
    have hlt : g < w.heap.size := by
      rcases b.tg g hgG with h1 | h1
      · rw [hg] at h1; cases h1
      · exact h1.2.1
    obtain ⟨g2, hg2⟩ := above G
    have hne : g2 ∉ G := fun hm => Nat.lt_irrefl _ (hg2 g2 hm)
    obtain ⟨h', n', x', ap', mo, ne, hz⟩ := b.left hto
    have eS : dkAppS st k g2 xs = dkAppS st k g xs := by
      unfold dkAppS
      split
      · rfl
      · rename_i he
        cases hf : getN st.N k with
        | some f => rfl
        | none =>
          have hx : (⟨k, some g⟩ : NmD) ∈ (dkAppS st k g xs).N := by
            unfold dkAppS
            rw [if_neg he, hf]
            show _ ∈ dkAll st.S (st.C ++ [⟨0, k, ⟨#[]⟩, some g⟩])
            rw [dkAll_snoc]
            show _ ∈ putN _ _ _
            exact List.mem_cons_self
          obtain ⟨_, _, g', e1, e2⟩ := n'.m.goodN.ref _ hx
          cases e1
          rcases ne g (by unfold footK; rw [e2]; simp) with h4 | h4
          · exact absurd hg h4
          · omega
    rcases b.s.app b.nd k xs hne with s | ⟨s, e⟩
    · rw [eS] at s
      exact both_step b hto rt s hc (app_fr _ _ _ _) (app_cx b.cx _ _ _)
    · rw [eS] at e
      have hx := n'.m.get e
      have hlt2 := n'.m.lt g2 (by rw [hx]; simp)
      rw [eS] at s
      obtain ⟨hR', b'⟩ := both_right n' x' b.mw ap' rt s (fun y hy => by
        rcases List.mem_append.1 hy with h1 | h1
        · exact tg_step b n' mo ne hz (app_fr _ _ _ _) y h1
        · rw [List.mem_singleton.1 h1]; exact .inl hx) (app_cx b.cx _ _ _)
      exact ⟨_, _, _, _, _, b', by rw [List.length_append]; exact Nat.le_refl _, hc⟩
  · rcases b.s.app b.nd k xs hgG with s | ⟨s, e⟩
    · exact both_step b hto rt s hc (app_fr _ _ _ _) (app_cx b.cx _ _ _)
    · obtain ⟨h', n', x', ap', mo, ne, hz⟩ := b.left hto
      obtain ⟨hR', b'⟩ := both_right n' x' b.mw ap' rt s (fun y hy => by
        rcases List.mem_append.1 hy with h1 | h1
        · exact tg_step b n' mo ne hz (app_fr _ _ _ _) y h1
        · rw [List.mem_singleton.1 h1]
          exact .inl (n'.m.get e)) (app_cx b.cx _ _ _)
      exact ⟨_, _, _, _, _, b', by rw [List.length_append]; exact Nat.le_refl _, hc⟩
theorem onF_get {k : ByteArray} {g : Nat} (h : dkOnF st k = some g) : getN st.N k = some g := by
  unfold dkOnF at h
  split at h
  · cases h
  · exact h
theorem sync_fr (st : DkS) (k : ByteArray) : FrOk st (dkSync st k) := by
  unfold dkSync
  cases h : dkOnF st k with
  | none => exact .same rfl
  | some g => exact .put (onF_get h) rfl
theorem cut_fr (st : DkS) (k : ByteArray) (n : Int) : FrOk st (dkCut st k n) := by
  unfold dkCut
  cases h : dkOnF st k with
  | none => exact .same rfl
  | some g =>
    simp only
    split
    · exact .same rfl
    · exact .put (onF_get h) rfl
theorem rem_fr (st : DkS) (k : ByteArray) : FrOk st (dkRem st k) := by
  unfold dkRem
  split <;> exact .same rfl
theorem ren_fr (st : DkS) (k t : ByteArray) : FrOk st (dkRen st k t) := by
  unfold dkRen
  split
  · exact .same rfl
  · split <;> exact .same rfl
theorem dir_fr (st : DkS) : FrOk st (dkSyncDir st) := by
  unfold dkSyncDir
  split <;> exact .same rfl
theorem dkCrF_same {g : Nat} : ∀ (L : List NmD) (ps : List Nat) (F : Nat → DkFc), (∀ x ∈ L, x.f ≠ some g) → dkCrF L ps F g = F g
  | [], _, _, _ => rfl
  | x :: L, ps, F, h => by
    rw [dkCrF, dkCrF_same L _ _ (fun y hy => h y (List.mem_cons_of_mem _ hy))]
    have hx := h x List.mem_cons_self
    unfold dkCr1
    cases e : x.f with
    | none => rfl
    | some g' =>
      simp only
      unfold keepF fPut
      rw [if_neg (fun e2 => hx (by rw [e, e2]))]
theorem crash_fr (st : DkS) (ps : List Nat) : FrOk st (dkCrash st ps) := fun g => by
  by_cases h : ∃ x ∈ dkCrS st ps, x.f = some g
  · exact .inr (.inl ⟨_, pick0_le ps st.C.length, h⟩)
  · refine .inl (dkCrF_same _ _ _ (fun x hx e => h ⟨x, (dkSort_perm _).mem_iff.1 hx, e⟩))
theorem sync_cx (b : ∀ c ∈ st.C, c.k = 0 ∨ c.f = none) (k : ByteArray) : ∀ c ∈ (dkSync st k).C, c.k = 0 ∨ c.f = none := by
  unfold dkSync
  split <;> exact b
theorem cut_cx (b : ∀ c ∈ st.C, c.k = 0 ∨ c.f = none) (k : ByteArray) (n : Int) : ∀ c ∈ (dkCut st k n).C, c.k = 0 ∨ c.f = none := by
  unfold dkCut
  split
  · exact b
  · split <;> exact b
theorem rem_cx (b : ∀ c ∈ st.C, c.k = 0 ∨ c.f = none) (k : ByteArray) : ∀ c ∈ (dkRem st k).C, c.k = 0 ∨ c.f = none := by
  unfold dkRem
  split
  · exact b
  · exact snoc_cx b (.inr rfl)
theorem ren_cx (b : ∀ c ∈ st.C, c.k = 0 ∨ c.f = none) (k t : ByteArray) : ∀ c ∈ (dkRen st k t).C, c.k = 0 ∨ c.f = none := by
  unfold dkRen
  split
  · exact b
  · split
    · exact snoc_cx b (.inr rfl)
    · exact b
theorem dir_cx (b : ∀ c ∈ st.C, c.k = 0 ∨ c.f = none) : ∀ c ∈ (dkSyncDir st).C, c.k = 0 ∨ c.f = none := by
  unfold dkSyncDir
  split
  · exact b
  · exact fun c hc => by cases hc
theorem dkOn_C1 (st : DkS) (k : ByteArray) : (dkSync st k).C.length ≤ st.C.length + 1 := by
  unfold dkSync
  split <;> exact Nat.le_succ _
theorem dkCut_C1 (st : DkS) (k : ByteArray) (n : Int) : (dkCut st k n).C.length ≤ st.C.length + 1 := by
  unfold dkCut
  split
  · exact Nat.le_succ _
  · split <;> exact Nat.le_succ _
theorem dkRem_C1 (st : DkS) (k : ByteArray) : (dkRem st k).C.length ≤ st.C.length + 1 := by
  unfold dkRem
  split
  · exact Nat.le_succ _
  · show (st.C ++ [_]).length ≤ _
    rw [List.length_append]; exact Nat.le_refl _
theorem dkRen_C1 (st : DkS) (k t : ByteArray) : (dkRen st k t).C.length ≤ st.C.length + 1 := by
  unfold dkRen
  split
  · exact Nat.le_succ _
  · split
    · show (st.C ++ [_]).length ≤ _
      rw [List.length_append]; exact Nat.le_refl _
    · exact Nat.le_succ _
theorem dkDir_C1 (st : DkS) : (dkSyncDir st).C.length ≤ st.C.length + 1 := by
  unfold dkSyncDir
  split
  · exact Nat.le_succ _
  · exact Nat.zero_le _
theorem both_sync (b : Both w0 w d m h hR st R G) {k : ByteArray} (hto : DkTo w0 w w2 d h (dkSync st k)) (rt : RT w2 w3 m hR (rSync R k)) : Res w0 w3 d m G.length st.C.length := both_step b hto rt (b.s.sync b.nd k) (dkOn_C1 st k) (sync_fr st k) (sync_cx b.cx k)
theorem both_cut (b : Both w0 w d m h hR st R G) {k : ByteArray} {n : Int} (hto : DkTo w0 w w2 d h (dkCut st k n)) (rt : RT w2 w3 m hR (rCut R k n)) : Res w0 w3 d m G.length st.C.length := both_step b hto rt (b.s.cut b.nd k n).2 (dkCut_C1 st k n) (cut_fr st k n) (cut_cx b.cx k n)
theorem both_rem (b : Both w0 w d m h hR st R G) {k : ByteArray} (hto : DkTo w0 w w2 d h (dkRem st k)) (rt : RT w2 w3 m hR (rRem R k)) : Res w0 w3 d m G.length st.C.length := both_step b hto rt (b.s.rem b.nd b.ne k) (dkRem_C1 st k) (rem_fr st k) (rem_cx b.cx k)
theorem both_ren (b : Both w0 w d m h hR st R G) {k t : ByteArray} (hto : DkTo w0 w w2 d h (dkRen st k t)) (rt : RT w2 w3 m hR (rRen R k t)) : Res w0 w3 d m G.length st.C.length := both_step b hto rt (b.s.ren b.nd b.ne k t).2 (dkRen_C1 st k t) (ren_fr st k t) (ren_cx b.cx k t)
theorem both_dir (b : Both w0 w d m h hR st R G) (hto : DkTo w0 w w2 d h (dkSyncDir st)) (rt : RT w2 w3 m hR (rDir R)) : Res w0 w3 d m G.length st.C.length := both_step b hto rt b.s.dir.2 (dkDir_C1 st) (dir_fr st) (dir_cx b.cx)
theorem both_fail (b : Both w0 w d m h hR st R G) {n : Int} (hto : DkTo w0 w w2 d h { st with fail := max n 0 }) (rt : RT w2 w3 m hR { R with fail := max 0 n }) : Res w0 w3 d m G.length st.C.length := both_step b hto rt (b.s.fails n) (Nat.le_succ _) (.same rfl) b.cx
theorem both_crash (b : Both w0 w d m h hR st R G) {ps : List Nat} (hto : DkTo w0 w w2 d h (dkCrash st ps)) (rt : RT w2 w3 m hR (rCrash R ps)) : Res w0 w3 d m G.length st.C.length := both_step b hto rt (b.s.crash ps) (Nat.zero_le _) (crash_fr st ps) (fun c hc => by cases hc)
end
end Go.Proofs.Ytmokcfmlolohaaa

end

section
/- goitlaw3.do: both disks take a call, and answer alike. -/
set_option linter.unusedVariables false
set_option linter.unusedSimpArgs false
namespace Go.Proofs.Ytmokcfmlolohaaa
open Go.RowKit

theorem enterX_app (a b c : Value) (w : World) : (callFunc 23 #[a, b, c]).run Try.prog w = .ok (.enter 23 #[a, b, c]) w := by kernel_rfl
theorem enterX_rapp (a b c : Value) (w : World) : (callFunc 36 #[a, b, c]).run Try.prog w = .ok (.enter 36 #[a, b, c]) w := by kernel_rfl
theorem enterX_sync (a b : Value) (w : World) : (callFunc 24 #[a, b]).run Try.prog w = .ok (.enter 24 #[a, b]) w := by kernel_rfl
theorem enterX_rsync (a b : Value) (w : World) : (callFunc 37 #[a, b]).run Try.prog w = .ok (.enter 37 #[a, b]) w := by kernel_rfl
theorem enterX_ren (a b c : Value) (w : World) : (callFunc 26 #[a, b, c]).run Try.prog w = .ok (.enter 26 #[a, b, c]) w := by kernel_rfl
theorem enterX_rren (a b c : Value) (w : World) : (callFunc 39 #[a, b, c]).run Try.prog w = .ok (.enter 39 #[a, b, c]) w := by kernel_rfl
theorem enterX_rem (a b : Value) (w : World) : (callFunc 27 #[a, b]).run Try.prog w = .ok (.enter 27 #[a, b]) w := by kernel_rfl
theorem enterX_rrem (a b : Value) (w : World) : (callFunc 40 #[a, b]).run Try.prog w = .ok (.enter 40 #[a, b]) w := by kernel_rfl
theorem enterX_cut (a b c : Value) (w : World) : (callFunc 28 #[a, b, c]).run Try.prog w = .ok (.enter 28 #[a, b, c]) w := by kernel_rfl
theorem enterX_rcut (a b c : Value) (w : World) : (callFunc 41 #[a, b, c]).run Try.prog w = .ok (.enter 41 #[a, b, c]) w := by kernel_rfl
theorem eqE_same (a b : Int) (h : a = b) (x y : Operand) (W : World) :
    (do eqGuard BinOp.eql 42 x y (.int .i64 a) (.int .i64 b); binOp BinOp.eql 42 (.int .i64 a) (.int .i64 b) : Sem Value).run Try.prog W = .ok (.bool true) W := by
  subst h
  go_simp
theorem rfail_to (w : World) (m : Nat) (h : RH) (R : RS) (x : RM w m h R) (n : Int) :
    Calls Try.prog 42 #[.pointer (some ⟨m, 0, none⟩), .int .i64 n] w fun e w' => e = .returned (.tuple #[]) ∧ RT w w' m h { R with fail := max 0 n } :=
  (rfail_any w m h R x n).mono fun e w' h => ⟨h.1, h.2.1.same h.2.2⟩
set_option maxRecDepth 20000 in
set_option maxHeartbeats 16000000 in
theorem rdo_any (w0 w : World) (d m : Nat) (h : DkH) (hR : RH) (st : DkS) (R : RS) (G : List Nat) (b : Both w0 w d m h hR st R G) (hG : G.length ≤ 50000) (hC : st.C.length ≤ 50000) (c : CallK) (a : Option Addr) (l cp : Nat) (xs : List Nat) (hok : CallKOk c) (hl : l ≤ 3000) (hr : RowB w0 a l cp xs) :
    Calls Try.prog 16 #[.pointer (some ⟨d, 0, none⟩), .pointer (some ⟨m, 0, none⟩), .agg (c.agg a l cp)] w fun e w' => e = .returned (.bool true) ∧ Res w0 w' d m G.length st.C.length ∧ Touch w w' (fun k => footK h k ∨ k = m) := by
  obtain ⟨q0, jj, nm, tn⟩ := c
  unfold CallK.agg
  simp only
  obtain ⟨W1, hW1⟩ : ∃ W, w.alloc (.cells #[.int .i64 q0, .int .i64 jj, .string nm, .string tn, .slice a l cp] 31) = W := ⟨_, rfl⟩
  have t1 : Touch w W1 (fun _ => False) := hW1 ▸ (Touch.refl w _).alloc _
  have g1 : W1.heap[w.heap.size]? = some (.cells #[.int .i64 q0, .int .i64 jj, .string nm, .string tn, .slice a l cp] 31 (0, 0)) := hW1 ▸ heap_alloc_new ..
  have hfB : ¬ (footK h w.heap.size ∨ w.heap.size = m) := by
    rintro (h1 | h1)
    · exact Nat.lt_irrefl _ (b.n.m.lt _ h1)
    · have := b.lt m (.inl rfl); omega
  have HT1 : RowKit.Hid (Touch w W1 (fun k => footK h k ∨ k = m)) := Lib.hid (t1.mono (fun _ _ h => h.elim))
  have HBP := Lib.hid (b.still t1)
  have HB := Lib.hid ((b.still t1).still ((Touch.refl W1 (fun _ => False)).drew))
  have HCX : RowKit.Hid (∀ w', Touch W1 w' (fun k => footK h k ∨ k = m) → w'.cell? ⟨w.heap.size, 1, none⟩ = some (.int .i64 jj) ∧ w'.cell? ⟨w.heap.size, 2, none⟩ = some (.string nm) ∧ w'.cell? ⟨w.heap.size, 3, none⟩ = some (.string tn) ∧ w'.cell? ⟨w.heap.size, 4, none⟩ = some (.slice a l cp)) := Lib.hid (fun w' t => ⟨cell_of_cells (t.keeps g1 hfB) 1, cell_of_cells (t.keeps g1 hfB) 2, cell_of_cells (t.keeps g1 hfB) 3, cell_of_cells (t.keeps g1 hfB) 4⟩)
  have y0 : W1.cell? ⟨w.heap.size, 0, none⟩ = some (.int .i64 q0) := cell_of_cells g1 0
  have y1 : W1.cell? ⟨w.heap.size, 1, none⟩ = some (.int .i64 jj) := cell_of_cells g1 1
  have y2 : W1.cell? ⟨w.heap.size, 2, none⟩ = some (.string nm) := cell_of_cells g1 2
  have y3 : W1.cell? ⟨w.heap.size, 3, none⟩ = some (.string tn) := cell_of_cells g1 3
  have y4 : W1.cell? ⟨w.heap.size, 4, none⟩ = some (.slice a l cp) := cell_of_cells g1 4
  have HV := Lib.hid (b.rv (by omega) (by omega))
  have HQ : RowKit.Hid (0 ≤ R.q ∧ R.q ≤ 67108864) := Lib.hid (by rw [← b.s.qe]; exact b.n.m.quota)
  have HKN : RowKit.Hid (szN nm) := Lib.hid hok.name
  have HTN : RowKit.Hid (szN tn) := Lib.hid hok.tn
  have HRW := Lib.hid hr
  have HXL : RowKit.Hid (xs.length = l) := Lib.hid hr.1
  have HOF : RowKit.Hid (∀ z, a = some z → l = 0 ∨ z.block ≠ m) := Lib.hid (fun z hz => (hr.lt z hz).imp (fun h => h) (fun h e => by have := b.mw; omega))
  have HL1 : RowKit.Hid (l ≤ 1000000) := Lib.hid (by omega)
  have HCB : RowKit.Hid (st.C.length ≤ 100000) := Lib.hid (by omega)
  have HRE : RowKit.Hid (rFind R.N nm ≠ none → nm ≠ ⟨#[]⟩) := Lib.hid (fun h => by
    cases e : rFind R.N nm with
    | none => exact absurd e h
    | some i => exact b.s.nonempty b.ne e)
  have HJJ : RowKit.Hid (jj ≤ 9223372036854775807) := Lib.hid hok.n.2
  have HCE := Lib.hid b.s.ce
  have HSL : RowKit.Hid (∀ j, (rAll R.S (R.C.take j)).length ≤ 100000) := Lib.hid (fun j => by
    have h1 := (b.s.nm j).p.length_eq
    rw [List.length_map] at h1
    rw [h1]
    by_cases hj : j ≤ st.C.length
    · have := (b.n.m.good j hj).len; omega
    · rw [List.take_of_length_le (by omega)]
      have := b.n.m.goodN.len
      show st.N.length ≤ _
      omega)
  have HNF : RowKit.Hid (∀ x ∈ rCrS R xs, x.f < R.F.length) := Lib.hid (fun x hx => by rw [← b.s.len]; exact (b.s.nm _).f x hx)
  clear b hok hr t1 g1 hfB hG hC
  by_cases h0 : q0 = 0
  · subst h0
    have HEQ : RowKit.Hid (dkAppE st nm xs.length = rAppE R nm l) := Lib.hid (by rw [← HXL.out]; exact HB.out.s.appE HB.out.nd nm xs.length)
    go_enter Try.func16, Try.ntmps16
    go_upto_region 5 with (fail)
    try rw [hW1]
    have hS := (Touch.refl W1 (fun k => footK h k ∨ k = m)).drew
    refine wp_region_sched (fun w' => Touch W1 w' (fun k => footK h k ∨ k = m)) [(0, true), (1, true), (2, true), (3, true), (4, true), (6, true), (7, true), (8, true), (9, true), (10, true), (5, false), (11, false), (12, true), (13, true)] (by kernel_rfl) (by kernel_rfl) rfl (by kernel_rfl) hS ?_
    (refine walkS_take (v := ?_) (some 19) rfl rfl (fun _ _ _ h => h) (by rfl) ?_ ?_; rotate_left; (focus (intro w' hw'; obtain ⟨k1, k2, k3, k4⟩ := HCX.out w' hw'; go_simp; (try with_reducible rfl))); (try simp only [Act.put, List.setIfInBounds_toArray, List.set_cons_zero, List.set_cons_succ]))
    (refine walkS_take (v := ?_) (some 20) rfl rfl (fun _ _ _ h => h) (by rfl) ?_ ?_; rotate_left; (focus (intro w' hw'; obtain ⟨k1, k2, k3, k4⟩ := HCX.out w' hw'; go_simp; (try with_reducible rfl))); (try simp only [Act.put, List.setIfInBounds_toArray, List.set_cons_zero, List.set_cons_succ]))
    (refine walkS_take (v := ?_) (some 21) rfl rfl (fun _ _ _ h => h) (by rfl) ?_ ?_; rotate_left; (focus (intro w' hw'; obtain ⟨k1, k2, k3, k4⟩ := HCX.out w' hw'; go_simp; (try with_reducible rfl))); (try simp only [Act.put, List.setIfInBounds_toArray, List.set_cons_zero, List.set_cons_succ]))
    (refine walkS_take (v := ?_) (some 22) rfl rfl (fun _ _ _ h => h) (by rfl) ?_ ?_; rotate_left; (focus (intro w' hw'; obtain ⟨k1, k2, k3, k4⟩ := HCX.out w' hw'; go_simp; (try with_reducible rfl))); (try simp only [Act.put, List.setIfInBounds_toArray, List.set_cons_zero, List.set_cons_succ]))
    (refine walkS_take (v := ?_) (some 23) rfl rfl (fun _ _ _ h => h) (by rfl) ?_ ?_; rotate_left; (focus (intro w' hw'; obtain ⟨k1, k2, k3, k4⟩ := HCX.out w' hw'; go_simp; (try with_reducible rfl))); (try simp only [Act.put, List.setIfInBounds_toArray, List.set_cons_zero, List.set_cons_succ]))
    (refine walkS_take (v := ?_) (some 25) rfl rfl (fun _ _ _ h => h) (by rfl) ?_ ?_; rotate_left; (focus (intro w' hw'; obtain ⟨k1, k2, k3, k4⟩ := HCX.out w' hw'; go_simp; (try with_reducible rfl))); (try simp only [Act.put, List.setIfInBounds_toArray, List.set_cons_zero, List.set_cons_succ]))
    (refine walkS_take (v := ?_) (some 26) rfl rfl (fun _ _ _ h => h) (by rfl) ?_ ?_; rotate_left; (focus (intro w' hw'; obtain ⟨k1, k2, k3, k4⟩ := HCX.out w' hw'; go_simp; (try with_reducible rfl))); (try simp only [Act.put, List.setIfInBounds_toArray, List.set_cons_zero, List.set_cons_succ]))
    (refine walkS_take (v := ?_) (some 27) rfl rfl (fun _ _ _ h => h) (by rfl) ?_ ?_; rotate_left; (focus (intro w' hw'; obtain ⟨k1, k2, k3, k4⟩ := HCX.out w' hw'; go_simp; (try with_reducible rfl))); (try simp only [Act.put, List.setIfInBounds_toArray, List.set_cons_zero, List.set_cons_succ]))
    (refine walkS_take (v := ?_) (some 28) rfl rfl (fun _ _ _ h => h) (by rfl) ?_ ?_; rotate_left; (focus (intro w' hw'; obtain ⟨k1, k2, k3, k4⟩ := HCX.out w' hw'; go_simp; (try with_reducible rfl))); (try simp only [Act.put, List.setIfInBounds_toArray, List.set_cons_zero, List.set_cons_succ]))
    (refine walkS_take (v := ?_) (some 29) rfl rfl (fun _ _ _ h => h) (by rfl) ?_ ?_; rotate_left; (focus (intro w' hw'; obtain ⟨k1, k2, k3, k4⟩ := HCX.out w' hw'; go_simp; (try with_reducible rfl))); (try simp only [Act.put, List.setIfInBounds_toArray, List.set_cons_zero, List.set_cons_succ]))
    (refine walkS_call 24 _ _ _ _ (HB.out.n.app nm HKN.out (HB.out.n.rowB HRW.out) (HB.out.n.offB HRW.out) HCB.out) rfl rfl rfl (by rfl) rfl (enterX_app _ _ _ _) ?_; rintro e w2 ⟨g, hg, rfl, hto⟩; have HG := Lib.hid hg; clear hg; have HTO := Lib.hid hto; have hS := hS.trans hto.touch (fun k _ hk => .inl hk); obtain ⟨h2, n2, x2, ap2, mo2⟩ := HB.out.left hto; have HN2 := Lib.hid n2; have HX2 := Lib.hid x2; refine ⟨_, rfl, hS, fun hS => ?_⟩; clear hto n2 x2 ap2 mo2; (try simp only [Act.put, List.setIfInBounds_toArray, List.set_cons_zero, List.set_cons_succ]))
    (refine walkS_call 30 _ _ _ _ (rapp_any _ m hR R HX2.out HV.out HQ.out nm HKN.out a l cp xs (HN2.out.rowB HRW.out) HOF.out HL1.out) rfl rfl rfl (by rfl) rfl (enterX_rapp _ _ _ _) ?_; rintro e w3 ⟨rfl, rt⟩; have hS := hS.trans rt.touch (fun k _ hk => .inr hk); have HRT := Lib.hid rt; refine ⟨_, rfl, hS, fun hS => ?_⟩; clear rt; (try simp only [Act.put, List.setIfInBounds_toArray, List.set_cons_zero, List.set_cons_succ]))
    (refine walkS_bin (some 31) _ _ _ _ _ _ _ _ (eqE_same _ _ HEQ.out) rfl rfl rfl rfl rfl (fun _ _ _ h => h) (by rfl) ?_; (try simp only [Act.put, List.setIfInBounds_toArray, List.set_cons_zero, List.set_cons_succ]))
    (refine walkS_take (v := ?_) (some 6) rfl rfl (fun _ _ _ h => h) (by rfl) ?_ ?_; rotate_left; (focus (intro w' hw'; obtain ⟨k1, k2, k3, k4⟩ := HCX.out w' hw'; go_simp; (try with_reducible rfl))); (try simp only [Act.put, List.setIfInBounds_toArray, List.set_cons_zero, List.set_cons_succ]))
    refine walkS_done ?_
    go_wp2_with fail
    go_ret
    exact ⟨rfl, both_app HB.out HG.out HTO.out HRT.out, HT1.out.trans hS (fun _ _ h => h)⟩
  have i0 : (q0 == 0) = false := by simpa using h0
  by_cases h1 : q0 = 1
  · subst h1
    have HEQ : RowKit.Hid (dkOnE st nm = rOnE R nm) := Lib.hid (HB.out.s.onE HB.out.nd nm)
    go_enter Try.func16, Try.ntmps16
    go_upto_region 7 with (fail)
    try rw [hW1]
    have hS := (Touch.refl W1 (fun k => footK h k ∨ k = m)).drew
    refine wp_region_sched (fun w' => Touch W1 w' (fun k => footK h k ∨ k = m)) [(0, true), (1, true), (2, true), (4, true), (5, true), (6, true), (3, false), (7, false), (8, true), (9, true)] (by kernel_rfl) (by kernel_rfl) rfl (by kernel_rfl) hS ?_
    (refine walkS_take (v := ?_) (some 34) rfl rfl (fun _ _ _ h => h) (by rfl) ?_ ?_; rotate_left; (focus (intro w' hw'; obtain ⟨k1, k2, k3, k4⟩ := HCX.out w' hw'; go_simp; (try with_reducible rfl))); (try simp only [Act.put, List.setIfInBounds_toArray, List.set_cons_zero, List.set_cons_succ]))
    (refine walkS_take (v := ?_) (some 35) rfl rfl (fun _ _ _ h => h) (by rfl) ?_ ?_; rotate_left; (focus (intro w' hw'; obtain ⟨k1, k2, k3, k4⟩ := HCX.out w' hw'; go_simp; (try with_reducible rfl))); (try simp only [Act.put, List.setIfInBounds_toArray, List.set_cons_zero, List.set_cons_succ]))
    (refine walkS_take (v := ?_) (some 36) rfl rfl (fun _ _ _ h => h) (by rfl) ?_ ?_; rotate_left; (focus (intro w' hw'; obtain ⟨k1, k2, k3, k4⟩ := HCX.out w' hw'; go_simp; (try with_reducible rfl))); (try simp only [Act.put, List.setIfInBounds_toArray, List.set_cons_zero, List.set_cons_succ]))
    (refine walkS_take (v := ?_) (some 38) rfl rfl (fun _ _ _ h => h) (by rfl) ?_ ?_; rotate_left; (focus (intro w' hw'; obtain ⟨k1, k2, k3, k4⟩ := HCX.out w' hw'; go_simp; (try with_reducible rfl))); (try simp only [Act.put, List.setIfInBounds_toArray, List.set_cons_zero, List.set_cons_succ]))
    (refine walkS_take (v := ?_) (some 39) rfl rfl (fun _ _ _ h => h) (by rfl) ?_ ?_; rotate_left; (focus (intro w' hw'; obtain ⟨k1, k2, k3, k4⟩ := HCX.out w' hw'; go_simp; (try with_reducible rfl))); (try simp only [Act.put, List.setIfInBounds_toArray, List.set_cons_zero, List.set_cons_succ]))
    (refine walkS_take (v := ?_) (some 40) rfl rfl (fun _ _ _ h => h) (by rfl) ?_ ?_; rotate_left; (focus (intro w' hw'; obtain ⟨k1, k2, k3, k4⟩ := HCX.out w' hw'; go_simp; (try with_reducible rfl))); (try simp only [Act.put, List.setIfInBounds_toArray, List.set_cons_zero, List.set_cons_succ]))
    (refine walkS_call 37 _ _ _ _ (HB.out.n.sync nm HKN.out) rfl rfl rfl (by rfl) rfl (enterX_sync _ _ _) ?_; rintro e w2 ⟨rfl, hto⟩; have HTO := Lib.hid hto; have hS := hS.trans hto.touch (fun k _ hk => .inl hk); obtain ⟨h2, n2, x2, ap2, mo2⟩ := HB.out.left hto; have HN2 := Lib.hid n2; have HX2 := Lib.hid x2; refine ⟨_, rfl, hS, fun hS => ?_⟩; clear hto n2 x2 ap2 mo2; (try simp only [Act.put, List.setIfInBounds_toArray, List.set_cons_zero, List.set_cons_succ]))
    (refine walkS_call 41 _ _ _ _ (rsync_any _ m hR R HX2.out HV.out nm) rfl rfl rfl (by rfl) rfl (enterX_rsync _ _ _) ?_; rintro e w3 ⟨rfl, rt⟩; have hS := hS.trans rt.touch (fun k _ hk => .inr hk); have HRT := Lib.hid rt; refine ⟨_, rfl, hS, fun hS => ?_⟩; clear rt; (try simp only [Act.put, List.setIfInBounds_toArray, List.set_cons_zero, List.set_cons_succ]))
    (refine walkS_bin (some 42) _ _ _ _ _ _ _ _ (eqE_same _ _ HEQ.out) rfl rfl rfl rfl rfl (fun _ _ _ h => h) (by rfl) ?_; (try simp only [Act.put, List.setIfInBounds_toArray, List.set_cons_zero, List.set_cons_succ]))
    (refine walkS_take (v := ?_) (some 6) rfl rfl (fun _ _ _ h => h) (by rfl) ?_ ?_; rotate_left; (focus (intro w' hw'; obtain ⟨k1, k2, k3, k4⟩ := HCX.out w' hw'; go_simp; (try with_reducible rfl))); (try simp only [Act.put, List.setIfInBounds_toArray, List.set_cons_zero, List.set_cons_succ]))
    refine walkS_done ?_
    go_wp2_with fail
    go_ret
    exact ⟨rfl, both_sync HB.out HTO.out HRT.out, HT1.out.trans hS (fun _ _ h => h)⟩
  have i1 : (q0 == 1) = false := by simpa using h1
  by_cases h2 : q0 = 2
  · subst h2
    have HEQ : RowKit.Hid (dkBeg st = rBeg R) := Lib.hid HB.out.s.dir.1
    go_enter Try.func16, Try.ntmps16
    go_wp2_with fail
    try rw [hW1]
    (with_reducible refine (HBP.out.n.syncdir HCB.out).mono ?_)
    rintro e w2 ⟨rfl, hto⟩
    have HTO := Lib.hid hto
    obtain ⟨h2, n2, x2, ap2, mo2⟩ := HBP.out.left hto
    have HN2 := Lib.hid n2
    have HX2 := Lib.hid x2
    obtain ⟨k1, k2, k3, k4⟩ := HCX.out w2 ((Touch.refl W1 (fun k => footK h k ∨ k = m)).trans hto.touch (fun k _ hk => .inl hk))
    have HTT := Lib.hid ((Touch.refl W1 (fun k => footK h k ∨ k = m)).trans hto.touch (fun k _ hk => .inl hk))
    clear hto n2 x2 ap2 mo2 y1 y2 y3 y4
    go_wp2_with fail
    (with_reducible refine (rdir_any _ m hR R HX2.out HV.out).mono ?_)
    rintro e w3 ⟨rfl, rt⟩
    have HRT := Lib.hid rt
    have HTT := Lib.hid (HT1.out.trans (HTT.out.trans rt.touch (fun k _ hk => .inr hk)) (fun _ _ h => h))
    clear rt k1 k2 k3 k4
    rw [HEQ.out]
    go_wp2_with fail
    go_ret
    exact ⟨by simp, both_dir HBP.out HTO.out HRT.out, HTT.out⟩
  have i2 : (q0 == 2) = false := by simpa using h2
  by_cases h3 : q0 = 3
  · subst h3
    have HEQ : RowKit.Hid (dkRenE st nm tn = rRenE R nm tn) := Lib.hid ((HB.out.s.ren HB.out.nd HB.out.ne nm tn).1)
    go_enter Try.func16, Try.ntmps16
    go_upto_region 11 with (fail)
    try rw [hW1]
    have hS := (Touch.refl W1 (fun k => footK h k ∨ k = m)).drew
    refine wp_region_sched (fun w' => Touch W1 w' (fun k => footK h k ∨ k = m)) [(0, true), (1, true), (2, true), (3, true), (4, true), (6, true), (7, true), (8, true), (9, true), (10, true), (5, false), (11, false), (12, true), (13, true)] (by kernel_rfl) (by kernel_rfl) rfl (by kernel_rfl) hS ?_
    (refine walkS_take (v := ?_) (some 52) rfl rfl (fun _ _ _ h => h) (by rfl) ?_ ?_; rotate_left; (focus (intro w' hw'; obtain ⟨k1, k2, k3, k4⟩ := HCX.out w' hw'; go_simp; (try with_reducible rfl))); (try simp only [Act.put, List.setIfInBounds_toArray, List.set_cons_zero, List.set_cons_succ]))
    (refine walkS_take (v := ?_) (some 53) rfl rfl (fun _ _ _ h => h) (by rfl) ?_ ?_; rotate_left; (focus (intro w' hw'; obtain ⟨k1, k2, k3, k4⟩ := HCX.out w' hw'; go_simp; (try with_reducible rfl))); (try simp only [Act.put, List.setIfInBounds_toArray, List.set_cons_zero, List.set_cons_succ]))
    (refine walkS_take (v := ?_) (some 54) rfl rfl (fun _ _ _ h => h) (by rfl) ?_ ?_; rotate_left; (focus (intro w' hw'; obtain ⟨k1, k2, k3, k4⟩ := HCX.out w' hw'; go_simp; (try with_reducible rfl))); (try simp only [Act.put, List.setIfInBounds_toArray, List.set_cons_zero, List.set_cons_succ]))
    (refine walkS_take (v := ?_) (some 55) rfl rfl (fun _ _ _ h => h) (by rfl) ?_ ?_; rotate_left; (focus (intro w' hw'; obtain ⟨k1, k2, k3, k4⟩ := HCX.out w' hw'; go_simp; (try with_reducible rfl))); (try simp only [Act.put, List.setIfInBounds_toArray, List.set_cons_zero, List.set_cons_succ]))
    (refine walkS_take (v := ?_) (some 56) rfl rfl (fun _ _ _ h => h) (by rfl) ?_ ?_; rotate_left; (focus (intro w' hw'; obtain ⟨k1, k2, k3, k4⟩ := HCX.out w' hw'; go_simp; (try with_reducible rfl))); (try simp only [Act.put, List.setIfInBounds_toArray, List.set_cons_zero, List.set_cons_succ]))
    (refine walkS_take (v := ?_) (some 58) rfl rfl (fun _ _ _ h => h) (by rfl) ?_ ?_; rotate_left; (focus (intro w' hw'; obtain ⟨k1, k2, k3, k4⟩ := HCX.out w' hw'; go_simp; (try with_reducible rfl))); (try simp only [Act.put, List.setIfInBounds_toArray, List.set_cons_zero, List.set_cons_succ]))
    (refine walkS_take (v := ?_) (some 59) rfl rfl (fun _ _ _ h => h) (by rfl) ?_ ?_; rotate_left; (focus (intro w' hw'; obtain ⟨k1, k2, k3, k4⟩ := HCX.out w' hw'; go_simp; (try with_reducible rfl))); (try simp only [Act.put, List.setIfInBounds_toArray, List.set_cons_zero, List.set_cons_succ]))
    (refine walkS_take (v := ?_) (some 60) rfl rfl (fun _ _ _ h => h) (by rfl) ?_ ?_; rotate_left; (focus (intro w' hw'; obtain ⟨k1, k2, k3, k4⟩ := HCX.out w' hw'; go_simp; (try with_reducible rfl))); (try simp only [Act.put, List.setIfInBounds_toArray, List.set_cons_zero, List.set_cons_succ]))
    (refine walkS_take (v := ?_) (some 61) rfl rfl (fun _ _ _ h => h) (by rfl) ?_ ?_; rotate_left; (focus (intro w' hw'; obtain ⟨k1, k2, k3, k4⟩ := HCX.out w' hw'; go_simp; (try with_reducible rfl))); (try simp only [Act.put, List.setIfInBounds_toArray, List.set_cons_zero, List.set_cons_succ]))
    (refine walkS_take (v := ?_) (some 62) rfl rfl (fun _ _ _ h => h) (by rfl) ?_ ?_; rotate_left; (focus (intro w' hw'; obtain ⟨k1, k2, k3, k4⟩ := HCX.out w' hw'; go_simp; (try with_reducible rfl))); (try simp only [Act.put, List.setIfInBounds_toArray, List.set_cons_zero, List.set_cons_succ]))
    (refine walkS_call 57 _ _ _ _ (HB.out.n.ren nm tn HKN.out HTN.out HCB.out) rfl rfl rfl (by rfl) rfl (enterX_ren _ _ _ _) ?_; rintro e w2 ⟨rfl, hto⟩; have HTO := Lib.hid hto; have hS := hS.trans hto.touch (fun k _ hk => .inl hk); obtain ⟨h2, n2, x2, ap2, mo2⟩ := HB.out.left hto; have HN2 := Lib.hid n2; have HX2 := Lib.hid x2; refine ⟨_, rfl, hS, fun hS => ?_⟩; clear hto n2 x2 ap2 mo2; (try simp only [Act.put, List.setIfInBounds_toArray, List.set_cons_zero, List.set_cons_succ]))
    (refine walkS_call 63 _ _ _ _ (rren_any _ m hR R HX2.out HV.out nm tn HTN.out) rfl rfl rfl (by rfl) rfl (enterX_rren _ _ _ _) ?_; rintro e w3 ⟨rfl, rt⟩; have hS := hS.trans rt.touch (fun k _ hk => .inr hk); have HRT := Lib.hid rt; refine ⟨_, rfl, hS, fun hS => ?_⟩; clear rt; (try simp only [Act.put, List.setIfInBounds_toArray, List.set_cons_zero, List.set_cons_succ]))
    (refine walkS_bin (some 64) _ _ _ _ _ _ _ _ (eqE_same _ _ HEQ.out) rfl rfl rfl rfl rfl (fun _ _ _ h => h) (by rfl) ?_; (try simp only [Act.put, List.setIfInBounds_toArray, List.set_cons_zero, List.set_cons_succ]))
    (refine walkS_take (v := ?_) (some 6) rfl rfl (fun _ _ _ h => h) (by rfl) ?_ ?_; rotate_left; (focus (intro w' hw'; obtain ⟨k1, k2, k3, k4⟩ := HCX.out w' hw'; go_simp; (try with_reducible rfl))); (try simp only [Act.put, List.setIfInBounds_toArray, List.set_cons_zero, List.set_cons_succ]))
    refine walkS_done ?_
    go_wp2_with fail
    go_ret
    exact ⟨rfl, both_ren HB.out HTO.out HRT.out, HT1.out.trans hS (fun _ _ h => h)⟩
  have i3 : (q0 == 3) = false := by simpa using h3
  by_cases h4 : q0 = 4
  · subst h4
    have HEQ : RowKit.Hid (dkOnE st nm = rOnE R nm) := Lib.hid (HB.out.s.onE HB.out.nd nm)
    go_enter Try.func16, Try.ntmps16
    go_upto_region 13 with (fail)
    try rw [hW1]
    have hS := (Touch.refl W1 (fun k => footK h k ∨ k = m)).drew
    refine wp_region_sched (fun w' => Touch W1 w' (fun k => footK h k ∨ k = m)) [(0, true), (1, true), (2, true), (4, true), (5, true), (6, true), (3, false), (7, false), (8, true), (9, true)] (by kernel_rfl) (by kernel_rfl) rfl (by kernel_rfl) hS ?_
    (refine walkS_take (v := ?_) (some 67) rfl rfl (fun _ _ _ h => h) (by rfl) ?_ ?_; rotate_left; (focus (intro w' hw'; obtain ⟨k1, k2, k3, k4⟩ := HCX.out w' hw'; go_simp; (try with_reducible rfl))); (try simp only [Act.put, List.setIfInBounds_toArray, List.set_cons_zero, List.set_cons_succ]))
    (refine walkS_take (v := ?_) (some 68) rfl rfl (fun _ _ _ h => h) (by rfl) ?_ ?_; rotate_left; (focus (intro w' hw'; obtain ⟨k1, k2, k3, k4⟩ := HCX.out w' hw'; go_simp; (try with_reducible rfl))); (try simp only [Act.put, List.setIfInBounds_toArray, List.set_cons_zero, List.set_cons_succ]))
    (refine walkS_take (v := ?_) (some 69) rfl rfl (fun _ _ _ h => h) (by rfl) ?_ ?_; rotate_left; (focus (intro w' hw'; obtain ⟨k1, k2, k3, k4⟩ := HCX.out w' hw'; go_simp; (try with_reducible rfl))); (try simp only [Act.put, List.setIfInBounds_toArray, List.set_cons_zero, List.set_cons_succ]))
    (refine walkS_take (v := ?_) (some 71) rfl rfl (fun _ _ _ h => h) (by rfl) ?_ ?_; rotate_left; (focus (intro w' hw'; obtain ⟨k1, k2, k3, k4⟩ := HCX.out w' hw'; go_simp; (try with_reducible rfl))); (try simp only [Act.put, List.setIfInBounds_toArray, List.set_cons_zero, List.set_cons_succ]))
    (refine walkS_take (v := ?_) (some 72) rfl rfl (fun _ _ _ h => h) (by rfl) ?_ ?_; rotate_left; (focus (intro w' hw'; obtain ⟨k1, k2, k3, k4⟩ := HCX.out w' hw'; go_simp; (try with_reducible rfl))); (try simp only [Act.put, List.setIfInBounds_toArray, List.set_cons_zero, List.set_cons_succ]))
    (refine walkS_take (v := ?_) (some 73) rfl rfl (fun _ _ _ h => h) (by rfl) ?_ ?_; rotate_left; (focus (intro w' hw'; obtain ⟨k1, k2, k3, k4⟩ := HCX.out w' hw'; go_simp; (try with_reducible rfl))); (try simp only [Act.put, List.setIfInBounds_toArray, List.set_cons_zero, List.set_cons_succ]))
    (refine walkS_call 70 _ _ _ _ (HB.out.n.rem nm HKN.out HCB.out) rfl rfl rfl (by rfl) rfl (enterX_rem _ _ _) ?_; rintro e w2 ⟨rfl, hto⟩; have HTO := Lib.hid hto; have hS := hS.trans hto.touch (fun k _ hk => .inl hk); obtain ⟨h2, n2, x2, ap2, mo2⟩ := HB.out.left hto; have HN2 := Lib.hid n2; have HX2 := Lib.hid x2; refine ⟨_, rfl, hS, fun hS => ?_⟩; clear hto n2 x2 ap2 mo2; (try simp only [Act.put, List.setIfInBounds_toArray, List.set_cons_zero, List.set_cons_succ]))
    (refine walkS_call 74 _ _ _ _ (rrem_any _ m hR R HX2.out HV.out nm HRE.out) rfl rfl rfl (by rfl) rfl (enterX_rrem _ _ _) ?_; rintro e w3 ⟨rfl, rt⟩; have hS := hS.trans rt.touch (fun k _ hk => .inr hk); have HRT := Lib.hid rt; refine ⟨_, rfl, hS, fun hS => ?_⟩; clear rt; (try simp only [Act.put, List.setIfInBounds_toArray, List.set_cons_zero, List.set_cons_succ]))
    (refine walkS_bin (some 75) _ _ _ _ _ _ _ _ (eqE_same _ _ HEQ.out) rfl rfl rfl rfl rfl (fun _ _ _ h => h) (by rfl) ?_; (try simp only [Act.put, List.setIfInBounds_toArray, List.set_cons_zero, List.set_cons_succ]))
    (refine walkS_take (v := ?_) (some 6) rfl rfl (fun _ _ _ h => h) (by rfl) ?_ ?_; rotate_left; (focus (intro w' hw'; obtain ⟨k1, k2, k3, k4⟩ := HCX.out w' hw'; go_simp; (try with_reducible rfl))); (try simp only [Act.put, List.setIfInBounds_toArray, List.set_cons_zero, List.set_cons_succ]))
    refine walkS_done ?_
    go_wp2_with fail
    go_ret
    exact ⟨rfl, both_rem HB.out HTO.out HRT.out, HT1.out.trans hS (fun _ _ h => h)⟩
  have i4 : (q0 == 4) = false := by simpa using h4
  by_cases h5 : q0 = 5
  · subst h5
    have HEQ : RowKit.Hid (dkCutE st nm jj = rCutE R nm jj) := Lib.hid ((HB.out.s.cut HB.out.nd nm jj).1)
    go_enter Try.func16, Try.ntmps16
    go_upto_region 15 with (fail)
    try rw [hW1]
    have hS := (Touch.refl W1 (fun k => footK h k ∨ k = m)).drew
    refine wp_region_sched (fun w' => Touch W1 w' (fun k => footK h k ∨ k = m)) [(0, true), (1, true), (2, true), (3, true), (4, true), (6, true), (7, true), (8, true), (9, true), (10, true), (5, false), (11, false), (12, true), (13, true)] (by kernel_rfl) (by kernel_rfl) rfl (by kernel_rfl) hS ?_
    (refine walkS_take (v := ?_) (some 78) rfl rfl (fun _ _ _ h => h) (by rfl) ?_ ?_; rotate_left; (focus (intro w' hw'; obtain ⟨k1, k2, k3, k4⟩ := HCX.out w' hw'; go_simp; (try with_reducible rfl))); (try simp only [Act.put, List.setIfInBounds_toArray, List.set_cons_zero, List.set_cons_succ]))
    (refine walkS_take (v := ?_) (some 79) rfl rfl (fun _ _ _ h => h) (by rfl) ?_ ?_; rotate_left; (focus (intro w' hw'; obtain ⟨k1, k2, k3, k4⟩ := HCX.out w' hw'; go_simp; (try with_reducible rfl))); (try simp only [Act.put, List.setIfInBounds_toArray, List.set_cons_zero, List.set_cons_succ]))
    (refine walkS_take (v := ?_) (some 80) rfl rfl (fun _ _ _ h => h) (by rfl) ?_ ?_; rotate_left; (focus (intro w' hw'; obtain ⟨k1, k2, k3, k4⟩ := HCX.out w' hw'; go_simp; (try with_reducible rfl))); (try simp only [Act.put, List.setIfInBounds_toArray, List.set_cons_zero, List.set_cons_succ]))
    (refine walkS_take (v := ?_) (some 81) rfl rfl (fun _ _ _ h => h) (by rfl) ?_ ?_; rotate_left; (focus (intro w' hw'; obtain ⟨k1, k2, k3, k4⟩ := HCX.out w' hw'; go_simp; (try with_reducible rfl))); (try simp only [Act.put, List.setIfInBounds_toArray, List.set_cons_zero, List.set_cons_succ]))
    (refine walkS_take (v := ?_) (some 82) rfl rfl (fun _ _ _ h => h) (by rfl) ?_ ?_; rotate_left; (focus (intro w' hw'; obtain ⟨k1, k2, k3, k4⟩ := HCX.out w' hw'; go_simp; (try with_reducible rfl))); (try simp only [Act.put, List.setIfInBounds_toArray, List.set_cons_zero, List.set_cons_succ]))
    (refine walkS_take (v := ?_) (some 84) rfl rfl (fun _ _ _ h => h) (by rfl) ?_ ?_; rotate_left; (focus (intro w' hw'; obtain ⟨k1, k2, k3, k4⟩ := HCX.out w' hw'; go_simp; (try with_reducible rfl))); (try simp only [Act.put, List.setIfInBounds_toArray, List.set_cons_zero, List.set_cons_succ]))
    (refine walkS_take (v := ?_) (some 85) rfl rfl (fun _ _ _ h => h) (by rfl) ?_ ?_; rotate_left; (focus (intro w' hw'; obtain ⟨k1, k2, k3, k4⟩ := HCX.out w' hw'; go_simp; (try with_reducible rfl))); (try simp only [Act.put, List.setIfInBounds_toArray, List.set_cons_zero, List.set_cons_succ]))
    (refine walkS_take (v := ?_) (some 86) rfl rfl (fun _ _ _ h => h) (by rfl) ?_ ?_; rotate_left; (focus (intro w' hw'; obtain ⟨k1, k2, k3, k4⟩ := HCX.out w' hw'; go_simp; (try with_reducible rfl))); (try simp only [Act.put, List.setIfInBounds_toArray, List.set_cons_zero, List.set_cons_succ]))
    (refine walkS_take (v := ?_) (some 87) rfl rfl (fun _ _ _ h => h) (by rfl) ?_ ?_; rotate_left; (focus (intro w' hw'; obtain ⟨k1, k2, k3, k4⟩ := HCX.out w' hw'; go_simp; (try with_reducible rfl))); (try simp only [Act.put, List.setIfInBounds_toArray, List.set_cons_zero, List.set_cons_succ]))
    (refine walkS_take (v := ?_) (some 88) rfl rfl (fun _ _ _ h => h) (by rfl) ?_ ?_; rotate_left; (focus (intro w' hw'; obtain ⟨k1, k2, k3, k4⟩ := HCX.out w' hw'; go_simp; (try with_reducible rfl))); (try simp only [Act.put, List.setIfInBounds_toArray, List.set_cons_zero, List.set_cons_succ]))
    (refine walkS_call 83 _ _ _ _ (HB.out.n.cut nm HKN.out jj) rfl rfl rfl (by rfl) rfl (enterX_cut _ _ _ _) ?_; rintro e w2 ⟨rfl, hto⟩; have HTO := Lib.hid hto; have hS := hS.trans hto.touch (fun k _ hk => .inl hk); obtain ⟨h2, n2, x2, ap2, mo2⟩ := HB.out.left hto; have HN2 := Lib.hid n2; have HX2 := Lib.hid x2; refine ⟨_, rfl, hS, fun hS => ?_⟩; clear hto n2 x2 ap2 mo2; (try simp only [Act.put, List.setIfInBounds_toArray, List.set_cons_zero, List.set_cons_succ]))
    (refine walkS_call 89 _ _ _ _ (rcut_any _ m hR R HX2.out HV.out nm jj) rfl rfl rfl (by rfl) rfl (enterX_rcut _ _ _ _) ?_; rintro e w3 ⟨rfl, rt⟩; have hS := hS.trans rt.touch (fun k _ hk => .inr hk); have HRT := Lib.hid rt; refine ⟨_, rfl, hS, fun hS => ?_⟩; clear rt; (try simp only [Act.put, List.setIfInBounds_toArray, List.set_cons_zero, List.set_cons_succ]))
    (refine walkS_bin (some 90) _ _ _ _ _ _ _ _ (eqE_same _ _ HEQ.out) rfl rfl rfl rfl rfl (fun _ _ _ h => h) (by rfl) ?_; (try simp only [Act.put, List.setIfInBounds_toArray, List.set_cons_zero, List.set_cons_succ]))
    (refine walkS_take (v := ?_) (some 6) rfl rfl (fun _ _ _ h => h) (by rfl) ?_ ?_; rotate_left; (focus (intro w' hw'; obtain ⟨k1, k2, k3, k4⟩ := HCX.out w' hw'; go_simp; (try with_reducible rfl))); (try simp only [Act.put, List.setIfInBounds_toArray, List.set_cons_zero, List.set_cons_succ]))
    refine walkS_done ?_
    go_wp2_with fail
    go_ret
    exact ⟨rfl, both_cut HB.out HTO.out HRT.out, HT1.out.trans hS (fun _ _ h => h)⟩
  have i5 : (q0 == 5) = false := by simpa using h5
  by_cases h6 : q0 = 6
  · subst h6
    go_enter Try.func16, Try.ntmps16
    go_wp2_with fail
    try rw [hW1]
    (with_reducible refine (HBP.out.n.fail jj HJJ.out).mono ?_)
    rintro e w2 ⟨rfl, hto⟩
    have HTO := Lib.hid hto
    obtain ⟨h2, n2, x2, ap2, mo2⟩ := HBP.out.left hto
    have HN2 := Lib.hid n2
    have HX2 := Lib.hid x2
    obtain ⟨k1, k2, k3, k4⟩ := HCX.out w2 ((Touch.refl W1 (fun k => footK h k ∨ k = m)).trans hto.touch (fun k _ hk => .inl hk))
    have HTT := Lib.hid ((Touch.refl W1 (fun k => footK h k ∨ k = m)).trans hto.touch (fun k _ hk => .inl hk))
    clear hto n2 x2 ap2 mo2 y1 y2 y3 y4
    go_wp2_with fail
    (with_reducible refine (rfail_to _ m hR R HX2.out jj).mono ?_)
    rintro e w3 ⟨rfl, rt⟩
    have HRT := Lib.hid rt
    have HTT := Lib.hid (HT1.out.trans (HTT.out.trans rt.touch (fun k _ hk => .inr hk)) (fun _ _ h => h))
    clear rt k1 k2 k3 k4
    go_wp2_with fail
    go_ret
    exact ⟨rfl, both_fail HBP.out HTO.out HRT.out, HTT.out⟩
  have i6 : (q0 == 6) = false := by simpa using h6
  go_enter Try.func16, Try.ntmps16
  go_wp2_with fail
  try rw [hW1]
  (with_reducible refine (HBP.out.n.crash (HBP.out.n.rowB HRW.out) (HBP.out.n.offB HRW.out) HCB.out).mono ?_)
  rintro e w2 ⟨rfl, hto⟩
  have HTO := Lib.hid hto
  obtain ⟨h2, n2, x2, ap2, mo2⟩ := HBP.out.left hto
  have HN2 := Lib.hid n2
  have HX2 := Lib.hid x2
  obtain ⟨k1, k2, k3, k4⟩ := HCX.out w2 ((Touch.refl W1 (fun k => footK h k ∨ k = m)).trans hto.touch (fun k _ hk => .inl hk))
  have HTT := Lib.hid ((Touch.refl W1 (fun k => footK h k ∨ k = m)).trans hto.touch (fun k _ hk => .inl hk))
  clear hto n2 x2 ap2 mo2 y1 y2 y3 y4
  go_wp2_with fail
  (with_reducible refine (rcrash_any _ m hR R HX2.out HV.out a l cp xs (HN2.out.rowB HRW.out) HOF.out HCE.out HSL.out HNF.out).mono ?_)
  rintro e w3 ⟨rfl, rt⟩
  have HRT := Lib.hid rt
  have HTT := Lib.hid (HT1.out.trans (HTT.out.trans rt.touch (fun k _ hk => .inr hk)) (fun _ _ h => h))
  clear rt k1 k2 k3 k4
  go_wp2_with fail
  go_ret
  exact ⟨rfl, both_crash HBP.out HTO.out HRT.out, HTT.out⟩
end Go.Proofs.Ytmokcfmlolohaaa

end

section
/- goitlaw3.like: two disks that are alike. -/
set_option linter.unusedVariables false
set_option linter.unusedSimpArgs false
namespace Go.Proofs.Ytmokcfmlolohaaa
open Go.RowKit

theorem enterL_dn (a : Value) (w : World) : (callFunc 29 #[a]).run Try.prog w = .ok (.enter 29 #[a]) w := by kernel_rfl
theorem enterL_dops (a : Value) (w : World) : (callFunc 31 #[a]).run Try.prog w = .ok (.enter 31 #[a]) w := by kernel_rfl
theorem enterL_dq (a : Value) (w : World) : (callFunc 33 #[a]).run Try.prog w = .ok (.enter 33 #[a]) w := by kernel_rfl
theorem rFind_in : ∀ {l : List RN} {x : RN}, x ∈ l → (rFind l x.n).isSome = true
  | y :: l, x, h => by
    unfold rFind
    by_cases e : y.n = x.n
    · rw [if_pos e]; rfl
    · rw [if_neg e]
      rcases List.mem_cons.1 h with h1 | h1
      · exact absurd (by rw [h1]) e
      · exact rFind_in h1
set_option maxRecDepth 20000 in
set_option maxHeartbeats 16000000 in
theorem rlike_any (w0 w : World) (d m : Nat) (h : DkH) (hR : RH) (st : DkS) (R : RS) (G : List Nat) (b : Both w0 w d m h hR st R G) (hG : G.length ≤ 50000) (hC : st.C.length ≤ 50000) :
    Calls Try.prog 17 #[.pointer (some ⟨d, 0, none⟩), .pointer (some ⟨m, 0, none⟩)] w fun e w' => e = .returned (.bool true) ∧ Touch w w' (fun _ => False) := by
  have hv := b.rv (by omega) (by omega)
  obtain ⟨N, hN⟩ : ∃ N, R.N.length = N := ⟨_, rfl⟩
  have hN5 : N ≤ 100000 := by rw [← hN]; exact hv.nl
  have HDN : RowKit.Hid (∀ W, Touch w W (fun _ => False) → Calls Try.prog 29 #[.pointer (some ⟨d, 0, none⟩)] W fun e w' => ∃ a c, e = .returned (.slice a N c) ∧ OwnS w' W.heap.size 9 1 (.slice a N c) (strs (R.N.map RN.n)) ∧ Touch W w' (fun _ => False)) := Lib.hid (fun W t => (dnames_any W d h st (b.n.m.still t)).mono fun e w' hh => by
    obtain ⟨a, c, e1, o, t⟩ := hh
    rw [b.s.nlen, hN] at e1 o
    rw [strRow_strs, b.s.N.names] at o
    exact ⟨a, c, e1, o, t⟩)
  have HRN : RowKit.Hid (∀ W, Touch w W (fun _ => False) → Calls Try.prog 20 #[.pointer (some ⟨m, 0, none⟩)] W fun e w' => ∃ a c, e = .returned (.slice a N c) ∧ OwnS w' W.heap.size 9 1 (.slice a N c) (strs (R.N.map RN.n)) ∧ Touch W w' (fun _ => False)) := Lib.hid (fun W t => by
    have := rnames_any W m hR R (b.x.still t) hv.nl
    rw [hN] at this
    exact this)
  have HDS := Lib.hid (fun W (t : Touch w W (fun _ => False)) => dsize_any W d h st (b.n.m.still t))
  have HRS := Lib.hid (fun W (t : Touch w W (fun _ => False)) => rsize_any W m hR R (b.x.still t) hv)
  have HOP := Lib.hid (fun W (t : Touch w W (fun _ => False)) => dops_any W d h st (b.n.m.still t))
  have HQU := Lib.hid (fun W (t : Touch w W (fun _ => False)) => dquota_any W d h st (b.n.m.still t))
  have HCB : RowKit.Hid (∀ w', Touch w w' (fun _ => False) → w'.cell? ⟨m, 4, none⟩ = some (.int .i64 R.q) ∧ w'.cell? ⟨m, 5, none⟩ = some (.int .i64 R.n)) := Lib.hid (fun w' t => ⟨(b.x.still t).cells.2.2.2.2.1, (b.x.still t).cells.2.2.2.2.2.1⟩)
  have HE1 : RowKit.Hid ((dkSz st : Int) = (rSum R R.N : Nat)) := Lib.hid (by rw [b.s.size])
  have HE2 : RowKit.Hid (st.ops = R.n) := Lib.hid b.s.oe
  have HE3 : RowKit.Hid (st.q = R.q) := Lib.hid b.s.qe
  have HB := Lib.hid b
  have HV := Lib.hid hv
  have HNE := Lib.hid hN
  clear b hv hN
  go_enter Try.func17, Try.ntmps17
  go_upto_region 1 with (fail)
  have hS := (Touch.refl w (fun _ => False)).drew
  refine wp_region_sched (fun w' => Touch w w' (fun _ => False)) [(0, true), (2, true), (1, false), (3, false), (4, false), (5, true), (6, true), (7, true), (9, true), (8, false), (10, false), (11, true), (12, true), (13, true), (14, true), (16, true), (17, true), (18, true), (19, true), (15, false), (20, true), (21, true), (22, true), (23, true), (25, true), (26, true), (27, true), (28, true), (24, false), (29, true), (30, true)] (by kernel_rfl) (by kernel_rfl) rfl (by kernel_rfl) hS ?_
  (refine walkS_take (v := ?_) (some 11) rfl rfl (fun _ _ _ h => h) (by rfl) ?_ ?_; rotate_left; (focus (intro w' hw'; obtain ⟨k4, k5⟩ := HCB.out w' hw'; go_simp; (try with_reducible rfl))); (try simp only [Act.put, List.setIfInBounds_toArray, List.set_cons_zero, List.set_cons_succ]))
  (refine walkS_take (v := ?_) (some 13) rfl rfl (fun _ _ _ h => h) (by rfl) ?_ ?_; rotate_left; (focus (intro w' hw'; obtain ⟨k4, k5⟩ := HCB.out w' hw'; go_simp; (try with_reducible rfl))); (try simp only [Act.put, List.setIfInBounds_toArray, List.set_cons_zero, List.set_cons_succ]))
  (refine walkS_call 12 _ _ _ _ (HDN.out _ hS) rfl rfl rfl (by rfl) rfl (enterL_dn _ _) ?_; rintro e w' ⟨a9, c9, rfl, ho9, t9⟩; have HO9 := Lib.hid ho9; have hS := hS.trans t9 (fun _ _ h => h); clear ho9 t9; refine ⟨_, rfl, hS, fun hS => ?_⟩; (try simp only [Act.put, List.setIfInBounds_toArray, List.set_cons_zero, List.set_cons_succ]))
  (refine walkS_call 14 _ _ _ _ (HRN.out _ hS) rfl rfl rfl (by rfl) rfl (enter_rnames _ _) ?_; rintro e w' ⟨a8, c8, rfl, ho8, t8⟩; have HSN := Lib.hid (dsame_any w' a9 a8 N c9 c8 (R.N.map RN.n) (HO9.out.still t8).row'.2.1 ho8.row'.2.1); have hS := hS.trans t8 (fun _ _ h => h); clear ho8 t8; refine ⟨_, rfl, hS, fun hS => ?_⟩; (try simp only [Act.put, List.setIfInBounds_toArray, List.set_cons_zero, List.set_cons_succ]))
  (refine walkS_call 15 _ _ _ _ (HSN.out) rfl rfl rfl (by rfl) rfl (enter_same _ _ _) ?_; rintro e w' ⟨rfl, t⟩; have hS := hS.trans t (fun _ _ h => h); clear t; refine ⟨_, rfl, hS, fun hS => ?_⟩; (try simp only [Act.put, List.setIfInBounds_toArray, List.set_cons_zero, List.set_cons_succ]))
  (refine walkS_take (v := ?_) (some 16) rfl rfl (fun _ _ _ h => h) (by rfl) ?_ ?_; rotate_left; (focus (intro w' hw'; obtain ⟨k4, k5⟩ := HCB.out w' hw'; go_simp; (try with_reducible rfl))); (try simp only [Act.put, List.setIfInBounds_toArray, List.set_cons_zero, List.set_cons_succ]))
  (refine walkS_take (v := ?_) (some 17) rfl rfl (fun _ _ _ h => h) (by rfl) ?_ ?_; rotate_left; (focus (intro w' hw'; obtain ⟨k4, k5⟩ := HCB.out w' hw'; go_simp; (try with_reducible rfl))); (try simp only [Act.put, List.setIfInBounds_toArray, List.set_cons_zero, List.set_cons_succ]))
  first | (refine walkS_skip (some 18) rfl rfl (by rfl) (fun _ _ _ h => h) hS ?_; (try simp only [Act.put, List.setIfInBounds_toArray, List.set_cons_zero, List.set_cons_succ])) | (refine walkS_take (v := ?_) (some 18) rfl rfl (fun _ _ _ h => h) (by rfl) ?_ ?_; rotate_left; (focus (intro w' hw'; obtain ⟨k4, k5⟩ := HCB.out w' hw'; go_simp; (try with_reducible rfl))); (try simp only [Act.put, List.setIfInBounds_toArray, List.set_cons_zero, List.set_cons_succ]))
  first | (refine walkS_skip (some 20) rfl rfl (by rfl) (fun _ _ _ h => h) hS ?_; (try simp only [Act.put, List.setIfInBounds_toArray, List.set_cons_zero, List.set_cons_succ])) | (refine walkS_take (v := ?_) (some 20) rfl rfl (fun _ _ _ h => h) (by rfl) ?_ ?_; rotate_left; (focus (intro w' hw'; obtain ⟨k4, k5⟩ := HCB.out w' hw'; go_simp; (try with_reducible rfl))); (try simp only [Act.put, List.setIfInBounds_toArray, List.set_cons_zero, List.set_cons_succ]))
  first | (refine walkS_skip (some 19) rfl rfl (by rfl) (fun _ _ _ h => h) hS ?_; (try simp only [Act.put, List.setIfInBounds_toArray, List.set_cons_zero, List.set_cons_succ])) | (refine walkS_call 19 _ _ _ _ (HDS.out _ hS) rfl rfl rfl (by rfl) rfl (enter_dsize _ _) ?_; rintro e w' ⟨rfl, t⟩; have hS := hS.trans t (fun _ _ h => h); clear t; refine ⟨_, rfl, hS, fun hS => ?_⟩; (try simp only [Act.put, List.setIfInBounds_toArray, List.set_cons_zero, List.set_cons_succ]))
  first | (refine walkS_skip (some 21) rfl rfl (by rfl) (fun _ _ _ h => h) hS ?_; (try simp only [Act.put, List.setIfInBounds_toArray, List.set_cons_zero, List.set_cons_succ])) | (refine walkS_call 21 _ _ _ _ (HRS.out _ hS) rfl rfl rfl (by rfl) rfl (enter_rsize _ _) ?_; rintro e w' ⟨rfl, t⟩; have hS := hS.trans t (fun _ _ h => h); clear t; refine ⟨_, rfl, hS, fun hS => ?_⟩; (try simp only [Act.put, List.setIfInBounds_toArray, List.set_cons_zero, List.set_cons_succ]))
  first | (refine walkS_skip (some 22) rfl rfl (by rfl) (fun _ _ _ h => h) hS ?_; (try simp only [Act.put, List.setIfInBounds_toArray, List.set_cons_zero, List.set_cons_succ])) | (refine walkS_bin (some 22) _ _ _ _ _ _ _ _ (neI_same _ _ HE1.out) rfl rfl rfl rfl rfl (fun _ _ _ h => h) (by rfl) ?_; (try simp only [Act.put, List.setIfInBounds_toArray, List.set_cons_zero, List.set_cons_succ]))
  (refine walkS_take (v := ?_) (some 23) rfl rfl (fun _ _ _ h => h) (by rfl) ?_ ?_; rotate_left; (focus (intro w' hw'; obtain ⟨k4, k5⟩ := HCB.out w' hw'; go_simp; (try with_reducible rfl))); (try simp only [Act.put, List.setIfInBounds_toArray, List.set_cons_zero, List.set_cons_succ]))
  (refine walkS_take (v := ?_) (some 24) rfl rfl (fun _ _ _ h => h) (by rfl) ?_ ?_; rotate_left; (focus (intro w' hw'; obtain ⟨k4, k5⟩ := HCB.out w' hw'; go_simp; (try with_reducible rfl))); (try simp only [Act.put, List.setIfInBounds_toArray, List.set_cons_zero, List.set_cons_succ]))
  first | (refine walkS_skip (some 25) rfl rfl (by rfl) (fun _ _ _ h => h) hS ?_; (try simp only [Act.put, List.setIfInBounds_toArray, List.set_cons_zero, List.set_cons_succ])) | (refine walkS_take (v := ?_) (some 25) rfl rfl (fun _ _ _ h => h) (by rfl) ?_ ?_; rotate_left; (focus (intro w' hw'; obtain ⟨k4, k5⟩ := HCB.out w' hw'; go_simp; (try with_reducible rfl))); (try simp only [Act.put, List.setIfInBounds_toArray, List.set_cons_zero, List.set_cons_succ]))
  first | (refine walkS_skip (some 27) rfl rfl (by rfl) (fun _ _ _ h => h) hS ?_; (try simp only [Act.put, List.setIfInBounds_toArray, List.set_cons_zero, List.set_cons_succ])) | (refine walkS_take (v := ?_) (some 27) rfl rfl (fun _ _ _ h => h) (by rfl) ?_ ?_; rotate_left; (focus (intro w' hw'; obtain ⟨k4, k5⟩ := HCB.out w' hw'; go_simp; (try with_reducible rfl))); (try simp only [Act.put, List.setIfInBounds_toArray, List.set_cons_zero, List.set_cons_succ]))
  first | (refine walkS_skip (some 28) rfl rfl (by rfl) (fun _ _ _ h => h) hS ?_; (try simp only [Act.put, List.setIfInBounds_toArray, List.set_cons_zero, List.set_cons_succ])) | (refine walkS_take (v := ?_) (some 28) rfl rfl (fun _ _ _ h => h) (by rfl) ?_ ?_; rotate_left; (focus (intro w' hw'; obtain ⟨k4, k5⟩ := HCB.out w' hw'; go_simp; (try with_reducible rfl))); (try simp only [Act.put, List.setIfInBounds_toArray, List.set_cons_zero, List.set_cons_succ]))
  first | (refine walkS_skip (some 29) rfl rfl (by rfl) (fun _ _ _ h => h) hS ?_; (try simp only [Act.put, List.setIfInBounds_toArray, List.set_cons_zero, List.set_cons_succ])) | (refine walkS_take (v := ?_) (some 29) rfl rfl (fun _ _ _ h => h) (by rfl) ?_ ?_; rotate_left; (focus (intro w' hw'; obtain ⟨k4, k5⟩ := HCB.out w' hw'; go_simp; (try with_reducible rfl))); (try simp only [Act.put, List.setIfInBounds_toArray, List.set_cons_zero, List.set_cons_succ]))
  first | (refine walkS_skip (some 30) rfl rfl (by rfl) (fun _ _ _ h => h) hS ?_; (try simp only [Act.put, List.setIfInBounds_toArray, List.set_cons_zero, List.set_cons_succ])) | (refine walkS_take (v := ?_) (some 30) rfl rfl (fun _ _ _ h => h) (by rfl) ?_ ?_; rotate_left; (focus (intro w' hw'; obtain ⟨k4, k5⟩ := HCB.out w' hw'; go_simp; (try with_reducible rfl))); (try simp only [Act.put, List.setIfInBounds_toArray, List.set_cons_zero, List.set_cons_succ]))
  first | (refine walkS_skip (some 26) rfl rfl (by rfl) (fun _ _ _ h => h) hS ?_; (try simp only [Act.put, List.setIfInBounds_toArray, List.set_cons_zero, List.set_cons_succ])) | (refine walkS_call 26 _ _ _ _ (HOP.out _ hS) rfl rfl rfl (by rfl) rfl (enterL_dops _ _) ?_; rintro e w' ⟨rfl, rfl⟩; refine ⟨_, rfl, hS, fun hS => ?_⟩; (try simp only [Act.put, List.setIfInBounds_toArray, List.set_cons_zero, List.set_cons_succ]))
  first | (refine walkS_skip (some 31) rfl rfl (by rfl) (fun _ _ _ h => h) hS ?_; (try simp only [Act.put, List.setIfInBounds_toArray, List.set_cons_zero, List.set_cons_succ])) | (refine walkS_bin (some 31) _ _ _ _ _ _ _ _ (neI_same _ _ HE2.out) rfl rfl rfl rfl rfl (fun _ _ _ h => h) (by rfl) ?_; (try simp only [Act.put, List.setIfInBounds_toArray, List.set_cons_zero, List.set_cons_succ]))
  (refine walkS_take (v := ?_) (some 32) rfl rfl (fun _ _ _ h => h) (by rfl) ?_ ?_; rotate_left; (focus (intro w' hw'; obtain ⟨k4, k5⟩ := HCB.out w' hw'; go_simp; (try with_reducible rfl))); (try simp only [Act.put, List.setIfInBounds_toArray, List.set_cons_zero, List.set_cons_succ]))
  (refine walkS_take (v := ?_) (some 33) rfl rfl (fun _ _ _ h => h) (by rfl) ?_ ?_; rotate_left; (focus (intro w' hw'; obtain ⟨k4, k5⟩ := HCB.out w' hw'; go_simp; (try with_reducible rfl))); (try simp only [Act.put, List.setIfInBounds_toArray, List.set_cons_zero, List.set_cons_succ]))
  first | (refine walkS_skip (some 34) rfl rfl (by rfl) (fun _ _ _ h => h) hS ?_; (try simp only [Act.put, List.setIfInBounds_toArray, List.set_cons_zero, List.set_cons_succ])) | (refine walkS_take (v := ?_) (some 34) rfl rfl (fun _ _ _ h => h) (by rfl) ?_ ?_; rotate_left; (focus (intro w' hw'; obtain ⟨k4, k5⟩ := HCB.out w' hw'; go_simp; (try with_reducible rfl))); (try simp only [Act.put, List.setIfInBounds_toArray, List.set_cons_zero, List.set_cons_succ]))
  first | (refine walkS_skip (some 36) rfl rfl (by rfl) (fun _ _ _ h => h) hS ?_; (try simp only [Act.put, List.setIfInBounds_toArray, List.set_cons_zero, List.set_cons_succ])) | (refine walkS_take (v := ?_) (some 36) rfl rfl (fun _ _ _ h => h) (by rfl) ?_ ?_; rotate_left; (focus (intro w' hw'; obtain ⟨k4, k5⟩ := HCB.out w' hw'; go_simp; (try with_reducible rfl))); (try simp only [Act.put, List.setIfInBounds_toArray, List.set_cons_zero, List.set_cons_succ]))
  first | (refine walkS_skip (some 37) rfl rfl (by rfl) (fun _ _ _ h => h) hS ?_; (try simp only [Act.put, List.setIfInBounds_toArray, List.set_cons_zero, List.set_cons_succ])) | (refine walkS_take (v := ?_) (some 37) rfl rfl (fun _ _ _ h => h) (by rfl) ?_ ?_; rotate_left; (focus (intro w' hw'; obtain ⟨k4, k5⟩ := HCB.out w' hw'; go_simp; (try with_reducible rfl))); (try simp only [Act.put, List.setIfInBounds_toArray, List.set_cons_zero, List.set_cons_succ]))
  first | (refine walkS_skip (some 38) rfl rfl (by rfl) (fun _ _ _ h => h) hS ?_; (try simp only [Act.put, List.setIfInBounds_toArray, List.set_cons_zero, List.set_cons_succ])) | (refine walkS_take (v := ?_) (some 38) rfl rfl (fun _ _ _ h => h) (by rfl) ?_ ?_; rotate_left; (focus (intro w' hw'; obtain ⟨k4, k5⟩ := HCB.out w' hw'; go_simp; (try with_reducible rfl))); (try simp only [Act.put, List.setIfInBounds_toArray, List.set_cons_zero, List.set_cons_succ]))
  first | (refine walkS_skip (some 39) rfl rfl (by rfl) (fun _ _ _ h => h) hS ?_; (try simp only [Act.put, List.setIfInBounds_toArray, List.set_cons_zero, List.set_cons_succ])) | (refine walkS_take (v := ?_) (some 39) rfl rfl (fun _ _ _ h => h) (by rfl) ?_ ?_; rotate_left; (focus (intro w' hw'; obtain ⟨k4, k5⟩ := HCB.out w' hw'; go_simp; (try with_reducible rfl))); (try simp only [Act.put, List.setIfInBounds_toArray, List.set_cons_zero, List.set_cons_succ]))
  first | (refine walkS_skip (some 35) rfl rfl (by rfl) (fun _ _ _ h => h) hS ?_; (try simp only [Act.put, List.setIfInBounds_toArray, List.set_cons_zero, List.set_cons_succ])) | (refine walkS_call 35 _ _ _ _ (HQU.out _ hS) rfl rfl rfl (by rfl) rfl (enterL_dq _ _) ?_; rintro e w' ⟨rfl, rfl⟩; refine ⟨_, rfl, hS, fun hS => ?_⟩; (try simp only [Act.put, List.setIfInBounds_toArray, List.set_cons_zero, List.set_cons_succ]))
  first | (refine walkS_skip (some 40) rfl rfl (by rfl) (fun _ _ _ h => h) hS ?_; (try simp only [Act.put, List.setIfInBounds_toArray, List.set_cons_zero, List.set_cons_succ])) | (refine walkS_bin (some 40) _ _ _ _ _ _ _ _ (neI_same _ _ HE3.out) rfl rfl rfl rfl rfl (fun _ _ _ h => h) (by rfl) ?_; (try simp only [Act.put, List.setIfInBounds_toArray, List.set_cons_zero, List.set_cons_succ]))
  (refine walkS_take (v := ?_) (some 41) rfl rfl (fun _ _ _ h => h) (by rfl) ?_ ?_; rotate_left; (focus (intro w' hw'; obtain ⟨k4, k5⟩ := HCB.out w' hw'; go_simp; (try with_reducible rfl))); (try simp only [Act.put, List.setIfInBounds_toArray, List.set_cons_zero, List.set_cons_succ]))
  refine walkS_done ?_
  have HS := Lib.hid hS
  go_wp2_with fail
  (with_reducible refine (HRN.out _ HS.out).mono ?_)
  rintro e w2 ⟨a2, c2, rfl, o2, t2⟩
  have HO2 := Lib.hid o2
  have HT2 := Lib.hid (HS.out.trans t2 (fun _ _ h => h))
  have hcap := o2.row'.2.1.hcap
  have hmax := o2.row'.2.1.hmax
  clear o2 t2 hS
  go_wp2_with fail
  go_loopw [45] (fun s45 wr => ∃ i : Nat, i ≤ N ∧ s45 = .int .i64 i ∧ Touch w2 wr (fun _ => False)) (fun s45 _ => N - (RowKit.intOf s45).toNat)
  case atStart => exact ⟨0, Nat.zero_le _, rfl, Touch.refl _ _⟩
  case round =>
    obtain ⟨i, hi, rfl, ht⟩ := hrel
    have HT := Lib.hid ht
    clear ht
    by_cases hlt : i < N
    case neg =>
      obtain rfl : N = i := by omega
      have hlI : ¬ (N : Int) < N := by omega
      have HTF := Lib.hid (HT2.out.trans HT.out (fun _ _ h => h))
      go_wp2_with fail
      go_ret
      exact ⟨rfl, HTF.out⟩
    case pos =>
      have hlI : (i : Int) < N := by omega
      have hiN : i < R.N.length := by rw [HNE.out]; exact hlt
      have r1 := (HO2.out.still HT.out).row'.2.1
      obtain ⟨b1, o1, e1⟩ := r1.some (by omega)
      rw [e1] at r1
      have x0 := strs_cell r1 i (by simpa using hiN)
      have hname : (R.N.map RN.n)[i]'(by simpa using hiN) = R.N[i].n := by simp
      rw [hname] at x0
      have hin := List.getElem_mem hiN
      have hF := rFind_in hin
      have hsz : szN R.N[i].n := by
        have h1 := HB.out.s.N.p.mem_iff.1 (List.mem_map.2 ⟨_, hin, rfl⟩)
        have h2 := (HB.out.n.m.goodN.ref _ h1).2.1
        have h2 : R.N[i].n.size ≤ 16 := h2
        unfold szN
        omega
      obtain ⟨k, hk⟩ : ∃ k, R.N[i].n = k := ⟨_, rfl⟩
      rw [hk] at x0 hF hsz
      obtain ⟨hrd, hsm⟩ := HB.out.s.read HB.out.nd k
      have HBR := Lib.hid (HB.out.still (HT2.out.trans HT.out (fun _ _ h => h)))
      have HDR := Lib.hid (HBR.out.n.read k hsz)
      rw [hrd, hsm, hF] at HDR
      have HF := Lib.hid hF
      have hwk : wrap64 ((i : Int) + 1) = (i : Int) + 1 := by unfold wrap64; omega
      have HWK := Lib.hid hwk
      rw [e1]
      clear r1 hname hin hk hrd hsm hsz hwk hF
      go_wp2_with fail
      (with_reducible refine HDR.out.mono ?_)
      rintro e w4 ⟨a4, c4, rfl, r4, -, n4, t4⟩
      have HR4 := Lib.hid r4
      have HT4 := Lib.hid ((HT.out.trans t4 (fun _ _ h => h)))
      have HRR := Lib.hid (rread_any w4 m hR R (HBR.out.x.still t4) HV.out k)
      rw [HF.out] at HRR
      clear r4 n4 t4
      go_wp2_with fail
      (with_reducible refine HRR.out.mono ?_)
      rintro e w5 ⟨a5, c5, rfl, r5, t5⟩
      have HT5 := Lib.hid (HT4.out.trans t5 (fun _ _ h => h))
      have cv1 : (convert 29 9 (.slice a4 (rRead R k).length c4)).run Try.prog w5 = .ok (.string (strB (rRead R k))) w5 := run_string_of (HR4.out.touch t5 (fun _ _ => .inr (fun h => h))) _ _ 5 Try.underlying29 Try.underlying5 Try.underlying9
      have cv2 : (convert 29 9 (.slice a5 (rRead R k).length c5)).run Try.prog w5 = .ok (.string (strB (rRead R k))) w5 := run_string_of r5 _ _ 5 Try.underlying29 Try.underlying5 Try.underlying9
      have HX : RowKit.Hid (∃ i' : Nat, i' ≤ N ∧ Value.int .i64 ((i : Int) + 1) = .int .i64 i' ∧ Touch w2 w5 (fun _ => False)) := Lib.hid ⟨i + 1, by omega, by go_num, HT5.out⟩
      clear r5 t5
      go_wp2_with fail
      try rw [HWK.out]
      go_roundw
      · exact HX.out
      · simp only [RowKit.intOf]; omega
end Go.Proofs.Ytmokcfmlolohaaa

end
