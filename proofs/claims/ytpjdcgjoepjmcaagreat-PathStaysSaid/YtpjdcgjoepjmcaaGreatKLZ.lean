import Derived.Test.YtpjdcgjoepjmcaaGreatHBZ
import Derived.Test.YtpjdcgjoepjmcaaGreatHFZ
import Derived.Test.YtpjdcgjoepjmcaaGreatGCZ
import Derived.Deep.DeepCutAuto
import Derived.Test.YtpjdcgjoepjmcaaGreatHAZ
import Derived.Deep.CutBlock
section
set_option linter.unusedVariables false
namespace Go.Proofs.YtpjdcgjoepjmcaaGreat
open Go.RowKit

theorem gmayK_at {bs : List BkD} (h : gmay bs = true) (i : Nat) (hi : i < bs.length) : mayKB bs[i] = true := by
  have := ((gmay_iff bs).1 h).2 i hi
  unfold okAt at this
  rw [List.getElem?_eq_getElem hi] at this
  simp only [Bool.and_eq_true] at this
  exact this.1
theorem gmayK_up {bs : List BkD} (h : gmay bs = true) : bs.Pairwise (fun a b => a.id < b.id) := by
  have hs : ∀ i (hi : i + 1 < bs.length), bs[i].id < bs[i + 1].id := fun i hi => by
    have := ((gmay_iff bs).1 h).2 (i + 1) hi
    rw [okAt_succ (List.getElem?_eq_getElem hi) (List.getElem?_eq_getElem (by omega))] at this
    simp only [Bool.and_eq_true, decide_eq_true_iff] at this
    exact this.2
  rw [List.pairwise_iff_getElem]
  intro i j hi hj hij
  induction j with
  | zero => omega
  | succ j ih =>
    have h1 := hs j hj
    rcases Nat.lt_or_ge i j with h9 | h9
    · have := ih (by omega) h9; omega
    · obtain rfl : i = j := by omega
      exact h1
theorem gmayK_iff (bs : List BkD) : gmay bs = true ↔ bs.length ≤ 16 ∧ (∀ b ∈ bs, mayKB b = true) ∧ bs.Pairwise (fun a b => a.id < b.id) := by
  constructor
  · intro h
    refine ⟨((gmay_iff bs).1 h).1, fun b hb => ?_, gmayK_up h⟩
    obtain ⟨i, hi, rfl⟩ := List.getElem_of_mem hb
    exact gmayK_at h i hi
  · rintro ⟨h1, h2, h3⟩
    rw [gmay_iff]
    refine ⟨h1, fun i hi => ?_⟩
    cases i with
    | zero => rw [okAt_zero (List.getElem?_eq_getElem hi)]; exact h2 _ (List.getElem_mem hi)
    | succ i =>
      rw [okAt_succ (List.getElem?_eq_getElem hi) (List.getElem?_eq_getElem (by omega)), h2 _ (List.getElem_mem hi), Bool.true_and]
      exact decide_eq_true (List.pairwise_iff_getElem.1 h3 i (i + 1) (by omega) hi (by omega))
def metF : List Int → List BkD → List BkD
  | _, [] => []
  | s, b :: r => if b.id ∈ s then metF s r else b :: metF (b.id :: s) r
theorem metF_mem : ∀ (bs : List BkD) (s : List Int), ∀ b ∈ metF s bs, b ∈ bs ∧ b.id ∉ s
  | [], _, b, h => by simp [metF] at h
  | x :: r, s, b, h => by
    unfold metF at h
    split at h
    · have := metF_mem r s b h
      exact ⟨List.mem_cons_of_mem _ this.1, this.2⟩
    · rename_i hx
      rcases List.mem_cons.1 h with rfl | h
      · exact ⟨List.mem_cons_self .., hx⟩
      · have := metF_mem r (x.id :: s) b h
        exact ⟨List.mem_cons_of_mem _ this.1, fun h2 => this.2 (List.mem_cons_of_mem _ h2)⟩
theorem metF_nd : ∀ (bs : List BkD) (s : List Int), ((metF s bs).map BkD.id).Nodup
  | [], _ => List.nodup_nil
  | x :: r, s => by
    unfold metF
    split
    · exact metF_nd r s
    · rw [List.map_cons, List.nodup_cons]
      refine ⟨fun h => ?_, metF_nd r _⟩
      obtain ⟨c, hc, e⟩ := List.mem_map.1 h
      exact (metF_mem r _ c hc).2 (by rw [e]; exact List.mem_cons_self ..)
theorem metF_len : ∀ (bs : List BkD) (s : List Int), (metF s bs).length ≤ bs.length
  | [], _ => Nat.le_refl _
  | x :: r, s => by
    unfold metF
    split
    · have := metF_len r s
      simp only [List.length_cons]; omega
    · have := metF_len r (x.id :: s)
      simp only [List.length_cons]; omega
theorem metF_first : ∀ (p : List BkD) (b : BkD) (r : List BkD) (s : List Int), b.id ∉ s → b.id ∉ p.map BkD.id → b ∈ metF s (p ++ b :: r)
  | [], b, r, s, h, _ => by
    rw [List.nil_append]
    unfold metF
    rw [if_neg h]; exact List.mem_cons_self ..
  | x :: p, b, r, s, h, hp => by
    rw [List.map_cons, List.mem_cons] at hp
    rw [List.cons_append]
    unfold metF
    split
    · exact metF_first p b r s h (fun h => hp (.inr h))
    · refine List.mem_cons_of_mem _ (metF_first p b r _ (fun h2 => ?_) (fun h => hp (.inr h)))
      rcases List.mem_cons.1 h2 with h3 | h3
      · exact hp (.inl h3)
      · exact h h3
def UpK (bs : List BkD) : Prop := bs.Pairwise (fun a b => a.id < b.id)
theorem UpK.nd : ∀ {bs : List BkD}, UpK bs → (bs.map BkD.id).Nodup
  | [], _ => List.nodup_nil
  | x :: r, h => by
    obtain ⟨h1, h2⟩ := List.pairwise_cons.1 h
    rw [List.map_cons, List.nodup_cons]
    refine ⟨fun hm => ?_, UpK.nd h2⟩
    obtain ⟨c, hc, e⟩ := List.mem_map.1 hm
    have := h1 c hc
    omega
theorem UpK.uniq : ∀ {L M : List BkD}, L.Perm M → UpK L → UpK M → L = M
  | [], M, p, _, _ => (List.Perm.nil_eq p).symm ▸ rfl
  | x :: L, [], p, _, _ => by have := p.length_eq; simp at this
  | x :: L, y :: M, p, h, g => by
    obtain ⟨h1, h2⟩ := List.pairwise_cons.1 h
    obtain ⟨g1, g2⟩ := List.pairwise_cons.1 g
    have hx : x ∈ y :: M := p.mem_iff.1 (List.mem_cons_self ..)
    have hy : y ∈ x :: L := p.mem_iff.2 (List.mem_cons_self ..)
    have e : x = y := by
      rcases List.mem_cons.1 hx with rfl | hx
      · rfl
      · rcases List.mem_cons.1 hy with rfl | hy
        · rfl
        · have := h1 y hy; have := g1 x hx; omega
    subst e
    rw [UpK.uniq (p.cons_inv) h2 g2]
def insK (b : BkD) : List BkD → List BkD
  | [] => [b]
  | x :: l => if x.id < b.id then x :: insK b l else b :: x :: l
def isortK : List BkD → List BkD
  | [] => []
  | x :: l => insK x (isortK l)
theorem insK_perm (b : BkD) : ∀ l, (insK b l).Perm (b :: l)
  | [] => .refl _
  | x :: l => by
    unfold insK
    split
    · exact ((insK_perm b l).cons x).trans (.swap b x l)
    · exact .refl _
theorem insK_up (b : BkD) : ∀ l, UpK l → b.id ∉ l.map BkD.id → UpK (insK b l)
  | [], _, _ => by simp [insK, UpK]
  | x :: l, h, hn => by
    obtain ⟨h1, h2⟩ := List.pairwise_cons.1 h
    rw [List.map_cons, List.mem_cons] at hn
    unfold insK
    split
    · rename_i hlt
      refine List.pairwise_cons.2 ⟨fun y hy => ?_, insK_up b l h2 (fun h => hn (.inr h))⟩
      rcases List.mem_cons.1 ((insK_perm b l).mem_iff.1 hy) with rfl | hy
      · exact hlt
      · exact h1 y hy
    · rename_i hlt
      have hne : b.id ≠ x.id := fun h => hn (.inl h)
      exact List.pairwise_cons.2 ⟨fun y hy => by
        rcases List.mem_cons.1 hy with rfl | hy
        · omega
        · have := h1 y hy; omega, h⟩
theorem isortK_ok : ∀ l : List BkD, (l.map BkD.id).Nodup → (isortK l).Perm l ∧ UpK (isortK l)
  | [], _ => ⟨.refl _, List.Pairwise.nil⟩
  | x :: l, h => by
    rw [List.map_cons, List.nodup_cons] at h
    obtain ⟨h1, h2⟩ := isortK_ok l h.2
    refine ⟨(insK_perm x (isortK l)).trans (h1.cons x), insK_up x _ h2 (fun hm => h.1 ((h1.map _).mem_iff.1 hm))⟩
def gsortF (bs : List BkD) : List BkD := isortK (metF [] (bs.take 16).reverse)
theorem gsort_perm (bs : List BkD) : (gsortF bs).Perm (metF [] (bs.take 16).reverse) := (isortK_ok _ (metF_nd _ _)).1
theorem gsort_up (bs : List BkD) : UpK (gsortF bs) := (isortK_ok _ (metF_nd _ _)).2
theorem gsort_is {bs S : List BkD} (p : S.Perm (metF [] (bs.take 16).reverse)) (u : UpK S) : S = gsortF bs := UpK.uniq (p.trans (gsort_perm bs).symm) u (gsort_up bs)
theorem gsort_mem {bs : List BkD} {b : BkD} (h : b ∈ gsortF bs) : b ∈ bs.take 16 := List.mem_reverse.1 (metF_mem _ _ b ((gsort_perm bs).mem_iff.1 h)).1
theorem gsort_last {p r : List BkD} {b : BkD} (hl : (p ++ b :: r).length ≤ 16) (hb : b.id ∉ r.map BkD.id) : b ∈ gsortF (p ++ b :: r) := by
  rw [(gsort_perm _).mem_iff, List.take_of_length_le hl, List.reverse_append, List.reverse_cons, List.append_assoc]
  refine metF_first _ _ _ _ (fun h => by cases h) (fun h => hb ?_)
  rw [List.map_reverse] at h
  exact List.mem_reverse.1 h
def wOf (b : BkD) : Int := if 1 ≤ b.weight ∧ b.weight ≤ 10 then b.weight else 0
def weightF : List BkD → Int
  | [] => 0
  | b :: r => wOf b + weightF r
theorem findF_has {bs : List BkD} {id : Int} (h : ∃ c ∈ bs, c.id = id) : (findF bs id).isSome = true := by
  obtain ⟨c, hc, e⟩ := h
  unfold findF
  rw [List.find?_isSome]
  exact ⟨c, hc, by simp [e]⟩
end Go.Proofs.YtpjdcgjoepjmcaaGreat

end

section
set_option linter.unusedVariables false
namespace Go.Proofs.YtpjdcgjoepjmcaaGreat
open Go.RowKit

theorem metF_congr : ∀ (bs : List BkD) (s s' : List Int), (∀ i, i ∈ s ↔ i ∈ s') → metF s bs = metF s' bs
  | [], _, _, _ => rfl
  | b :: r, s, s', h => by
    unfold metF
    by_cases hb : b.id ∈ s
    · rw [if_pos hb, if_pos ((h _).1 hb)]; exact metF_congr r s s' h
    · rw [if_neg hb, if_neg (fun h2 => hb ((h _).2 h2))]
      rw [metF_congr r (b.id :: s) (b.id :: s') (fun i => by simp only [List.mem_cons, h i])]
theorem metF_add : ∀ (bs : List BkD) (s : List Int) (x : Int), metF (x :: s) bs = (metF s bs).filter (fun b => decide (b.id ≠ x))
  | [], _, _ => rfl
  | b :: r, s, x => by
    by_cases hs : b.id ∈ s
    · rw [metF, if_pos (List.mem_cons_of_mem _ hs), metF, if_pos hs]; exact metF_add r s x
    · by_cases hx : b.id = x
      · subst hx
        rw [metF, if_pos (List.mem_cons_self ..), metF, if_neg hs, List.filter_cons_of_neg (by simp), metF_add r s b.id, List.filter_filter]
        simp
      · rw [metF, if_neg (fun h => (List.mem_cons.1 h).elim hx hs), metF, if_neg hs, List.filter_cons_of_pos (by simpa using hx)]
        rw [metF_congr r (b.id :: x :: s) (x :: b.id :: s) (fun i => by simp only [List.mem_cons]; exact or_left_comm), metF_add r (b.id :: s) x]
def layK (b : BkD) : List BkD → List BkD
  | [] => [b]
  | x :: r => if x.id < b.id then x :: layK b r else if x.id = b.id then b :: r else b :: x :: r
theorem filter_up {b : BkD} : ∀ {L : List BkD}, (∀ x ∈ L, b.id < x.id) → L.filter (fun x => decide (x.id ≠ b.id)) = L := by
  intro L h
  exact List.filter_eq_self.2 (fun x hx => decide_eq_true (by have := h x hx; omega))
theorem layK_ok (b : BkD) : ∀ L : List BkD, UpK L → (layK b L).Perm (b :: L.filter (fun x => decide (x.id ≠ b.id))) ∧ UpK (layK b L)
  | [], _ => ⟨.refl _, List.pairwise_singleton ..⟩
  | x :: r, h => by
    obtain ⟨h1, h2⟩ := List.pairwise_cons.1 h
    obtain ⟨i1, i2⟩ := layK_ok b r h2
    unfold layK
    by_cases hlt : x.id < b.id
    · rw [if_pos hlt, List.filter_cons_of_pos (by simp; omega)]
      refine ⟨(i1.cons x).trans (.swap b x _), List.pairwise_cons.2 ⟨fun y hy => ?_, i2⟩⟩
      rcases List.mem_cons.1 (i1.mem_iff.1 hy) with rfl | hy
      · exact hlt
      · exact h1 y ((List.mem_filter.1 hy).1)
    · rw [if_neg hlt]
      by_cases he : x.id = b.id
      · rw [if_pos he, List.filter_cons_of_neg (by simp [he]), filter_up (fun y hy => by have := h1 y hy; omega)]
        exact ⟨.refl _, List.pairwise_cons.2 ⟨fun y hy => by have := h1 y hy; omega, h2⟩⟩
      · have hbx : b.id < x.id := by omega
        rw [if_neg he, filter_up (L := x :: r) (fun y hy => by
          rcases List.mem_cons.1 hy with rfl | hy
          · exact hbx
          · have := h1 y hy; omega)]
        exact ⟨.refl _, List.pairwise_cons.2 ⟨fun y hy => by
          rcases List.mem_cons.1 hy with rfl | hy
          · exact hbx
          · have := h1 y hy; omega, h⟩⟩
def rfoldK (l : List BkD) : List BkD := l.foldl (fun L b => layK b L) []
theorem rfoldK_snoc (l : List BkD) (b : BkD) : rfoldK (l ++ [b]) = layK b (rfoldK l) := by unfold rfoldK; rw [List.foldl_append]; rfl
theorem rfoldK_ok (R : List BkD) : (rfoldK R.reverse).Perm (metF [] R) ∧ UpK (rfoldK R.reverse) := by
  induction R with
  | nil => exact ⟨.refl _, .nil⟩
  | cons b R ih =>
    rw [List.reverse_cons, rfoldK_snoc]
    obtain ⟨h1, h2⟩ := layK_ok b _ ih.2
    refine ⟨h1.trans ?_, h2⟩
    rw [metF, if_neg (by simp), metF_add R [] b.id]
    exact (ih.1.filter _).cons b
theorem rsort_is (bs : List BkD) : rfoldK (bs.take 16) = gsortF bs := by
  obtain ⟨h1, h2⟩ := rfoldK_ok (bs.take 16).reverse
  rw [List.reverse_reverse] at h1 h2
  exact gsort_is h1 h2
theorem layK_at : ∀ (L : List BkD) (b : BkD) (i : Nat), i ≤ L.length → (∀ x ∈ L.take i, x.id < b.id) → (∀ x, (L.drop i).head? = some x → ¬ x.id < b.id) → layK b L = L.take i ++ b :: (match L.drop i with | [] => [] | x :: r => if x.id = b.id then r else x :: r)
  | [], b, i, hi, _, _ => by
    obtain rfl : i = 0 := by simpa using hi
    rfl
  | x :: r, b, 0, _, _, h => by
    have := h x rfl
    unfold layK
    rw [if_neg this]
    by_cases he : x.id = b.id
    · rw [if_pos he]; simp [he]
    · rw [if_neg he]; simp [he]
  | x :: r, b, i + 1, hi, h1, h2 => by
    have hx := h1 x (by simp)
    unfold layK
    rw [if_pos hx, layK_at r b i (by simpa using hi) (fun y hy => h1 y (by simp [hy])) (fun y hy => h2 y (by simpa using hy))]
    simp
end Go.Proofs.YtpjdcgjoepjmcaaGreat

end

section
set_option linter.unusedVariables false
set_option linter.unusedSimpArgs false
namespace Go.Proofs.YtpjdcgjoepjmcaaGreat
open Go.RowKit

end Go.Proofs.YtpjdcgjoepjmcaaGreat

end

section
set_option linter.unusedVariables false
namespace Go.Proofs.YtpjdcgjoepjmcaaGreat
open Go.RowKit

inductive Sch3 where
  | fin
  | take (i : Nat) (s : Sch3)
  | one (i : Nat) (s : Sch3)
  | two (i j : Nat) (s t : Sch3)
  | three (i j k : Nat) (s t u : Sch3)
def Sch3.okB (md : Region.Mode) (ops : Array Oper) : Sch3 → Array Bool → Bool
  | .fin, listed => (Region.ready md ops listed) == []
  | .take i s, listed => Region.free md ops listed i && (Region.ready md ops listed).contains i && s.okB md ops (listed.setIfInBounds i true)
  | .one i s, listed => (Region.ready md ops listed == [i]) && s.okB md ops (listed.setIfInBounds i true)
  | .two i j s t, listed => (Region.ready md ops listed == [i, j]) && (s.okB md ops (listed.setIfInBounds i true) && t.okB md ops (listed.setIfInBounds j true))
  | .three i j k s t u, listed => (Region.ready md ops listed == [i, j, k]) && (s.okB md ops (listed.setIfInBounds i true) && (t.okB md ops (listed.setIfInBounds j true) && u.okB md ops (listed.setIfInBounds k true)))
def Sch3.deep : Sch3 → Nat
  | .fin => 0
  | .take _ s => s.deep + 1
  | .one _ s => s.deep + 1
  | .two _ _ s t => max s.deep t.deep + 1
  | .three _ _ _ s t u => max s.deep (max t.deep u.deep) + 1
def walk3 (P : Program) (ops : Array Oper) (Q : Exit → Act → World → Prop) (S : World → Prop) : Sch3 → Act → World → Prop
  | .fin => fun a w => Q .normal a w
  | .take i s => fun a w => TakeN P ops Q S i (walk3 P ops Q S s) a w
  | .one i s => fun a w => RunN P ops Q S i (walk3 P ops Q S s) a w
  | .two i j s t => fun a w => RunN P ops Q S i (walk3 P ops Q S s) a w ∧ RunN P ops Q S j (walk3 P ops Q S t) a w
  | .three i j k s t u => fun a w => RunN P ops Q S i (walk3 P ops Q S s) a w ∧ RunN P ops Q S j (walk3 P ops Q S t) a w ∧ RunN P ops Q S k (walk3 P ops Q S u) a w
section
variable {P : Program} {ops : Array Oper} {Q : Exit → Act → World → Prop} {md : Region.Mode} {S : World → Prop}
theorem wpAnyH_tree3 (hsel : Region.noSelect ops = true) : ∀ (s : Sch3) (fuel : Nat) (listed : Array Bool) (a : Act) (w : World), s.okB md ops listed = true → s.deep ≤ fuel → S w → walk3 P ops Q S s a w → wpAnyH P md ops Q S fuel listed a w
  | .fin, fuel, listed, a, w, hs, _, _, h => wpAnyH_done (by simpa [Sch3.okB] using hs) h _
  | .take i s, 0, _, _, _, _, hf, _, _ => absurd hf (by simp [Sch3.deep])
  | .take i s, fuel + 1, listed, a, w, hs, hf, hS, h => by
    simp only [Sch3.okB, Bool.and_eq_true] at hs
    obtain ⟨o, v, ho, hQ, hy, h⟩ := h
    exact wpAnyH_take ho hsel hs.1.1 hs.1.2 hQ hy hS (wpAnyH_tree3 hsel s _ _ _ _ hs.2 (by simp only [Sch3.deep] at hf; omega) hS h)
  | .one i s, 0, _, _, _, _, hf, _, _ => absurd hf (by simp [Sch3.deep])
  | .one i s, fuel + 1, listed, a, w, hs, hf, hS, h => by
    simp only [Sch3.okB, Bool.and_eq_true, beq_iff_eq] at hs
    exact wpAnyH_ready hs.1 (by simp) (runN_ready h (fun a w hS hW => wpAnyH_tree3 hsel s _ _ _ _ hs.2 (by simp only [Sch3.deep] at hf; omega) hS hW) AllReadyH.nil)
  | .two i j s t, 0, _, _, _, _, hf, _, _ => absurd hf (by simp [Sch3.deep])
  | .two i j s t, fuel + 1, listed, a, w, hs, hf, hS, h => by
    simp only [Sch3.okB, Bool.and_eq_true, beq_iff_eq] at hs
    have hd : max s.deep t.deep ≤ fuel := by simp only [Sch3.deep] at hf; omega
    exact wpAnyH_ready hs.1 (by simp) (runN_ready h.1 (fun a w hS hW => wpAnyH_tree3 hsel s _ _ _ _ hs.2.1 (by omega) hS hW)
      (runN_ready h.2 (fun a w hS hW => wpAnyH_tree3 hsel t _ _ _ _ hs.2.2 (by omega) hS hW) AllReadyH.nil))
  | .three i j k s t u, 0, _, _, _, _, hf, _, _ => absurd hf (by simp [Sch3.deep])
  | .three i j k s t u, fuel + 1, listed, a, w, hs, hf, hS, h => by
    simp only [Sch3.okB, Bool.and_eq_true, beq_iff_eq] at hs
    have hd : max s.deep (max t.deep u.deep) ≤ fuel := by simp only [Sch3.deep] at hf; omega
    exact wpAnyH_ready hs.1 (by simp) (runN_ready h.1 (fun a w hS hW => wpAnyH_tree3 hsel s _ _ _ _ hs.2.1 (by omega) hS hW)
      (runN_ready h.2.1 (fun a w hS hW => wpAnyH_tree3 hsel t _ _ _ _ hs.2.2.1 (by omega) hS hW)
        (runN_ready h.2.2 (fun a w hS hW => wpAnyH_tree3 hsel u _ _ _ _ hs.2.2.2 (by omega) hS hW) AllReadyH.nil)))
theorem wp_region_tree3 {id : Nat} {a : Act} {w : World} (S : World → Prop) (s : Sch3) (hm : P.follows .mixedOrders = true) (hsel : Region.noSelect ops = true) (hlen : Nat.ble s.deep ops.size = true)
    (hs : s.okB .any ops (Array.replicate ops.size false) = true) (hS : S w.drew) (h : walk3 P ops Q S s a w.drew) : (Code.region id ops true).wp P Q a w :=
  wp_region_held_drew (S := S) hm hS (fun hS => wpAnyH_tree3 hsel s _ _ _ _ hs (Nat.le_of_ble_eq_true hlen) hS h)
theorem walk3_fin {a : Act} {w : World} (h : Q .normal a w) : walk3 P ops Q S .fin a w := h
theorem walk3_take {i : Nat} {s : Sch3} {a : Act} {w : World} (h : TakeN P ops Q S i (walk3 P ops Q S s) a w) : walk3 P ops Q S (.take i s) a w := h
theorem walk3_one {i : Nat} {s : Sch3} {a : Act} {w : World} (h : RunN P ops Q S i (walk3 P ops Q S s) a w) : walk3 P ops Q S (.one i s) a w := h
theorem walk3_two {i j : Nat} {s t : Sch3} {a : Act} {w : World} (h : RunN P ops Q S i (walk3 P ops Q S s) a w) (h2 : RunN P ops Q S j (walk3 P ops Q S t) a w) : walk3 P ops Q S (.two i j s t) a w := ⟨h, h2⟩
end
end Go.Proofs.YtpjdcgjoepjmcaaGreat

end

section
set_option linter.unusedVariables false
set_option linter.unusedSimpArgs false
namespace Go.Proofs.YtpjdcgjoepjmcaaGreat
open Go.RowKit

theorem infoBkN : (Tryz.prog.info? 70).map (·.size) = some 3 := by kernel_rfl
theorem one_bkK (L : List BkD) : ∀ l ∈ L.map BkD.cells, ∀ u ∈ l, u.oneCell' = true := by
  intro l hl u hu
  obtain ⟨f, _, rfl⟩ := List.mem_map.1 hl
  simp only [BkD.cells, List.mem_cons, List.not_mem_nil, or_false] at hu
  rcases hu with rfl | rfl | rfl <;> rfl
theorem row_back3 {w : World} {g off n c : Nat} {L : List BkD} (h : RowS w (some ⟨g, off, none⟩) n c 3 (L.map BkD.cells)) (i : Nat) (hi : i ≤ n) : RowS w (if c = i then some ⟨g, off, none⟩ else some ⟨g, off + i * 3, none⟩) (n - i) (c - i) 3 ((L.drop i).map BkD.cells) := by
  have hl : L.length = n := by have := h.hlen; simpa using this
  have hc1 := h.hcap
  have hc2 := h.hmax
  by_cases hci : c = i
  · rw [if_pos hci]
    have e : n - i = 0 := by omega
    have hd : L.drop i = [] := List.drop_eq_nil_of_le (by omega)
    rw [e, hd]
    exact RowS.nil _ _ _ _ (by omega)
  · rw [if_neg hci]
    refine ⟨by simp; omega, by omega, by omega, fun x hx => by obtain ⟨b, _, rfl⟩ := List.mem_map.1 hx; rfl, ?_⟩
    rcases h.at_ with h0 | ⟨b, o, e, hlt, hc⟩
    · exact .inl (by omega)
    · injection e with e
      injection e with e1 e2
      subst e1; subst e2
      refine .inr ⟨g, off + i * 3, rfl, hlt, fun j hj m u hu => ?_⟩
      have hj2 : j < (L.drop i).length := by simpa using hj
      rw [List.length_drop] at hj2
      have := hc (i + j) (by simp; omega) m u (by
        rw [List.getElem_map] at hu ⊢
        rw [List.getElem_drop] at hu
        exact hu)
      rw [show off + i * 3 + j * 3 + m = off + (i + j) * 3 + m by omega]
      exact this
theorem row_front3 {w : World} {a : Option Addr} {n c : Nat} {L : List BkD} (h : RowS w a n c 3 (L.map BkD.cells)) (i : Nat) (hi : i ≤ n) : RowS w a i c 3 ((L.take i).map BkD.cells) := by
  have := RowS.take h i hi
  rwa [← List.map_take] at this
theorem own_lay {w : World} {base g n cap : Nat} {O : List BkD} (h : OwnS w base 70 3 (.slice (some ⟨g, 0, none⟩) n cap) (O.map BkD.cells)) (i : Nat) (hi : i < O.length) (f : BkD) :
    OwnS (((w.setCell ⟨g, i * 3, none⟩ (.int .i64 f.id)).setCell ⟨g, i * 3 + 1, none⟩ (.int .u32 f.addr)).setCell ⟨g, i * 3 + 2, none⟩ (.int .i64 f.weight)) base 70 3 (.slice (some ⟨g, 0, none⟩) n cap) ((O.set i f).map BkD.cells) := by
  have hi0 : i < (O.map BkD.cells).length := by simpa using hi
  have h1 := h.stored i hi0 0 (by decide) (.int .i64 f.id)
  have h2 := h1.stored i (by simpa using hi) 1 (by decide) (.int .u32 f.addr)
  have h3 := h2.stored i (by simpa using hi) 2 (by decide) (.int .i64 f.weight)
  have e : (O.set i f).map BkD.cells = (O.map BkD.cells).set i f.cells := List.map_set
  rw [e]
  simpa [BkD.cells] using h3
def tailK : List BkD → BkD → List BkD
  | [], _ => []
  | x :: r, b => if x.id = b.id then r else x :: r
theorem lay_at (L : List BkD) (b : BkD) (i : Nat) (hi : i ≤ L.length) (h1 : ∀ x ∈ L.take i, x.id < b.id) (h2 : ∀ x, (L.drop i).head? = some x → ¬ x.id < b.id) : layK b L = L.take i ++ b :: tailK (L.drop i) b := by
  rw [layK_at L b i hi h1 h2]
  cases L.drop i <;> rfl
theorem rfoldK_len (l : List BkD) : (rfoldK l).length ≤ l.length := by
  have h := (rfoldK_ok l.reverse).1.length_eq
  rw [List.reverse_reverse] at h
  rw [h]
  exact Nat.le_trans (metF_len _ _) (by simp)
theorem rfoldK_up (l : List BkD) : UpK (rfoldK l) := by
  have h := (rfoldK_ok l.reverse).2
  rwa [List.reverse_reverse] at h
theorem rfoldK_next {bs : List BkD} {k : Nat} (hk : k < bs.length) : rfoldK (bs.take (k + 1)) = layK bs[k] (rfoldK (bs.take k)) := by
  rw [List.take_succ_eq_append_getElem hk, rfoldK_snoc]
set_option maxRecDepth 20000 in
set_option maxHeartbeats 8000000 in
theorem rsort_any (a : Option Addr) (len cap : Nat) (bs : List BkD) (w : World) (hr : RowK w a len cap bs) :
    Calls Tryz.prog 28 #[.slice a len cap] w fun e w' => ∃ a' c', e = .returned (.slice a' (gsortF bs).length c') ∧ OwnK w' w.heap.size (.slice a' (gsortF bs).length c') (gsortF bs) ∧ Touch w w' (fun _ => False) := by
  have hl := hr.len
  have hcap := hr.hmax
  have hcap1 := hr.hcap
  have HR := Lib.hid hr
  have HL := Lib.hid hl
  clear hr hl
  go_enter Tryz.func28, Tryz.ntmps28
  go_wp2_with fail
  go_loopw [3, 9] (fun s3 s9 wr => ∃ (k : Nat) (a' : Option Addr) (c' : Nat), k ≤ len ∧ k ≤ 16 ∧ s9 = .int .i64 k ∧ s3 = .slice a' (rfoldK (bs.take k)).length c' ∧ OwnS wr w.heap.size 70 3 (.slice a' (rfoldK (bs.take k)).length c') ((rfoldK (bs.take k)).map BkD.cells) ∧ Touch w wr (fun _ => False)) (fun _ s9 _ => len - (RowKit.intOf s9).toNat)
  case atStart => exact ⟨0, none, 0, Nat.zero_le _, by omega, rfl, rfl, OwnS.nil _ _ _ _, Touch.refl _ _⟩
  case round =>
    obtain ⟨k, a', c', hk, hk16, rfl, rfl, ho, ht⟩ := hrel
    have HO := Lib.hid ho
    have HT := Lib.hid ht
    clear ho ht
    have HGS : RowKit.Hid (k = 16 ∨ k = len → rfoldK (bs.take k) = gsortF bs) := Lib.hid (fun h => by
      rw [← rsort_is]
      rcases h with rfl | rfl
      · rfl
      · rw [← HL.out, List.take_of_length_le (Nat.le_refl _), List.take_of_length_le (by rw [HL.out]; exact hk16)])
    by_cases hlt : k < len
    case neg =>
      obtain rfl : len = k := by omega
      have hlt' : ¬ (len : Int) < len := by omega
      have hg := HGS.out (.inr rfl)
      rw [hg] at HO ⊢
      clear hg
      go_wp2_with fail
      go_ret
      exact ⟨_, _, rfl, HO.out, HT.out⟩
    case pos =>
    have hr := HR.out.still HT.out
    obtain ⟨b, off, rfl⟩ := hr.some (by omega)
    have hk1 : k < bs.length := by rw [HL.out]; exact hlt
    obtain ⟨c0, c1, c2⟩ := hr.cells k hk1
    have HNX := Lib.hid (rfoldK_next hk1)
    have HOL : RowKit.Hid ((rfoldK (bs.take k)).length ≤ k) := Lib.hid (Nat.le_trans (rfoldK_len _) (by rw [List.length_take]; omega))
    have HUP := Lib.hid (rfoldK_up (bs.take k))
    generalize bs[k] = f at *
    obtain ⟨W2, hW2⟩ : ∃ W, wr.alloc (.cells #[.int .i64 f.id, .int .u32 f.addr, .int .i64 f.weight] 70) = W := ⟨_, rfl⟩
    obtain ⟨KB, hKB⟩ : ∃ b, wr.heap.size = b := ⟨_, rfl⟩
    have t1 : Touch wr W2 (fun _ => False) := hW2 ▸ (Touch.refl wr _).alloc _
    have g2 : W2.heap[KB]? = some (.cells #[.int .i64 f.id, .int .u32 f.addr, .int .i64 f.weight] 70 (0, 0)) := hKB ▸ hW2 ▸ heap_alloc_new ..
    have HT2 := Lib.hid (HT.out.trans t1 (fun _ _ h => h))
    have HG2 := Lib.hid g2
    have HO2 := Lib.hid (HO.out.still t1)
    have HW2 := Lib.hid (And.intro hW2 hKB)
    have hlI : (k : Int) < len := by omega
    have HKB := Lib.hid hKB
    clear hr t1 g2 hW2 hKB
    by_cases h16 : (16 : Int) ≤ k
    case pos =>
      have hg := HGS.out (.inl (by omega))
      rw [hg] at HO2 ⊢
      clear hg
      go_upto_region 5 with (fail)
      rw [HW2.out.1, HW2.out.2]
      clear c0 c1 c2
      go_wp2_with fail
      go_ret
      exact ⟨_, _, rfl, HO2.out, HT2.out⟩
    case neg =>
    obtain ⟨O, hO⟩ : ∃ O, rfoldK (bs.take k) = O := ⟨_, rfl⟩
    obtain ⟨m, hm⟩ : ∃ m, O.length = m := ⟨_, rfl⟩
    rw [hO] at HNX HOL HUP HO2 ⊢
    rw [hm] at HOL HO2 ⊢
    have HM := Lib.hid hm
    have hm16 : m ≤ 16 := by have := HOL.out; omega
    have hrow := HO2.out.row'.2.1
    have hcapO := hrow.hcap
    have hmaxO := hrow.hmax
    have HRO := Lib.hid hrow
    have HLT := Lib.hid HO2.out.row'.2.2
    clear hrow hO hm
    go_upto_region 5 with (fail)
    rw [HW2.out.1, HW2.out.2]
    clear c0 c1 c2
    have HXC2 : RowKit.Hid (∀ W, Touch W2 W (fun _ => False) → W.cell? ⟨KB, 0, none⟩ = some (.int .i64 f.id)) := Lib.hid (fun W t => cell_of_cells (t.keeps HG2.out (fun h => h)) 0)
    obtain ⟨W0, hW0⟩ : ∃ W0, W0 = wr := ⟨_, rfl⟩
    rw [← hW0] at HW2 HT HO HKB
    clear hW0
    go_upto_block 2 with fail
    go_cut [6] (fun s6 wx => ∃ i : Nat, i ≤ m ∧ s6 = .int .i64 i ∧ (∀ x ∈ O.take i, x.id < f.id) ∧ (∀ x, (O.drop i).head? = some x → ¬ x.id < f.id) ∧ Touch W2 wx (fun _ => False))
    case first =>
      go_wp2_with fail
      go_loopw [6] (fun s6 wr => ∃ i : Nat, i ≤ m ∧ s6 = .int .i64 i ∧ (∀ x ∈ O.take i, x.id < f.id) ∧ Touch W2 wr (fun _ => False)) (fun s6 _ => m - (RowKit.intOf s6).toNat)
      case atStart => exact ⟨0, Nat.zero_le _, rfl, fun x hx => by simp at hx, Touch.refl _ _⟩
      case round =>
        obtain ⟨i, hi, rfl, hls, hti⟩ := hrel
        have HLS := Lib.hid hls
        have HTI := Lib.hid hti
        clear hls hti
        by_cases hlti : i < m
        case neg =>
          obtain rfl : m = i := by omega
          have hmI : ¬ (m : Int) < m := by omega
          have HEX : RowKit.Hid (∀ x, (O.drop m).head? = some x → ¬ x.id < f.id) := Lib.hid (fun x hx => by rw [List.drop_eq_nil_of_le (by have := HM.out; omega)] at hx; cases hx)
          go_upto_region 7 with (fail)
          have hS := (Touch.refl wr (fun _ => False)).drew
          refine wp_region_sched (fun w' => Touch wr w' (fun _ => False)) [(0, true), (1, true), (2, true), (3, true), (4, true), (5, true), (6, true), (7, true), (8, true), (9, true), (10, true), (11, true), (12, true), (13, true)] (by kernel_rfl) (by kernel_rfl) rfl (by kernel_rfl) hS ?_
          (refine walkS_take (v := ?_) (some 16) rfl rfl (fun _ _ _ h => h) (by rfl) ?_ ?_; rotate_left; (focus (intro w' hw'; go_simp; (try with_reducible rfl))); (try simp only [Act.put, List.setIfInBounds_toArray, List.set_cons_zero, List.set_cons_succ]))
          (refine walkS_take (v := ?_) (some 17) rfl rfl (fun _ _ _ h => h) (by rfl) ?_ ?_; rotate_left; (focus (intro w' hw'; go_simp; (try with_reducible rfl))); (try simp only [Act.put, List.setIfInBounds_toArray, List.set_cons_zero, List.set_cons_succ]))
          (refine walkS_take (v := ?_) (some 18) rfl rfl (fun _ _ _ h => h) (by rfl) ?_ ?_; rotate_left; (focus (intro w' hw'; go_simp; (try with_reducible rfl))); (try simp only [Act.put, List.setIfInBounds_toArray, List.set_cons_zero, List.set_cons_succ]))
          (refine walkS_take (v := ?_) (some 19) rfl rfl (fun _ _ _ h => h) (by rfl) ?_ ?_; rotate_left; (focus (intro w' hw'; go_simp; (try with_reducible rfl))); (try simp only [Act.put, List.setIfInBounds_toArray, List.set_cons_zero, List.set_cons_succ]))
          (refine walkS_take (v := ?_) (some 20) rfl rfl (fun _ _ _ h => h) (by rfl) ?_ ?_; rotate_left; (focus (intro w' hw'; go_simp; (try with_reducible rfl))); (try simp only [Act.put, List.setIfInBounds_toArray, List.set_cons_zero, List.set_cons_succ]))
          first | (refine walkS_skip (some 21) rfl rfl (by rfl) (fun _ _ _ h => h) hS ?_; (try simp only [Act.put, List.setIfInBounds_toArray, List.set_cons_zero, List.set_cons_succ])) | (refine walkS_take (v := ?_) (some 21) rfl rfl (fun _ _ _ h => h) (by rfl) ?_ ?_; rotate_left; (focus (intro w' hw'; go_simp; (try with_reducible rfl))); (try simp only [Act.put, List.setIfInBounds_toArray, List.set_cons_zero, List.set_cons_succ]))
          first | (refine walkS_skip (some 22) rfl rfl (by rfl) (fun _ _ _ h => h) hS ?_; (try simp only [Act.put, List.setIfInBounds_toArray, List.set_cons_zero, List.set_cons_succ])) | (refine walkS_take (v := ?_) (some 22) rfl rfl (fun _ _ _ h => h) (by rfl) ?_ ?_; rotate_left; (focus (intro w' hw'; go_simp; (try with_reducible rfl))); (try simp only [Act.put, List.setIfInBounds_toArray, List.set_cons_zero, List.set_cons_succ]))
          first | (refine walkS_skip (some 23) rfl rfl (by rfl) (fun _ _ _ h => h) hS ?_; (try simp only [Act.put, List.setIfInBounds_toArray, List.set_cons_zero, List.set_cons_succ])) | (refine walkS_take (v := ?_) (some 23) rfl rfl (fun _ _ _ h => h) (by rfl) ?_ ?_; rotate_left; (focus (intro w' hw'; go_simp; (try with_reducible rfl))); (try simp only [Act.put, List.setIfInBounds_toArray, List.set_cons_zero, List.set_cons_succ]))
          first | (refine walkS_skip (some 24) rfl rfl (by rfl) (fun _ _ _ h => h) hS ?_; (try simp only [Act.put, List.setIfInBounds_toArray, List.set_cons_zero, List.set_cons_succ])) | (refine walkS_take (v := ?_) (some 24) rfl rfl (fun _ _ _ h => h) (by rfl) ?_ ?_; rotate_left; (focus (intro w' hw'; go_simp; (try with_reducible rfl))); (try simp only [Act.put, List.setIfInBounds_toArray, List.set_cons_zero, List.set_cons_succ]))
          first | (refine walkS_skip (some 25) rfl rfl (by rfl) (fun _ _ _ h => h) hS ?_; (try simp only [Act.put, List.setIfInBounds_toArray, List.set_cons_zero, List.set_cons_succ])) | (refine walkS_take (v := ?_) (some 25) rfl rfl (fun _ _ _ h => h) (by rfl) ?_ ?_; rotate_left; (focus (intro w' hw'; go_simp; (try with_reducible rfl))); (try simp only [Act.put, List.setIfInBounds_toArray, List.set_cons_zero, List.set_cons_succ]))
          first | (refine walkS_skip (some 26) rfl rfl (by rfl) (fun _ _ _ h => h) hS ?_; (try simp only [Act.put, List.setIfInBounds_toArray, List.set_cons_zero, List.set_cons_succ])) | (refine walkS_take (v := ?_) (some 26) rfl rfl (fun _ _ _ h => h) (by rfl) ?_ ?_; rotate_left; (focus (intro w' hw'; go_simp; (try with_reducible rfl))); (try simp only [Act.put, List.setIfInBounds_toArray, List.set_cons_zero, List.set_cons_succ]))
          first | (refine walkS_skip (some 27) rfl rfl (by rfl) (fun _ _ _ h => h) hS ?_; (try simp only [Act.put, List.setIfInBounds_toArray, List.set_cons_zero, List.set_cons_succ])) | (refine walkS_take (v := ?_) (some 27) rfl rfl (fun _ _ _ h => h) (by rfl) ?_ ?_; rotate_left; (focus (intro w' hw'; go_simp; (try with_reducible rfl))); (try simp only [Act.put, List.setIfInBounds_toArray, List.set_cons_zero, List.set_cons_succ]))
          first | (refine walkS_skip (some 28) rfl rfl (by rfl) (fun _ _ _ h => h) hS ?_; (try simp only [Act.put, List.setIfInBounds_toArray, List.set_cons_zero, List.set_cons_succ])) | (refine walkS_take (v := ?_) (some 28) rfl rfl (fun _ _ _ h => h) (by rfl) ?_ ?_; rotate_left; (focus (intro w' hw'; go_simp; (try with_reducible rfl))); (try simp only [Act.put, List.setIfInBounds_toArray, List.set_cons_zero, List.set_cons_succ]))
          (refine walkS_take (v := ?_) (some 29) rfl rfl (fun _ _ _ h => h) (by rfl) ?_ ?_; rotate_left; (focus (intro w' hw'; go_simp; (try with_reducible rfl))); (try simp only [Act.put, List.setIfInBounds_toArray, List.set_cons_zero, List.set_cons_succ]))
          refine walkS_done ?_
          go_wp2_with fail
          go_meet
          exact ⟨m, Nat.le_refl _, rfl, HLS.out, HEX.out, HTI.out.trans hS (fun _ _ h => h)⟩
        case pos =>
          have hrow := HRO.out.still HTI.out
          obtain ⟨g, og, ea⟩ := hrow.some (by omega)
          subst ea
          have hi1 : i < O.length := by rw [HM.out]; exact hlti
          have HOC : RowKit.Hid (∀ W, Touch wr W (fun _ => False) → W.cell? ⟨g, og + i * 3, none⟩ = some (.int .i64 O[i].id)) := Lib.hid (fun W t => (RowK.cells (show RowK W _ m c' O from hrow.still t) i hi1).1)
          have HXC : RowKit.Hid (∀ W, Touch wr W (fun _ => False) → W.cell? ⟨KB, 0, none⟩ = some (.int .i64 f.id)) := Lib.hid (fun W t => HXC2.out W (HTI.out.trans t (fun _ _ h => h)))
          have HSN : RowKit.Hid (O.take (i + 1) = O.take i ++ [O[i]]) := Lib.hid (List.take_succ_eq_append_getElem hi1)
          have HDH : RowKit.Hid ((O.drop i).head? = some O[i]) := Lib.hid (by rw [List.drop_eq_getElem_cons hi1]; rfl)
          have hlI2 : (i : Int) < m := by omega
          clear hrow
          generalize O[i] = q at *
          by_cases hq : q.id < f.id
          · have HX : RowKit.Hid (∀ x ∈ O.take (i + 1), x.id < f.id) := Lib.hid (fun x hx => by
              rw [HSN.out] at hx
              rcases List.mem_append.1 hx with h | h
              · exact HLS.out x h
              · obtain rfl := List.mem_singleton.1 h; exact hq)
            go_upto_region 7 with (fail)
            have hS := (Touch.refl wr (fun _ => False)).drew
            refine wp_region_sched (fun w' => Touch wr w' (fun _ => False)) [(0, true), (1, true), (2, true), (3, true), (4, true), (5, true), (6, true), (7, true), (8, true), (9, true), (10, true), (11, true), (12, true), (13, true)] (by kernel_rfl) (by kernel_rfl) rfl (by kernel_rfl) hS ?_
            (refine walkS_take (v := ?_) (some 16) rfl rfl (fun _ _ _ h => h) (by rfl) ?_ ?_; rotate_left; (focus (intro w' hw'; have y0 := HOC.out w' hw'; have y1 := HXC.out w' hw'; go_simp; (try with_reducible rfl))); (try simp only [Act.put, List.setIfInBounds_toArray, List.set_cons_zero, List.set_cons_succ]))
            (refine walkS_take (v := ?_) (some 17) rfl rfl (fun _ _ _ h => h) (by rfl) ?_ ?_; rotate_left; (focus (intro w' hw'; have y0 := HOC.out w' hw'; have y1 := HXC.out w' hw'; go_simp; (try with_reducible rfl))); (try simp only [Act.put, List.setIfInBounds_toArray, List.set_cons_zero, List.set_cons_succ]))
            (refine walkS_take (v := ?_) (some 18) rfl rfl (fun _ _ _ h => h) (by rfl) ?_ ?_; rotate_left; (focus (intro w' hw'; have y0 := HOC.out w' hw'; have y1 := HXC.out w' hw'; go_simp; (try with_reducible rfl))); (try simp only [Act.put, List.setIfInBounds_toArray, List.set_cons_zero, List.set_cons_succ]))
            (refine walkS_take (v := ?_) (some 19) rfl rfl (fun _ _ _ h => h) (by rfl) ?_ ?_; rotate_left; (focus (intro w' hw'; have y0 := HOC.out w' hw'; have y1 := HXC.out w' hw'; go_simp; (try with_reducible rfl))); (try simp only [Act.put, List.setIfInBounds_toArray, List.set_cons_zero, List.set_cons_succ]))
            (refine walkS_take (v := ?_) (some 20) rfl rfl (fun _ _ _ h => h) (by rfl) ?_ ?_; rotate_left; (focus (intro w' hw'; have y0 := HOC.out w' hw'; have y1 := HXC.out w' hw'; go_simp; (try with_reducible rfl))); (try simp only [Act.put, List.setIfInBounds_toArray, List.set_cons_zero, List.set_cons_succ]))
            (refine walkS_take (v := ?_) (some 21) rfl rfl (fun _ _ _ h => h) (by rfl) ?_ ?_; rotate_left; (focus (intro w' hw'; have y0 := HOC.out w' hw'; have y1 := HXC.out w' hw'; go_simp; (try with_reducible rfl))); (try simp only [Act.put, List.setIfInBounds_toArray, List.set_cons_zero, List.set_cons_succ]))
            (refine walkS_take (v := ?_) (some 22) rfl rfl (fun _ _ _ h => h) (by rfl) ?_ ?_; rotate_left; (focus (intro w' hw'; have y0 := HOC.out w' hw'; have y1 := HXC.out w' hw'; go_simp; (try with_reducible rfl))); (try simp only [Act.put, List.setIfInBounds_toArray, List.set_cons_zero, List.set_cons_succ]))
            (refine walkS_take (v := ?_) (some 23) rfl rfl (fun _ _ _ h => h) (by rfl) ?_ ?_; rotate_left; (focus (intro w' hw'; have y0 := HOC.out w' hw'; have y1 := HXC.out w' hw'; go_simp; (try with_reducible rfl))); (try simp only [Act.put, List.setIfInBounds_toArray, List.set_cons_zero, List.set_cons_succ]))
            (refine walkS_take (v := ?_) (some 24) rfl rfl (fun _ _ _ h => h) (by rfl) ?_ ?_; rotate_left; (focus (intro w' hw'; have y0 := HOC.out w' hw'; have y1 := HXC.out w' hw'; go_simp; (try with_reducible rfl))); (try simp only [Act.put, List.setIfInBounds_toArray, List.set_cons_zero, List.set_cons_succ]))
            (refine walkS_take (v := ?_) (some 25) rfl rfl (fun _ _ _ h => h) (by rfl) ?_ ?_; rotate_left; (focus (intro w' hw'; have y0 := HOC.out w' hw'; have y1 := HXC.out w' hw'; go_simp; (try with_reducible rfl))); (try simp only [Act.put, List.setIfInBounds_toArray, List.set_cons_zero, List.set_cons_succ]))
            (refine walkS_take (v := ?_) (some 26) rfl rfl (fun _ _ _ h => h) (by rfl) ?_ ?_; rotate_left; (focus (intro w' hw'; have y0 := HOC.out w' hw'; have y1 := HXC.out w' hw'; go_simp; (try with_reducible rfl))); (try simp only [Act.put, List.setIfInBounds_toArray, List.set_cons_zero, List.set_cons_succ]))
            (refine walkS_take (v := ?_) (some 27) rfl rfl (fun _ _ _ h => h) (by rfl) ?_ ?_; rotate_left; (focus (intro w' hw'; have y0 := HOC.out w' hw'; have y1 := HXC.out w' hw'; go_simp; (try with_reducible rfl))); (try simp only [Act.put, List.setIfInBounds_toArray, List.set_cons_zero, List.set_cons_succ]))
            (refine walkS_take (v := ?_) (some 28) rfl rfl (fun _ _ _ h => h) (by rfl) ?_ ?_; rotate_left; (focus (intro w' hw'; have y0 := HOC.out w' hw'; have y1 := HXC.out w' hw'; go_simp; (try with_reducible rfl))); (try simp only [Act.put, List.setIfInBounds_toArray, List.set_cons_zero, List.set_cons_succ]))
            (refine walkS_take (v := ?_) (some 29) rfl rfl (fun _ _ _ h => h) (by rfl) ?_ ?_; rotate_left; (focus (intro w' hw'; have y0 := HOC.out w' hw'; have y1 := HXC.out w' hw'; go_simp; (try with_reducible rfl))); (try simp only [Act.put, List.setIfInBounds_toArray, List.set_cons_zero, List.set_cons_succ]))
            refine walkS_done ?_
            have HY : RowKit.Hid (∀ W, Touch wr W (fun _ => False) → ∃ i' : Nat, i' ≤ m ∧ Value.int .i64 ((i : Int) + 1) = .int .i64 i' ∧ (∀ x ∈ O.take i', x.id < f.id) ∧ Touch W2 W (fun _ => False)) := Lib.hid (fun W t => ⟨i + 1, by omega, by go_num, HX.out, HTI.out.trans t (fun _ _ h => h)⟩)
            have HY2 := Lib.hid (HY.out _ hS)
            clear hS
            go_wp2_with fail
            go_roundw
            · exact HY2.out
            · simp only [RowKit.intOf]; omega
          · have HX : RowKit.Hid (∀ x, (O.drop i).head? = some x → ¬ x.id < f.id) := Lib.hid (fun x hx => by rw [HDH.out] at hx; injection hx with hx; rw [← hx]; exact hq)
            go_upto_region 7 with (fail)
            have hS := (Touch.refl wr (fun _ => False)).drew
            refine wp_region_sched (fun w' => Touch wr w' (fun _ => False)) [(0, true), (1, true), (2, true), (3, true), (4, true), (5, true), (6, true), (7, true), (8, true), (9, true), (10, true), (11, true), (12, true), (13, true)] (by kernel_rfl) (by kernel_rfl) rfl (by kernel_rfl) hS ?_
            (refine walkS_take (v := ?_) (some 16) rfl rfl (fun _ _ _ h => h) (by rfl) ?_ ?_; rotate_left; (focus (intro w' hw'; have y0 := HOC.out w' hw'; have y1 := HXC.out w' hw'; go_simp; (try with_reducible rfl))); (try simp only [Act.put, List.setIfInBounds_toArray, List.set_cons_zero, List.set_cons_succ]))
            (refine walkS_take (v := ?_) (some 17) rfl rfl (fun _ _ _ h => h) (by rfl) ?_ ?_; rotate_left; (focus (intro w' hw'; have y0 := HOC.out w' hw'; have y1 := HXC.out w' hw'; go_simp; (try with_reducible rfl))); (try simp only [Act.put, List.setIfInBounds_toArray, List.set_cons_zero, List.set_cons_succ]))
            (refine walkS_take (v := ?_) (some 18) rfl rfl (fun _ _ _ h => h) (by rfl) ?_ ?_; rotate_left; (focus (intro w' hw'; have y0 := HOC.out w' hw'; have y1 := HXC.out w' hw'; go_simp; (try with_reducible rfl))); (try simp only [Act.put, List.setIfInBounds_toArray, List.set_cons_zero, List.set_cons_succ]))
            (refine walkS_take (v := ?_) (some 19) rfl rfl (fun _ _ _ h => h) (by rfl) ?_ ?_; rotate_left; (focus (intro w' hw'; have y0 := HOC.out w' hw'; have y1 := HXC.out w' hw'; go_simp; (try with_reducible rfl))); (try simp only [Act.put, List.setIfInBounds_toArray, List.set_cons_zero, List.set_cons_succ]))
            (refine walkS_take (v := ?_) (some 20) rfl rfl (fun _ _ _ h => h) (by rfl) ?_ ?_; rotate_left; (focus (intro w' hw'; have y0 := HOC.out w' hw'; have y1 := HXC.out w' hw'; go_simp; (try with_reducible rfl))); (try simp only [Act.put, List.setIfInBounds_toArray, List.set_cons_zero, List.set_cons_succ]))
            (refine walkS_take (v := ?_) (some 21) rfl rfl (fun _ _ _ h => h) (by rfl) ?_ ?_; rotate_left; (focus (intro w' hw'; have y0 := HOC.out w' hw'; have y1 := HXC.out w' hw'; go_simp; (try with_reducible rfl))); (try simp only [Act.put, List.setIfInBounds_toArray, List.set_cons_zero, List.set_cons_succ]))
            (refine walkS_take (v := ?_) (some 22) rfl rfl (fun _ _ _ h => h) (by rfl) ?_ ?_; rotate_left; (focus (intro w' hw'; have y0 := HOC.out w' hw'; have y1 := HXC.out w' hw'; go_simp; (try with_reducible rfl))); (try simp only [Act.put, List.setIfInBounds_toArray, List.set_cons_zero, List.set_cons_succ]))
            (refine walkS_take (v := ?_) (some 23) rfl rfl (fun _ _ _ h => h) (by rfl) ?_ ?_; rotate_left; (focus (intro w' hw'; have y0 := HOC.out w' hw'; have y1 := HXC.out w' hw'; go_simp; (try with_reducible rfl))); (try simp only [Act.put, List.setIfInBounds_toArray, List.set_cons_zero, List.set_cons_succ]))
            (refine walkS_take (v := ?_) (some 24) rfl rfl (fun _ _ _ h => h) (by rfl) ?_ ?_; rotate_left; (focus (intro w' hw'; have y0 := HOC.out w' hw'; have y1 := HXC.out w' hw'; go_simp; (try with_reducible rfl))); (try simp only [Act.put, List.setIfInBounds_toArray, List.set_cons_zero, List.set_cons_succ]))
            (refine walkS_take (v := ?_) (some 25) rfl rfl (fun _ _ _ h => h) (by rfl) ?_ ?_; rotate_left; (focus (intro w' hw'; have y0 := HOC.out w' hw'; have y1 := HXC.out w' hw'; go_simp; (try with_reducible rfl))); (try simp only [Act.put, List.setIfInBounds_toArray, List.set_cons_zero, List.set_cons_succ]))
            (refine walkS_take (v := ?_) (some 26) rfl rfl (fun _ _ _ h => h) (by rfl) ?_ ?_; rotate_left; (focus (intro w' hw'; have y0 := HOC.out w' hw'; have y1 := HXC.out w' hw'; go_simp; (try with_reducible rfl))); (try simp only [Act.put, List.setIfInBounds_toArray, List.set_cons_zero, List.set_cons_succ]))
            (refine walkS_take (v := ?_) (some 27) rfl rfl (fun _ _ _ h => h) (by rfl) ?_ ?_; rotate_left; (focus (intro w' hw'; have y0 := HOC.out w' hw'; have y1 := HXC.out w' hw'; go_simp; (try with_reducible rfl))); (try simp only [Act.put, List.setIfInBounds_toArray, List.set_cons_zero, List.set_cons_succ]))
            (refine walkS_take (v := ?_) (some 28) rfl rfl (fun _ _ _ h => h) (by rfl) ?_ ?_; rotate_left; (focus (intro w' hw'; have y0 := HOC.out w' hw'; have y1 := HXC.out w' hw'; go_simp; (try with_reducible rfl))); (try simp only [Act.put, List.setIfInBounds_toArray, List.set_cons_zero, List.set_cons_succ]))
            (refine walkS_take (v := ?_) (some 29) rfl rfl (fun _ _ _ h => h) (by rfl) ?_ ?_; rotate_left; (focus (intro w' hw'; have y0 := HOC.out w' hw'; have y1 := HXC.out w' hw'; go_simp; (try with_reducible rfl))); (try simp only [Act.put, List.setIfInBounds_toArray, List.set_cons_zero, List.set_cons_succ]))
            refine walkS_done ?_
            go_wp2_with fail
            go_meet
            exact ⟨i, by omega, rfl, HLS.out, HX.out, HTI.out.trans hS (fun _ _ h => h)⟩
    case rest =>
      obtain ⟨i, hi, rfl, hls, hex, htc⟩ := hcut
      have HLS := Lib.hid hls
      have HEX := Lib.hid hex
      obtain ⟨wz, hwz⟩ : ∃ W, wc = W := ⟨_, rfl⟩
      rw [hwz] at htc ⊢
      have HTC := Lib.hid htc
      have HLA : RowKit.Hid (layK f O = O.take i ++ f :: tailK (O.drop i) f) := Lib.hid (lay_at O f i (by rw [HM.out]; exact hi) hls hex)
      have HTL : RowKit.Hid ((O.take i).length = i) := Lib.hid (by rw [List.length_take]; have := HM.out; omega)
      have HXC : RowKit.Hid (∀ W, Touch wz W (fun _ => False) → W.cell? ⟨KB, 0, none⟩ = some (.int .i64 f.id)) := Lib.hid (fun W t => HXC2.out W (HTC.out.trans t (fun _ _ h => h)))
      have HCK : RowKit.Hid (∀ W, Touch wz W (fun _ => False) → W.heap[KB]? = some (.cells #[.int .i64 f.id, .int .u32 f.addr, .int .i64 f.weight] 70 (0, 0))) := Lib.hid (fun W t => t.keeps (HTC.out.keeps HG2.out (fun h => h)) (fun h => h))
      have HZW : RowKit.Hid (Touch w wz (fun _ => False)) := Lib.hid (HT2.out.trans htc (fun _ _ h => h))
      have HOZ := Lib.hid (HO2.out.still htc)
      have HEND : RowKit.Hid (∀ (a8 : Option Addr) (c8 k8 : Nat) (w8 : World), (layK f O).length = k8 → OwnS w8 w.heap.size 70 3 (.slice a8 k8 c8) ((layK f O).map BkD.cells) → Touch w w8 (fun _ => False) → ∃ (k' : Nat) (a' : Option Addr) (c' : Nat), k' ≤ len ∧ k' ≤ 16 ∧ Value.int .i64 ((k : Int) + 1) = .int .i64 k' ∧ Value.slice a8 k8 c8 = .slice a' (rfoldK (bs.take k')).length c' ∧ OwnS w8 w.heap.size 70 3 (.slice a' (rfoldK (bs.take k')).length c') ((rfoldK (bs.take k')).map BkD.cells) ∧ Touch w w8 (fun _ => False)) := Lib.hid (fun a8 c8 k8 w8 hk o t => ⟨k + 1, a8, c8, by omega, by omega, by go_num, by rw [HNX.out, hk], by rw [HNX.out, hk]; exact o, t⟩)
      clear hls hex htc hwz
      rcases HO2.out.own.2 with ⟨hv, -⟩ | ⟨g, cc, cur, hv, -⟩
      · simp only [Value.slice.injEq] at hv
        obtain ⟨rfl, rfl, rfl⟩ := hv
        obtain rfl : O = [] := List.eq_nil_of_length_eq_zero HM.out
        obtain rfl : i = 0 := by omega
        have HK8 : RowKit.Hid ((layK f []).length = 1) := Lib.hid rfl
        go_upto_region 9 with (fail)
        have hS := (Touch.refl wz (fun _ => False)).drew
        refine wp_region_sched (fun w' => Touch wz w' (fun _ => False)) [(0, true), (1, true), (2, true), (3, true), (4, true), (5, true), (6, true), (7, true), (8, true), (9, true), (10, true), (11, true), (12, true), (13, true)] (by kernel_rfl) (by kernel_rfl) rfl (by kernel_rfl) hS ?_
        (refine walkS_take (v := ?_) (some 32) rfl rfl (fun _ _ _ h => h) (by rfl) ?_ ?_; rotate_left; (focus (intro w' hw'; go_simp; (try with_reducible rfl))); (try simp only [Act.put, List.setIfInBounds_toArray, List.set_cons_zero, List.set_cons_succ]))
        (refine walkS_take (v := ?_) (some 33) rfl rfl (fun _ _ _ h => h) (by rfl) ?_ ?_; rotate_left; (focus (intro w' hw'; go_simp; (try with_reducible rfl))); (try simp only [Act.put, List.setIfInBounds_toArray, List.set_cons_zero, List.set_cons_succ]))
        (refine walkS_take (v := ?_) (some 34) rfl rfl (fun _ _ _ h => h) (by rfl) ?_ ?_; rotate_left; (focus (intro w' hw'; go_simp; (try with_reducible rfl))); (try simp only [Act.put, List.setIfInBounds_toArray, List.set_cons_zero, List.set_cons_succ]))
        (refine walkS_take (v := ?_) (some 35) rfl rfl (fun _ _ _ h => h) (by rfl) ?_ ?_; rotate_left; (focus (intro w' hw'; go_simp; (try with_reducible rfl))); (try simp only [Act.put, List.setIfInBounds_toArray, List.set_cons_zero, List.set_cons_succ]))
        (refine walkS_take (v := ?_) (some 36) rfl rfl (fun _ _ _ h => h) (by rfl) ?_ ?_; rotate_left; (focus (intro w' hw'; go_simp; (try with_reducible rfl))); (try simp only [Act.put, List.setIfInBounds_toArray, List.set_cons_zero, List.set_cons_succ]))
        first | (refine walkS_skip (some 37) rfl rfl (by rfl) (fun _ _ _ h => h) hS ?_; (try simp only [Act.put, List.setIfInBounds_toArray, List.set_cons_zero, List.set_cons_succ])) | (refine walkS_take (v := ?_) (some 37) rfl rfl (fun _ _ _ h => h) (by rfl) ?_ ?_; rotate_left; (focus (intro w' hw'; go_simp; (try with_reducible rfl))); (try simp only [Act.put, List.setIfInBounds_toArray, List.set_cons_zero, List.set_cons_succ]))
        first | (refine walkS_skip (some 38) rfl rfl (by rfl) (fun _ _ _ h => h) hS ?_; (try simp only [Act.put, List.setIfInBounds_toArray, List.set_cons_zero, List.set_cons_succ])) | (refine walkS_take (v := ?_) (some 38) rfl rfl (fun _ _ _ h => h) (by rfl) ?_ ?_; rotate_left; (focus (intro w' hw'; go_simp; (try with_reducible rfl))); (try simp only [Act.put, List.setIfInBounds_toArray, List.set_cons_zero, List.set_cons_succ]))
        first | (refine walkS_skip (some 39) rfl rfl (by rfl) (fun _ _ _ h => h) hS ?_; (try simp only [Act.put, List.setIfInBounds_toArray, List.set_cons_zero, List.set_cons_succ])) | (refine walkS_take (v := ?_) (some 39) rfl rfl (fun _ _ _ h => h) (by rfl) ?_ ?_; rotate_left; (focus (intro w' hw'; go_simp; (try with_reducible rfl))); (try simp only [Act.put, List.setIfInBounds_toArray, List.set_cons_zero, List.set_cons_succ]))
        first | (refine walkS_skip (some 40) rfl rfl (by rfl) (fun _ _ _ h => h) hS ?_; (try simp only [Act.put, List.setIfInBounds_toArray, List.set_cons_zero, List.set_cons_succ])) | (refine walkS_take (v := ?_) (some 40) rfl rfl (fun _ _ _ h => h) (by rfl) ?_ ?_; rotate_left; (focus (intro w' hw'; go_simp; (try with_reducible rfl))); (try simp only [Act.put, List.setIfInBounds_toArray, List.set_cons_zero, List.set_cons_succ]))
        first | (refine walkS_skip (some 41) rfl rfl (by rfl) (fun _ _ _ h => h) hS ?_; (try simp only [Act.put, List.setIfInBounds_toArray, List.set_cons_zero, List.set_cons_succ])) | (refine walkS_take (v := ?_) (some 41) rfl rfl (fun _ _ _ h => h) (by rfl) ?_ ?_; rotate_left; (focus (intro w' hw'; go_simp; (try with_reducible rfl))); (try simp only [Act.put, List.setIfInBounds_toArray, List.set_cons_zero, List.set_cons_succ]))
        first | (refine walkS_skip (some 42) rfl rfl (by rfl) (fun _ _ _ h => h) hS ?_; (try simp only [Act.put, List.setIfInBounds_toArray, List.set_cons_zero, List.set_cons_succ])) | (refine walkS_take (v := ?_) (some 42) rfl rfl (fun _ _ _ h => h) (by rfl) ?_ ?_; rotate_left; (focus (intro w' hw'; go_simp; (try with_reducible rfl))); (try simp only [Act.put, List.setIfInBounds_toArray, List.set_cons_zero, List.set_cons_succ]))
        first | (refine walkS_skip (some 43) rfl rfl (by rfl) (fun _ _ _ h => h) hS ?_; (try simp only [Act.put, List.setIfInBounds_toArray, List.set_cons_zero, List.set_cons_succ])) | (refine walkS_take (v := ?_) (some 43) rfl rfl (fun _ _ _ h => h) (by rfl) ?_ ?_; rotate_left; (focus (intro w' hw'; go_simp; (try with_reducible rfl))); (try simp only [Act.put, List.setIfInBounds_toArray, List.set_cons_zero, List.set_cons_succ]))
        first | (refine walkS_skip (some 44) rfl rfl (by rfl) (fun _ _ _ h => h) hS ?_; (try simp only [Act.put, List.setIfInBounds_toArray, List.set_cons_zero, List.set_cons_succ])) | (refine walkS_take (v := ?_) (some 44) rfl rfl (fun _ _ _ h => h) (by rfl) ?_ ?_; rotate_left; (focus (intro w' hw'; go_simp; (try with_reducible rfl))); (try simp only [Act.put, List.setIfInBounds_toArray, List.set_cons_zero, List.set_cons_succ]))
        (refine walkS_take (v := ?_) (some 45) rfl rfl (fun _ _ _ h => h) (by rfl) ?_ ?_; rotate_left; (focus (intro w' hw'; go_simp; (try with_reducible rfl))); (try simp only [Act.put, List.setIfInBounds_toArray, List.set_cons_zero, List.set_cons_succ]))
        refine walkS_done ?_
        go_upto_region 11 with (fail)
        have hS := hS.drew
        refine wp_region_tree3 (fun w' => Touch wz w' (fun _ => False)) (.take 0 (.take 1 (.take 2 (.take 4 (.take 7 (.take 8 (.take 9 (.two 3 5 (.one 5 (.one 6 (.one 10 (.take 11 .fin)))) (.one 3 (.one 6 (.one 10 (.take 11 .fin)))))))))))) (by kernel_rfl) (by kernel_rfl) (by kernel_rfl) (by kernel_rfl) hS ?_
        refine walk3_take ?_
        (refine takeN_take (v := ?_) (some 50) rfl rfl (fun _ _ _ h => h) (by rfl) ?_ ?_; rotate_left; (focus (intro w' hw'; go_simp; (try with_reducible rfl))); (try simp only [Act.put, List.setIfInBounds_toArray, List.set_cons_zero, List.set_cons_succ]))
        refine walk3_take ?_
        (refine takeN_take (v := ?_) (some 51) rfl rfl (fun _ _ _ h => h) (by rfl) ?_ ?_; rotate_left; (focus (intro w' hw'; go_simp; (try with_reducible rfl))); (try simp only [Act.put, List.setIfInBounds_toArray, List.set_cons_zero, List.set_cons_succ]))
        refine walk3_take ?_
        (refine takeN_take (v := ?_) (some 52) rfl rfl (fun _ _ _ h => h) (by rfl) ?_ ?_; rotate_left; (focus (intro w' hw'; go_simp; (try with_reducible rfl))); (try simp only [Act.put, List.setIfInBounds_toArray, List.set_cons_zero, List.set_cons_succ]))
        refine walk3_take ?_
        (refine takeN_row (some 54) rfl rfl 70 (.tmp 5) rfl (KB) rfl _ _ _ _ (fun w' h => HCK.out w' h) Tryz.underlying70 rfl infoBkN (fun _ _ _ h => h) (by rfl) ?_; (try simp only [Act.put, List.setIfInBounds_toArray, List.set_cons_zero, List.set_cons_succ]))
        refine walk3_take ?_
        (refine takeN_take (v := ?_) (some 57) rfl rfl (fun _ _ _ h => h) (by rfl) ?_ ?_; rotate_left; (focus (intro w' hw'; go_simp; (try with_reducible rfl))); (try simp only [Act.put, List.setIfInBounds_toArray, List.set_cons_zero, List.set_cons_succ]))
        refine walk3_take ?_
        (refine takeN_take (v := ?_) (some 58) rfl rfl (fun _ _ _ h => h) (by rfl) ?_ ?_; rotate_left; (focus (intro w' hw'; go_simp; (try with_reducible rfl))); (try simp only [Act.put, List.setIfInBounds_toArray, List.set_cons_zero, List.set_cons_succ]))
        refine walk3_take ?_
        (refine takeN_take (v := ?_) (some 59) rfl rfl (fun _ _ _ h => h) (by rfl) ?_ ?_; rotate_left; (focus (intro w' hw'; go_simp; (try with_reducible rfl))); (try simp only [Act.put, List.setIfInBounds_toArray, List.set_cons_zero, List.set_cons_succ]))
        refine walk3_two ?_ ?_
        · (refine runN_appS 53 (.const (.slice none 0 0)) (.tmp 52) _ rfl rfl rfl (by rfl) 70 Tryz.underlying39 _ 3 24 infoBk rfl (by decide) wz.heap.size _ _ rfl (OwnS.nil _ _ _ _) _ _ _ _ rfl (RowS.nil _ _ _ _ (by omega)) (fun l hl => by cases hl) (0) (([] : List BkD).map BkD.cells) (by simp) (by simp) (by simp only [maxLen]; omega) (by omega) hS.size ?_; intro a3 c3 w3 how9 hg9 hp9; have t9 := (Touch.refl _ (fun q => wz.heap.size ≤ q)).grown hg9 (fun q hq _ => by cases hq); have hS := hS.trans t9 (fun q h1 h2 => by have h2 : wz.heap.size ≤ q := h2; omega); refine ⟨hS, fun _ => ?_⟩; (try have HNW := Lib.hid (HNW.out.touch ((Touch.refl _ (fun _ => False)).grown hg9 (fun q hq _ => by cases hq)) (fun _ _ => .inr (fun h => h)))); have HO3 := Lib.hid how9; clear how9 hg9 hp9 t9; (try simp only [Act.put, List.setIfInBounds_toArray, List.set_cons_zero, List.set_cons_succ]))
          refine walk3_one ?_
          (refine runN_new 55 (fun W => .slice (some ⟨W.heap.size, 0, none⟩) 1 1) #[.int .i64 f.id, .int .u32 f.addr, .int .i64 f.weight] 70 rfl rfl (by rfl) (by intro W; go_simp <;> first | with_reducible rfl | rfl | exact ⟨rfl, rfl⟩) ?_; intro w7 hw7 hM7 hs7 t9; have hS := hS.trans t9 (fun _ _ h => h.elim); refine ⟨hS, fun _ => ?_⟩; have HNW := Lib.hid (show RowS w7 _ 1 1 3 [f.cells] by rw [hw7]; exact ((OwnS.lit _ _ (Nat.le_refl _) 70 3 1 [f.cells] _ rfl rfl (by simp [BkD.cells]) (by decide)).row').2.1); (try have HO3 := Lib.hid (HO3.out.still t9)); clear hw7 hM7 hs7 t9; (try simp only [Act.put, List.setIfInBounds_toArray, List.set_cons_zero, List.set_cons_succ]))
          refine walk3_one ?_
          (refine runN_appS 56 (.tmp 53) (.tmp 55) _ rfl rfl rfl (by rfl) 70 Tryz.underlying39 _ 3 24 infoBk rfl (by decide) wz.heap.size _ _ rfl HO3.out _ _ _ _ rfl HNW.out (one_bkK [f]) (1) (([] : List BkD).map BkD.cells ++ [f.cells]) (rfl) (by rfl) (by simp only [maxLen]; omega) (by omega) hS.size ?_; intro a6 c6 w6 how9 hg9 hp9; have t9 := (Touch.refl _ (fun q => wz.heap.size ≤ q)).grown hg9 (fun q hq _ => (HO3.out.own.lt q hq).1); have hS := hS.trans t9 (fun q h1 h2 => by have h2 : wz.heap.size ≤ q := h2; omega); refine ⟨hS, fun _ => ?_⟩; have HO6 := Lib.hid how9; clear how9 hg9 hp9 t9; (try simp only [Act.put, List.setIfInBounds_toArray, List.set_cons_zero, List.set_cons_succ]))
          refine walk3_one ?_
          (refine runN_appS 60 (.tmp 56) (.tmp 59) _ rfl rfl rfl (by rfl) 70 Tryz.underlying39 _ 3 24 infoBk rfl (by decide) wz.heap.size _ _ rfl HO6.out _ _ _ _ rfl (RowS.nil _ _ _ _ (by omega)) (fun l hl => by cases hl) (1) ([f.cells]) (by simp) (by simp) (by simp only [maxLen]; omega) (by omega) hS.size ?_; intro a8 c8 w8 how9 hg9 hp9; have t9 := (Touch.refl _ (fun q => wz.heap.size ≤ q)).grown hg9 (fun q hq _ => (HO6.out.own.lt q hq).1); have hS := hS.trans t9 (fun q h1 h2 => by have h2 : wz.heap.size ≤ q := h2; omega); refine ⟨hS, fun _ => ?_⟩; have HO8 := Lib.hid how9; clear how9 hg9 hp9 t9; (try simp only [Act.put, List.setIfInBounds_toArray, List.set_cons_zero, List.set_cons_succ]))
          refine walk3_take ?_
          (refine takeN_take (v := ?_) (some 3) rfl rfl (fun _ _ _ h => h) (by rfl) ?_ ?_; rotate_left; (focus (intro w' hw'; go_simp; (try with_reducible rfl))); (try simp only [Act.put, List.setIfInBounds_toArray, List.set_cons_zero, List.set_cons_succ]))
          refine walk3_fin ?_
          have HY := Lib.hid (HEND.out _ _ _ _ HK8.out (HO8.out.rebase (fun x hx => Nat.le_trans HZW.out.size (HO8.out.own.lt x hx).1)) (HZW.out.trans hS (fun _ _ h => h)))
          go_wp2_with fail
          go_roundw
          · exact HY.out
          · simp only [RowKit.intOf]; omega
        · (refine runN_new 55 (fun W => .slice (some ⟨W.heap.size, 0, none⟩) 1 1) #[.int .i64 f.id, .int .u32 f.addr, .int .i64 f.weight] 70 rfl rfl (by rfl) (by intro W; go_simp <;> first | with_reducible rfl | rfl | exact ⟨rfl, rfl⟩) ?_; intro w7 hw7 hM7 hs7 t9; have hS := hS.trans t9 (fun _ _ h => h.elim); refine ⟨hS, fun _ => ?_⟩; have HNW := Lib.hid (show RowS w7 _ 1 1 3 [f.cells] by rw [hw7]; exact ((OwnS.lit _ _ (Nat.le_refl _) 70 3 1 [f.cells] _ rfl rfl (by simp [BkD.cells]) (by decide)).row').2.1); (try have HO3 := Lib.hid (HO3.out.still t9)); clear hw7 hM7 hs7 t9; (try simp only [Act.put, List.setIfInBounds_toArray, List.set_cons_zero, List.set_cons_succ]))
          refine walk3_one ?_
          (refine runN_appS 53 (.const (.slice none 0 0)) (.tmp 52) _ rfl rfl rfl (by rfl) 70 Tryz.underlying39 _ 3 24 infoBk rfl (by decide) wz.heap.size _ _ rfl (OwnS.nil _ _ _ _) _ _ _ _ rfl (RowS.nil _ _ _ _ (by omega)) (fun l hl => by cases hl) (0) (([] : List BkD).map BkD.cells) (by simp) (by simp) (by simp only [maxLen]; omega) (by omega) hS.size ?_; intro a3 c3 w3 how9 hg9 hp9; have t9 := (Touch.refl _ (fun q => wz.heap.size ≤ q)).grown hg9 (fun q hq _ => by cases hq); have hS := hS.trans t9 (fun q h1 h2 => by have h2 : wz.heap.size ≤ q := h2; omega); refine ⟨hS, fun _ => ?_⟩; (try have HNW := Lib.hid (HNW.out.touch ((Touch.refl _ (fun _ => False)).grown hg9 (fun q hq _ => by cases hq)) (fun _ _ => .inr (fun h => h)))); have HO3 := Lib.hid how9; clear how9 hg9 hp9 t9; (try simp only [Act.put, List.setIfInBounds_toArray, List.set_cons_zero, List.set_cons_succ]))
          refine walk3_one ?_
          (refine runN_appS 56 (.tmp 53) (.tmp 55) _ rfl rfl rfl (by rfl) 70 Tryz.underlying39 _ 3 24 infoBk rfl (by decide) wz.heap.size _ _ rfl HO3.out _ _ _ _ rfl HNW.out (one_bkK [f]) (1) (([] : List BkD).map BkD.cells ++ [f.cells]) (rfl) (by rfl) (by simp only [maxLen]; omega) (by omega) hS.size ?_; intro a6 c6 w6 how9 hg9 hp9; have t9 := (Touch.refl _ (fun q => wz.heap.size ≤ q)).grown hg9 (fun q hq _ => (HO3.out.own.lt q hq).1); have hS := hS.trans t9 (fun q h1 h2 => by have h2 : wz.heap.size ≤ q := h2; omega); refine ⟨hS, fun _ => ?_⟩; have HO6 := Lib.hid how9; clear how9 hg9 hp9 t9; (try simp only [Act.put, List.setIfInBounds_toArray, List.set_cons_zero, List.set_cons_succ]))
          refine walk3_one ?_
          (refine runN_appS 60 (.tmp 56) (.tmp 59) _ rfl rfl rfl (by rfl) 70 Tryz.underlying39 _ 3 24 infoBk rfl (by decide) wz.heap.size _ _ rfl HO6.out _ _ _ _ rfl (RowS.nil _ _ _ _ (by omega)) (fun l hl => by cases hl) (1) ([f.cells]) (by simp) (by simp) (by simp only [maxLen]; omega) (by omega) hS.size ?_; intro a8 c8 w8 how9 hg9 hp9; have t9 := (Touch.refl _ (fun q => wz.heap.size ≤ q)).grown hg9 (fun q hq _ => (HO6.out.own.lt q hq).1); have hS := hS.trans t9 (fun q h1 h2 => by have h2 : wz.heap.size ≤ q := h2; omega); refine ⟨hS, fun _ => ?_⟩; have HO8 := Lib.hid how9; clear how9 hg9 hp9 t9; (try simp only [Act.put, List.setIfInBounds_toArray, List.set_cons_zero, List.set_cons_succ]))
          refine walk3_take ?_
          (refine takeN_take (v := ?_) (some 3) rfl rfl (fun _ _ _ h => h) (by rfl) ?_ ?_; rotate_left; (focus (intro w' hw'; go_simp; (try with_reducible rfl))); (try simp only [Act.put, List.setIfInBounds_toArray, List.set_cons_zero, List.set_cons_succ]))
          refine walk3_fin ?_
          have HY := Lib.hid (HEND.out _ _ _ _ HK8.out (HO8.out.rebase (fun x hx => Nat.le_trans HZW.out.size (HO8.out.own.lt x hx).1)) (HZW.out.trans hS (fun _ _ h => h)))
          go_wp2_with fail
          go_roundw
          · exact HY.out
          · simp only [RowKit.intOf]; omega
      · simp only [Value.slice.injEq] at hv
        obtain ⟨rfl, -, rfl⟩ := hv
        have HRZ : RowKit.Hid (∀ W, Touch wz W (fun _ => False) → RowS W (some ⟨g, 0, none⟩) m c' 3 (O.map BkD.cells)) := Lib.hid (fun W t => HOZ.out.row'.2.1.still t)
        have HRF : RowKit.Hid (∀ W, Touch wz W (fun _ => False) → RowS W (some ⟨g, 0, none⟩) i c' 3 ((O.take i).map BkD.cells)) := Lib.hid (fun W t => row_front3 (HRZ.out W t) i hi)
        have HRT : RowKit.Hid (∀ W, Touch wz W (fun _ => False) → RowS W (if c' = i then some ⟨g, 0, none⟩ else some ⟨g, i * 3, none⟩) (m - i) (c' - i) 3 ((O.drop i).map BkD.cells)) := Lib.hid (fun W t => by have h := row_back3 (HRZ.out W t) i hi; rwa [Nat.zero_add] at h)
        obtain ⟨ra, hra⟩ : ∃ ra, (if c' = i then some ⟨g, 0, none⟩ else some ⟨g, i * 3, none⟩ : Option Addr) = ra := ⟨_, rfl⟩
        rw [hra] at HRT
        have hic : i ≤ c' := by omega
        obtain ⟨q, hq⟩ : ∃ q, m - i = q := ⟨_, rfl⟩
        obtain ⟨d, hd⟩ : ∃ d, c' - i = d := ⟨_, rfl⟩
        rw [hq, hd] at HRT
        have hqd : q ≤ d := by omega
        have hdm : d ≤ 9223372036854775807 := by omega
        have hqn : i + q = m := by omega
        by_cases hlm : i < m
        case neg =>
          obtain rfl : i = m := by omega
          have HDN : RowKit.Hid (O.drop i = []) := Lib.hid (List.drop_eq_nil_of_le (by rw [HM.out]; exact Nat.le_refl _))
          have hmI : ¬ (i : Int) < i := by omega
          rw [HDN.out] at HLA
          simp only [tailK] at HLA
          have HK8 : RowKit.Hid ((layK f O).length = i + 1 + q) := Lib.hid (by rw [HLA.out, List.length_append, HTL.out, List.length_cons, List.length_nil]; omega)
          have HPL : RowKit.Hid ((O.take i).map BkD.cells ++ [f.cells] ++ (O.drop i).map BkD.cells = (layK f O).map BkD.cells) := Lib.hid (by rw [HLA.out, HDN.out, List.map_append]; simp)
          go_upto_region 9 with (fail)
          have hS := (Touch.refl wz (fun _ => False)).drew
          refine wp_region_sched (fun w' => Touch wz w' (fun _ => False)) [(0, true), (1, true), (2, true), (3, true), (4, true), (5, true), (6, true), (7, true), (8, true), (9, true), (10, true), (11, true), (12, true), (13, true)] (by kernel_rfl) (by kernel_rfl) rfl (by kernel_rfl) hS ?_
          (refine walkS_take (v := ?_) (some 32) rfl rfl (fun _ _ _ h => h) (by rfl) ?_ ?_; rotate_left; (focus (intro w' hw'; go_simp; (try with_reducible rfl))); (try simp only [Act.put, List.setIfInBounds_toArray, List.set_cons_zero, List.set_cons_succ]))
          (refine walkS_take (v := ?_) (some 33) rfl rfl (fun _ _ _ h => h) (by rfl) ?_ ?_; rotate_left; (focus (intro w' hw'; go_simp; (try with_reducible rfl))); (try simp only [Act.put, List.setIfInBounds_toArray, List.set_cons_zero, List.set_cons_succ]))
          (refine walkS_take (v := ?_) (some 34) rfl rfl (fun _ _ _ h => h) (by rfl) ?_ ?_; rotate_left; (focus (intro w' hw'; go_simp; (try with_reducible rfl))); (try simp only [Act.put, List.setIfInBounds_toArray, List.set_cons_zero, List.set_cons_succ]))
          (refine walkS_take (v := ?_) (some 35) rfl rfl (fun _ _ _ h => h) (by rfl) ?_ ?_; rotate_left; (focus (intro w' hw'; go_simp; (try with_reducible rfl))); (try simp only [Act.put, List.setIfInBounds_toArray, List.set_cons_zero, List.set_cons_succ]))
          (refine walkS_take (v := ?_) (some 36) rfl rfl (fun _ _ _ h => h) (by rfl) ?_ ?_; rotate_left; (focus (intro w' hw'; go_simp; (try with_reducible rfl))); (try simp only [Act.put, List.setIfInBounds_toArray, List.set_cons_zero, List.set_cons_succ]))
          first | (refine walkS_skip (some 37) rfl rfl (by rfl) (fun _ _ _ h => h) hS ?_; (try simp only [Act.put, List.setIfInBounds_toArray, List.set_cons_zero, List.set_cons_succ])) | (refine walkS_take (v := ?_) (some 37) rfl rfl (fun _ _ _ h => h) (by rfl) ?_ ?_; rotate_left; (focus (intro w' hw'; go_simp; (try with_reducible rfl))); (try simp only [Act.put, List.setIfInBounds_toArray, List.set_cons_zero, List.set_cons_succ]))
          first | (refine walkS_skip (some 38) rfl rfl (by rfl) (fun _ _ _ h => h) hS ?_; (try simp only [Act.put, List.setIfInBounds_toArray, List.set_cons_zero, List.set_cons_succ])) | (refine walkS_take (v := ?_) (some 38) rfl rfl (fun _ _ _ h => h) (by rfl) ?_ ?_; rotate_left; (focus (intro w' hw'; go_simp; (try with_reducible rfl))); (try simp only [Act.put, List.setIfInBounds_toArray, List.set_cons_zero, List.set_cons_succ]))
          first | (refine walkS_skip (some 39) rfl rfl (by rfl) (fun _ _ _ h => h) hS ?_; (try simp only [Act.put, List.setIfInBounds_toArray, List.set_cons_zero, List.set_cons_succ])) | (refine walkS_take (v := ?_) (some 39) rfl rfl (fun _ _ _ h => h) (by rfl) ?_ ?_; rotate_left; (focus (intro w' hw'; go_simp; (try with_reducible rfl))); (try simp only [Act.put, List.setIfInBounds_toArray, List.set_cons_zero, List.set_cons_succ]))
          first | (refine walkS_skip (some 40) rfl rfl (by rfl) (fun _ _ _ h => h) hS ?_; (try simp only [Act.put, List.setIfInBounds_toArray, List.set_cons_zero, List.set_cons_succ])) | (refine walkS_take (v := ?_) (some 40) rfl rfl (fun _ _ _ h => h) (by rfl) ?_ ?_; rotate_left; (focus (intro w' hw'; go_simp; (try with_reducible rfl))); (try simp only [Act.put, List.setIfInBounds_toArray, List.set_cons_zero, List.set_cons_succ]))
          first | (refine walkS_skip (some 41) rfl rfl (by rfl) (fun _ _ _ h => h) hS ?_; (try simp only [Act.put, List.setIfInBounds_toArray, List.set_cons_zero, List.set_cons_succ])) | (refine walkS_take (v := ?_) (some 41) rfl rfl (fun _ _ _ h => h) (by rfl) ?_ ?_; rotate_left; (focus (intro w' hw'; go_simp; (try with_reducible rfl))); (try simp only [Act.put, List.setIfInBounds_toArray, List.set_cons_zero, List.set_cons_succ]))
          first | (refine walkS_skip (some 42) rfl rfl (by rfl) (fun _ _ _ h => h) hS ?_; (try simp only [Act.put, List.setIfInBounds_toArray, List.set_cons_zero, List.set_cons_succ])) | (refine walkS_take (v := ?_) (some 42) rfl rfl (fun _ _ _ h => h) (by rfl) ?_ ?_; rotate_left; (focus (intro w' hw'; go_simp; (try with_reducible rfl))); (try simp only [Act.put, List.setIfInBounds_toArray, List.set_cons_zero, List.set_cons_succ]))
          first | (refine walkS_skip (some 43) rfl rfl (by rfl) (fun _ _ _ h => h) hS ?_; (try simp only [Act.put, List.setIfInBounds_toArray, List.set_cons_zero, List.set_cons_succ])) | (refine walkS_take (v := ?_) (some 43) rfl rfl (fun _ _ _ h => h) (by rfl) ?_ ?_; rotate_left; (focus (intro w' hw'; go_simp; (try with_reducible rfl))); (try simp only [Act.put, List.setIfInBounds_toArray, List.set_cons_zero, List.set_cons_succ]))
          first | (refine walkS_skip (some 44) rfl rfl (by rfl) (fun _ _ _ h => h) hS ?_; (try simp only [Act.put, List.setIfInBounds_toArray, List.set_cons_zero, List.set_cons_succ])) | (refine walkS_take (v := ?_) (some 44) rfl rfl (fun _ _ _ h => h) (by rfl) ?_ ?_; rotate_left; (focus (intro w' hw'; go_simp; (try with_reducible rfl))); (try simp only [Act.put, List.setIfInBounds_toArray, List.set_cons_zero, List.set_cons_succ]))
          (refine walkS_take (v := ?_) (some 45) rfl rfl (fun _ _ _ h => h) (by rfl) ?_ ?_; rotate_left; (focus (intro w' hw'; go_simp; (try with_reducible rfl))); (try simp only [Act.put, List.setIfInBounds_toArray, List.set_cons_zero, List.set_cons_succ]))
          refine walkS_done ?_
          go_upto_region 11 with (fail)
          have hS := hS.drew
          refine wp_region_tree3 (fun w' => Touch wz w' (fun _ => False)) (.take 0 (.take 1 (.take 2 (.take 4 (.take 7 (.take 8 (.take 9 (.two 3 5 (.one 5 (.one 6 (.one 10 (.take 11 .fin)))) (.one 3 (.one 6 (.one 10 (.take 11 .fin)))))))))))) (by kernel_rfl) (by kernel_rfl) (by kernel_rfl) (by kernel_rfl) hS ?_
          refine walk3_take ?_
          (refine takeN_take (v := ?_) (some 50) rfl rfl (fun _ _ _ h => h) (by rfl) ?_ ?_; rotate_left; (focus (intro w' hw'; go_simp; (try with_reducible rfl))); (try simp only [Act.put, List.setIfInBounds_toArray, List.set_cons_zero, List.set_cons_succ]))
          refine walk3_take ?_
          (refine takeN_take (v := ?_) (some 51) rfl rfl (fun _ _ _ h => h) (by rfl) ?_ ?_; rotate_left; (focus (intro w' hw'; go_simp; (try with_reducible rfl))); (try simp only [Act.put, List.setIfInBounds_toArray, List.set_cons_zero, List.set_cons_succ]))
          refine walk3_take ?_
          (refine takeN_take (v := ?_) (some 52) rfl rfl (fun _ _ _ h => h) (by rfl) ?_ ?_; rotate_left; (focus (intro w' hw'; go_simp; (try with_reducible rfl))); (try simp only [Act.put, List.setIfInBounds_toArray, List.set_cons_zero, List.set_cons_succ]))
          refine walk3_take ?_
          (refine takeN_row (some 54) rfl rfl 70 (.tmp 5) rfl (KB) rfl _ _ _ _ (fun w' h => HCK.out w' h) Tryz.underlying70 rfl infoBkN (fun _ _ _ h => h) (by rfl) ?_; (try simp only [Act.put, List.setIfInBounds_toArray, List.set_cons_zero, List.set_cons_succ]))
          refine walk3_take ?_
          (refine takeN_take (v := ?_) (some 57) rfl rfl (fun _ _ _ h => h) (by rfl) ?_ ?_; rotate_left; (focus (intro w' hw'; go_simp; (try with_reducible rfl))); (try simp only [Act.put, List.setIfInBounds_toArray, List.set_cons_zero, List.set_cons_succ]))
          refine walk3_take ?_
          (refine takeN_take (v := ?_) (some 58) rfl rfl (fun _ _ _ h => h) (by rfl) ?_ ?_; rotate_left; (focus (intro w' hw'; go_simp; (try with_reducible rfl))); (try simp only [Act.put, List.setIfInBounds_toArray, List.set_cons_zero, List.set_cons_succ]))
          refine walk3_take ?_
          (refine takeN_take (v := ?_) (some 59) rfl rfl (fun _ _ _ h => h) (by rfl) ?_ ?_; rotate_left; (focus (intro w' hw'; go_simp; (try with_reducible rfl))); (try simp only [Act.put, List.setIfInBounds_toArray, List.set_cons_zero, List.set_cons_succ]))
          refine walk3_two ?_ ?_
          · (refine runN_appS 53 (.const (.slice none 0 0)) (.tmp 52) _ rfl rfl rfl (by rfl) 70 Tryz.underlying39 _ 3 24 infoBk rfl (by decide) wz.heap.size _ _ rfl (OwnS.nil _ _ _ _) _ _ _ _ rfl (HRF.out _ hS) (one_bkK _) (i) ((O.take i).map BkD.cells) (by simp) (by simp) (by simp only [maxLen]; omega) (by omega) hS.size ?_; intro a3 c3 w3 how9 hg9 hp9; have t9 := (Touch.refl _ (fun q => wz.heap.size ≤ q)).grown hg9 (fun q hq _ => by cases hq); have hS := hS.trans t9 (fun q h1 h2 => by have h2 : wz.heap.size ≤ q := h2; omega); refine ⟨hS, fun _ => ?_⟩; (try have HNW := Lib.hid (HNW.out.touch ((Touch.refl _ (fun _ => False)).grown hg9 (fun q hq _ => by cases hq)) (fun _ _ => .inr (fun h => h)))); have HO3 := Lib.hid how9; clear how9 hg9 hp9 t9; (try simp only [Act.put, List.setIfInBounds_toArray, List.set_cons_zero, List.set_cons_succ]))
            refine walk3_one ?_
            (refine runN_new 55 (fun W => .slice (some ⟨W.heap.size, 0, none⟩) 1 1) #[.int .i64 f.id, .int .u32 f.addr, .int .i64 f.weight] 70 rfl rfl (by rfl) (by intro W; go_simp <;> first | with_reducible rfl | rfl | exact ⟨rfl, rfl⟩) ?_; intro w7 hw7 hM7 hs7 t9; have hS := hS.trans t9 (fun _ _ h => h.elim); refine ⟨hS, fun _ => ?_⟩; have HNW := Lib.hid (show RowS w7 _ 1 1 3 [f.cells] by rw [hw7]; exact ((OwnS.lit _ _ (Nat.le_refl _) 70 3 1 [f.cells] _ rfl rfl (by simp [BkD.cells]) (by decide)).row').2.1); (try have HO3 := Lib.hid (HO3.out.still t9)); clear hw7 hM7 hs7 t9; (try simp only [Act.put, List.setIfInBounds_toArray, List.set_cons_zero, List.set_cons_succ]))
            refine walk3_one ?_
            (refine runN_appS 56 (.tmp 53) (.tmp 55) _ rfl rfl rfl (by rfl) 70 Tryz.underlying39 _ 3 24 infoBk rfl (by decide) wz.heap.size _ _ rfl HO3.out _ _ _ _ rfl HNW.out (one_bkK [f]) (i + 1) ((O.take i).map BkD.cells ++ [f.cells]) (rfl) (by rw [List.length_map, HTL.out]) (by simp only [maxLen]; omega) (by omega) hS.size ?_; intro a6 c6 w6 how9 hg9 hp9; have t9 := (Touch.refl _ (fun q => wz.heap.size ≤ q)).grown hg9 (fun q hq _ => (HO3.out.own.lt q hq).1); have hS := hS.trans t9 (fun q h1 h2 => by have h2 : wz.heap.size ≤ q := h2; omega); refine ⟨hS, fun _ => ?_⟩; have HO6 := Lib.hid how9; clear how9 hg9 hp9 t9; (try simp only [Act.put, List.setIfInBounds_toArray, List.set_cons_zero, List.set_cons_succ]))
            refine walk3_one ?_
            (refine runN_appS 60 (.tmp 56) (.tmp 59) _ rfl rfl rfl (by rfl) 70 Tryz.underlying39 _ 3 24 infoBk rfl (by decide) wz.heap.size _ _ rfl HO6.out _ _ _ _ rfl (HRT.out _ hS) (one_bkK _) (i + 1 + q) ((layK f O).map BkD.cells) (HPL.out) (by rw [List.length_append, List.length_map, HTL.out]; simp) (by simp only [maxLen]; omega) (by omega) hS.size ?_; intro a8 c8 w8 how9 hg9 hp9; have t9 := (Touch.refl _ (fun q => wz.heap.size ≤ q)).grown hg9 (fun q hq _ => (HO6.out.own.lt q hq).1); have hS := hS.trans t9 (fun q h1 h2 => by have h2 : wz.heap.size ≤ q := h2; omega); refine ⟨hS, fun _ => ?_⟩; have HO8 := Lib.hid how9; clear how9 hg9 hp9 t9; (try simp only [Act.put, List.setIfInBounds_toArray, List.set_cons_zero, List.set_cons_succ]))
            refine walk3_take ?_
            (refine takeN_take (v := ?_) (some 3) rfl rfl (fun _ _ _ h => h) (by rfl) ?_ ?_; rotate_left; (focus (intro w' hw'; go_simp; (try with_reducible rfl))); (try simp only [Act.put, List.setIfInBounds_toArray, List.set_cons_zero, List.set_cons_succ]))
            refine walk3_fin ?_
            have HY := Lib.hid (HEND.out _ _ _ _ HK8.out (HO8.out.rebase (fun x hx => Nat.le_trans HZW.out.size (HO8.out.own.lt x hx).1)) (HZW.out.trans hS (fun _ _ h => h)))
            go_wp2_with fail
            go_roundw
            · exact HY.out
            · simp only [RowKit.intOf]; omega
          · (refine runN_new 55 (fun W => .slice (some ⟨W.heap.size, 0, none⟩) 1 1) #[.int .i64 f.id, .int .u32 f.addr, .int .i64 f.weight] 70 rfl rfl (by rfl) (by intro W; go_simp <;> first | with_reducible rfl | rfl | exact ⟨rfl, rfl⟩) ?_; intro w7 hw7 hM7 hs7 t9; have hS := hS.trans t9 (fun _ _ h => h.elim); refine ⟨hS, fun _ => ?_⟩; have HNW := Lib.hid (show RowS w7 _ 1 1 3 [f.cells] by rw [hw7]; exact ((OwnS.lit _ _ (Nat.le_refl _) 70 3 1 [f.cells] _ rfl rfl (by simp [BkD.cells]) (by decide)).row').2.1); (try have HO3 := Lib.hid (HO3.out.still t9)); clear hw7 hM7 hs7 t9; (try simp only [Act.put, List.setIfInBounds_toArray, List.set_cons_zero, List.set_cons_succ]))
            refine walk3_one ?_
            (refine runN_appS 53 (.const (.slice none 0 0)) (.tmp 52) _ rfl rfl rfl (by rfl) 70 Tryz.underlying39 _ 3 24 infoBk rfl (by decide) wz.heap.size _ _ rfl (OwnS.nil _ _ _ _) _ _ _ _ rfl (HRF.out _ hS) (one_bkK _) (i) ((O.take i).map BkD.cells) (by simp) (by simp) (by simp only [maxLen]; omega) (by omega) hS.size ?_; intro a3 c3 w3 how9 hg9 hp9; have t9 := (Touch.refl _ (fun q => wz.heap.size ≤ q)).grown hg9 (fun q hq _ => by cases hq); have hS := hS.trans t9 (fun q h1 h2 => by have h2 : wz.heap.size ≤ q := h2; omega); refine ⟨hS, fun _ => ?_⟩; (try have HNW := Lib.hid (HNW.out.touch ((Touch.refl _ (fun _ => False)).grown hg9 (fun q hq _ => by cases hq)) (fun _ _ => .inr (fun h => h)))); have HO3 := Lib.hid how9; clear how9 hg9 hp9 t9; (try simp only [Act.put, List.setIfInBounds_toArray, List.set_cons_zero, List.set_cons_succ]))
            refine walk3_one ?_
            (refine runN_appS 56 (.tmp 53) (.tmp 55) _ rfl rfl rfl (by rfl) 70 Tryz.underlying39 _ 3 24 infoBk rfl (by decide) wz.heap.size _ _ rfl HO3.out _ _ _ _ rfl HNW.out (one_bkK [f]) (i + 1) ((O.take i).map BkD.cells ++ [f.cells]) (rfl) (by rw [List.length_map, HTL.out]) (by simp only [maxLen]; omega) (by omega) hS.size ?_; intro a6 c6 w6 how9 hg9 hp9; have t9 := (Touch.refl _ (fun q => wz.heap.size ≤ q)).grown hg9 (fun q hq _ => (HO3.out.own.lt q hq).1); have hS := hS.trans t9 (fun q h1 h2 => by have h2 : wz.heap.size ≤ q := h2; omega); refine ⟨hS, fun _ => ?_⟩; have HO6 := Lib.hid how9; clear how9 hg9 hp9 t9; (try simp only [Act.put, List.setIfInBounds_toArray, List.set_cons_zero, List.set_cons_succ]))
            refine walk3_one ?_
            (refine runN_appS 60 (.tmp 56) (.tmp 59) _ rfl rfl rfl (by rfl) 70 Tryz.underlying39 _ 3 24 infoBk rfl (by decide) wz.heap.size _ _ rfl HO6.out _ _ _ _ rfl (HRT.out _ hS) (one_bkK _) (i + 1 + q) ((layK f O).map BkD.cells) (HPL.out) (by rw [List.length_append, List.length_map, HTL.out]; simp) (by simp only [maxLen]; omega) (by omega) hS.size ?_; intro a8 c8 w8 how9 hg9 hp9; have t9 := (Touch.refl _ (fun q => wz.heap.size ≤ q)).grown hg9 (fun q hq _ => (HO6.out.own.lt q hq).1); have hS := hS.trans t9 (fun q h1 h2 => by have h2 : wz.heap.size ≤ q := h2; omega); refine ⟨hS, fun _ => ?_⟩; have HO8 := Lib.hid how9; clear how9 hg9 hp9 t9; (try simp only [Act.put, List.setIfInBounds_toArray, List.set_cons_zero, List.set_cons_succ]))
            refine walk3_take ?_
            (refine takeN_take (v := ?_) (some 3) rfl rfl (fun _ _ _ h => h) (by rfl) ?_ ?_; rotate_left; (focus (intro w' hw'; go_simp; (try with_reducible rfl))); (try simp only [Act.put, List.setIfInBounds_toArray, List.set_cons_zero, List.set_cons_succ]))
            refine walk3_fin ?_
            have HY := Lib.hid (HEND.out _ _ _ _ HK8.out (HO8.out.rebase (fun x hx => Nat.le_trans HZW.out.size (HO8.out.own.lt x hx).1)) (HZW.out.trans hS (fun _ _ h => h)))
            go_wp2_with fail
            go_roundw
            · exact HY.out
            · simp only [RowKit.intOf]; omega
        case pos =>
          have hi1 : i < O.length := by rw [HM.out]; exact hlm
          have HOC : RowKit.Hid (∀ W, Touch wz W (fun _ => False) → W.cell? ⟨g, i * 3, none⟩ = some (.int .i64 O[i].id)) := Lib.hid (fun W t => by have h := (RowK.cells (show RowK W _ m c' O from HRZ.out W t) i hi1).1; rwa [Nat.zero_add] at h)
          have HDC : RowKit.Hid (O.drop i = O[i] :: O.drop (i + 1)) := Lib.hid (List.drop_eq_getElem_cons hi1)
          have HST : RowKit.Hid (O.set i f = O.take i ++ f :: O.drop (i + 1)) := Lib.hid (List.set_eq_take_append_cons_drop.trans (if_pos hi1))
          have hlI2 : (i : Int) < m := by omega
          by_cases he : O[i].id = f.id
          · rw [HDC.out] at HLA
            simp only [tailK, he, if_true] at HLA
            have HLS2 : RowKit.Hid (layK f O = O.set i f) := Lib.hid (HLA.out.trans HST.out.symm)
            rw [he] at HOC
            clear he
            go_upto_region 9 with (fail)
            have hS := (Touch.refl wz (fun _ => False)).drew
            refine wp_region_sched (fun w' => Touch wz w' (fun _ => False)) [(0, true), (1, true), (2, true), (3, true), (4, true), (5, true), (6, true), (7, true), (8, true), (9, true), (10, true), (11, true), (12, true), (13, true)] (by kernel_rfl) (by kernel_rfl) rfl (by kernel_rfl) hS ?_
            (refine walkS_take (v := ?_) (some 32) rfl rfl (fun _ _ _ h => h) (by rfl) ?_ ?_; rotate_left; (focus (intro w' hw'; have y0 := HOC.out w' hw'; have y1 := HXC.out w' hw'; go_simp; (try with_reducible rfl))); (try simp only [Act.put, List.setIfInBounds_toArray, List.set_cons_zero, List.set_cons_succ]))
            (refine walkS_take (v := ?_) (some 33) rfl rfl (fun _ _ _ h => h) (by rfl) ?_ ?_; rotate_left; (focus (intro w' hw'; have y0 := HOC.out w' hw'; have y1 := HXC.out w' hw'; go_simp; (try with_reducible rfl))); (try simp only [Act.put, List.setIfInBounds_toArray, List.set_cons_zero, List.set_cons_succ]))
            (refine walkS_take (v := ?_) (some 34) rfl rfl (fun _ _ _ h => h) (by rfl) ?_ ?_; rotate_left; (focus (intro w' hw'; have y0 := HOC.out w' hw'; have y1 := HXC.out w' hw'; go_simp; (try with_reducible rfl))); (try simp only [Act.put, List.setIfInBounds_toArray, List.set_cons_zero, List.set_cons_succ]))
            (refine walkS_take (v := ?_) (some 35) rfl rfl (fun _ _ _ h => h) (by rfl) ?_ ?_; rotate_left; (focus (intro w' hw'; have y0 := HOC.out w' hw'; have y1 := HXC.out w' hw'; go_simp; (try with_reducible rfl))); (try simp only [Act.put, List.setIfInBounds_toArray, List.set_cons_zero, List.set_cons_succ]))
            (refine walkS_take (v := ?_) (some 36) rfl rfl (fun _ _ _ h => h) (by rfl) ?_ ?_; rotate_left; (focus (intro w' hw'; have y0 := HOC.out w' hw'; have y1 := HXC.out w' hw'; go_simp; (try with_reducible rfl))); (try simp only [Act.put, List.setIfInBounds_toArray, List.set_cons_zero, List.set_cons_succ]))
            (refine walkS_take (v := ?_) (some 37) rfl rfl (fun _ _ _ h => h) (by rfl) ?_ ?_; rotate_left; (focus (intro w' hw'; have y0 := HOC.out w' hw'; have y1 := HXC.out w' hw'; go_simp; (try with_reducible rfl))); (try simp only [Act.put, List.setIfInBounds_toArray, List.set_cons_zero, List.set_cons_succ]))
            (refine walkS_take (v := ?_) (some 38) rfl rfl (fun _ _ _ h => h) (by rfl) ?_ ?_; rotate_left; (focus (intro w' hw'; have y0 := HOC.out w' hw'; have y1 := HXC.out w' hw'; go_simp; (try with_reducible rfl))); (try simp only [Act.put, List.setIfInBounds_toArray, List.set_cons_zero, List.set_cons_succ]))
            (refine walkS_take (v := ?_) (some 39) rfl rfl (fun _ _ _ h => h) (by rfl) ?_ ?_; rotate_left; (focus (intro w' hw'; have y0 := HOC.out w' hw'; have y1 := HXC.out w' hw'; go_simp; (try with_reducible rfl))); (try simp only [Act.put, List.setIfInBounds_toArray, List.set_cons_zero, List.set_cons_succ]))
            (refine walkS_take (v := ?_) (some 40) rfl rfl (fun _ _ _ h => h) (by rfl) ?_ ?_; rotate_left; (focus (intro w' hw'; have y0 := HOC.out w' hw'; have y1 := HXC.out w' hw'; go_simp; (try with_reducible rfl))); (try simp only [Act.put, List.setIfInBounds_toArray, List.set_cons_zero, List.set_cons_succ]))
            (refine walkS_take (v := ?_) (some 41) rfl rfl (fun _ _ _ h => h) (by rfl) ?_ ?_; rotate_left; (focus (intro w' hw'; have y0 := HOC.out w' hw'; have y1 := HXC.out w' hw'; go_simp; (try with_reducible rfl))); (try simp only [Act.put, List.setIfInBounds_toArray, List.set_cons_zero, List.set_cons_succ]))
            (refine walkS_take (v := ?_) (some 42) rfl rfl (fun _ _ _ h => h) (by rfl) ?_ ?_; rotate_left; (focus (intro w' hw'; have y0 := HOC.out w' hw'; have y1 := HXC.out w' hw'; go_simp; (try with_reducible rfl))); (try simp only [Act.put, List.setIfInBounds_toArray, List.set_cons_zero, List.set_cons_succ]))
            (refine walkS_take (v := ?_) (some 43) rfl rfl (fun _ _ _ h => h) (by rfl) ?_ ?_; rotate_left; (focus (intro w' hw'; have y0 := HOC.out w' hw'; have y1 := HXC.out w' hw'; go_simp; (try with_reducible rfl))); (try simp only [Act.put, List.setIfInBounds_toArray, List.set_cons_zero, List.set_cons_succ]))
            (refine walkS_take (v := ?_) (some 44) rfl rfl (fun _ _ _ h => h) (by rfl) ?_ ?_; rotate_left; (focus (intro w' hw'; have y0 := HOC.out w' hw'; have y1 := HXC.out w' hw'; go_simp; (try with_reducible rfl))); (try simp only [Act.put, List.setIfInBounds_toArray, List.set_cons_zero, List.set_cons_succ]))
            (refine walkS_take (v := ?_) (some 45) rfl rfl (fun _ _ _ h => h) (by rfl) ?_ ?_; rotate_left; (focus (intro w' hw'; have y0 := HOC.out w' hw'; have y1 := HXC.out w' hw'; go_simp; (try with_reducible rfl))); (try simp only [Act.put, List.setIfInBounds_toArray, List.set_cons_zero, List.set_cons_succ]))
            refine walkS_done ?_
            have HK8 : RowKit.Hid ((layK f O).length = m) := Lib.hid (by rw [HLS2.out, List.length_set, HM.out])
            obtain ⟨wy, hwy⟩ : ∃ W, wz.drew = W := ⟨_, rfl⟩
            rw [hwy] at hS ⊢
            have HSY := Lib.hid hS
            have g9 := HCK.out _ hS
            have x0 : wy.cell? ⟨KB, 0, none⟩ = some (.int .i64 f.id) := cell_of_cells g9 0
            have x1 : wy.cell? ⟨KB, 1, none⟩ = some (.int .u32 f.addr) := cell_of_cells g9 1
            have x2 : wy.cell? ⟨KB, 2, none⟩ = some (.int .i64 f.weight) := cell_of_cells g9 2
            have o9 := HOZ.out.still hS
            obtain ⟨c0, c1, c2⟩ := RowK.cells (show RowK wy _ m c' O from HRZ.out _ hS) i hi1
            simp only [Nat.zero_add] at c0 c1 c2
            have f0 := o9.free (i * 3)
            have f1 := o9.free (i * 3 + 1)
            have f2 := o9.free (i * 3 + 2)
            have hwg : w.heap.size ≤ g := (HOZ.out.row'.2.2 _ rfl).1
            have HY := Lib.hid (HEND.out _ _ _ _ HK8.out (HLS2.out ▸ own_lay o9 i hi1 f) ((((HZW.out.trans hS (fun _ _ h => h)).setCell ⟨g, i * 3, none⟩ (.int .i64 f.id) (fun h => absurd h (by simp only; omega))).setCell ⟨g, i * 3 + 1, none⟩ (.int .u32 f.addr) (fun h => absurd h (by simp only; omega))).setCell ⟨g, i * 3 + 2, none⟩ (.int .i64 f.weight) (fun h => absurd h (by simp only; omega))))
            clear o9 g9 hS hwg hwy
            go_wp2_with fail
            go_roundw
            · exact HY.out
            · simp only [RowKit.intOf]; omega
          · rw [HDC.out] at HLA
            simp only [tailK, he, if_false] at HLA
            have HK8 : RowKit.Hid ((layK f O).length = i + 1 + q) := Lib.hid (by rw [HLA.out, List.length_append, HTL.out, ← HDC.out, List.length_cons, List.length_drop, HM.out]; omega)
            have HPL : RowKit.Hid ((O.take i).map BkD.cells ++ [f.cells] ++ (O.drop i).map BkD.cells = (layK f O).map BkD.cells) := Lib.hid (by rw [HLA.out, ← HDC.out, List.map_append]; simp)
            have hne : (O[i].id == f.id) = false := by simpa using he
            generalize O[i] = x at *
            go_upto_region 9 with (fail)
            have hS := (Touch.refl wz (fun _ => False)).drew
            refine wp_region_sched (fun w' => Touch wz w' (fun _ => False)) [(0, true), (1, true), (2, true), (3, true), (4, true), (5, true), (6, true), (7, true), (8, true), (9, true), (10, true), (11, true), (12, true), (13, true)] (by kernel_rfl) (by kernel_rfl) rfl (by kernel_rfl) hS ?_
            (refine walkS_take (v := ?_) (some 32) rfl rfl (fun _ _ _ h => h) (by rfl) ?_ ?_; rotate_left; (focus (intro w' hw'; have y0 := HOC.out w' hw'; have y1 := HXC.out w' hw'; go_simp; (try with_reducible rfl))); (try simp only [Act.put, List.setIfInBounds_toArray, List.set_cons_zero, List.set_cons_succ]))
            (refine walkS_take (v := ?_) (some 33) rfl rfl (fun _ _ _ h => h) (by rfl) ?_ ?_; rotate_left; (focus (intro w' hw'; have y0 := HOC.out w' hw'; have y1 := HXC.out w' hw'; go_simp; (try with_reducible rfl))); (try simp only [Act.put, List.setIfInBounds_toArray, List.set_cons_zero, List.set_cons_succ]))
            (refine walkS_take (v := ?_) (some 34) rfl rfl (fun _ _ _ h => h) (by rfl) ?_ ?_; rotate_left; (focus (intro w' hw'; have y0 := HOC.out w' hw'; have y1 := HXC.out w' hw'; go_simp; (try with_reducible rfl))); (try simp only [Act.put, List.setIfInBounds_toArray, List.set_cons_zero, List.set_cons_succ]))
            (refine walkS_take (v := ?_) (some 35) rfl rfl (fun _ _ _ h => h) (by rfl) ?_ ?_; rotate_left; (focus (intro w' hw'; have y0 := HOC.out w' hw'; have y1 := HXC.out w' hw'; go_simp; (try with_reducible rfl))); (try simp only [Act.put, List.setIfInBounds_toArray, List.set_cons_zero, List.set_cons_succ]))
            (refine walkS_take (v := ?_) (some 36) rfl rfl (fun _ _ _ h => h) (by rfl) ?_ ?_; rotate_left; (focus (intro w' hw'; have y0 := HOC.out w' hw'; have y1 := HXC.out w' hw'; go_simp; (try with_reducible rfl))); (try simp only [Act.put, List.setIfInBounds_toArray, List.set_cons_zero, List.set_cons_succ]))
            (refine walkS_take (v := ?_) (some 37) rfl rfl (fun _ _ _ h => h) (by rfl) ?_ ?_; rotate_left; (focus (intro w' hw'; have y0 := HOC.out w' hw'; have y1 := HXC.out w' hw'; go_simp; (try with_reducible rfl))); (try simp only [Act.put, List.setIfInBounds_toArray, List.set_cons_zero, List.set_cons_succ]))
            (refine walkS_take (v := ?_) (some 38) rfl rfl (fun _ _ _ h => h) (by rfl) ?_ ?_; rotate_left; (focus (intro w' hw'; have y0 := HOC.out w' hw'; have y1 := HXC.out w' hw'; go_simp; (try with_reducible rfl))); (try simp only [Act.put, List.setIfInBounds_toArray, List.set_cons_zero, List.set_cons_succ]))
            (refine walkS_take (v := ?_) (some 39) rfl rfl (fun _ _ _ h => h) (by rfl) ?_ ?_; rotate_left; (focus (intro w' hw'; have y0 := HOC.out w' hw'; have y1 := HXC.out w' hw'; go_simp; (try with_reducible rfl))); (try simp only [Act.put, List.setIfInBounds_toArray, List.set_cons_zero, List.set_cons_succ]))
            (refine walkS_take (v := ?_) (some 40) rfl rfl (fun _ _ _ h => h) (by rfl) ?_ ?_; rotate_left; (focus (intro w' hw'; have y0 := HOC.out w' hw'; have y1 := HXC.out w' hw'; go_simp; (try with_reducible rfl))); (try simp only [Act.put, List.setIfInBounds_toArray, List.set_cons_zero, List.set_cons_succ]))
            (refine walkS_take (v := ?_) (some 41) rfl rfl (fun _ _ _ h => h) (by rfl) ?_ ?_; rotate_left; (focus (intro w' hw'; have y0 := HOC.out w' hw'; have y1 := HXC.out w' hw'; go_simp; (try with_reducible rfl))); (try simp only [Act.put, List.setIfInBounds_toArray, List.set_cons_zero, List.set_cons_succ]))
            (refine walkS_take (v := ?_) (some 42) rfl rfl (fun _ _ _ h => h) (by rfl) ?_ ?_; rotate_left; (focus (intro w' hw'; have y0 := HOC.out w' hw'; have y1 := HXC.out w' hw'; go_simp; (try with_reducible rfl))); (try simp only [Act.put, List.setIfInBounds_toArray, List.set_cons_zero, List.set_cons_succ]))
            (refine walkS_take (v := ?_) (some 43) rfl rfl (fun _ _ _ h => h) (by rfl) ?_ ?_; rotate_left; (focus (intro w' hw'; have y0 := HOC.out w' hw'; have y1 := HXC.out w' hw'; go_simp; (try with_reducible rfl))); (try simp only [Act.put, List.setIfInBounds_toArray, List.set_cons_zero, List.set_cons_succ]))
            (refine walkS_take (v := ?_) (some 44) rfl rfl (fun _ _ _ h => h) (by rfl) ?_ ?_; rotate_left; (focus (intro w' hw'; have y0 := HOC.out w' hw'; have y1 := HXC.out w' hw'; go_simp; (try with_reducible rfl))); (try simp only [Act.put, List.setIfInBounds_toArray, List.set_cons_zero, List.set_cons_succ]))
            (refine walkS_take (v := ?_) (some 45) rfl rfl (fun _ _ _ h => h) (by rfl) ?_ ?_; rotate_left; (focus (intro w' hw'; have y0 := HOC.out w' hw'; have y1 := HXC.out w' hw'; go_simp; (try with_reducible rfl))); (try simp only [Act.put, List.setIfInBounds_toArray, List.set_cons_zero, List.set_cons_succ]))
            refine walkS_done ?_
            go_upto_region 11 with (fail)
            have hS := hS.drew
            refine wp_region_tree3 (fun w' => Touch wz w' (fun _ => False)) (.take 0 (.take 1 (.take 2 (.take 4 (.take 7 (.take 8 (.take 9 (.two 3 5 (.one 5 (.one 6 (.one 10 (.take 11 .fin)))) (.one 3 (.one 6 (.one 10 (.take 11 .fin)))))))))))) (by kernel_rfl) (by kernel_rfl) (by kernel_rfl) (by kernel_rfl) hS ?_
            refine walk3_take ?_
            (refine takeN_take (v := ?_) (some 50) rfl rfl (fun _ _ _ h => h) (by rfl) ?_ ?_; rotate_left; (focus (intro w' hw'; go_simp; (try with_reducible rfl))); (try simp only [Act.put, List.setIfInBounds_toArray, List.set_cons_zero, List.set_cons_succ]))
            refine walk3_take ?_
            (refine takeN_take (v := ?_) (some 51) rfl rfl (fun _ _ _ h => h) (by rfl) ?_ ?_; rotate_left; (focus (intro w' hw'; go_simp; (try with_reducible rfl))); (try simp only [Act.put, List.setIfInBounds_toArray, List.set_cons_zero, List.set_cons_succ]))
            refine walk3_take ?_
            (refine takeN_take (v := ?_) (some 52) rfl rfl (fun _ _ _ h => h) (by rfl) ?_ ?_; rotate_left; (focus (intro w' hw'; go_simp; (try with_reducible rfl))); (try simp only [Act.put, List.setIfInBounds_toArray, List.set_cons_zero, List.set_cons_succ]))
            refine walk3_take ?_
            (refine takeN_row (some 54) rfl rfl 70 (.tmp 5) rfl (KB) rfl _ _ _ _ (fun w' h => HCK.out w' h) Tryz.underlying70 rfl infoBkN (fun _ _ _ h => h) (by rfl) ?_; (try simp only [Act.put, List.setIfInBounds_toArray, List.set_cons_zero, List.set_cons_succ]))
            refine walk3_take ?_
            (refine takeN_take (v := ?_) (some 57) rfl rfl (fun _ _ _ h => h) (by rfl) ?_ ?_; rotate_left; (focus (intro w' hw'; go_simp; (try with_reducible rfl))); (try simp only [Act.put, List.setIfInBounds_toArray, List.set_cons_zero, List.set_cons_succ]))
            refine walk3_take ?_
            (refine takeN_take (v := ?_) (some 58) rfl rfl (fun _ _ _ h => h) (by rfl) ?_ ?_; rotate_left; (focus (intro w' hw'; go_simp; (try with_reducible rfl))); (try simp only [Act.put, List.setIfInBounds_toArray, List.set_cons_zero, List.set_cons_succ]))
            refine walk3_take ?_
            (refine takeN_take (v := ?_) (some 59) rfl rfl (fun _ _ _ h => h) (by rfl) ?_ ?_; rotate_left; (focus (intro w' hw'; go_simp; (try with_reducible rfl))); (try simp only [Act.put, List.setIfInBounds_toArray, List.set_cons_zero, List.set_cons_succ]))
            refine walk3_two ?_ ?_
            · (refine runN_appS 53 (.const (.slice none 0 0)) (.tmp 52) _ rfl rfl rfl (by rfl) 70 Tryz.underlying39 _ 3 24 infoBk rfl (by decide) wz.heap.size _ _ rfl (OwnS.nil _ _ _ _) _ _ _ _ rfl (HRF.out _ hS) (one_bkK _) (i) ((O.take i).map BkD.cells) (by simp) (by simp) (by simp only [maxLen]; omega) (by omega) hS.size ?_; intro a3 c3 w3 how9 hg9 hp9; have t9 := (Touch.refl _ (fun q => wz.heap.size ≤ q)).grown hg9 (fun q hq _ => by cases hq); have hS := hS.trans t9 (fun q h1 h2 => by have h2 : wz.heap.size ≤ q := h2; omega); refine ⟨hS, fun _ => ?_⟩; (try have HNW := Lib.hid (HNW.out.touch ((Touch.refl _ (fun _ => False)).grown hg9 (fun q hq _ => by cases hq)) (fun _ _ => .inr (fun h => h)))); have HO3 := Lib.hid how9; clear how9 hg9 hp9 t9; (try simp only [Act.put, List.setIfInBounds_toArray, List.set_cons_zero, List.set_cons_succ]))
              refine walk3_one ?_
              (refine runN_new 55 (fun W => .slice (some ⟨W.heap.size, 0, none⟩) 1 1) #[.int .i64 f.id, .int .u32 f.addr, .int .i64 f.weight] 70 rfl rfl (by rfl) (by intro W; go_simp <;> first | with_reducible rfl | rfl | exact ⟨rfl, rfl⟩) ?_; intro w7 hw7 hM7 hs7 t9; have hS := hS.trans t9 (fun _ _ h => h.elim); refine ⟨hS, fun _ => ?_⟩; have HNW := Lib.hid (show RowS w7 _ 1 1 3 [f.cells] by rw [hw7]; exact ((OwnS.lit _ _ (Nat.le_refl _) 70 3 1 [f.cells] _ rfl rfl (by simp [BkD.cells]) (by decide)).row').2.1); (try have HO3 := Lib.hid (HO3.out.still t9)); clear hw7 hM7 hs7 t9; (try simp only [Act.put, List.setIfInBounds_toArray, List.set_cons_zero, List.set_cons_succ]))
              refine walk3_one ?_
              (refine runN_appS 56 (.tmp 53) (.tmp 55) _ rfl rfl rfl (by rfl) 70 Tryz.underlying39 _ 3 24 infoBk rfl (by decide) wz.heap.size _ _ rfl HO3.out _ _ _ _ rfl HNW.out (one_bkK [f]) (i + 1) ((O.take i).map BkD.cells ++ [f.cells]) (rfl) (by rw [List.length_map, HTL.out]) (by simp only [maxLen]; omega) (by omega) hS.size ?_; intro a6 c6 w6 how9 hg9 hp9; have t9 := (Touch.refl _ (fun q => wz.heap.size ≤ q)).grown hg9 (fun q hq _ => (HO3.out.own.lt q hq).1); have hS := hS.trans t9 (fun q h1 h2 => by have h2 : wz.heap.size ≤ q := h2; omega); refine ⟨hS, fun _ => ?_⟩; have HO6 := Lib.hid how9; clear how9 hg9 hp9 t9; (try simp only [Act.put, List.setIfInBounds_toArray, List.set_cons_zero, List.set_cons_succ]))
              refine walk3_one ?_
              (refine runN_appS 60 (.tmp 56) (.tmp 59) _ rfl rfl rfl (by rfl) 70 Tryz.underlying39 _ 3 24 infoBk rfl (by decide) wz.heap.size _ _ rfl HO6.out _ _ _ _ rfl (HRT.out _ hS) (one_bkK _) (i + 1 + q) ((layK f O).map BkD.cells) (HPL.out) (by rw [List.length_append, List.length_map, HTL.out]; simp) (by simp only [maxLen]; omega) (by omega) hS.size ?_; intro a8 c8 w8 how9 hg9 hp9; have t9 := (Touch.refl _ (fun q => wz.heap.size ≤ q)).grown hg9 (fun q hq _ => (HO6.out.own.lt q hq).1); have hS := hS.trans t9 (fun q h1 h2 => by have h2 : wz.heap.size ≤ q := h2; omega); refine ⟨hS, fun _ => ?_⟩; have HO8 := Lib.hid how9; clear how9 hg9 hp9 t9; (try simp only [Act.put, List.setIfInBounds_toArray, List.set_cons_zero, List.set_cons_succ]))
              refine walk3_take ?_
              (refine takeN_take (v := ?_) (some 3) rfl rfl (fun _ _ _ h => h) (by rfl) ?_ ?_; rotate_left; (focus (intro w' hw'; go_simp; (try with_reducible rfl))); (try simp only [Act.put, List.setIfInBounds_toArray, List.set_cons_zero, List.set_cons_succ]))
              refine walk3_fin ?_
              have HY := Lib.hid (HEND.out _ _ _ _ HK8.out (HO8.out.rebase (fun x hx => Nat.le_trans HZW.out.size (HO8.out.own.lt x hx).1)) (HZW.out.trans hS (fun _ _ h => h)))
              go_wp2_with fail
              go_roundw
              · exact HY.out
              · simp only [RowKit.intOf]; omega
            · (refine runN_new 55 (fun W => .slice (some ⟨W.heap.size, 0, none⟩) 1 1) #[.int .i64 f.id, .int .u32 f.addr, .int .i64 f.weight] 70 rfl rfl (by rfl) (by intro W; go_simp <;> first | with_reducible rfl | rfl | exact ⟨rfl, rfl⟩) ?_; intro w7 hw7 hM7 hs7 t9; have hS := hS.trans t9 (fun _ _ h => h.elim); refine ⟨hS, fun _ => ?_⟩; have HNW := Lib.hid (show RowS w7 _ 1 1 3 [f.cells] by rw [hw7]; exact ((OwnS.lit _ _ (Nat.le_refl _) 70 3 1 [f.cells] _ rfl rfl (by simp [BkD.cells]) (by decide)).row').2.1); (try have HO3 := Lib.hid (HO3.out.still t9)); clear hw7 hM7 hs7 t9; (try simp only [Act.put, List.setIfInBounds_toArray, List.set_cons_zero, List.set_cons_succ]))
              refine walk3_one ?_
              (refine runN_appS 53 (.const (.slice none 0 0)) (.tmp 52) _ rfl rfl rfl (by rfl) 70 Tryz.underlying39 _ 3 24 infoBk rfl (by decide) wz.heap.size _ _ rfl (OwnS.nil _ _ _ _) _ _ _ _ rfl (HRF.out _ hS) (one_bkK _) (i) ((O.take i).map BkD.cells) (by simp) (by simp) (by simp only [maxLen]; omega) (by omega) hS.size ?_; intro a3 c3 w3 how9 hg9 hp9; have t9 := (Touch.refl _ (fun q => wz.heap.size ≤ q)).grown hg9 (fun q hq _ => by cases hq); have hS := hS.trans t9 (fun q h1 h2 => by have h2 : wz.heap.size ≤ q := h2; omega); refine ⟨hS, fun _ => ?_⟩; (try have HNW := Lib.hid (HNW.out.touch ((Touch.refl _ (fun _ => False)).grown hg9 (fun q hq _ => by cases hq)) (fun _ _ => .inr (fun h => h)))); have HO3 := Lib.hid how9; clear how9 hg9 hp9 t9; (try simp only [Act.put, List.setIfInBounds_toArray, List.set_cons_zero, List.set_cons_succ]))
              refine walk3_one ?_
              (refine runN_appS 56 (.tmp 53) (.tmp 55) _ rfl rfl rfl (by rfl) 70 Tryz.underlying39 _ 3 24 infoBk rfl (by decide) wz.heap.size _ _ rfl HO3.out _ _ _ _ rfl HNW.out (one_bkK [f]) (i + 1) ((O.take i).map BkD.cells ++ [f.cells]) (rfl) (by rw [List.length_map, HTL.out]) (by simp only [maxLen]; omega) (by omega) hS.size ?_; intro a6 c6 w6 how9 hg9 hp9; have t9 := (Touch.refl _ (fun q => wz.heap.size ≤ q)).grown hg9 (fun q hq _ => (HO3.out.own.lt q hq).1); have hS := hS.trans t9 (fun q h1 h2 => by have h2 : wz.heap.size ≤ q := h2; omega); refine ⟨hS, fun _ => ?_⟩; have HO6 := Lib.hid how9; clear how9 hg9 hp9 t9; (try simp only [Act.put, List.setIfInBounds_toArray, List.set_cons_zero, List.set_cons_succ]))
              refine walk3_one ?_
              (refine runN_appS 60 (.tmp 56) (.tmp 59) _ rfl rfl rfl (by rfl) 70 Tryz.underlying39 _ 3 24 infoBk rfl (by decide) wz.heap.size _ _ rfl HO6.out _ _ _ _ rfl (HRT.out _ hS) (one_bkK _) (i + 1 + q) ((layK f O).map BkD.cells) (HPL.out) (by rw [List.length_append, List.length_map, HTL.out]; simp) (by simp only [maxLen]; omega) (by omega) hS.size ?_; intro a8 c8 w8 how9 hg9 hp9; have t9 := (Touch.refl _ (fun q => wz.heap.size ≤ q)).grown hg9 (fun q hq _ => (HO6.out.own.lt q hq).1); have hS := hS.trans t9 (fun q h1 h2 => by have h2 : wz.heap.size ≤ q := h2; omega); refine ⟨hS, fun _ => ?_⟩; have HO8 := Lib.hid how9; clear how9 hg9 hp9 t9; (try simp only [Act.put, List.setIfInBounds_toArray, List.set_cons_zero, List.set_cons_succ]))
              refine walk3_take ?_
              (refine takeN_take (v := ?_) (some 3) rfl rfl (fun _ _ _ h => h) (by rfl) ?_ ?_; rotate_left; (focus (intro w' hw'; go_simp; (try with_reducible rfl))); (try simp only [Act.put, List.setIfInBounds_toArray, List.set_cons_zero, List.set_cons_succ]))
              refine walk3_fin ?_
              have HY := Lib.hid (HEND.out _ _ _ _ HK8.out (HO8.out.rebase (fun x hx => Nat.le_trans HZW.out.size (HO8.out.own.lt x hx).1)) (HZW.out.trans hS (fun _ _ h => h)))
              go_wp2_with fail
              go_roundw
              · exact HY.out
              · simp only [RowKit.intOf]; omega
end Go.Proofs.YtpjdcgjoepjmcaaGreat

end
