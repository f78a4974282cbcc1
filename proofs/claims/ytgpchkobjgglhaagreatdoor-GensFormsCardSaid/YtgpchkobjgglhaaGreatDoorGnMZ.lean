/- Sets of backends: what Sort makes of a row, what Weight tells; pure. -/
import Derived.Test.YtgpchkobjgglhaaGreatDoorHBZ
import Derived.Test.YtgpchkobjgglhaaGreatDoorHFZ
set_option linter.unusedVariables false
namespace Go.Proofs.YtgpchkobjgglhaaGreatDoor
open Go.RowKit

theorem gmayK_at {bs : List BkD} (h : gmay bs = true) (i : Nat) (hi : i < bs.length) : mayKB bs[i] = true := by
  have := ((gmay_iff bs).1 h).2 i hi
  unfold okAt at this
  rw [List.getElem?_eq_getElem hi] at this
  simp only [Bool.and_eq_true] at this
  exact this.1
theorem gmayK_up {bs : List BkD} (h : gmay bs = true) : bs.Pairwise (fun a b => a.id < b.id) := by
  have hs : ∀ i (hi : i + 1 < bs.length), bs[i].id < bs[i + 1].id := fun i hi => by
    have := ((gmay_iff bs).1 h).2 (i + 1) hi
    rw [okAt_succ (List.getElem?_eq_getElem hi) (List.getElem?_eq_getElem (by omega))] at this
    simp only [Bool.and_eq_true, decide_eq_true_iff] at this
    exact this.2
  rw [List.pairwise_iff_getElem]
  intro i j hi hj hij
  induction j with
  | zero => omega
  | succ j ih =>
    have h1 := hs j hj
    rcases Nat.lt_or_ge i j with h9 | h9
    · have := ih (by omega) h9; omega
    · obtain rfl : i = j := by omega
      exact h1
theorem gmayK_iff (bs : List BkD) : gmay bs = true ↔ bs.length ≤ 16 ∧ (∀ b ∈ bs, mayKB b = true) ∧ bs.Pairwise (fun a b => a.id < b.id) := by
  constructor
  · intro h
    refine ⟨((gmay_iff bs).1 h).1, fun b hb => ?_, gmayK_up h⟩
    obtain ⟨i, hi, rfl⟩ := List.getElem_of_mem hb
    exact gmayK_at h i hi
  · rintro ⟨h1, h2, h3⟩
    rw [gmay_iff]
    refine ⟨h1, fun i hi => ?_⟩
    cases i with
    | zero => rw [okAt_zero (List.getElem?_eq_getElem hi)]; exact h2 _ (List.getElem_mem hi)
    | succ i =>
      rw [okAt_succ (List.getElem?_eq_getElem hi) (List.getElem?_eq_getElem (by omega)), h2 _ (List.getElem_mem hi), Bool.true_and]
      exact decide_eq_true (List.pairwise_iff_getElem.1 h3 i (i + 1) (by omega) hi (by omega))
/-- The first of each number, but for those that were met. -/
def metF : List Int → List BkD → List BkD
  | _, [] => []
  | s, b :: r => if b.id ∈ s then metF s r else b :: metF (b.id :: s) r
theorem metF_mem : ∀ (bs : List BkD) (s : List Int), ∀ b ∈ metF s bs, b ∈ bs ∧ b.id ∉ s
  | [], _, b, h => by simp [metF] at h
  | x :: r, s, b, h => by
    unfold metF at h
    split at h
    · have := metF_mem r s b h
      exact ⟨List.mem_cons_of_mem _ this.1, this.2⟩
    · rename_i hx
      rcases List.mem_cons.1 h with rfl | h
      · exact ⟨List.mem_cons_self .., hx⟩
      · have := metF_mem r (x.id :: s) b h
        exact ⟨List.mem_cons_of_mem _ this.1, fun h2 => this.2 (List.mem_cons_of_mem _ h2)⟩
theorem metF_nd : ∀ (bs : List BkD) (s : List Int), ((metF s bs).map BkD.id).Nodup
  | [], _ => List.nodup_nil
  | x :: r, s => by
    unfold metF
    split
    · exact metF_nd r s
    · rw [List.map_cons, List.nodup_cons]
      refine ⟨fun h => ?_, metF_nd r _⟩
      obtain ⟨c, hc, e⟩ := List.mem_map.1 h
      exact (metF_mem r _ c hc).2 (by rw [e]; exact List.mem_cons_self ..)
theorem metF_len : ∀ (bs : List BkD) (s : List Int), (metF s bs).length ≤ bs.length
  | [], _ => Nat.le_refl _
  | x :: r, s => by
    unfold metF
    split
    · have := metF_len r s
      simp only [List.length_cons]; omega
    · have := metF_len r (x.id :: s)
      simp only [List.length_cons]; omega
theorem metF_has : ∀ (bs : List BkD) (s : List Int), ∀ b ∈ bs, b.id ∈ s ∨ ∃ c ∈ metF s bs, c.id = b.id
  | [], _, b, h => by cases h
  | x :: r, s, b, h => by
    unfold metF
    rcases List.mem_cons.1 h with rfl | h
    · split
      · exact .inl ‹_›
      · exact .inr ⟨b, List.mem_cons_self .., rfl⟩
    · split
      · exact metF_has r s b h
      · rcases metF_has r (x.id :: s) b h with h2 | ⟨c, hc, e⟩
        · rcases List.mem_cons.1 h2 with h3 | h3
          · exact .inr ⟨x, List.mem_cons_self .., h3.symm⟩
          · exact .inl h3
        · exact .inr ⟨c, List.mem_cons_of_mem _ hc, e⟩
theorem metF_first : ∀ (p : List BkD) (b : BkD) (r : List BkD) (s : List Int), b.id ∉ s → b.id ∉ p.map BkD.id → b ∈ metF s (p ++ b :: r)
  | [], b, r, s, h, _ => by
    rw [List.nil_append]
    unfold metF
    rw [if_neg h]; exact List.mem_cons_self ..
  | x :: p, b, r, s, h, hp => by
    rw [List.map_cons, List.mem_cons] at hp
    rw [List.cons_append]
    unfold metF
    split
    · exact metF_first p b r s h (fun h => hp (.inr h))
    · refine List.mem_cons_of_mem _ (metF_first p b r _ (fun h2 => ?_) (fun h => hp (.inr h)))
      rcases List.mem_cons.1 h2 with h3 | h3
      · exact hp (.inl h3)
      · exact h h3
theorem metF_self : ∀ (bs : List BkD) (s : List Int), (bs.map BkD.id).Nodup → (∀ b ∈ bs, b.id ∉ s) → metF s bs = bs
  | [], _, _, _ => rfl
  | x :: r, s, hn, hs => by
    rw [List.map_cons, List.nodup_cons] at hn
    unfold metF
    rw [if_neg (hs x (List.mem_cons_self ..))]
    congr 1
    refine metF_self r _ hn.2 (fun b hb h => ?_)
    rcases List.mem_cons.1 h with h2 | h2
    · exact hn.1 (by rw [← h2]; exact List.mem_map.2 ⟨b, hb, rfl⟩)
    · exact hs b (List.mem_cons_of_mem _ hb) h2
theorem metF_snoc (b : BkD) : ∀ (bs : List BkD) (s : List Int), metF s (bs ++ [b]) = metF s bs ++ (if b.id ∈ s ∨ b.id ∈ bs.map BkD.id then [] else [b])
  | [], s => by
    rw [List.nil_append]
    unfold metF
    by_cases h : b.id ∈ s
    · simp [h, metF]
    · simp [h, metF]
  | x :: r, s => by
    rw [List.cons_append]
    unfold metF
    by_cases h : x.id ∈ s
    · rw [if_pos h, if_pos h, metF_snoc b r s]
      have e : (b.id ∈ s ∨ b.id ∈ (x :: r).map BkD.id) ↔ (b.id ∈ s ∨ b.id ∈ r.map BkD.id) := by
        rw [List.map_cons, List.mem_cons]
        constructor
        · rintro (h1 | h1 | h1)
          · exact .inl h1
          · exact .inl (h1 ▸ h)
          · exact .inr h1
        · rintro (h1 | h1)
          · exact .inl h1
          · exact .inr (.inr h1)
      simp only [e]
    · rw [if_neg h, if_neg h, metF_snoc b r (x.id :: s), List.cons_append]
      have e : (b.id ∈ s ∨ b.id ∈ (x :: r).map BkD.id) ↔ (b.id ∈ x.id :: s ∨ b.id ∈ r.map BkD.id) := by
        rw [List.map_cons, List.mem_cons, List.mem_cons]
        constructor
        · rintro (h1 | h1 | h1)
          · exact .inl (.inr h1)
          · exact .inl (.inl h1)
          · exact .inr h1
        · rintro ((h1 | h1) | h1)
          · exact .inr (.inl h1)
          · exact .inl h1
          · exact .inr (.inr h1)
      simp only [e]
def UpK (bs : List BkD) : Prop := bs.Pairwise (fun a b => a.id < b.id)
theorem UpK.nd : ∀ {bs : List BkD}, UpK bs → (bs.map BkD.id).Nodup
  | [], _ => List.nodup_nil
  | x :: r, h => by
    obtain ⟨h1, h2⟩ := List.pairwise_cons.1 h
    rw [List.map_cons, List.nodup_cons]
    refine ⟨fun hm => ?_, UpK.nd h2⟩
    obtain ⟨c, hc, e⟩ := List.mem_map.1 hm
    have := h1 c hc
    omega
/-- A row by number is all that a permutation of it can be. -/
theorem UpK.uniq : ∀ {L M : List BkD}, L.Perm M → UpK L → UpK M → L = M
  | [], M, p, _, _ => (List.Perm.nil_eq p).symm ▸ rfl
  | x :: L, [], p, _, _ => by have := p.length_eq; simp at this
  | x :: L, y :: M, p, h, g => by
    obtain ⟨h1, h2⟩ := List.pairwise_cons.1 h
    obtain ⟨g1, g2⟩ := List.pairwise_cons.1 g
    have hx : x ∈ y :: M := p.mem_iff.1 (List.mem_cons_self ..)
    have hy : y ∈ x :: L := p.mem_iff.2 (List.mem_cons_self ..)
    have e : x = y := by
      rcases List.mem_cons.1 hx with rfl | hx
      · rfl
      · rcases List.mem_cons.1 hy with rfl | hy
        · rfl
        · have := h1 y hy; have := g1 x hx; omega
    subst e
    rw [UpK.uniq (p.cons_inv) h2 g2]
def insK (b : BkD) : List BkD → List BkD
  | [] => [b]
  | x :: l => if x.id < b.id then x :: insK b l else b :: x :: l
def isortK : List BkD → List BkD
  | [] => []
  | x :: l => insK x (isortK l)
theorem insK_perm (b : BkD) : ∀ l, (insK b l).Perm (b :: l)
  | [] => .refl _
  | x :: l => by
    unfold insK
    split
    · exact ((insK_perm b l).cons x).trans (.swap b x l)
    · exact .refl _
theorem insK_up (b : BkD) : ∀ l, UpK l → b.id ∉ l.map BkD.id → UpK (insK b l)
  | [], _, _ => by simp [insK, UpK]
  | x :: l, h, hn => by
    obtain ⟨h1, h2⟩ := List.pairwise_cons.1 h
    rw [List.map_cons, List.mem_cons] at hn
    unfold insK
    split
    · rename_i hlt
      refine List.pairwise_cons.2 ⟨fun y hy => ?_, insK_up b l h2 (fun h => hn (.inr h))⟩
      rcases List.mem_cons.1 ((insK_perm b l).mem_iff.1 hy) with rfl | hy
      · exact hlt
      · exact h1 y hy
    · rename_i hlt
      have hne : b.id ≠ x.id := fun h => hn (.inl h)
      exact List.pairwise_cons.2 ⟨fun y hy => by
        rcases List.mem_cons.1 hy with rfl | hy
        · omega
        · have := h1 y hy; omega, h⟩
theorem isortK_ok : ∀ l : List BkD, (l.map BkD.id).Nodup → (isortK l).Perm l ∧ UpK (isortK l)
  | [], _ => ⟨.refl _, List.Pairwise.nil⟩
  | x :: l, h => by
    rw [List.map_cons, List.nodup_cons] at h
    obtain ⟨h1, h2⟩ := isortK_ok l h.2
    refine ⟨(insK_perm x (isortK l)).trans (h1.cons x), insK_up x _ h2 (fun hm => h.1 ((h1.map _).mem_iff.1 hm))⟩
/-- What Sort makes of a row. -/
def gsortF (bs : List BkD) : List BkD := isortK (metF [] (bs.take 16).reverse)
theorem gsort_perm (bs : List BkD) : (gsortF bs).Perm (metF [] (bs.take 16).reverse) := (isortK_ok _ (metF_nd _ _)).1
theorem gsort_up (bs : List BkD) : UpK (gsortF bs) := (isortK_ok _ (metF_nd _ _)).2
theorem gsort_is {bs S : List BkD} (p : S.Perm (metF [] (bs.take 16).reverse)) (u : UpK S) : S = gsortF bs := UpK.uniq (p.trans (gsort_perm bs).symm) u (gsort_up bs)
theorem gsort_mem {bs : List BkD} {b : BkD} (h : b ∈ gsortF bs) : b ∈ bs.take 16 := List.mem_reverse.1 (metF_mem _ _ b ((gsort_perm bs).mem_iff.1 h)).1
theorem gsort_len (bs : List BkD) : (gsortF bs).length ≤ 16 := by
  rw [(gsort_perm bs).length_eq]
  refine Nat.le_trans (metF_len _ _) ?_
  simp only [List.length_reverse, List.length_take]; omega
theorem gsort_may {bs : List BkD} (h : ∀ b ∈ bs.take 16, mayKB b = true) : gmay (gsortF bs) = true :=
  (gmayK_iff _).2 ⟨gsort_len bs, fun b hb => h b (gsort_mem hb), gsort_up bs⟩
theorem gsort_self {bs : List BkD} (u : UpK bs) (hl : bs.length ≤ 16) : gsortF bs = bs := by
  refine (gsort_is (bs := bs) ?_ u).symm
  rw [List.take_of_length_le hl, metF_self bs.reverse [] (by rw [List.map_reverse]; exact (List.reverse_perm _).nodup_iff.2 u.nd) (fun _ _ h => by cases h)]
  exact (List.reverse_perm bs).symm
theorem gsort_has {bs : List BkD} (hl : bs.length ≤ 16) {b : BkD} (hb : b ∈ bs) : ∃ c ∈ gsortF bs, c.id = b.id := by
  rcases metF_has (bs.take 16).reverse [] b (by rw [List.mem_reverse, List.take_of_length_le hl]; exact hb) with h | ⟨c, hc, e⟩
  · cases h
  · exact ⟨c, (gsort_perm bs).mem_iff.2 hc, e⟩
theorem gsort_last {p r : List BkD} {b : BkD} (hl : (p ++ b :: r).length ≤ 16) (hb : b.id ∉ r.map BkD.id) : b ∈ gsortF (p ++ b :: r) := by
  rw [(gsort_perm _).mem_iff, List.take_of_length_le hl, List.reverse_append, List.reverse_cons, List.append_assoc]
  refine metF_first _ _ _ _ (fun h => by cases h) (fun h => hb ?_)
  rw [List.map_reverse] at h
  exact List.mem_reverse.1 h
theorem gsort_nd {bs : List BkD} (hl : bs.length ≤ 16) (hn : (bs.map BkD.id).Nodup) : (gsortF bs).Perm bs := by
  refine (gsort_perm bs).trans ?_
  rw [List.take_of_length_le hl, metF_self bs.reverse [] (by rw [List.map_reverse]; exact (List.reverse_perm _).nodup_iff.2 hn) (fun _ _ h => by cases h)]
  exact List.reverse_perm bs
theorem gsort_turn {bs cs : List BkD} (hl : bs.length ≤ 16) (hn : (bs.map BkD.id).Nodup) (p : cs.Perm bs) : gsortF cs = gsortF bs := by
  refine UpK.uniq (((gsort_nd (by rw [p.length_eq]; exact hl) ((p.map _).nodup_iff.2 hn)).trans p).trans (gsort_nd hl hn).symm) (gsort_up _) (gsort_up _)
/-- All weights that may be, added. -/
def wOf (b : BkD) : Int := if 1 ≤ b.weight ∧ b.weight ≤ 10 then b.weight else 0
def weightF : List BkD → Int
  | [] => 0
  | b :: r => wOf b + weightF r
theorem weightF_append (a : List BkD) : ∀ b : List BkD, weightF (a ++ b) = weightF a + weightF b := by
  induction a with
  | nil => intro b; simp [weightF]
  | cons x a ih => intro b; rw [List.cons_append, weightF, weightF, ih]; omega
theorem weightF_snoc (a : List BkD) (b : BkD) : weightF (a ++ [b]) = weightF a + wOf b := by rw [weightF_append]; simp [weightF]
theorem weightF_perm {a b : List BkD} (p : a.Perm b) : weightF a = weightF b := by
  induction p with
  | nil => rfl
  | cons x _ ih => rw [weightF, weightF, ih]
  | swap x y l => simp only [weightF]; omega
  | trans _ _ h1 h2 => exact h1.trans h2
theorem weightF_le (a : List BkD) : 0 ≤ weightF a ∧ weightF a ≤ 10 * a.length := by
  induction a with
  | nil => simp [weightF]
  | cons x a ih =>
    rw [weightF, List.length_cons]
    have : 0 ≤ wOf x ∧ wOf x ≤ 10 := by unfold wOf; split <;> omega
    omega
theorem keepF_out {bs : List BkD} (u : UpK bs) (id : Int) : (keepF (fun x => x == id) bs).length + (if (findF bs id).isSome then 1 else 0) = bs.length ∧ findF (keepF (fun x => x == id) bs) id = none := by
  constructor
  · induction bs with
    | nil => rfl
    | cons x r ih =>
      obtain ⟨h1, h2⟩ := List.pairwise_cons.1 u
      have ih := ih h2
      unfold keepF findF at ih ⊢
      rw [List.filter_cons, List.find?_cons]
      by_cases e : x.id = id
      · have hz : r.filter (fun b => !(fun x => x == id) b.id) = r := by
          rw [List.filter_eq_self]
          intro b hb
          have := h1 b hb
          simp; omega
        simp only [e, beq_self_eq_true, Bool.not_true, Bool.false_eq_true, if_false, Option.isSome_some, if_true, List.length_cons]
        rw [hz]
      · have : (x.id == id) = false := by simpa using e
        simp only [this, Bool.not_false, if_true, List.length_cons] at ih ⊢
        omega
  · unfold findF keepF
    rw [List.find?_eq_none]
    intro b hb
    have := (List.mem_filter.1 hb).2
    simpa using this
theorem findF_has {bs : List BkD} {id : Int} (h : ∃ c ∈ bs, c.id = id) : (findF bs id).isSome = true := by
  obtain ⟨c, hc, e⟩ := h
  unfold findF
  rw [List.find?_isSome]
  exact ⟨c, hc, by simp [e]⟩
end Go.Proofs.YtgpchkobjgglhaaGreatDoor
