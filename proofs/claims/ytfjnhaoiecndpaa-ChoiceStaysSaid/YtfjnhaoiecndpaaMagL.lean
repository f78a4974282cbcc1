/- A set without one of its backends; append of a row of structs as a step of a region that draws. -/
import Derived.Test.YtfjnhaoiecndpaaMagF
import Derived.Test.YtfjnhaoiecndpaaRowS
import Derived.Deep.RegionLaw
set_option linter.unusedVariables false
namespace Go.Proofs.Ytfjnhaoiecndpaa
open Go.RowKit Go.Maps

theorem step_appendS {P : Program} {ops : Array Oper} {o : Oper} {a : Act} {w : World} {K : Act → World → Prop} {Q : Exit → Act → World → Prop} {X : Prop} (hg : o.guard = none) (s x : Operand) (t : TypeId)
    (ho2 : o.op = .call { callee := .builtin .append, args := #[s, x], argTypes := #[t, t] })
    (E : TypeId) (ht : P.underlying t = some (.slice E)) (z : Value) (k bytes : Nat) (hin : (P.info? E).map (fun i => (i.zero, i.size, i.bytes)) = some (some z, k, bytes)) (hzs : z.cells.size = k) (hk : 0 < k)
    (base : Nat) (v : Value) (L : List (List Value)) (hs : a.eval s = v) (ho : OwnS w base E k v L) (ad : Option Addr) (len cap : Nat) (L2 : List (List Value)) (hx : a.eval x = .slice ad len cap) (hr : RowS w ad len cap k L2)
    (h1 : ∀ l ∈ L2, ∀ u ∈ l, u.oneCell' = true) (n : Nat) (Z : List (List Value)) (hn : L.length + len = n) (hz : L ++ L2 = Z) (hlen : n ≤ maxLen) (hbytes : n * bytes ≤ 140737488355328) (hbase : base ≤ w.heap.size)
    (h : ∀ a' cap' w', OwnS w' base E k (.slice a' n cap') Z → w.grownBy w' v.ownBlock → (∀ b, (Value.slice a' n cap').ownBlock = some b → v.ownBlock = some b ∨ w.heap.size ≤ b) → K (a.put o.dst (.slice a' n cap')) w') :
    if Region.wanted o (yielded ops a.tmps) = true then Oper.wp P o a w K Q else X := by
  have hw : Region.wanted o (yielded ops a.tmps) = true := by simp [Region.wanted, hg]
  rw [if_pos hw]
  subst hn hz
  obtain ⟨a', cap', w', hrun, h1', h2, hpl⟩ := run_appS (P := P) w t o.type E ht z k bytes hin hzs hk base v L ho ad len cap L2 hr h1 hlen hbytes hbase
  unfold Oper.wp execOp
  simp only [ho2, resolve, invoke, builtin, Sem.run_bind, Sem.run_pure, Result.andThen_ok, List.map_toArray, List.map_cons, List.map_nil, hs, hx, hrun]
  exact h a' cap' w' h1' h2 hpl
theorem RowS.dropA {w : World} {b off len cap k : Nat} {L : List (List Value)} (h : RowS w (.some ⟨b, off, none⟩) len cap k L) (j : Nat) (hj : j ≤ len) :
    RowS w (if cap = j then Option.some ⟨b, off, none⟩ else Option.some ⟨b, off + j * k, none⟩) (len - j) (cap - j) k (L.drop j) := by
  have hl := h.hlen
  have hc := h.hcap
  have hm := h.hmax
  refine ⟨by simp [hl], by omega, by omega, fun l hl' => h.each l (List.mem_of_mem_drop hl'), ?_⟩
  by_cases he : len = j
  · exact .inl (by omega)
  · rw [if_neg (by omega)]
    rcases h.at_ with h0 | ⟨b', off', ha, hlt, hc'⟩
    · omega
    · simp only [Option.some.injEq, Addr.mk.injEq] at ha
      obtain ⟨rfl, rfl, _⟩ := ha
      refine .inr ⟨b, off + j * k, rfl, hlt, fun i hi q u hu => ?_⟩
      simp at hi
      rw [List.getElem_drop] at hu
      have := hc' (j + i) (by omega) q u hu
      rw [show off + j * k + i * k + q = off + (j + i) * k + q from by rw [Nat.add_mul]; omega]
      exact this

theorem gmay_iff2 (bs : List BkD) : gmay bs = true ↔ bs.length ≤ 16 ∧ (∀ b ∈ bs, mayKB b = true) ∧ bs.Pairwise (fun a b => a.id < b.id) := by
  constructor
  · intro h
    refine ⟨((gmay_iff bs).1 h).1, fun b hb => ?_, gmay_up h⟩
    obtain ⟨i, hi, rfl⟩ := List.getElem_of_mem hb
    exact gmay_at h i hi
  · rintro ⟨h1, h2, h3⟩
    rw [gmay_iff]
    refine ⟨h1, fun i hi => ?_⟩
    cases i with
    | zero => rw [okAt_zero (List.getElem?_eq_getElem hi)]; exact h2 _ (List.getElem_mem hi)
    | succ i =>
      rw [okAt_succ (List.getElem?_eq_getElem hi) (List.getElem?_eq_getElem (by omega)), h2 _ (List.getElem_mem hi), Bool.true_and]
      exact decide_eq_true (List.pairwise_iff_getElem.1 h3 i (i + 1) (by omega) hi (by omega))
/-- Without the j-th. -/
def without (bs : List BkD) (j : Nat) : List BkD := bs.take j ++ bs.drop (j + 1)
theorem without_sub (bs : List BkD) (j : Nat) : (without bs j).Sublist bs := by
  unfold without
  have h : bs = bs.take j ++ bs.drop j := (List.take_append_drop j bs).symm
  conv => rhs; rw [h]
  refine List.Sublist.append (List.Sublist.refl _) ?_
  rw [← List.drop_drop]
  exact List.drop_sublist _ _
theorem without_may {bs : List BkD} (h : gmay bs = true) (j : Nat) : gmay (without bs j) = true := by
  rw [gmay_iff2] at h ⊢
  have hs := without_sub bs j
  exact ⟨Nat.le_trans hs.length_le h.1, fun b hb => h.2.1 b (hs.subset hb), h.2.2.sublist hs⟩
theorem without_len {bs : List BkD} {j : Nat} (h : j < bs.length) : (without bs j).length = bs.length - 1 := by
  unfold without; simp; omega
theorem without_gone {bs : List BkD} {j : Nat} (h : j < bs.length) (hp : bs.Pairwise (fun a b => a.id < b.id)) : ∀ b ∈ without bs j, b.id ≠ bs[j].id := by
  intro b hb
  have hpi := List.pairwise_iff_getElem.1 hp
  unfold without at hb
  rcases List.mem_append.1 hb with h1 | h1
  · obtain ⟨i, hi, rfl⟩ := List.getElem_of_mem h1
    simp at hi
    rw [List.getElem_take]
    have := hpi i j (by omega) h (by omega)
    omega
  · obtain ⟨i, hi, rfl⟩ := List.getElem_of_mem h1
    simp at hi
    rw [List.getElem_drop]
    have := hpi j (j + 1 + i) h (by omega) (by omega)
    omega
theorem diffN_count (g : Int) : ∀ (A B : List Int), A.length = B.length → (∀ x ∈ B, x ≠ g) → A.count g ≤ diffN A B
  | [], [], _, _ => by simp
  | [], _ :: _, h, _ => by simp at h
  | _ :: _, [], h, _ => by simp at h
  | a :: A, b :: B, h, hb => by
    have ih := diffN_count g A B (by simpa using h) (fun x hx => hb x (List.mem_cons_of_mem _ hx))
    have h1 := hb b (List.mem_cons_self ..)
    simp only [diffN, List.count_cons]
    by_cases hag : a = g
    · subst hag
      have hne : ¬ a = b := fun e => h1 e.symm
      simp only [beq_self_eq_true, if_true, if_neg hne]; omega
    · have : (a == g) = false := beq_eq_false_iff_ne.2 hag
      rw [this]; simp only [Bool.false_eq_true, if_false]
      split <;> omega
/-- A table without a backend. -/
structure Left (bs : List BkD) (j n : Nat) (g : Int) (B : List Int) : Prop where
  none_ : ∀ x ∈ B, x ≠ g
  emp : (without bs j).length = 0 → ∀ x ∈ B, x = -1
  full : (without bs j).length ≠ 0 → ∀ x ∈ B, 0 ≤ x
theorem left_tab {bs : List BkD} {j n : Nat} (hp : Prm n) (hg : gmay bs = true) (h : j < bs.length) : Left bs j n bs[j].id (tabF (without bs j) n) := by
  have hw := without_may hg j
  have hup := gmay_up hg
  have hgo := without_gone h hup
  have h0 := ((mayKB_iff _).1 (gmay_at hg j h)).1.1
  by_cases he : (without bs j).length = 0
  · have hT : tabF (without bs j) n = List.replicate n (-1) := by unfold tabF; rw [if_pos (.inl he)]
    refine ⟨fun x hx => ?_, fun _ x hx => ?_, fun h => absurd he h⟩
    · rw [hT] at hx; have := (List.mem_replicate.1 hx).2; omega
    · rw [hT] at hx; exact (List.mem_replicate.1 hx).2
  · have hT : tabF (without bs j) n = (stM (rowsF (without bs j) n) n n).1 := by
      unfold tabF; rw [if_neg (fun h => h.elim (fun h => he h) (fun h => by rw [hw] at h; cases h))]
    have hI := inv_all (rows_fine hp hw) (by rw [rowsF_length]; omega) n (Nat.le_refl _)
    have key : ∀ x ∈ tabF (without bs j) n, ∃ b ∈ without bs j, x = b.id := fun x hx => by
      rw [hT] at hx
      rcases hI.mem x hx with h1 | ⟨r, hr, h1⟩
      · have h2 := hI.free
        have h3 : 0 < (stM (rowsF (without bs j) n) n n).1.count (-1) := List.count_pos_iff.2 (h1 ▸ hx)
        omega
      · unfold rowsF at hr
        obtain ⟨b, hb, rfl⟩ := List.mem_map.1 hr
        exact ⟨b, hb, h1⟩
    refine ⟨fun x hx => ?_, fun h => absurd h he, fun _ x hx => ?_⟩
    · obtain ⟨b, hb, rfl⟩ := key x hx; exact hgo b hb
    · obtain ⟨b, hb, rfl⟩ := key x hx
      have := ((mayKB_iff b).1 (((gmay_iff2 _).1 hw).2.1 b hb)).1.1
      omega
end Go.Proofs.Ytfjnhaoiecndpaa
