/- Rows in order with the same members; the first time of each key in a map. -/
import Derived.Test.YtdjkjdeaglimeaaDueTwo
set_option linter.unusedVariables false
set_option linter.unusedSimpArgs false
namespace Go.Proofs.Ytdjkjdeaglimeaa
open Go.RowKit Go.ChangeMaps Go.WideElems

theorem sort_nodup : ∀ {A : List QR}, SortQ A → A.Nodup
  | [], _ => List.nodup_nil
  | a :: A, h => by
    obtain ⟨h1, h2⟩ := List.pairwise_cons.1 h
    rw [List.nodup_cons]
    refine ⟨fun hm => ?_, sort_nodup h2⟩
    have := h1 a hm
    rw [lt_irrefl] at this; cases this
theorem sort_ext : ∀ {A B : List QR}, SortQ A → SortQ B → (∀ r, r ∈ A ↔ r ∈ B) → A = B
  | [], [], _, _, _ => rfl
  | [], b :: B, _, _, h => by have := (h b).2 List.mem_cons_self; cases this
  | a :: A, [], _, _, h => by have := (h a).1 List.mem_cons_self; cases this
  | a :: A, b :: B, hA, hB, h => by
    obtain ⟨a1, a2⟩ := List.pairwise_cons.1 hA
    obtain ⟨b1, b2⟩ := List.pairwise_cons.1 hB
    have hab : a = b := by
      rcases List.mem_cons.1 ((h a).1 List.mem_cons_self) with e | e
      · exact e
      · rcases List.mem_cons.1 ((h b).2 List.mem_cons_self) with e2 | e2
        · exact e2.symm
        · have h1 := b1 a e
          have h2 := lt_asymm (a1 b e2)
          rw [h1] at h2; cases h2
    subst hab
    rw [sort_ext a2 b2 (fun r => ?_)]
    constructor
    · intro hr
      rcases List.mem_cons.1 ((h r).1 (List.mem_cons_of_mem _ hr)) with e | e
      · subst e; have := a1 r hr; rw [lt_irrefl] at this; cases this
      · exact e
    · intro hr
      rcases List.mem_cons.1 ((h r).2 (List.mem_cons_of_mem _ hr)) with e | e
      · subst e; have := b1 r hr; rw [lt_irrefl] at this; cases this
      · exact e
theorem len_le_of_sub : ∀ {A B : List QR}, A.Nodup → (∀ r ∈ A, r ∈ B) → A.length ≤ B.length
  | [], _, _, _ => Nat.zero_le _
  | a :: A, B, hn, h => by
    rw [List.nodup_cons] at hn
    obtain ⟨s, t, rfl⟩ := List.append_of_mem (h a List.mem_cons_self)
    have := len_le_of_sub (A := A) (B := s ++ t) hn.2 (fun r hr => by
      have h2 := h r (List.mem_cons_of_mem _ hr)
      simp only [List.mem_append, List.mem_cons] at h2 ⊢
      rcases h2 with h2 | rfl | h2
      · exact .inl h2
      · exact absurd hr hn.1
      · exact .inr h2)
    simp at this ⊢; omega
/-- The map holds each key's first time. -/
structure PF (D : DataW Unit) (F : List QR) : Prop where
  tidy : Maps.Tidy D
  size : Maps.size D = F.length
  at_ : ∀ r ∈ F, D.atKey (klQ r) (.lit (.int .i64 0)) = .lit (.int .i64 r.time)
  has : ∀ k : ByteArray, Maps.has D (klB k) = hasQ F k
theorem pf_push {D : DataW Unit} {F : List QR} (p : PF D F) (r : QR) (hn : r.key ∉ F.map QR.key) : PF (D.put (klB r.key) (.lit (.int .i64 r.time))) (F ++ [r]) := by
  have hf : Maps.has D (klQ r) = false := by
    unfold klQ; rw [p.has, Bool.eq_false_iff]; intro h
    exact hn ((has_iff _ _).1 h)
  refine ⟨Maps.Tidy.put p.tidy (isKey r) _, ?_, fun x hx => ?_, fun k => ?_⟩
  · have := Maps.size_put (k := klQ r) (d := (.lit (.int .i64 r.time) : DataW Unit)) p.tidy
    rw [hf, if_neg (by decide), p.size] at this
    rw [List.length_append]; exact this
  · rcases List.mem_append.1 hx with hx | hx
    · have hne : klQ x ≠ klQ r := fun h => hn (List.mem_map.2 ⟨x, hx, klB_inj h⟩)
      exact (Maps.atKey_put_other hne _ _).trans (p.at_ x hx)
    · rw [List.mem_singleton.1 hx]
      exact Maps.atKey_put_same p.tidy.isMap (isKey r) _ _
  · unfold hasQ
    rw [List.any_append]
    by_cases e : klB k = klQ r
    · have ek : r.key = k := (klB_inj e).symm
      rw [e]
      have := Maps.has_put_same p.tidy.isMap (isKey r) (.lit (.int .i64 r.time) : DataW Unit)
      refine this.trans ?_
      simp [ek]
    · have ek : ¬ r.key = k := fun h => e (by rw [← h]; rfl)
      have := Maps.has_put_other (D := D) e (.lit (.int .i64 r.time) : DataW Unit)
      refine this.trans ?_
      rw [p.has]
      unfold hasQ
      simp [ek]
theorem zeroT (w : World) : (zeroValue 2).run Try.prog w = .ok (.int .i64 0) w := by kernel_rfl
def OwnF (w : World) (mb : Nat) (F : List QR) : Prop := ∃ n D, n ≤ 60 ∧ w.ownsMap Try.prog 9 (plainElem Try.prog 2) mb n D ∧ PF D F
theorem OwnF.touch {w w' : World} {mb : Nat} {F : List QR} {S : Nat → Prop} (h : OwnF w mb F) (t : Touch w w' S) (hn : ¬ S mb) : OwnF w' mb F := by
  obtain ⟨n, D, h0, h1, h2⟩ := h
  exact ⟨n, D, h0, ownsMap_touch h1 t hn, h2⟩
theorem OwnF.lt {w : World} {mb : Nat} {F : List QR} (h : OwnF w mb F) : mb < w.heap.size := by
  obtain ⟨n, D, _, h1, _⟩ := h
  exact h1.lt
theorem OwnF.ok {w : World} {mb : Nat} {F : List QR} (h : OwnF w mb F) (k : ByteArray) (hk : k.size ≤ 281474976710656) :
    ∃ c : Int, (Instr.lookup 53 (.map (some mb)) (.string k) true).run Try.prog w = .ok (.tuple #[.int .i64 c, .bool (hasQ F k)]) w := by
  obtain ⟨n, D, _, hD, hP⟩ := h
  obtain ⟨v, ps, hrun, hv⟩ := World.ownsMap.look_ok hD strKeyed Try.underlying53 (zeroT w) (plainElem_int (H := Unit) Try.underlying2 (by decide)) (keyQ hk)
  obtain ⟨c, rfl, hc, hwc⟩ := plainElem_int_inv Try.underlying2 hv
  have he := hP.has k
  rw [he] at hrun
  exact ⟨c, hrun⟩
theorem OwnF.get {w : World} {mb : Nat} {F : List QR} (h : OwnF w mb F) (r : QR) (hr : r ∈ F) (hk : r.key.size ≤ 281474976710656) :
    (Instr.lookup 53 (.map (some mb)) (.string r.key) false).run Try.prog w = .ok (.int .i64 r.time) w := by
  obtain ⟨n, D, _, hD, hP⟩ := h
  obtain ⟨c, hrun, hat, _⟩ := World.ownsMap.lookup_int hD strKeyed Try.underlying53 Try.underlying2 (zeroT w) (keyQ hk)
  have h2 := hP.at_ r hr
  have e : klQ r = klB r.key := rfl
  rw [e] at h2
  have h3 := lit_inj (hat.symm.trans h2)
  rw [h3] at hrun; exact hrun
theorem key_uniq {F : List QR} (hn : (F.map QR.key).Nodup) {a b : QR} (ha : a ∈ F) (hb : b ∈ F) (h : a.key = b.key) : a = b := by
  obtain ⟨i, hi, rfl⟩ := mem_gq ha
  obtain ⟨j, hj, rfl⟩ := mem_gq hb
  rw [nd_inj hn hi hj h]
theorem mem_set {L : List QR} {k : ByteArray} {t : Int} (h : setE L k t = 0) (r : QR) : r ∈ setQ L k t ↔ r = ⟨k, t⟩ ∨ (r ∈ L ∧ r.key ≠ k) := by
  unfold setQ
  rw [if_pos h, (ins_perm _ _).mem_iff, List.mem_cons]
  unfold delQ
  rw [List.mem_filter]
  simp
/-- The queue holds the rows of F whose key has been met. -/
def SetIs (L F : List QR) (S : ByteArray → Prop) : Prop := ∀ r, r ∈ L ↔ r ∈ F ∧ S r.key
theorem SetIs.set {L F : List QR} {S : ByteArray → Prop} (h : SetIs L F S) (hn : (F.map QR.key).Nodup) {x : QR} (hx : x ∈ F) (he : setE L x.key x.time = 0) : SetIs (setQ L x.key x.time) F (fun k => k = x.key ∨ S k) := by
  intro r
  rw [mem_set he]
  constructor
  · rintro (rfl | ⟨h1, h2⟩)
    · exact ⟨hx, .inl rfl⟩
    · exact ⟨((h r).1 h1).1, .inr ((h r).1 h1).2⟩
  · rintro ⟨h1, h2⟩
    by_cases e : r.key = x.key
    · exact .inl (key_uniq hn h1 hx e)
    · exact .inr ⟨(h r).2 ⟨h1, h2.resolve_left e⟩, e⟩
theorem SetIs.mono {L F : List QR} {S S' : ByteArray → Prop} (h : SetIs L F S) (hs : ∀ k, S k ↔ S' k) : SetIs L F S' := fun r => by rw [h r, hs]
end Go.Proofs.Ytdjkjdeaglimeaa
