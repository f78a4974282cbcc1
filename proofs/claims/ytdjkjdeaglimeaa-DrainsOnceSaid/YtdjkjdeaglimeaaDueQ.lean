/- What is due, as a row in order. -/
import Derived.Test.YtdjkjdeaglimeaaDueHeap
set_option linter.unusedVariables false
set_option linter.unusedSimpArgs false
namespace Go.Proofs.Ytdjkjdeaglimeaa
open Go.RowKit

def hasQ (l : List QR) (k : ByteArray) : Bool := l.any (fun r => decide (r.key = k))
def delQ (l : List QR) (k : ByteArray) : List QR := l.filter (fun r => !decide (r.key = k))
def insQ (r : QR) : List QR → List QR
  | [] => [r]
  | x :: l => if ltQ x r then x :: insQ r l else r :: x :: l
def timeQ : List QR → ByteArray → Int
  | [], _ => 0
  | r :: l, k => if r.key = k then r.time else timeQ l k
def SortQ (l : List QR) : Prop := l.Pairwise (fun a b => ltQ a b = true)
theorem ins_perm (r : QR) : ∀ l, (insQ r l).Perm (r :: l)
  | [] => .refl _
  | x :: l => by
    unfold insQ
    split
    · exact ((ins_perm r l).cons x).trans (.swap r x l)
    · exact .refl _
theorem ins_sort (r : QR) : ∀ l, SortQ l → r.key ∉ l.map QR.key → SortQ (insQ r l)
  | [], _, _ => by simp [insQ, SortQ]
  | x :: l, h, hn => by
    obtain ⟨h1, h2⟩ := List.pairwise_cons.1 h
    have hn2 : r.key ∉ l.map QR.key := fun h => hn (by simp only [List.map_cons, List.mem_cons]; exact .inr h)
    have hxr : r.key ≠ x.key := fun h => hn (by simp [h])
    unfold insQ
    split
    · rename_i hlt
      refine List.pairwise_cons.2 ⟨fun y hy => ?_, ins_sort r l h2 hn2⟩
      rcases List.mem_cons.1 ((ins_perm r l).mem_iff.1 hy) with rfl | hy
      · exact hlt
      · exact h1 y hy
    · rename_i hlt
      have hrx : ltQ r x = true := by
        cases hc : ltQ r x with
        | true => rfl
        | false =>
          have hl' : ltQ x r = false := by simpa using hlt
          have := lt_total hc hl'
          exact absurd (by rw [this]) hxr
      exact List.pairwise_cons.2 ⟨fun y hy => by
        rcases List.mem_cons.1 hy with rfl | hy
        · exact hrx
        · exact lt_trans' hrx (h1 y hy), h⟩
theorem del_sort {l : List QR} (h : SortQ l) (k : ByteArray) : SortQ (delQ l k) := h.filter _
theorem del_none {l : List QR} {k : ByteArray} (h : k ∉ l.map QR.key) : delQ l k = l := by
  unfold delQ
  rw [List.filter_eq_self]
  intro r hr
  have : r.key ≠ k := fun e => h (List.mem_map.2 ⟨r, hr, e⟩)
  simp [this]
theorem del_not (l : List QR) (k : ByteArray) : k ∉ (delQ l k).map QR.key := by
  intro h
  obtain ⟨r, hr, e⟩ := List.mem_map.1 h
  have := (List.mem_filter.1 hr).2
  simp [e] at this
theorem has_iff (l : List QR) (k : ByteArray) : hasQ l k = true ↔ k ∈ l.map QR.key := by
  unfold hasQ; rw [List.any_eq_true, List.mem_map]
  constructor
  · rintro ⟨r, hr, e⟩; exact ⟨r, hr, of_decide_eq_true e⟩
  · rintro ⟨r, hr, e⟩; exact ⟨r, hr, decide_eq_true e⟩
theorem has_perm {l l' : List QR} (h : l.Perm l') (k : ByteArray) : hasQ l k = hasQ l' k := by
  rw [Bool.eq_iff_iff, has_iff, has_iff]; exact (h.map _).mem_iff
theorem nd_perm {l l' : List QR} (h : l.Perm l') (hn : (l.map QR.key).Nodup) : (l'.map QR.key).Nodup := (h.map _).nodup_iff.1 hn
/-- One row taken out is all of its key. -/
theorem del_perm {x : QR} {rest L : List QR} (hp : (x :: rest).Perm L) (hn : (L.map QR.key).Nodup) {k : ByteArray} (hk : x.key = k) : rest.Perm (delQ L k) := by
  have h1 : (delQ (x :: rest) k).Perm (delQ L k) := hp.filter _
  have h2 : ((x :: rest).map QR.key).Nodup := nd_perm hp.symm hn
  rw [List.map_cons, List.nodup_cons] at h2
  have h3 : delQ (x :: rest) k = rest := by
    have h4 : delQ rest k = rest := del_none (by rw [← hk]; exact h2.1)
    unfold delQ at h4 ⊢
    rw [List.filter_cons, if_neg (by simp [hk]), h4]
  rwa [h3] at h1
theorem set_perm (l : List QR) (i : Nat) (hi : i < l.length) (r : QR) : ∃ rest, (gq l i :: rest).Perm l ∧ (l.set i r).Perm (r :: rest) := by
  refine ⟨l.take i ++ l.drop (i + 1), ?_, ?_⟩
  · rw [gq_get l i hi]
    have h1 := (List.perm_middle (a := l[i]) (l₁ := l.take i) (l₂ := l.drop (i + 1))).symm
    rwa [List.getElem_cons_drop, List.take_append_drop] at h1
  · rw [List.set_eq_take_append_cons_drop, if_pos hi]
    exact List.perm_middle
theorem time_of {l : List QR} (hn : (l.map QR.key).Nodup) {r : QR} (hr : r ∈ l) : timeQ l r.key = r.time := by
  induction l with
  | nil => cases hr
  | cons x l ih =>
    rw [List.map_cons, List.nodup_cons] at hn
    unfold timeQ
    rcases List.mem_cons.1 hr with rfl | hr
    · rw [if_pos rfl]
    · rw [if_neg (fun e => hn.1 (by rw [e]; exact List.mem_map.2 ⟨r, hr, rfl⟩))]
      exact ih hn.2 hr
/-- The first of a heap is the first in order. -/
theorem first_of {l L : List QR} {x : QR} (hp : l.Perm (x :: L)) (hs : SortQ (x :: L)) (hh : HeapQ l.length l) : gq l 0 = x := by
  have h0 : 0 < l.length := by rw [hp.length_eq]; simp
  have hm : gq l 0 ∈ x :: L := hp.mem_iff.1 (gq_mem l 0 h0)
  rcases List.mem_cons.1 hm with h | h
  · exact h
  · have h1 := (List.pairwise_cons.1 hs).1 _ h
    obtain ⟨k, hk, e⟩ := List.getElem_of_mem (hp.mem_iff.2 (List.mem_cons_self (a := x) (l := L)))
    have h2 := heap_min hh k hk
    rw [gq_get l k hk, e] at h2
    rw [h1] at h2; cases h2
/-- A queue with what is due in it, in order. -/
def QL (w : World) (b : Nat) (h : QH) (L : List QR) : Prop := SortQ L ∧ ∃ l, QI w b h l ∧ l.Perm L
def QLStep (w w' : World) (b : Nat) (h : QH) (L' : List QR) : Prop :=
  ∃ h', QL w' b h' L' ∧ Touch w w' (footQ b h) ∧ ∀ k, footQ b h' k → footQ b h k ∨ w.heap.size ≤ k
theorem QIStep.ql {w w' : World} {b : Nat} {h : QH} {l' L' : List QR} (s : QIStep w w' b h l') (hs : SortQ L') (hp : l'.Perm L') : QLStep w w' b h L' := by
  obtain ⟨h', q, t, f⟩ := s
  exact ⟨h', ⟨hs, l', q, hp⟩, t, f⟩
section
variable {w w' : World} {b : Nat} {h : QH} {L : List QR}
theorem QL.len (q : QL w b h L) : L.length ≤ 1024 := by
  obtain ⟨hs, l, q, hp⟩ := q
  rw [← hp.length_eq]; exact q.1.len
theorem QL.nd (q : QL w b h L) : (L.map QR.key).Nodup := by
  obtain ⟨hs, l, q, hp⟩ := q
  exact nd_perm hp q.1.nd
theorem QL.ok (q : QL w b h L) : ∀ r ∈ L, r.key.size ≤ 281474976710656 ∧ 0 ≤ r.time ∧ r.time ≤ 1099511627776 := by
  obtain ⟨hs, l, q, hp⟩ := q
  exact fun r hr => q.1.ok r (hp.mem_iff.2 hr)
theorem QL.touch {S : Nat → Prop} (q : QL w b h L) (t : Touch w w' S) (hn : ∀ k, footQ b h k → ¬ S k) : QL w' b h L := by
  obtain ⟨hs, l, q, hp⟩ := q
  exact ⟨hs, l, ⟨q.1.touch t hn, q.2⟩, hp⟩
theorem QL.still (q : QL w b h L) (t : Touch w w' (fun _ => False)) : QL w' b h L := q.touch t (fun _ _ h => h)
theorem QL.footlt (q : QL w b h L) : ∀ k, footQ b h k → k < w.heap.size := by
  obtain ⟨hs, l, q, hp⟩ := q
  exact q.1.footlt
theorem QLStep.refl (q : QL w b h L) : QLStep w w b h L := ⟨h, q, Touch.refl _ _, fun _ hk => .inl hk⟩
theorem QLStep.still (q : QL w b h L) (t : Touch w w' (fun _ => False)) : QLStep w w' b h L := ⟨h, q.still t, t.mono (fun _ _ h => h.elim), fun _ hk => .inl hk⟩
theorem QLStep.trans {w1 w2 : World} {h1 : QH} {L2 : List QR} (t : Touch w w1 (footQ b h)) (hf : ∀ k, footQ b h1 k → footQ b h k ∨ w.heap.size ≤ k) (s : QLStep w1 w2 b h1 L2) : QLStep w w2 b h L2 := by
  obtain ⟨h2, q2, t2, f2⟩ := s
  refine ⟨h2, q2, t.trans t2 (fun k hk hq => ?_), fun k hk => ?_⟩
  · rcases hf k hq with h | h
    · exact h
    · omega
  · rcases f2 k hk with h | h
    · exact hf k h
    · exact .inr (Nat.le_trans t.size h)
theorem lit_inj {a c : Int} (h : (DataW.lit (.int .i64 a) : DataW Unit) = .lit (.int .i64 c)) : a = c := by
  have h4 := congrArg (fun d : DataW Unit => match d with | .lit (.int _ n) => n | _ => (0:Int)) h
  exact h4
/-- A look-up. -/
theorem look_q {l : List QR} (q : QB w b h l) (k : ByteArray) (hk : k.size ≤ 281474976710656) :
    ∃ c : Int, (Instr.lookup 81 (.map h.mo) (.string k) true).run Try.prog w = .ok (.tuple #[.int .i64 c, .bool (hasQ l k)]) w ∧ (hasQ l k = true → ∃ i, i < l.length ∧ c = (i : Nat) ∧ (gq l i).key = k) := by
  have hm := q.map
  unfold MapQ at hm
  cases hh : h.mo with
  | none =>
    rw [hh] at hm
    simp only at hm
    subst hm
    refine ⟨0, ?_, fun h => by simp [hasQ] at h⟩
    have := Maps.look_nil (w := w) true strKeyed Try.underlying81 (zeroI w) (keyQ hk)
    simpa [hasQ] using this
  | some mb =>
    rw [hh] at hm
    simp only at hm
    obtain ⟨_, _, D, hD, hP⟩ := hm
    obtain ⟨v, ps, hrun, hv⟩ := World.ownsMap.look_ok hD strKeyed Try.underlying81 (zeroI w) (plainElem_int (H := Unit) Try.underlying3 (by decide)) (keyQ hk)
    obtain ⟨c, rfl, hc, hwc⟩ := plainElem_int_inv Try.underlying3 hv
    have he := hP.has k
    rw [he] at hrun
    refine ⟨c, hrun, fun hy => ?_⟩
    obtain ⟨r, hr, e⟩ := List.mem_map.1 ((has_iff l k).1 hy)
    obtain ⟨i, hi, e2⟩ := List.getElem_of_mem hr
    have e3 : gq l i = r := (gq_get l i hi).trans e2
    have h2 := hP.at_ i hi
    rw [e3] at h2
    have e4 : klQ r = klB k := by unfold klQ; rw [e]
    rw [e4] at h2
    have h3 := congrArg Prod.fst hc
    simp only at h3
    rw [h2] at h3
    exact ⟨i, hi, (lit_inj h3).symm, by rw [e3, e]⟩
theorem plQ_keys {D : DataW Unit} {l l' : List QR} (p : PlQ D l) (e : l'.map QR.key = l.map QR.key) : PlQ D l' := by
  have hl : l'.length = l.length := by have := congrArg List.length e; simpa using this
  have ha : ∀ (m : List QR) (k : ByteArray), m.any (fun r => decide (r.key = k)) = (m.map QR.key).any (fun x => decide (x = k)) := fun m k => by rw [List.any_map]; rfl
  refine ⟨p.tidy, by rw [hl]; exact p.size, fun i hi => ?_, fun k => by rw [p.has, ha, ha, e]⟩
  have h1 : (l'.map QR.key)[i]? = (l.map QR.key)[i]? := by rw [e]
  rw [List.getElem?_map, List.getElem?_map, List.getElem?_eq_getElem hi, List.getElem?_eq_getElem (by omega)] at h1
  simp only [Option.map_some, Option.some.injEq] at h1
  have h2 : klQ (gq l' i) = klQ (gq l i) := by unfold klQ; rw [gq_get l' i hi, gq_get l i (by omega), h1]
  rw [h2]; exact p.at_ i (by omega)
/-- A row has another time. -/
theorem QB.setTime {l : List QR} {g : Nat} (q : QB w b h l) (ha : h.a = some ⟨g, 0, none⟩) (i : Nat) (hi : i < l.length) (t : Int) (h0 : 0 ≤ t) (h1 : t ≤ 1099511627776) :
    QB (w.setCell ⟨g, i * 2 + 1, none⟩ (.int .i64 t)) b h (l.set i ⟨(gq l i).key, t⟩) ∧ Touch w (w.setCell ⟨g, i * 2 + 1, none⟩ (.int .i64 t)) (footQ b h) := by
  obtain ⟨a, c, mo⟩ := h
  simp only at ha
  subst ha
  obtain ⟨g2, hg, hg0, hg1⟩ := q.at' (by omega)
  simp only [Option.some.injEq, Addr.mk.injEq, and_true] at hg
  subst hg
  have hk : (l.set i ⟨(gq l i).key, t⟩).map QR.key = l.map QR.key := by
    rw [List.map_set, gq_get l i hi]
    apply List.ext_getElem (by simp)
    intro m h1 h2
    rw [List.getElem_set]
    split
    · rename_i e; subst e; simp
    · rfl
  have tt : Touch w (w.setCell ⟨g, i * 2 + 1, none⟩ (.int .i64 t)) (fun k => k = g) := (Touch.refl w (fun k => k = g)).setCell _ _ (fun _ => rfl)
  have hi' : i < (l.map qcl).length := by simpa using hi
  have ho := OwnS.stored q.own i hi' 1 (by omega) (.int .i64 t)
  have e : (l.map qcl).set i ((l.map qcl)[i].set 1 (.int .i64 t)) = (l.set i ⟨(gq l i).key, t⟩).map qcl := by
    rw [List.map_set, gq_get l i hi]
    simp [qcl]
  rw [e] at ho
  have hln : (l.set i (⟨(gq l i).key, t⟩ : QR)).length = l.length := by simp
  refine ⟨⟨?_, by rw [hln]; exact ho, fun r hr => ?_, by rw [hk]; exact q.nd, by rw [hln]; exact q.len, ?_⟩, tt.mono (fun k _ e => by subst e; exact .inr (.inl rfl))⟩
  · rw [hln]; exact tt.keeps q.head (fun e => by have e : b = g := e; omega)
  · rcases List.mem_or_eq_of_mem_set hr with hr | rfl
    · exact q.ok r hr
    · exact ⟨(q.ok _ (gq_mem l i hi)).1, h0, h1⟩
  · have hm := q.map
    unfold MapQ at hm ⊢
    cases mo with
    | none => simp only at hm ⊢; subst hm; simp at hi
    | some mb =>
      simp only at hm ⊢
      obtain ⟨m1, m2, D, m3, m4⟩ := hm
      refine ⟨m1, m2, D, by rw [hln]; exact ownsMap_touch m3 tt (fun e => m2 g rfl (by have e : mb = g := e; exact e.symm)), plQ_keys m4 hk⟩
end
end Go.Proofs.Ytdjkjdeaglimeaa
