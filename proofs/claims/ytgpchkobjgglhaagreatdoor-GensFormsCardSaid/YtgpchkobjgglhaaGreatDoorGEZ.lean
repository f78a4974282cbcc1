/- GE: DuePush, DuePop, DueHeap, DueQ, DueOps, DueNext. -/
import Derived.Test.YtgpchkobjgglhaaGreatDoorGDZ
import Derived.Deep.DeepCutAuto
import Derived.Carry
import Derived.BigQuiet
section
/- The queue's Push of a row. -/
set_option linter.unusedVariables false
set_option linter.unusedSimpArgs false
namespace Go.Proofs.YtgpchkobjgglhaaGreatDoor
open Go.RowKit

theorem own_block' {a : Option Addr} {n c k : Nat} (h : a.map (·.block) = some k) : (Value.slice a n c).ownBlock = some k := by
  cases a with
  | none => simp at h
  | some x => simpa [Value.ownBlock] using h
end Go.Proofs.YtgpchkobjgglhaaGreatDoor

end

section
/- The queue's Pop of its last row. -/
set_option linter.unusedVariables false
set_option linter.unusedSimpArgs false
namespace Go.Proofs.YtgpchkobjgglhaaGreatDoor
open Go.RowKit

theorem own_block2 {a : Option Addr} {n c k : Nat} (h : a.map (·.block) = some k) : (Value.slice a n c).ownBlock = some k := by
  cases a with
  | none => simp at h
  | some x => simpa [Value.ownBlock] using h
end Go.Proofs.YtgpchkobjgglhaaGreatDoor

end

section
/- container/heap's four words over a queue. -/
set_option linter.unusedVariables false
set_option linter.unusedSimpArgs false
namespace Go.Proofs.YtgpchkobjgglhaaGreatDoor
open Go.RowKit

/-- The last row by its name. -/
theorem snoc_of (l : List QR) (n : Nat) (h : l.length = n + 1) : ∃ l', l = l' ++ [gq l n] ∧ l'.length = n := by
  refine ⟨l.take n, ?_, by simp; omega⟩
  rw [gq_get l n (by omega)]
  have e := List.take_succ_eq_append_getElem (l := l) (i := n) (by omega)
  rw [← e, List.take_of_length_le (by omega)]
theorem HeapQ.front {n : Nat} {l' : List QR} {r : QR} (h : HeapQ n (l' ++ [r])) (hl : l'.length = n) : HeapQ l'.length l' := by
  refine HeapQ.same (l := l' ++ [r]) (hl ▸ h) (fun m hm => ?_)
  exact (gq_app l' r m hm).symm
theorem perm_front {l l2 l' : List QR} {r : QR} (hp : l2.Perm l) (he : l2 = l' ++ [r]) : (r :: l').Perm l := by
  subst he
  exact (List.perm_append_comm (l₁ := [r]) (l₂ := l')).trans hp
end Go.Proofs.YtgpchkobjgglhaaGreatDoor

end

section
/- What is due, as a row in order. -/
set_option linter.unusedVariables false
set_option linter.unusedSimpArgs false
namespace Go.Proofs.YtgpchkobjgglhaaGreatDoor
open Go.RowKit

def hasQ (l : List QR) (k : ByteArray) : Bool := l.any (fun r => decide (r.key = k))
def delQ (l : List QR) (k : ByteArray) : List QR := l.filter (fun r => !decide (r.key = k))
def insQ (r : QR) : List QR → List QR
  | [] => [r]
  | x :: l => if ltQ x r then x :: insQ r l else r :: x :: l
def timeQ : List QR → ByteArray → Int
  | [], _ => 0
  | r :: l, k => if r.key = k then r.time else timeQ l k
def SortQ (l : List QR) : Prop := l.Pairwise (fun a b => ltQ a b = true)
theorem ins_perm (r : QR) : ∀ l, (insQ r l).Perm (r :: l)
  | [] => .refl _
  | x :: l => by
    unfold insQ
    split
    · exact ((ins_perm r l).cons x).trans (.swap r x l)
    · exact .refl _
theorem ins_sort (r : QR) : ∀ l, SortQ l → r.key ∉ l.map QR.key → SortQ (insQ r l)
  | [], _, _ => by simp [insQ, SortQ]
  | x :: l, h, hn => by
    obtain ⟨h1, h2⟩ := List.pairwise_cons.1 h
    have hn2 : r.key ∉ l.map QR.key := fun h => hn (by simp only [List.map_cons, List.mem_cons]; exact .inr h)
    have hxr : r.key ≠ x.key := fun h => hn (by simp [h])
    unfold insQ
    split
    · rename_i hlt
      refine List.pairwise_cons.2 ⟨fun y hy => ?_, ins_sort r l h2 hn2⟩
      rcases List.mem_cons.1 ((ins_perm r l).mem_iff.1 hy) with rfl | hy
      · exact hlt
      · exact h1 y hy
    · rename_i hlt
      have hrx : ltQ r x = true := by
        cases hc : ltQ r x with
        | true => rfl
        | false =>
          have hl' : ltQ x r = false := by simpa using hlt
          have := lt_total hc hl'
          exact absurd (by rw [this]) hxr
      exact List.pairwise_cons.2 ⟨fun y hy => by
        rcases List.mem_cons.1 hy with rfl | hy
        · exact hrx
        · exact lt_trans' hrx (h1 y hy), h⟩
theorem del_sort {l : List QR} (h : SortQ l) (k : ByteArray) : SortQ (delQ l k) := h.filter _
theorem del_none {l : List QR} {k : ByteArray} (h : k ∉ l.map QR.key) : delQ l k = l := by
  unfold delQ
  rw [List.filter_eq_self]
  intro r hr
  have : r.key ≠ k := fun e => h (List.mem_map.2 ⟨r, hr, e⟩)
  simp [this]
theorem del_not (l : List QR) (k : ByteArray) : k ∉ (delQ l k).map QR.key := by
  intro h
  obtain ⟨r, hr, e⟩ := List.mem_map.1 h
  have := (List.mem_filter.1 hr).2
  simp [e] at this
theorem has_iff (l : List QR) (k : ByteArray) : hasQ l k = true ↔ k ∈ l.map QR.key := by
  unfold hasQ; rw [List.any_eq_true, List.mem_map]
  constructor
  · rintro ⟨r, hr, e⟩; exact ⟨r, hr, of_decide_eq_true e⟩
  · rintro ⟨r, hr, e⟩; exact ⟨r, hr, decide_eq_true e⟩
theorem has_perm {l l' : List QR} (h : l.Perm l') (k : ByteArray) : hasQ l k = hasQ l' k := by
  rw [Bool.eq_iff_iff, has_iff, has_iff]; exact (h.map _).mem_iff
theorem nd_perm {l l' : List QR} (h : l.Perm l') (hn : (l.map QR.key).Nodup) : (l'.map QR.key).Nodup := (h.map _).nodup_iff.1 hn
/-- One row taken out is all of its key. -/
theorem del_perm {x : QR} {rest L : List QR} (hp : (x :: rest).Perm L) (hn : (L.map QR.key).Nodup) {k : ByteArray} (hk : x.key = k) : rest.Perm (delQ L k) := by
  have h1 : (delQ (x :: rest) k).Perm (delQ L k) := hp.filter _
  have h2 : ((x :: rest).map QR.key).Nodup := nd_perm hp.symm hn
  rw [List.map_cons, List.nodup_cons] at h2
  have h3 : delQ (x :: rest) k = rest := by
    have h4 : delQ rest k = rest := del_none (by rw [← hk]; exact h2.1)
    unfold delQ at h4 ⊢
    rw [List.filter_cons, if_neg (by simp [hk]), h4]
  rwa [h3] at h1
theorem set_perm (l : List QR) (i : Nat) (hi : i < l.length) (r : QR) : ∃ rest, (gq l i :: rest).Perm l ∧ (l.set i r).Perm (r :: rest) := by
  refine ⟨l.take i ++ l.drop (i + 1), ?_, ?_⟩
  · rw [gq_get l i hi]
    have h1 := (List.perm_middle (a := l[i]) (l₁ := l.take i) (l₂ := l.drop (i + 1))).symm
    rwa [List.getElem_cons_drop, List.take_append_drop] at h1
  · rw [List.set_eq_take_append_cons_drop, if_pos hi]
    exact List.perm_middle
theorem time_of {l : List QR} (hn : (l.map QR.key).Nodup) {r : QR} (hr : r ∈ l) : timeQ l r.key = r.time := by
  induction l with
  | nil => cases hr
  | cons x l ih =>
    rw [List.map_cons, List.nodup_cons] at hn
    unfold timeQ
    rcases List.mem_cons.1 hr with rfl | hr
    · rw [if_pos rfl]
    · rw [if_neg (fun e => hn.1 (by rw [e]; exact List.mem_map.2 ⟨r, hr, rfl⟩))]
      exact ih hn.2 hr
/-- The first of a heap is the first in order. -/
theorem first_of {l L : List QR} {x : QR} (hp : l.Perm (x :: L)) (hs : SortQ (x :: L)) (hh : HeapQ l.length l) : gq l 0 = x := by
  have h0 : 0 < l.length := by rw [hp.length_eq]; simp
  have hm : gq l 0 ∈ x :: L := hp.mem_iff.1 (gq_mem l 0 h0)
  rcases List.mem_cons.1 hm with h | h
  · exact h
  · have h1 := (List.pairwise_cons.1 hs).1 _ h
    obtain ⟨k, hk, e⟩ := List.getElem_of_mem (hp.mem_iff.2 (List.mem_cons_self (a := x) (l := L)))
    have h2 := heap_min hh k hk
    rw [gq_get l k hk, e] at h2
    rw [h1] at h2; cases h2
section
variable {w w' : World} {b : Nat} {h : QH} {L : List QR}
theorem lit_inj {a c : Int} (h : (DataW.lit (.int .i64 a) : DataW Unit) = .lit (.int .i64 c)) : a = c := by
  have h4 := congrArg (fun d : DataW Unit => match d with | .lit (.int _ n) => n | _ => (0:Int)) h
  exact h4
theorem plQ_keys {D : DataW Unit} {l l' : List QR} (p : PlQ D l) (e : l'.map QR.key = l.map QR.key) : PlQ D l' := by
  have hl : l'.length = l.length := by have := congrArg List.length e; simpa using this
  have ha : ∀ (m : List QR) (k : ByteArray), m.any (fun r => decide (r.key = k)) = (m.map QR.key).any (fun x => decide (x = k)) := fun m k => by rw [List.any_map]; rfl
  refine ⟨p.tidy, by rw [hl]; exact p.size, fun i hi => ?_, fun k => by rw [p.has, ha, ha, e]⟩
  have h1 : (l'.map QR.key)[i]? = (l.map QR.key)[i]? := by rw [e]
  rw [List.getElem?_map, List.getElem?_map, List.getElem?_eq_getElem hi, List.getElem?_eq_getElem (by omega)] at h1
  simp only [Option.map_some, Option.some.injEq] at h1
  have h2 : klQ (gq l' i) = klQ (gq l i) := by unfold klQ; rw [gq_get l' i hi, gq_get l i (by omega), h1]
  rw [h2]; exact p.at_ i (by omega)
end
end Go.Proofs.YtgpchkobjgglhaaGreatDoor

end

section
/- The queue's own words, the short ones. -/
set_option linter.unusedVariables false
set_option linter.unusedSimpArgs false
namespace Go.Proofs.YtgpchkobjgglhaaGreatDoor
open Go.RowKit

theorem time_none {l : List QR} {k : ByteArray} (h : hasQ l k = false) : timeQ l k = 0 := by
  induction l with
  | nil => rfl
  | cons x l ih =>
    have h1 : ¬ k ∈ (x :: l).map QR.key := by rw [← has_iff, h]; simp
    simp only [List.map_cons, List.mem_cons, not_or] at h1
    unfold timeQ
    rw [if_neg (fun e => h1.1 e.symm)]
    exact ih (by rw [Bool.eq_false_iff]; intro h2; exact h1.2 ((has_iff l k).1 h2))
end Go.Proofs.YtgpchkobjgglhaaGreatDoor

end

section
/- The queue's Next. -/
set_option linter.unusedVariables false
set_option linter.unusedSimpArgs false
namespace Go.Proofs.YtgpchkobjgglhaaGreatDoor
open Go.RowKit

def headQ : List QR → QR
  | [] => q0
  | x :: _ => x
end Go.Proofs.YtgpchkobjgglhaaGreatDoor

end
