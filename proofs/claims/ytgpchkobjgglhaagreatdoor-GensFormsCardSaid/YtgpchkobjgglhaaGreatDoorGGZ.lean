/- GG: DueDue, DueSame, DueSet, DueAwake. -/
import Derived.Test.YtgpchkobjgglhaaGreatDoorGEZ
import Derived.Test.YtgpchkobjgglhaaGreatDoorGAZ
section
/- The queue's Due. -/
set_option linter.unusedVariables false
set_option linter.unusedSimpArgs false
namespace Go.Proofs.YtgpchkobjgglhaaGreatDoor
open Go.RowKit

def dueQ (L : List QR) (now : Int) : List QR := L.takeWhile (fun r => decide (r.time ≤ now))
def restQ (L : List QR) (now : Int) : List QR := L.dropWhile (fun r => decide (r.time ≤ now))
theorem due_split {now : Int} {R : List QR} (hR : ∀ x R', R = x :: R' → now < x.time) : ∀ A : List QR, (∀ r ∈ A, r.time ≤ now) → dueQ (A ++ R) now = A ∧ restQ (A ++ R) now = R
  | [], _ => by
    cases R with
    | nil => exact ⟨rfl, rfl⟩
    | cons x R =>
      have := hR x R rfl
      constructor
      · unfold dueQ; rw [List.nil_append, List.takeWhile_cons, if_neg (by simp; omega)]
      · unfold restQ; rw [List.nil_append, List.dropWhile_cons, if_neg (by simp; omega)]
  | y :: A, h => by
    obtain ⟨h1, h2⟩ := due_split hR A (fun r hr => h r (List.mem_cons_of_mem _ hr))
    have hy : y.time ≤ now := h y List.mem_cons_self
    unfold dueQ restQ at *
    rw [List.cons_append, List.takeWhile_cons, List.dropWhile_cons, if_pos (by simpa using hy), if_pos (by simpa using hy), h1, h2]
    exact ⟨rfl, rfl⟩
def kcells (L : List QR) : List (List Value) := L.map (fun r => [.string r.key])
def lenQ : Value → Nat
  | .slice _ n _ => n
  | _ => 0
theorem infoStr : (Tryz.prog.info? 9).map (fun i => (i.zero, i.size, i.bytes)) = some (some (.string ByteArray.empty), 1, 16) := by kernel_rfl
end Go.Proofs.YtgpchkobjgglhaaGreatDoor

end

section
/- Two rows of keys are held against one another. -/
set_option linter.unusedVariables false
set_option linter.unusedSimpArgs false
namespace Go.Proofs.YtgpchkobjgglhaaGreatDoor
open Go.RowKit

theorem take_ext_ne {α : Type} [DecidableEq α] {A B : List α} (hl : A.length = B.length) (k : Nat) (h1 : k < A.length) (h2 : k < B.length) (hne : A[k] ≠ B[k]) : A ≠ B := by
  intro e; subst e; exact hne rfl
end Go.Proofs.YtgpchkobjgglhaaGreatDoor

end

section
/- The queue's Set and Drop. -/
set_option linter.unusedVariables false
set_option linter.unusedSimpArgs false
namespace Go.Proofs.YtgpchkobjgglhaaGreatDoor
open Go.RowKit

def setE (L : List QR) (k : ByteArray) (t : Int) : Int :=
  if t < 0 ∨ 1099511627776 < t then 1 else if hasQ L k then 0 else if 1024 ≤ L.length then 9 else 0
def setQ (L : List QR) (k : ByteArray) (t : Int) : List QR :=
  if setE L k t = 0 then insQ ⟨k, t⟩ (delQ L k) else L
theorem set_sort {L : List QR} (h : SortQ L) (k : ByteArray) (t : Int) : SortQ (insQ ⟨k, t⟩ (delQ L k)) := ins_sort _ _ (del_sort h k) (del_not L k)
theorem but_set {l : List QR} (h : HeapQ l.length l) (i : Nat) (hi : i < l.length) (r : QR) : HeapBut (l.set i r).length i (l.set i r) := by
  rw [List.length_set]
  exact but_of (l := l) h (fun m hm _ => by rw [gq_set l i m r hi, if_neg hm])
end Go.Proofs.YtgpchkobjgglhaaGreatDoor

end

section
/- The known queue: awake answers true. -/
set_option linter.unusedVariables false
set_option linter.unusedSimpArgs false
namespace Go.Proofs.YtgpchkobjgglhaaGreatDoor
open Go.RowKit

def ka : ByteArray := ⟨#[97]⟩
def kb : ByteArray := ⟨#[98]⟩
def kc : ByteArray := ⟨#[99]⟩
theorem lt_data (a b : QR) : ltQ a b = (decide (a.time < b.time) || (decide (a.time = b.time) && blB a.key.data.toList b.key.data.toList)) := by
  unfold ltQ; rw [Lib.toList_data, Lib.toList_data]
theorem aw1 : setQ [] kb 5 = [⟨kb, 5⟩] := by decide +kernel
theorem aw2 : setQ [⟨kb, 5⟩] ka 5 = [⟨ka, 5⟩, ⟨kb, 5⟩] := by
  have h1 : ltQ ⟨kb, 5⟩ ⟨ka, 5⟩ = false := by rw [lt_data]; decide +kernel
  have h2 : setE [⟨kb, 5⟩] ka 5 = 0 := by decide +kernel
  have h3 : delQ [⟨kb, 5⟩] ka = [⟨kb, 5⟩] := by decide +kernel
  unfold setQ
  rw [if_pos h2, h3]
  unfold insQ
  rw [h1]; rfl
theorem aw3 : setQ [⟨ka, 5⟩, ⟨kb, 5⟩] kc 9 = [⟨ka, 5⟩, ⟨kb, 5⟩, ⟨kc, 9⟩] := by
  have h1 : ltQ ⟨kb, 5⟩ ⟨kc, 9⟩ = true := by rw [lt_data]; decide +kernel
  have h0 : ltQ ⟨ka, 5⟩ ⟨kc, 9⟩ = true := by rw [lt_data]; decide +kernel
  have h2 : setE [⟨ka, 5⟩, ⟨kb, 5⟩] kc 9 = 0 := by decide +kernel
  have h3 : delQ [⟨ka, 5⟩, ⟨kb, 5⟩] kc = [⟨ka, 5⟩, ⟨kb, 5⟩] := by decide +kernel
  unfold setQ
  rw [if_pos h2, h3]
  simp only [insQ, h0, h1, if_true]
theorem aw4 : dueQ [⟨ka, 5⟩, ⟨kb, 5⟩, ⟨kc, 9⟩] 5 = [⟨ka, 5⟩, ⟨kb, 5⟩] := by decide +kernel
theorem aw5 : restQ [⟨ka, 5⟩, ⟨kb, 5⟩, ⟨kc, 9⟩] 5 = [⟨kc, 9⟩] := by decide +kernel
theorem cell_one {w : World} {g o n c : Nat} {A : List QR} (r : RowS w (some ⟨g, o, none⟩) n c 1 (kcells A)) (i : Nat) (hi : i < A.length) : w.cell? ⟨g, o + i, none⟩ = some (.string (gq A i).key) := by
  have := r.cell i (by simpa [kcells] using hi) 0 (.string (gq A i).key) (by simp [kcells, gq_get A i hi])
  simpa using this
end Go.Proofs.YtgpchkobjgglhaaGreatDoor

end
