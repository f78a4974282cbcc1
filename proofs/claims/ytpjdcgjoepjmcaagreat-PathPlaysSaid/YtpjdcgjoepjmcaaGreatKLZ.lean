import Derived.Test.YtpjdcgjoepjmcaaGreatHBZ
import Derived.Test.YtpjdcgjoepjmcaaGreatHFZ
import Derived.Test.YtpjdcgjoepjmcaaGreatGCZ
import Derived.Deep.DeepCutAuto
import Derived.Test.YtpjdcgjoepjmcaaGreatHAZ
import Derived.Deep.CutBlock
set_option linter.unusedVariables false
set_option linter.unusedSimpArgs false
section
namespace Go.Proofs.YtpjdcgjoepjmcaaGreat
open Go.RowKit
theorem gmayK_at {bs : List BkD} (h : gmay bs = true) (i : Nat) (hi : i < bs.length) : mayKB bs[i] = true := by
 have := ((gmay_iff bs).1 h).2 i hi
 unfold okAt at this
 rw [List.getElem?_eq_getElem hi] at this
 simp only [Bool.and_eq_true] at this
 exact this.1
theorem gmayK_up {bs : List BkD} (h : gmay bs = true) : bs.Pairwise (fun a b => a.id < b.id) := by
 have hs : ∀ i (hi : i + 1 < bs.length), bs[i].id < bs[i + 1].id := fun i hi => by
  have := ((gmay_iff bs).1 h).2 (i + 1) hi
  rw [okAt_succ (List.getElem?_eq_getElem hi) (List.getElem?_eq_getElem (by omega))] at this
  simp only [Bool.and_eq_true, decide_eq_true_iff] at this
  exact this.2
 rw [List.pairwise_iff_getElem]
 intro i j hi hj hij
 induction j with
 | zero => omega
 | succ j ih =>
   have h1 := hs j hj
   rcases Nat.lt_or_ge i j with h9 | h9
   ·have := ih (by omega) h9; omega
   ·obtain rfl : i = j := by omega
    exact h1
theorem gmayK_iff (bs : List BkD) : gmay bs = true ↔ bs.length ≤ 16 ∧ (∀ b ∈ bs, mayKB b = true) ∧ bs.Pairwise (fun a b => a.id < b.id) := by
 constructor
 ·intro h
  refine ⟨((gmay_iff bs).1 h).1, fun b hb => ?_, gmayK_up h⟩
  obtain ⟨i, hi, rfl⟩ := List.getElem_of_mem hb
  exact gmayK_at h i hi
 ·rintro ⟨h1, h2, h3⟩
  rw [gmay_iff]
  refine ⟨h1, fun i hi => ?_⟩
  cases i with
  | zero => rw [okAt_zero (List.getElem?_eq_getElem hi)]; exact h2 _ (List.getElem_mem hi)
  | succ i =>
    rw [okAt_succ (List.getElem?_eq_getElem hi) (List.getElem?_eq_getElem (by omega)), h2 _ (List.getElem_mem hi), Bool.true_and]
    exact decide_eq_true (List.pairwise_iff_getElem.1 h3 i (i + 1) (by omega) hi (by omega))
def metF : List Int → List BkD → List BkD
 | _, [] => []
 | s, b :: r => if b.id ∈ s then metF s r else b :: metF (b.id :: s) r
def UpK (bs : List BkD) : Prop := bs.Pairwise (fun a b => a.id < b.id)
def insK (b : BkD) : List BkD → List BkD
 | [] => [b]
 | x :: l => if x.id < b.id then x :: insK b l else b :: x :: l
def isortK : List BkD → List BkD
 | [] => []
 | x :: l => insK x (isortK l)
def gsortF (bs : List BkD) : List BkD := isortK (metF [] (bs.take 16).reverse)
def wOf (b : BkD) : Int := if 1 ≤ b.weight ∧ b.weight ≤ 10 then b.weight else 0
def weightF : List BkD → Int
 | [] => 0
 | b :: r => wOf b + weightF r
end Go.Proofs.YtpjdcgjoepjmcaaGreat
end
section
namespace Go.Proofs.YtpjdcgjoepjmcaaGreat
open Go.RowKit
def layK (b : BkD) : List BkD → List BkD
 | [] => [b]
 | x :: r => if x.id < b.id then x :: layK b r else if x.id = b.id then b :: r else b :: x :: r
def rfoldK (l : List BkD) : List BkD := l.foldl (fun L b => layK b L) []
end Go.Proofs.YtpjdcgjoepjmcaaGreat
end
section
namespace Go.Proofs.YtpjdcgjoepjmcaaGreat
open Go.RowKit
end Go.Proofs.YtpjdcgjoepjmcaaGreat
end
section
namespace Go.Proofs.YtpjdcgjoepjmcaaGreat
open Go.RowKit
inductive Sch3 where
 | fin
 | take (i : Nat) (s : Sch3)
 | one (i : Nat) (s : Sch3)
 | two (i j : Nat) (s t : Sch3)
 | three (i j k : Nat) (s t u : Sch3)
def Sch3.okB (md : Region.Mode) (ops : Array Oper) : Sch3 → Array Bool → Bool
 | .fin, listed => (Region.ready md ops listed) == []
 | .take i s, listed => Region.free md ops listed i && (Region.ready md ops listed).contains i && s.okB md ops (listed.setIfInBounds i true)
 | .one i s, listed => (Region.ready md ops listed == [i]) && s.okB md ops (listed.setIfInBounds i true)
 | .two i j s t, listed => (Region.ready md ops listed == [i, j]) && (s.okB md ops (listed.setIfInBounds i true) && t.okB md ops (listed.setIfInBounds j true))
 | .three i j k s t u, listed => (Region.ready md ops listed == [i, j, k]) && (s.okB md ops (listed.setIfInBounds i true) && (t.okB md ops (listed.setIfInBounds j true) && u.okB md ops (listed.setIfInBounds k true)))
def Sch3.deep : Sch3 → Nat
 | .fin => 0
 | .take _ s => s.deep + 1
 | .one _ s => s.deep + 1
 | .two _ _ s t => max s.deep t.deep + 1
 | .three _ _ _ s t u => max s.deep (max t.deep u.deep) + 1
def walk3 (P : Program) (ops : Array Oper) (Q : Exit → Act → World → Prop) (S : World → Prop) : Sch3 → Act → World → Prop
 | .fin => fun a w => Q .normal a w
 | .take i s => fun a w => TakeN P ops Q S i (walk3 P ops Q S s) a w
 | .one i s => fun a w => RunN P ops Q S i (walk3 P ops Q S s) a w
 | .two i j s t => fun a w => RunN P ops Q S i (walk3 P ops Q S s) a w ∧ RunN P ops Q S j (walk3 P ops Q S t) a w
 | .three i j k s t u => fun a w => RunN P ops Q S i (walk3 P ops Q S s) a w ∧ RunN P ops Q S j (walk3 P ops Q S t) a w ∧ RunN P ops Q S k (walk3 P ops Q S u) a w
section
variable {P : Program} {ops : Array Oper} {Q : Exit → Act → World → Prop} {md : Region.Mode} {S : World → Prop}
theorem wpAnyH_tree3 (hsel : Region.noSelect ops = true) : ∀ (s : Sch3) (fuel : Nat) (listed : Array Bool) (a : Act) (w : World), s.okB md ops listed = true → s.deep ≤ fuel → S w → walk3 P ops Q S s a w → wpAnyH P md ops Q S fuel listed a w
 | .fin, fuel, listed, a, w, hs, _, _, h => wpAnyH_done (by simpa [Sch3.okB] using hs) h _
 | .take i s, 0, _, _, _, _, hf, _, _ => absurd hf (by simp [Sch3.deep])
 | .take i s, fuel + 1, listed, a, w, hs, hf, hS, h => by
   simp only [Sch3.okB, Bool.and_eq_true] at hs
   obtain ⟨o, v, ho, hQ, hy, h⟩ := h
   exact wpAnyH_take ho hsel hs.1.1 hs.1.2 hQ hy hS (wpAnyH_tree3 hsel s _ _ _ _ hs.2 (by simp only [Sch3.deep] at hf; omega) hS h)
 | .one i s, 0, _, _, _, _, hf, _, _ => absurd hf (by simp [Sch3.deep])
 | .one i s, fuel + 1, listed, a, w, hs, hf, hS, h => by
   simp only [Sch3.okB, Bool.and_eq_true, beq_iff_eq] at hs
   exact wpAnyH_ready hs.1 (by simp) (runN_ready h (fun a w hS hW => wpAnyH_tree3 hsel s _ _ _ _ hs.2 (by simp only [Sch3.deep] at hf; omega) hS hW) AllReadyH.nil)
 | .two i j s t, 0, _, _, _, _, hf, _, _ => absurd hf (by simp [Sch3.deep])
 | .two i j s t, fuel + 1, listed, a, w, hs, hf, hS, h => by
   simp only [Sch3.okB, Bool.and_eq_true, beq_iff_eq] at hs
   have hd : max s.deep t.deep ≤ fuel := by simp only [Sch3.deep] at hf; omega
   exact wpAnyH_ready hs.1 (by simp) (runN_ready h.1 (fun a w hS hW => wpAnyH_tree3 hsel s _ _ _ _ hs.2.1 (by omega) hS hW)
    (runN_ready h.2 (fun a w hS hW => wpAnyH_tree3 hsel t _ _ _ _ hs.2.2 (by omega) hS hW) AllReadyH.nil))
 | .three i j k s t u, 0, _, _, _, _, hf, _, _ => absurd hf (by simp [Sch3.deep])
 | .three i j k s t u, fuel + 1, listed, a, w, hs, hf, hS, h => by
   simp only [Sch3.okB, Bool.and_eq_true, beq_iff_eq] at hs
   have hd : max s.deep (max t.deep u.deep) ≤ fuel := by simp only [Sch3.deep] at hf; omega
   exact wpAnyH_ready hs.1 (by simp) (runN_ready h.1 (fun a w hS hW => wpAnyH_tree3 hsel s _ _ _ _ hs.2.1 (by omega) hS hW)
    (runN_ready h.2.1 (fun a w hS hW => wpAnyH_tree3 hsel t _ _ _ _ hs.2.2.1 (by omega) hS hW)
     (runN_ready h.2.2 (fun a w hS hW => wpAnyH_tree3 hsel u _ _ _ _ hs.2.2.2 (by omega) hS hW) AllReadyH.nil)))
theorem wp_region_tree3 {id : Nat} {a : Act} {w : World} (S : World → Prop) (s : Sch3) (hm : P.follows .mixedOrders = true) (hsel : Region.noSelect ops = true) (hlen : Nat.ble s.deep ops.size = true)
 (hs : s.okB .any ops (Array.replicate ops.size false) = true) (hS : S w.drew) (h : walk3 P ops Q S s a w.drew) : (Code.region id ops true).wp P Q a w :=
 wp_region_held_drew (S := S) hm hS (fun hS => wpAnyH_tree3 hsel s _ _ _ _ hs (Nat.le_of_ble_eq_true hlen) hS h)
theorem walk3_fin {a : Act} {w : World} (h : Q .normal a w) : walk3 P ops Q S .fin a w := h
theorem walk3_take {i : Nat} {s : Sch3} {a : Act} {w : World} (h : TakeN P ops Q S i (walk3 P ops Q S s) a w) : walk3 P ops Q S (.take i s) a w := h
theorem walk3_one {i : Nat} {s : Sch3} {a : Act} {w : World} (h : RunN P ops Q S i (walk3 P ops Q S s) a w) : walk3 P ops Q S (.one i s) a w := h
theorem walk3_two {i j : Nat} {s t : Sch3} {a : Act} {w : World} (h : RunN P ops Q S i (walk3 P ops Q S s) a w) (h2 : RunN P ops Q S j (walk3 P ops Q S t) a w) : walk3 P ops Q S (.two i j s t) a w := ⟨h, h2⟩
end
end Go.Proofs.YtpjdcgjoepjmcaaGreat
end
section
namespace Go.Proofs.YtpjdcgjoepjmcaaGreat
open Go.RowKit
theorem one_bkK (L : List BkD) : ∀ l ∈ L.map BkD.cells, ∀ u ∈ l, u.oneCell' = true := by
 intro l hl u hu
 obtain ⟨f, _, rfl⟩ := List.mem_map.1 hl
 simp only [BkD.cells, List.mem_cons, List.not_mem_nil, or_false] at hu
 rcases hu with rfl | rfl | rfl <;> rfl
def tailK : List BkD → BkD → List BkD
 | [], _ => []
 | x :: r, b => if x.id = b.id then r else x :: r
end Go.Proofs.YtpjdcgjoepjmcaaGreat
end
