import Derived.Test.YtpjdcgjoepjmcaaGreatGEZ
import Derived.Test.YtpjdcgjoepjmcaaGreatGAZ
set_option linter.unusedVariables false
set_option linter.unusedSimpArgs false
section
namespace Go.Proofs.YtpjdcgjoepjmcaaGreat
open Go.RowKit
def dueQ (L : List QR) (now : Int) : List QR := L.takeWhile (fun r => decide (r.time ≤ now))
def restQ (L : List QR) (now : Int) : List QR := L.dropWhile (fun r => decide (r.time ≤ now))
def kcells (L : List QR) : List (List Value) := L.map (fun r => [.string r.key])
def lenQ : Value → Nat
 | .slice _ n _ => n
 | _ => 0
def DueIs (w w' : World) (b : Nat) (h : QH) (A R : List QR) (v : Value) : Prop :=
 ∃ a c h1, v = .slice a A.length c ∧ OwnS w' w.heap.size 9 1 (.slice a A.length c) (kcells A) ∧ QL w' b h1 R ∧ Touch w w' (footQ b h) ∧ (∀ k, footQ b h1 k → footQ b h k ∨ w.heap.size ≤ k) ∧ (∀ x, (Value.slice a A.length c).ownBlock = some x → ¬ footQ b h1 x)
end Go.Proofs.YtpjdcgjoepjmcaaGreat
end
section
namespace Go.Proofs.YtpjdcgjoepjmcaaGreat
open Go.RowKit
end Go.Proofs.YtpjdcgjoepjmcaaGreat
end
section
namespace Go.Proofs.YtpjdcgjoepjmcaaGreat
open Go.RowKit
def setE (L : List QR) (k : ByteArray) (t : Int) : Int :=
 if t < 0 ∨ 1099511627776 < t then 1 else if hasQ L k then 0 else if 1024 ≤ L.length then 9 else 0
def setQ (L : List QR) (k : ByteArray) (t : Int) : List QR :=
 if setE L k t = 0 then insQ ⟨k, t⟩ (delQ L k) else L
theorem set_sort {L : List QR} (h : SortQ L) (k : ByteArray) (t : Int) : SortQ (insQ ⟨k, t⟩ (delQ L k)) := ins_sort _ _ (del_sort h k) (del_not L k)
theorem but_set {l : List QR} (h : HeapQ l.length l) (i : Nat) (hi : i < l.length) (r : QR) : HeapBut (l.set i r).length i (l.set i r) := by
 rw [List.length_set]
 exact but_of (l := l) h (fun m hm _ => by rw [gq_set l i m r hi, if_neg hm])
set_option maxRecDepth 20000 in
set_option maxHeartbeats 8000000 in
theorem qset_any (w : World) (b : Nat) (h : QH) (L : List QR) (q : QL w b h L) (k : ByteArray) (hk : k.size ≤ 281474976710656) (t : Int) :
 Calls Tryz.prog 173 #[.pointer (some ⟨b, 0, none⟩), .string k, .int .i64 t] w fun e w' => e = .returned (.int .i64 (setE L k t)) ∧ QLStep w w' b h (setQ L k t) := by
 have HQL := Lib.hid q
 by_cases ht : t < 0 ∨ 1099511627776 < t
 ·have e1 : setE L k t = 1 := by unfold setE; rw [if_pos ht]
  have e2 : setQ L k t = L := by unfold setQ; rw [e1, if_neg (by omega)]
  rw [e1, e2]
  clear q e1 e2
  by_cases h0 : t < 0
  ·go_enter Tryz.func173, Tryz.ntmps173
   go_wp2_with fail
   go_ret
   exact ⟨rfl, QLStep.refl HQL.out⟩
  ·have h1 : 1099511627776 < t := by omega
   clear ht
   go_enter Tryz.func173, Tryz.ntmps173
   go_wp2_with fail
   go_ret
   exact ⟨rfl, QLStep.refl HQL.out⟩
 have h0 : ¬ t < 0 := by omega
 have h1 : ¬ 1099511627776 < t := by omega
 obtain ⟨hs, l, q, hp⟩ := q
 obtain ⟨c0, c1⟩ := q.1.cells
 obtain ⟨c, hrun, hy⟩ := look_q q.1 k hk
 have hl4 := q.1.len
 have hnd : (L.map QR.key).Nodup := nd_perm hp q.1.nd
 rw [has_perm hp] at hrun hy
 cases hh : hasQ L k with
 | true =>
   have e1 : setE L k t = 0 := by unfold setE; rw [if_neg ht, if_pos hh]
   have e2 : setQ L k t = insQ ⟨k, t⟩ (delQ L k) := by unfold setQ; rw [e1, if_pos rfl]
   rw [e1, e2]
   clear e1 e2
   rw [hh] at hrun
   obtain ⟨i, hi, rfl, hki⟩ := hy hh
   obtain ⟨g, ha, hg0, hg1⟩ := q.1.at' (by omega)
   obtain ⟨d0, d1⟩ := q.1.cell2 ha i hi
   have hst := q.1.setTime ha i hi t (by omega) (by omega)
   have hfr : w.frozen? ⟨g, i * 2 + 1, none⟩ = false := by
    have := q.1.own
    rw [ha] at this
    exact this.free _
   rw [hki] at hst
   rw [ha] at c0
   obtain ⟨W2, hW2⟩ : ∃ W, w.setCell ⟨g, i * 2 + 1, none⟩ (.int .i64 t) = W := ⟨_, rfl⟩
   rw [hW2] at hst
   have HF := Lib.hid (hfix_any W2 b h (l.set i ⟨k, t⟩) hst.1 i (by simpa using hi) (but_set q.2 i hi _))
   have HX : RowKit.Hid (∀ w' l', QIStep W2 w' b h l' → l'.Perm (l.set i ⟨k, t⟩) → QLStep w w' b h (insQ ⟨k, t⟩ (delQ L k))) := Lib.hid (fun w' l' s p => by
    refine QIStep.ql (QIStep.trans hst.2 (fun _ h => .inl h) s) (set_sort hs k t) (p.trans ?_)
    obtain ⟨rest, p1, p2⟩ := set_perm l i hi ⟨k, t⟩
    exact p2.trans (((del_perm (p1.trans hp) hnd hki).cons _).trans (ins_perm _ _).symm))
   have HW2 := Lib.hid hW2
   have hiI : (i : Int) < l.length := by omega
   have hcap := q.1.row.hcap
   have hmax := q.1.row.hmax
   clear hy q hp hs hst hW2 hki
   go_enter Tryz.func173, Tryz.ntmps173
   go_wp2_with fail
   rw [HW2.out]
   refine HF.out.mono ?_
   rintro e w' ⟨rfl, l', s, p⟩
   have HE := Lib.hid (HX.out _ _ s p)
   clear s p
   go_wp2_with fail
   go_ret
   exact ⟨rfl, HE.out⟩
 | false =>
   rw [hh] at hrun
   have hll := hp.length_eq
   by_cases hfull : 1024 ≤ L.length
   ·have e1 : setE L k t = 9 := by unfold setE; rw [if_neg ht, if_neg (by rw [hh]; decide), if_pos hfull]
    have e2 : setQ L k t = L := by unfold setQ; rw [e1, if_neg (by omega)]
    rw [e1, e2]
    clear e1 e2
    have hfI : (1024 : Int) ≤ l.length := by omega
    clear hy q hp hs
    go_enter Tryz.func173, Tryz.ntmps173
    go_wp2_with fail
    go_ret
    exact ⟨rfl, QLStep.refl HQL.out⟩
   ·have e1 : setE L k t = 0 := by unfold setE; rw [if_neg ht, if_neg (by rw [hh]; decide), if_neg hfull]
    have hn : k ∉ L.map QR.key := by rw [← has_iff, hh]; simp
    have hn' : k ∉ l.map QR.key := fun h => hn ((hp.map _).mem_iff.1 h)
    have e2 : setQ L k t = insQ ⟨k, t⟩ (delQ L k) := by unfold setQ; rw [e1, if_pos rfl]
    rw [e1, e2]
    clear e1 e2
    have hfI : ¬ (1024 : Int) ≤ l.length := by omega
    have HF := Lib.hid (hpush_any w b h l q ⟨k, t⟩ hn' hk (by constructor <;> (dsimp only; omega)) (by omega))
    have HX : RowKit.Hid (∀ w' l', QIStep w w' b h l' → l'.Perm (l ++ [⟨k, t⟩]) → QLStep w w' b h (insQ ⟨k, t⟩ (delQ L k))) := Lib.hid (fun w' l' s p => by
     refine QIStep.ql s (set_sort hs k t) (p.trans ?_)
     rw [del_none hn]
     exact List.perm_append_comm.trans ((hp.cons _).trans (ins_perm _ _).symm))
    clear hy q hp hs hn hn'
    go_enter Tryz.func173, Tryz.ntmps173
    go_wp2_with fail
    refine HF.out.mono ?_
    rintro e w' ⟨rfl, l', s, p⟩
    have HE := Lib.hid (HX.out _ _ s p)
    clear s p
    go_wp2_with fail
    go_ret
    exact ⟨rfl, HE.out⟩
set_option maxRecDepth 20000 in
set_option maxHeartbeats 8000000 in
theorem qdrop_any (w : World) (b : Nat) (h : QH) (L : List QR) (q : QL w b h L) (k : ByteArray) (hk : k.size ≤ 281474976710656) :
 Calls Tryz.prog 142 #[.pointer (some ⟨b, 0, none⟩), .string k] w fun e w' => e = .returned (.bool (hasQ L k)) ∧ QLStep w w' b h (delQ L k) := by
 have HQL := Lib.hid q
 obtain ⟨hs, l, q, hp⟩ := q
 obtain ⟨c0, c1⟩ := q.1.cells
 obtain ⟨c, hrun, hy⟩ := look_q q.1 k hk
 have hl4 := q.1.len
 have hnd : (L.map QR.key).Nodup := nd_perm hp q.1.nd
 rw [has_perm hp] at hrun hy
 cases hh : hasQ L k with
 | true =>
   rw [hh] at hrun
   obtain ⟨i, hi, rfl, hki⟩ := hy hh
   have HF := Lib.hid (hremove_any w b h l q i hi)
   have HX : RowKit.Hid (∀ w' l', QIStep w w' b h l' → (gq l i :: l').Perm l → QLStep w w' b h (delQ L k)) := Lib.hid (fun w' l' s p => QIStep.ql s (del_sort hs k) (del_perm (p.trans hp) hnd hki))
   clear hy q hp hs hki
   go_enter Tryz.func142, Tryz.ntmps142
   go_wp2_with fail
   refine HF.out.mono ?_
   rintro e w' ⟨⟨v, rfl⟩, l', s, p⟩
   have HE := Lib.hid (HX.out _ _ s p)
   clear s p
   go_wp2_with fail
   go_ret
   exact ⟨rfl, HE.out⟩
 | false =>
   rw [hh] at hrun
   have hn : k ∉ L.map QR.key := by rw [← has_iff, hh]; simp
   rw [del_none hn]
   clear hy q hp hs
   go_enter Tryz.func142, Tryz.ntmps142
   go_wp2_with fail
   go_ret
   exact ⟨rfl, QLStep.refl HQL.out⟩
end Go.Proofs.YtpjdcgjoepjmcaaGreat
end
section
namespace Go.Proofs.YtpjdcgjoepjmcaaGreat
open Go.RowKit
def ka : ByteArray := ⟨#[97]⟩
def kb : ByteArray := ⟨#[98]⟩
def kc : ByteArray := ⟨#[99]⟩
structure QN (w w' : World) (b : Nat) (h : QH) (L : List QR) : Prop where
 q : QL w' b h L
 t : Touch w w' (fun _ => False)
 f : ∀ k, footQ b h k → w.heap.size ≤ k
end Go.Proofs.YtpjdcgjoepjmcaaGreat
end
