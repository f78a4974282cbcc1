/- GG: DueDue, DueSame, DueSet, DueAwake. -/
import Derived.Test.YtgmimdnebgncoaaGreatGEZ
import Derived.Test.YtgmimdnebgncoaaGreatGAZ
section
/- The queue's Due. -/
set_option linter.unusedVariables false
set_option linter.unusedSimpArgs false
namespace Go.Proofs.YtgmimdnebgncoaaGreat
open Go.RowKit

def dueQ (L : List QR) (now : Int) : List QR := L.takeWhile (fun r => decide (r.time ≤ now))
def restQ (L : List QR) (now : Int) : List QR := L.dropWhile (fun r => decide (r.time ≤ now))
theorem due_split {now : Int} {R : List QR} (hR : ∀ x R', R = x :: R' → now < x.time) : ∀ A : List QR, (∀ r ∈ A, r.time ≤ now) → dueQ (A ++ R) now = A ∧ restQ (A ++ R) now = R
  | [], _ => by
    cases R with
    | nil => exact ⟨rfl, rfl⟩
    | cons x R =>
      have := hR x R rfl
      constructor
      · unfold dueQ; rw [List.nil_append, List.takeWhile_cons, if_neg (by simp; omega)]
      · unfold restQ; rw [List.nil_append, List.dropWhile_cons, if_neg (by simp; omega)]
  | y :: A, h => by
    obtain ⟨h1, h2⟩ := due_split hR A (fun r hr => h r (List.mem_cons_of_mem _ hr))
    have hy : y.time ≤ now := h y List.mem_cons_self
    unfold dueQ restQ at *
    rw [List.cons_append, List.takeWhile_cons, List.dropWhile_cons, if_pos (by simpa using hy), if_pos (by simpa using hy), h1, h2]
    exact ⟨rfl, rfl⟩
theorem qpop_any (w : World) (b : Nat) (h : QH) (x : QR) (R : List QR) (q : QL w b h (x :: R)) :
    Calls Tryz.prog 48 #[.iface 82 (.pointer (some ⟨b, 0, none⟩))] w fun e w' => (∃ v, e = .returned v) ∧ QLStep w w' b h R := by
  obtain ⟨hs, l, q, hp⟩ := q
  have hx := first_of hp hs q.2
  refine (hpop_any w b h l q (by rw [hp.length_eq]; simp)).mono ?_
  rintro e w' ⟨hv, l', s, p⟩
  rw [hx] at p
  exact ⟨hv, QIStep.ql s (List.pairwise_cons.1 hs).2 ((p.trans hp).cons_inv)⟩
def kcells (L : List QR) : List (List Value) := L.map (fun r => [.string r.key])
def lenQ : Value → Nat
  | .slice _ n _ => n
  | _ => 0
/-- What Due hands back, and what it leaves. -/
def DueIs (w w' : World) (b : Nat) (h : QH) (A R : List QR) (v : Value) : Prop :=
  ∃ a c h1, v = .slice a A.length c ∧ OwnS w' w.heap.size 9 1 (.slice a A.length c) (kcells A) ∧ QL w' b h1 R ∧ Touch w w' (footQ b h) ∧ (∀ k, footQ b h1 k → footQ b h k ∨ w.heap.size ≤ k) ∧ (∀ x, (Value.slice a A.length c).ownBlock = some x → ¬ footQ b h1 x)
theorem infoStr : (Tryz.prog.info? 9).map (fun i => (i.zero, i.size, i.bytes)) = some (some (.string ByteArray.empty), 1, 16) := by kernel_rfl
set_option maxRecDepth 20000 in
set_option maxHeartbeats 8000000 in
theorem qdue_any (w : World) (b : Nat) (h : QH) (L : List QR) (q : QL w b h L) (now : Int) :
    Calls Tryz.prog 33 #[.pointer (some ⟨b, 0, none⟩), .int .i64 now] w fun e w' => ∃ v, e = .returned v ∧ DueIs w w' b h (dueQ L now) (restQ L now) v := by
  have hl4 := q.len
  have HII := Lib.hid infoStr
  go_enter Tryz.func33, Tryz.ntmps33
  go_wp2_with fail
  go_loopw [5] (fun s5 wr => ∃ (A R : List QR), L = A ++ R ∧ (∀ r ∈ A, r.time ≤ now) ∧ DueIs w wr b h A R s5) (fun s5 _ => L.length - lenQ s5)
  case atStart => exact ⟨[], L, rfl, by simp, none, 0, h, rfl, OwnS.nil _ _ _ _, q, Touch.refl _ _, fun _ h => .inl h, by simp [Value.ownBlock]⟩
  case round =>
    obtain ⟨A, R, hL, hA, a, c, h1, rfl, ho, hq, ht, hf, hd⟩ := hrel
    have HL := Lib.hid hL
    have HA := Lib.hid hA
    have HO := Lib.hid ho
    have HQ := Lib.hid hq
    have HT := Lib.hid ht
    have HF := Lib.hid hf
    have HD := Lib.hid hd
    have hlen : A.length + R.length = L.length := by rw [hL]; simp
    have HN := Lib.hid (qnext_any wr b h1 R hq)
    clear hL hA ho hq ht hf hd q
    cases R with
    | nil =>
      go_wp2_with fail
      refine HN.out.mono ?_
      rintro e w9 ⟨rfl, t9⟩
      have HT9 := Lib.hid t9
      clear t9
      go_wp2_with fail
      go_ret
      obtain ⟨e1, e2⟩ := due_split (now := now) (R := []) (by simp) A HA.out
      rw [HL.out, e1, e2]
      exact ⟨_, rfl, a, c, h1, rfl, HO.out.still HT9.out, HQ.out.still HT9.out, HT.out.trans HT9.out (fun _ _ h => h.elim), HF.out, HD.out⟩
    | cons x R =>
      by_cases hx : now < x.time
      · go_wp2_with fail
        refine HN.out.mono ?_
        rintro e w9 ⟨rfl, t9⟩
        have HT9 := Lib.hid t9
        clear t9
        have hx' : now < (headQ (x :: R)).time := hx
        go_wp2_with fail
        go_ret
        obtain ⟨e1, e2⟩ := due_split (now := now) (R := x :: R) (fun y R' e => by cases e; exact hx) A HA.out
        rw [HL.out, e1, e2]
        exact ⟨_, rfl, a, c, h1, rfl, HO.out.still HT9.out, HQ.out.still HT9.out, HT.out.trans HT9.out (fun _ _ h => h.elim), HF.out, HD.out⟩
      · have HX' : RowKit.Hid (¬ now < x.time) := Lib.hid hx
        go_wp2_with fail
        refine HN.out.mono ?_
        rintro e w9 ⟨rfl, t9⟩
        have hh : headQ (x :: R) = x := rfl
        rw [hh]
        have hx' := HX'.out
        have t5 : Touch wr (w9.alloc (.cells #[.string x.key] 9)) (fun _ => False) := t9.alloc _
        have HN5 := Lib.hid (news_of (heap_alloc_new w9 (.cells #[.string x.key] 9)))
        have HO5 := Lib.hid (HO.out.still t5)
        have HQ5 := Lib.hid (HQ.out.still t5)
        have HT5 := Lib.hid (HT.out.trans t5 (fun _ _ h => h.elim))
        have hown : (w9.alloc (.cells #[.string x.key] 9)).ownsRow w.heap.size 9 1 (.slice a A.length c) A.length (kcells A).flatten := by
          have := HO5.out.own
          rwa [kcells, List.length_map] at this
        have HOWN := Lib.hid hown
        have HB5 : RowKit.Hid (Below w.heap.size (w9.alloc (.cells #[.string x.key] 9)) (w9.alloc (.cells #[.string x.key] 9))) := Lib.hid ((Touch.refl _ (fun _ => False)).below (fun _ _ h => h.elim) HT5.out.size)
        simp only [List.length_cons] at hlen
        clear t9 t5 hown
        go_upto_region 6 with (at_builtin; (with_reducible refine wp_appR HOWN.out 63 Tryz.underlying63 _ 16 HII.out rfl (by decide) ⟨w9.heap.size, 0, none⟩ 1 1 _ rfl HN5.out (by simp [Value.oneCell']) (by simp only [maxLen]; omega) (by omega) HB5.out (Nat.le_refl _) HT5.out.size rfl _ _ rfl rfl rfl ?_); intro a4 c4 w6 ho4 hg4 hb4 hp4; have HO6 := Lib.hid ho4; have HG6 := Lib.hid hg4; have HP6 := Lib.hid hp4; clear ho4 hg4 hb4 hp4)
        have HQ6 : RowKit.Hid (QL w6 b h1 (x :: R)) := Lib.hid (HQ5.out.touch ((Touch.refl _ (fun k => (Value.slice a A.length c).ownBlock = some k)).grown HG6.out (fun k hk _ => hk)) (fun k hf e => HD.out k e hf))
        have HT6 : RowKit.Hid (Touch w w6 (footQ b h)) := Lib.hid (HT5.out.grown HG6.out (fun k hk hlt => by have := (HOWN.out.lt k hk).1; omega))
        have HS6 : RowKit.Hid (OwnS w6 w.heap.size 9 1 (.slice a4 (A.length + 1) c4) (kcells (A ++ [x]))) := Lib.hid (by
          unfold kcells
          rw [List.map_append, List.map_cons, List.map_nil]
          refine HO5.out.add (L2 := [[.string x.key]]) (by simp) ?_
          have := HO6.out
          simpa [kcells] using this)
        have HD6 : RowKit.Hid (∀ y, (Value.slice a4 (A.length + 1) c4).ownBlock = some y → ¬ footQ b h1 y ∧ y < w6.heap.size) := Lib.hid (fun y hy => by
          refine ⟨fun hf => ?_, (HS6.out.own.lt y hy).2⟩
          rcases HP6.out y hy with h | h
          · exact HD.out y h hf
          · have := HQ5.out.footlt y hf; omega)
        have HPOP := Lib.hid (qpop_any w6 b h1 x R HQ6.out)
        clear HO6 HO5 HOWN HG6 HP6 HB5 HN5
        go_wp2_with fail
        refine HPOP.out.mono ?_
        rintro e w7 ⟨⟨v, rfl⟩, h2, q2, t2, f2⟩
        have HX : RowKit.Hid (∃ (A' R' : List QR), L = A' ++ R' ∧ (∀ r ∈ A', r.time ≤ now) ∧ DueIs w w7 b h A' R' (.slice a4 (A.length + 1) c4)) := Lib.hid (by
          refine ⟨A ++ [x], R, by rw [HL.out]; simp, fun r hr => ?_, a4, c4, h2, by simp, ?_, q2, ?_, fun k hk => ?_, ?_⟩
          · rcases List.mem_append.1 hr with hr | hr
            · exact HA.out r hr
            · rw [List.mem_singleton.1 hr]; omega
          · rw [List.length_append]
            exact HS6.out.touch t2 (fun y hy => (HD6.out y hy).1)
          · exact HT6.out.trans t2 (fun k hk hf => by
              rcases HF.out k hf with h | h
              · exact h
              · omega)
          · rcases f2 k hk with h | h
            · exact HF.out k h
            · exact .inr (Nat.le_trans HT6.out.size h)
          · rw [List.length_append]
            intro y hy hf
            have := HD6.out y hy
            rcases f2 y hf with h | h
            · exact this.1 h
            · omega)
        clear q2 t2 f2
        go_wp2_with fail
        go_roundw
        · exact HX.out
        · simp only [lenQ]; omega
end Go.Proofs.YtgmimdnebgncoaaGreat

end

section
/- Two rows of keys are held against one another. -/
set_option linter.unusedVariables false
set_option linter.unusedSimpArgs false
namespace Go.Proofs.YtgmimdnebgncoaaGreat
open Go.RowKit

theorem take_ext_ne {α : Type} [DecidableEq α] {A B : List α} (hl : A.length = B.length) (k : Nat) (h1 : k < A.length) (h2 : k < B.length) (hne : A[k] ≠ B[k]) : A ≠ B := by
  intro e; subst e; exact hne rfl
end Go.Proofs.YtgmimdnebgncoaaGreat

end

section
/- The queue's Set and Drop. -/
set_option linter.unusedVariables false
set_option linter.unusedSimpArgs false
namespace Go.Proofs.YtgmimdnebgncoaaGreat
open Go.RowKit

def setE (L : List QR) (k : ByteArray) (t : Int) : Int :=
  if t < 0 ∨ 1099511627776 < t then 1 else if hasQ L k then 0 else if 1024 ≤ L.length then 9 else 0
def setQ (L : List QR) (k : ByteArray) (t : Int) : List QR :=
  if setE L k t = 0 then insQ ⟨k, t⟩ (delQ L k) else L
theorem set_sort {L : List QR} (h : SortQ L) (k : ByteArray) (t : Int) : SortQ (insQ ⟨k, t⟩ (delQ L k)) := ins_sort _ _ (del_sort h k) (del_not L k)
theorem but_set {l : List QR} (h : HeapQ l.length l) (i : Nat) (hi : i < l.length) (r : QR) : HeapBut (l.set i r).length i (l.set i r) := by
  rw [List.length_set]
  exact but_of (l := l) h (fun m hm _ => by rw [gq_set l i m r hi, if_neg hm])
set_option maxRecDepth 20000 in
set_option maxHeartbeats 8000000 in
theorem qset_any (w : World) (b : Nat) (h : QH) (L : List QR) (q : QL w b h L) (k : ByteArray) (hk : k.size ≤ 281474976710656) (t : Int) :
    Calls Tryz.prog 41 #[.pointer (some ⟨b, 0, none⟩), .string k, .int .i64 t] w fun e w' => e = .returned (.int .i64 (setE L k t)) ∧ QLStep w w' b h (setQ L k t) := by
  have HQL := Lib.hid q
  by_cases ht : t < 0 ∨ 1099511627776 < t
  · have e1 : setE L k t = 1 := by unfold setE; rw [if_pos ht]
    have e2 : setQ L k t = L := by unfold setQ; rw [e1, if_neg (by omega)]
    rw [e1, e2]
    clear q e1 e2
    by_cases h0 : t < 0
    · go_enter Tryz.func41, Tryz.ntmps41
      go_wp2_with fail
      go_ret
      exact ⟨rfl, QLStep.refl HQL.out⟩
    · have h1 : 1099511627776 < t := by omega
      clear ht
      go_enter Tryz.func41, Tryz.ntmps41
      go_wp2_with fail
      go_ret
      exact ⟨rfl, QLStep.refl HQL.out⟩
  have h0 : ¬ t < 0 := by omega
  have h1 : ¬ 1099511627776 < t := by omega
  obtain ⟨hs, l, q, hp⟩ := q
  obtain ⟨c0, c1⟩ := q.1.cells
  obtain ⟨c, hrun, hy⟩ := look_q q.1 k hk
  have hl4 := q.1.len
  have hnd : (L.map QR.key).Nodup := nd_perm hp q.1.nd
  rw [has_perm hp] at hrun hy
  cases hh : hasQ L k with
  | true =>
    have e1 : setE L k t = 0 := by unfold setE; rw [if_neg ht, if_pos hh]
    have e2 : setQ L k t = insQ ⟨k, t⟩ (delQ L k) := by unfold setQ; rw [e1, if_pos rfl]
    rw [e1, e2]
    clear e1 e2
    rw [hh] at hrun
    obtain ⟨i, hi, rfl, hki⟩ := hy hh
    obtain ⟨g, ha, hg0, hg1⟩ := q.1.at' (by omega)
    obtain ⟨d0, d1⟩ := q.1.cell2 ha i hi
    have hst := q.1.setTime ha i hi t (by omega) (by omega)
    have hfr : w.frozen? ⟨g, i * 2 + 1, none⟩ = false := by
      have := q.1.own
      rw [ha] at this
      exact this.free _
    rw [hki] at hst
    rw [ha] at c0
    obtain ⟨W2, hW2⟩ : ∃ W, w.setCell ⟨g, i * 2 + 1, none⟩ (.int .i64 t) = W := ⟨_, rfl⟩
    rw [hW2] at hst
    have HF := Lib.hid (hfix_any W2 b h (l.set i ⟨k, t⟩) hst.1 i (by simpa using hi) (but_set q.2 i hi _))
    have HX : RowKit.Hid (∀ w' l', QIStep W2 w' b h l' → l'.Perm (l.set i ⟨k, t⟩) → QLStep w w' b h (insQ ⟨k, t⟩ (delQ L k))) := Lib.hid (fun w' l' s p => by
      refine QIStep.ql (QIStep.trans hst.2 (fun _ h => .inl h) s) (set_sort hs k t) (p.trans ?_)
      obtain ⟨rest, p1, p2⟩ := set_perm l i hi ⟨k, t⟩
      exact p2.trans (((del_perm (p1.trans hp) hnd hki).cons _).trans (ins_perm _ _).symm))
    have HW2 := Lib.hid hW2
    have hiI : (i : Int) < l.length := by omega
    have hcap := q.1.row.hcap
    have hmax := q.1.row.hmax
    clear hy q hp hs hst hW2 hki
    go_enter Tryz.func41, Tryz.ntmps41
    go_wp2_with fail
    rw [HW2.out]
    refine HF.out.mono ?_
    rintro e w' ⟨rfl, l', s, p⟩
    have HE := Lib.hid (HX.out _ _ s p)
    clear s p
    go_wp2_with fail
    go_ret
    exact ⟨rfl, HE.out⟩
  | false =>
    rw [hh] at hrun
    have hll := hp.length_eq
    by_cases hfull : 1024 ≤ L.length
    · have e1 : setE L k t = 9 := by unfold setE; rw [if_neg ht, if_neg (by rw [hh]; decide), if_pos hfull]
      have e2 : setQ L k t = L := by unfold setQ; rw [e1, if_neg (by omega)]
      rw [e1, e2]
      clear e1 e2
      have hfI : (1024 : Int) ≤ l.length := by omega
      clear hy q hp hs
      go_enter Tryz.func41, Tryz.ntmps41
      go_wp2_with fail
      go_ret
      exact ⟨rfl, QLStep.refl HQL.out⟩
    · have e1 : setE L k t = 0 := by unfold setE; rw [if_neg ht, if_neg (by rw [hh]; decide), if_neg hfull]
      have hn : k ∉ L.map QR.key := by rw [← has_iff, hh]; simp
      have hn' : k ∉ l.map QR.key := fun h => hn ((hp.map _).mem_iff.1 h)
      have e2 : setQ L k t = insQ ⟨k, t⟩ (delQ L k) := by unfold setQ; rw [e1, if_pos rfl]
      rw [e1, e2]
      clear e1 e2
      have hfI : ¬ (1024 : Int) ≤ l.length := by omega
      have HF := Lib.hid (hpush_any w b h l q ⟨k, t⟩ hn' hk (by constructor <;> (dsimp only; omega)) (by omega))
      have HX : RowKit.Hid (∀ w' l', QIStep w w' b h l' → l'.Perm (l ++ [⟨k, t⟩]) → QLStep w w' b h (insQ ⟨k, t⟩ (delQ L k))) := Lib.hid (fun w' l' s p => by
        refine QIStep.ql s (set_sort hs k t) (p.trans ?_)
        rw [del_none hn]
        exact List.perm_append_comm.trans ((hp.cons _).trans (ins_perm _ _).symm))
      clear hy q hp hs hn hn'
      go_enter Tryz.func41, Tryz.ntmps41
      go_wp2_with fail
      refine HF.out.mono ?_
      rintro e w' ⟨rfl, l', s, p⟩
      have HE := Lib.hid (HX.out _ _ s p)
      clear s p
      go_wp2_with fail
      go_ret
      exact ⟨rfl, HE.out⟩
set_option maxRecDepth 20000 in
set_option maxHeartbeats 8000000 in
theorem qdrop_any (w : World) (b : Nat) (h : QH) (L : List QR) (q : QL w b h L) (k : ByteArray) (hk : k.size ≤ 281474976710656) :
    Calls Tryz.prog 31 #[.pointer (some ⟨b, 0, none⟩), .string k] w fun e w' => e = .returned (.bool (hasQ L k)) ∧ QLStep w w' b h (delQ L k) := by
  have HQL := Lib.hid q
  obtain ⟨hs, l, q, hp⟩ := q
  obtain ⟨c0, c1⟩ := q.1.cells
  obtain ⟨c, hrun, hy⟩ := look_q q.1 k hk
  have hl4 := q.1.len
  have hnd : (L.map QR.key).Nodup := nd_perm hp q.1.nd
  rw [has_perm hp] at hrun hy
  cases hh : hasQ L k with
  | true =>
    rw [hh] at hrun
    obtain ⟨i, hi, rfl, hki⟩ := hy hh
    have HF := Lib.hid (hremove_any w b h l q i hi)
    have HX : RowKit.Hid (∀ w' l', QIStep w w' b h l' → (gq l i :: l').Perm l → QLStep w w' b h (delQ L k)) := Lib.hid (fun w' l' s p => QIStep.ql s (del_sort hs k) (del_perm (p.trans hp) hnd hki))
    clear hy q hp hs hki
    go_enter Tryz.func31, Tryz.ntmps31
    go_wp2_with fail
    refine HF.out.mono ?_
    rintro e w' ⟨⟨v, rfl⟩, l', s, p⟩
    have HE := Lib.hid (HX.out _ _ s p)
    clear s p
    go_wp2_with fail
    go_ret
    exact ⟨rfl, HE.out⟩
  | false =>
    rw [hh] at hrun
    have hn : k ∉ L.map QR.key := by rw [← has_iff, hh]; simp
    rw [del_none hn]
    clear hy q hp hs
    go_enter Tryz.func31, Tryz.ntmps31
    go_wp2_with fail
    go_ret
    exact ⟨rfl, QLStep.refl HQL.out⟩
end Go.Proofs.YtgmimdnebgncoaaGreat

end

section
/- The known queue: awake answers true. -/
set_option linter.unusedVariables false
set_option linter.unusedSimpArgs false
namespace Go.Proofs.YtgmimdnebgncoaaGreat
open Go.RowKit

def ka : ByteArray := ⟨#[97]⟩
def kb : ByteArray := ⟨#[98]⟩
def kc : ByteArray := ⟨#[99]⟩
theorem lt_data (a b : QR) : ltQ a b = (decide (a.time < b.time) || (decide (a.time = b.time) && blB a.key.data.toList b.key.data.toList)) := by
  unfold ltQ; rw [Lib.toList_data, Lib.toList_data]
theorem aw1 : setQ [] kb 5 = [⟨kb, 5⟩] := by decide +kernel
theorem aw2 : setQ [⟨kb, 5⟩] ka 5 = [⟨ka, 5⟩, ⟨kb, 5⟩] := by
  have h1 : ltQ ⟨kb, 5⟩ ⟨ka, 5⟩ = false := by rw [lt_data]; decide +kernel
  have h2 : setE [⟨kb, 5⟩] ka 5 = 0 := by decide +kernel
  have h3 : delQ [⟨kb, 5⟩] ka = [⟨kb, 5⟩] := by decide +kernel
  unfold setQ
  rw [if_pos h2, h3]
  unfold insQ
  rw [h1]; rfl
theorem aw3 : setQ [⟨ka, 5⟩, ⟨kb, 5⟩] kc 9 = [⟨ka, 5⟩, ⟨kb, 5⟩, ⟨kc, 9⟩] := by
  have h1 : ltQ ⟨kb, 5⟩ ⟨kc, 9⟩ = true := by rw [lt_data]; decide +kernel
  have h0 : ltQ ⟨ka, 5⟩ ⟨kc, 9⟩ = true := by rw [lt_data]; decide +kernel
  have h2 : setE [⟨ka, 5⟩, ⟨kb, 5⟩] kc 9 = 0 := by decide +kernel
  have h3 : delQ [⟨ka, 5⟩, ⟨kb, 5⟩] kc = [⟨ka, 5⟩, ⟨kb, 5⟩] := by decide +kernel
  unfold setQ
  rw [if_pos h2, h3]
  simp only [insQ, h0, h1, if_true]
theorem aw4 : dueQ [⟨ka, 5⟩, ⟨kb, 5⟩, ⟨kc, 9⟩] 5 = [⟨ka, 5⟩, ⟨kb, 5⟩] := by decide +kernel
theorem aw5 : restQ [⟨ka, 5⟩, ⟨kb, 5⟩, ⟨kc, 9⟩] 5 = [⟨kc, 9⟩] := by decide +kernel
/-- What Due hands back is read. -/
theorem DueIs.row {w w' : World} {b : Nat} {h : QH} {A R : List QR} {v : Value} (d : DueIs w w' b h A R v) : ∃ a c, v = .slice a A.length c ∧ RowS w' a A.length c 1 (kcells A) := by
  obtain ⟨a, c, h1, rfl, ho, _⟩ := d
  obtain ⟨_, hr, _⟩ := ho.row'
  exact ⟨a, c, rfl, hr⟩
theorem cell_one {w : World} {g o n c : Nat} {A : List QR} (r : RowS w (some ⟨g, o, none⟩) n c 1 (kcells A)) (i : Nat) (hi : i < A.length) : w.cell? ⟨g, o + i, none⟩ = some (.string (gq A i).key) := by
  have := r.cell i (by simpa [kcells] using hi) 0 (.string (gq A i).key) (by simp [kcells, gq_get A i hi])
  simpa using this
/-- A queue that was made since w. -/
structure QN (w w' : World) (b : Nat) (h : QH) (L : List QR) : Prop where
  q : QL w' b h L
  t : Touch w w' (fun _ => False)
  f : ∀ k, footQ b h k → w.heap.size ≤ k
theorem QN.step {w w1 w2 : World} {b : Nat} {h : QH} {L L' : List QR} (n : QN w w1 b h L) (s : QLStep w1 w2 b h L') : ∃ h', QN w w2 b h' L' ∧ (∀ k, footQ b h' k → footQ b h k ∨ w1.heap.size ≤ k) ∧ Touch w1 w2 (footQ b h) := by
  obtain ⟨h', q, t, f⟩ := s
  refine ⟨h', ⟨q, n.t.trans t (fun k hk hf => by have := n.f k hf; omega), fun k hk => ?_⟩, f, t⟩
  rcases f k hk with h | h
  · exact n.f k h
  · exact Nat.le_trans n.t.size h
theorem QN.due {w w1 w2 : World} {b : Nat} {h : QH} {L A R : List QR} {v : Value} (n : QN w w1 b h L) (s : DueIs w1 w2 b h A R v) :
    ∃ a c h1, v = .slice a A.length c ∧ RowS w2 a A.length c 1 (kcells A) ∧ (∀ x, a = some x → w1.heap.size ≤ x.block ∧ x.block < w2.heap.size ∧ ¬ footQ b h1 x.block) ∧ QN w w2 b h1 R ∧ (∀ k, footQ b h1 k → footQ b h k ∨ w1.heap.size ≤ k) ∧ Touch w1 w2 (footQ b h) := by
  obtain ⟨a, c, h1, rfl, ho, q, t, f, d⟩ := s
  obtain ⟨_, hr, hb⟩ := ho.row'
  refine ⟨a, c, h1, rfl, hr, fun x hx => ⟨(hb x hx).1, (hb x hx).2, ?_⟩, ⟨q, n.t.trans t (fun k hk hf => by have := n.f k hf; omega), fun k hk => ?_⟩, f, t⟩
  · exact d x.block (by subst hx; rfl)
  · rcases f k hk with h | h
    · exact n.f k h
    · exact Nat.le_trans n.t.size h
theorem QN.touch {w w1 w2 : World} {b : Nat} {h : QH} {L : List QR} {S : Nat → Prop} (n : QN w w1 b h L) (t : Touch w1 w2 S) (h1 : ∀ k, footQ b h k → ¬ S k) (h2 : ∀ k, k < w.heap.size → ¬ S k) : QN w w2 b h L :=
  ⟨n.q.touch t h1, n.t.trans t (fun k hk hs => h2 k hk hs), n.f⟩
theorem QN.still {w w1 w2 : World} {b : Nat} {h : QH} {L : List QR} (n : QN w w1 b h L) (t : Touch w1 w2 (fun _ => False)) : QN w w2 b h L := n.touch t (fun _ _ h => h) (fun _ _ h => h)
theorem QN.new {w w1 w2 : World} {b : Nat} {h : QH} (t0 : Touch w w1 (fun _ => False)) (q : QL w2 b h []) (t : Touch w1 w2 (fun _ => False)) (f : ∀ k, footQ b h k → w1.heap.size ≤ k) : QN w w2 b h [] :=
  ⟨q, t0.trans t (fun _ _ h => h), fun k hk => Nat.le_trans t0.size (f k hk)⟩
end Go.Proofs.YtgmimdnebgncoaaGreat

end
