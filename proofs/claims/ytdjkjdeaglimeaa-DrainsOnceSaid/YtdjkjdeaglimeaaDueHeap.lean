/- container/heap's four words over a queue. -/
import Derived.Test.YtdjkjdeaglimeaaDueDown
import Derived.Test.YtdjkjdeaglimeaaDuePush
import Derived.Test.YtdjkjdeaglimeaaDuePop
set_option linter.unusedVariables false
set_option linter.unusedSimpArgs false
namespace Go.Proofs.Ytdjkjdeaglimeaa
open Go.RowKit

/-- A queue: its rows are a heap. -/
def QI (w : World) (b : Nat) (h : QH) (l : List QR) : Prop := QB w b h l ∧ HeapQ l.length l
/-- A step that leaves a heap. -/
def QIStep (w w' : World) (b : Nat) (h : QH) (l' : List QR) : Prop :=
  ∃ h', QI w' b h' l' ∧ Touch w w' (footQ b h) ∧ ∀ k, footQ b h' k → footQ b h k ∨ w.heap.size ≤ k
theorem QStep.heap {w w' : World} {b : Nat} {h : QH} {l' : List QR} (s : QStep w w' b h l') (hh : HeapQ l'.length l') : QIStep w w' b h l' := by
  obtain ⟨h', q, t, f⟩ := s
  exact ⟨h', ⟨q, hh⟩, t, f⟩
theorem QIStep.trans {w w1 w2 : World} {b : Nat} {h h1 : QH} {l2 : List QR} (t : Touch w w1 (footQ b h)) (hf : ∀ k, footQ b h1 k → footQ b h k ∨ w.heap.size ≤ k) (s : QIStep w1 w2 b h1 l2) : QIStep w w2 b h l2 := by
  obtain ⟨h2, q2, t2, f2⟩ := s
  obtain ⟨h3, q3, t3, f3⟩ := QStep.trans t hf ⟨h2, q2.1, t2, f2⟩
  exact ⟨h3, ⟨q3, q2.2⟩, t3, f3⟩
set_option maxRecDepth 20000 in
set_option maxHeartbeats 8000000 in
theorem hfix_any (w : World) (b : Nat) (h : QH) (l : List QR) (q : QB w b h l) (i : Nat) (hi : i < l.length) (hu : HeapBut l.length i l) :
    Calls Try.prog 41 #[.iface 90 (.pointer (some ⟨b, 0, none⟩)), .int .i64 i] w fun e w' => e = .returned (.tuple #[]) ∧ ∃ l', QIStep w w' b h l' ∧ l'.Perm l := by
  have hl4 := q.len
  have HQ := Lib.hid q
  have HU := Lib.hid hu
  clear q hu
  go_enter Try.func41, Try.ntmps41
  go_wp2_with fail
  refine (klen_any w b h l HQ.out).mono ?_
  rintro e w' ⟨rfl, rfl⟩
  go_wp2_with fail
  refine (down_any w b h l HQ.out l.length i (Nat.le_refl _) (by omega) HU.out).mono ?_
  rintro e w2 ⟨r, l2, rfl, ⟨h2, q2, t2, f2⟩, m2, y, n⟩
  have hl2 := m2.length
  have HQ2 := Lib.hid q2
  have HT2 := Lib.hid t2
  have HF2 := Lib.hid f2
  have HM2 := Lib.hid m2
  clear q2 t2 f2 m2
  cases r with
  | true =>
    have hy := y rfl
    go_wp2_with fail
    go_end0
    exact ⟨rfl, l2, QStep.heap ⟨h2, HQ2.out, HT2.out, HF2.out⟩ (by rw [hl2]; exact hy), HM2.out.1⟩
  | false =>
    have HN := Lib.hid (n rfl)
    clear y n
    go_wp2_with fail
    refine (up_any w2 b h2 l2 HQ2.out l.length i (by omega) hi HN.out).mono ?_
    rintro e w3 ⟨rfl, l3, s3, m3, hh⟩
    have HX : RowKit.Hid (QIStep w w3 b h l3) := Lib.hid (QStep.heap (QStep.trans HT2.out HF2.out s3) (by rw [m3.length, hl2]; exact hh))
    have HP := Lib.hid (m3.1.trans HM2.out.1)
    clear s3 m3 hh
    go_wp2_with fail
    go_end0
    exact ⟨rfl, l3, HX.out, HP.out⟩
theorem kpush_any (w : World) (b : Nat) (h : QH) (l : List QR) (q : QB w b h l) (r : QR) (hn : r.key ∉ l.map QR.key) (hk : r.key.size ≤ 281474976710656) (hr : 0 ≤ r.time ∧ r.time ≤ 1099511627776) (hl : l.length < 1024) :
    Calls Try.prog 95 #[.pointer (some ⟨b, 0, none⟩), .iface 88 (.agg #[.string r.key, .int .i64 r.time])] w fun e w' => e = .returned (.tuple #[]) ∧ QStep w w' b h (l ++ [r]) := by
  obtain ⟨ha, hc, hm⟩ := h
  cases hm with
  | none => exact kpush_none w b ha hc l q r hn hk hr hl
  | some mb => exact kpush_some w b ha hc mb l q r hn hk hr hl
set_option maxRecDepth 20000 in
set_option maxHeartbeats 8000000 in
theorem hpush_any (w : World) (b : Nat) (h : QH) (l : List QR) (q : QI w b h l) (r : QR) (hn : r.key ∉ l.map QR.key) (hk : r.key.size ≤ 281474976710656) (hr : 0 ≤ r.time ∧ r.time ≤ 1099511627776) (hl : l.length < 1024) :
    Calls Try.prog 42 #[.iface 90 (.pointer (some ⟨b, 0, none⟩)), .iface 88 (.agg #[.string r.key, .int .i64 r.time])] w fun e w' => e = .returned (.tuple #[]) ∧ ∃ l', QIStep w w' b h l' ∧ l'.Perm (l ++ [r]) := by
  have HQ := Lib.hid q
  have HP := Lib.hid (kpush_any w b h l q.1 r hn hk hr hl)
  clear q hn hk hr
  go_enter Try.func42, Try.ntmps42
  go_wp2_with fail
  refine HP.out.mono ?_
  rintro e w1 ⟨rfl, h1, q1, t1, f1⟩
  have hlen : (l ++ [r]).length = l.length + 1 := by simp
  have HQ1 := Lib.hid q1
  have HT1 := Lib.hid t1
  have HF1 := Lib.hid f1
  have HL := Lib.hid (klen_any w1 b h1 (l ++ [r]) q1)
  rw [hlen] at HL
  have e1 : ((l.length + 1 : Nat) : Int) - 1 = l.length := by omega
  clear q1 t1 f1
  go_wp2_with fail
  refine HL.out.mono ?_
  rintro e w2 ⟨rfl, rfl⟩
  go_wp2_with fail
  refine (up_any w1 b h1 (l ++ [r]) HQ1.out (l.length + 1) l.length (by omega) (by omega) (push_up HQ.out.2)).mono ?_
  rintro e w3 ⟨rfl, l3, s3, m3, hh⟩
  have HX : RowKit.Hid (QIStep w w3 b h l3) := Lib.hid (QStep.heap (QStep.trans HT1.out HF1.out s3) (by rw [m3.length, hlen]; exact hh))
  have HP := Lib.hid m3.1
  clear s3 m3 hh
  go_wp2_with fail
  go_end0
  exact ⟨rfl, l3, HX.out, HP.out⟩
/-- The last row by its name. -/
theorem snoc_of (l : List QR) (n : Nat) (h : l.length = n + 1) : ∃ l', l = l' ++ [gq l n] ∧ l'.length = n := by
  refine ⟨l.take n, ?_, by simp; omega⟩
  rw [gq_get l n (by omega)]
  have e := List.take_succ_eq_append_getElem (l := l) (i := n) (by omega)
  rw [← e, List.take_of_length_le (by omega)]
theorem HeapQ.front {n : Nat} {l' : List QR} {r : QR} (h : HeapQ n (l' ++ [r])) (hl : l'.length = n) : HeapQ l'.length l' := by
  refine HeapQ.same (l := l' ++ [r]) (hl ▸ h) (fun m hm => ?_)
  exact (gq_app l' r m hm).symm
theorem perm_front {l l2 l' : List QR} {r : QR} (hp : l2.Perm l) (he : l2 = l' ++ [r]) : (r :: l').Perm l := by
  subst he
  exact (List.perm_append_comm (l₁ := [r]) (l₂ := l')).trans hp
set_option maxRecDepth 20000 in
set_option maxHeartbeats 8000000 in
theorem hpop_any (w : World) (b : Nat) (h : QH) (l : List QR) (q : QI w b h l) (h0 : 0 < l.length) :
    Calls Try.prog 45 #[.iface 90 (.pointer (some ⟨b, 0, none⟩))] w fun e w' => (∃ v, e = .returned v) ∧ ∃ l', QIStep w w' b h l' ∧ (gq l 0 :: l').Perm l := by
  have hl4 := q.1.len
  obtain ⟨n, hn⟩ : ∃ n, l.length = n + 1 := ⟨l.length - 1, by omega⟩
  have HQ := Lib.hid q
  have HL := Lib.hid (klen_any w b h l q.1)
  rw [hn] at HL
  have HS := Lib.hid (kswap_any w b h l q.1 0 n (by omega) (by omega))
  have e1 : ((n + 1 : Nat) : Int) - 1 = n := by omega
  clear q
  go_enter Try.func45, Try.ntmps45
  go_wp2_with fail
  refine HL.out.mono ?_
  rintro e w' ⟨rfl, rfl⟩
  go_wp2_with fail
  refine HS.out.mono ?_
  rintro e w1 ⟨rfl, h1, q1, t1, f1⟩
  have hsl := swapQ_length l 0 n
  have HM1 : RowKit.Hid (Moved (n + 1) l (swapQ l 0 n)) := Lib.hid (Moved.swap (by omega) 0 n (by omega) (by omega))
  have HQ1 := Lib.hid q1
  have HT1 := Lib.hid t1
  have HF1 := Lib.hid f1
  have HD := Lib.hid (down_any w1 b h1 (swapQ l 0 n) q1 n 0 (by omega) (by omega) (but_of (i := 0) (HQ.out.2.mono (by omega)) (fun m m0 mn => by rw [gq_swap l 0 n m (by omega) (by omega), if_neg (by omega), if_neg m0])))
  clear q1 t1 f1
  go_wp2_with fail
  refine HD.out.mono ?_
  rintro e w2 ⟨r, l2, rfl, ⟨h2, q2, t2, f2⟩, m2, y, nn⟩
  have hl2 := m2.length
  obtain ⟨l3, he3, hl3⟩ := snoc_of l2 n (by omega)
  have hg : gq l2 n = gq l 0 := by
    rw [m2.2 n (Nat.le_refl _), gq_swap l 0 n n (by omega) (by omega), if_pos rfl]
  have hhp : HeapQ n l2 := by
    cases r with
    | true => exact y rfl
    | false => exact up_done (nn rfl) (.inl rfl)
  rw [hg] at he3
  rw [he3] at q2 hhp
  have HPP := Lib.hid (kpop_any w2 b h2 l3 (gq l 0) q2)
  have HT2 := Lib.hid t2
  have HF2 := Lib.hid f2
  have HP3 := Lib.hid (perm_front (m2.1.trans HM1.out.1) he3)
  have HH := Lib.hid (hhp.front hl3)
  clear q2 t2 f2 m2 y nn hhp he3
  go_wp2_with fail
  refine HPP.out.mono ?_
  rintro e w3 ⟨rfl, s3⟩
  have HX : RowKit.Hid (QIStep w w3 b h l3) := Lib.hid (QStep.heap (QStep.trans HT1.out HF1.out (QStep.trans HT2.out HF2.out s3)) HH.out)
  clear s3
  go_wp2_with fail
  go_ret
  exact ⟨⟨_, rfl⟩, l3, HX.out, HP3.out⟩
set_option maxRecDepth 20000 in
set_option maxHeartbeats 8000000 in
theorem hremove_any (w : World) (b : Nat) (h : QH) (l : List QR) (q : QI w b h l) (i : Nat) (hi : i < l.length) :
    Calls Try.prog 44 #[.iface 90 (.pointer (some ⟨b, 0, none⟩)), .int .i64 i] w fun e w' => (∃ v, e = .returned v) ∧ ∃ l', QIStep w w' b h l' ∧ (gq l i :: l').Perm l := by
  have hl4 := q.1.len
  obtain ⟨n, hn⟩ : ∃ n, l.length = n + 1 := ⟨l.length - 1, by omega⟩
  have HQ := Lib.hid q
  have HL := Lib.hid (klen_any w b h l q.1)
  rw [hn] at HL
  have e1 : ((n + 1 : Nat) : Int) - 1 = n := by omega
  clear q
  by_cases hin : i = n
  · subst hin
    obtain ⟨l3, he3, hl3⟩ := snoc_of l i (by omega)
    have hq := HQ.out
    have HPP := Lib.hid (kpop_any w b h l3 (gq l i) (by rw [← he3]; exact hq.1))
    have HP3 := Lib.hid (perm_front (.refl l) he3)
    have HH : RowKit.Hid (HeapQ l3.length l3) := Lib.hid (HeapQ.front (n := i) (r := gq l i) (by rw [← he3]; exact hq.2.mono (by omega)) hl3)
    clear hq he3
    go_enter Try.func44, Try.ntmps44
    go_wp2_with fail
    refine HL.out.mono ?_
    rintro e w' ⟨rfl, rfl⟩
    go_wp2_with fail
    refine HPP.out.mono ?_
    rintro e w3 ⟨rfl, s3⟩
    have HX : RowKit.Hid (QIStep w w3 b h l3) := Lib.hid (QStep.heap s3 HH.out)
    clear s3
    go_wp2_with fail
    go_ret
    exact ⟨⟨_, rfl⟩, l3, HX.out, HP3.out⟩
  have hne : ¬ (n : Int) = (i : Int) := by omega
  have HS := Lib.hid (kswap_any w b h l HQ.out.1 i n hi (by omega))
  go_enter Try.func44, Try.ntmps44
  go_wp2_with fail
  refine HL.out.mono ?_
  rintro e w' ⟨rfl, rfl⟩
  go_wp2_with fail
  refine HS.out.mono ?_
  rintro e w1 ⟨rfl, h1, q1, t1, f1⟩
  have hsl := swapQ_length l i n
  have HM1 : RowKit.Hid (Moved (n + 1) l (swapQ l i n)) := Lib.hid (Moved.swap (by omega) i n (by omega) (by omega))
  have HQ1 := Lib.hid q1
  have HT1 := Lib.hid t1
  have HF1 := Lib.hid f1
  have HD := Lib.hid (down_any w1 b h1 (swapQ l i n) q1 n i (by omega) (by omega) (but_of (i := i) (HQ.out.2.mono (by omega)) (fun m m0 mn => by rw [gq_swap l i n m (by omega) (by omega), if_neg (by omega), if_neg m0])))
  clear q1 t1 f1
  go_wp2_with fail
  refine HD.out.mono ?_
  rintro e w2 ⟨r, l2, rfl, ⟨h2, q2, t2, f2⟩, m2, y, nn⟩
  have hl2 := m2.length
  have hg2 : gq l2 n = gq l i := by
    rw [m2.2 n (Nat.le_refl _), gq_swap l i n n (by omega) (by omega), if_pos rfl]
  have HQ2 := Lib.hid q2
  have HT2 := Lib.hid t2
  have HF2 := Lib.hid f2
  have HM2 := Lib.hid m2
  clear q2 t2 f2 m2
  cases r with
  | true =>
    obtain ⟨l3, he3, hl3⟩ := snoc_of l2 n (by omega)
    rw [hg2] at he3
    have hhp := y rfl
    rw [he3] at hhp
    have HPP := Lib.hid (kpop_any w2 b h2 l3 (gq l i) (by rw [← he3]; exact HQ2.out))
    have HP3 := Lib.hid (perm_front (HM2.out.1.trans HM1.out.1) he3)
    have HH := Lib.hid (hhp.front hl3)
    clear y nn hhp he3
    go_wp2_with fail
    refine HPP.out.mono ?_
    rintro e w3 ⟨rfl, s3⟩
    have HX : RowKit.Hid (QIStep w w3 b h l3) := Lib.hid (QStep.heap (QStep.trans HT1.out HF1.out (QStep.trans HT2.out HF2.out s3)) HH.out)
    clear s3
    go_wp2_with fail
    go_ret
    exact ⟨⟨_, rfl⟩, l3, HX.out, HP3.out⟩
  | false =>
    have HN := Lib.hid (up_any w2 b h2 l2 HQ2.out n i (by omega) (by omega) (nn rfl))
    clear y nn
    go_wp2_with fail
    refine HN.out.mono ?_
    rintro e w5 ⟨rfl, l5, ⟨h5, q5, t5, f5⟩, m5, hh⟩
    have hl5 := m5.length
    obtain ⟨l3, he3, hl3⟩ := snoc_of l5 n (by omega)
    rw [m5.2 n (Nat.le_refl _), hg2] at he3
    rw [he3] at hh
    have HPP := Lib.hid (kpop_any w5 b h5 l3 (gq l i) (by rw [← he3]; exact q5))
    have HP3 := Lib.hid (perm_front ((m5.1.trans HM2.out.1).trans HM1.out.1) he3)
    have HH := Lib.hid (hh.front hl3)
    have HT5 := Lib.hid t5
    have HF5 := Lib.hid f5
    clear q5 t5 f5 m5 hh he3
    go_wp2_with fail
    refine HPP.out.mono ?_
    rintro e w3 ⟨rfl, s3⟩
    have HX : RowKit.Hid (QIStep w w3 b h l3) := Lib.hid (QStep.heap (QStep.trans HT1.out HF1.out (QStep.trans HT2.out HF2.out (QStep.trans HT5.out HF5.out s3))) HH.out)
    clear s3
    go_wp2_with fail
    go_ret
    exact ⟨⟨_, rfl⟩, l3, HX.out, HP3.out⟩
end Go.Proofs.Ytdjkjdeaglimeaa
