/- The queue's Due. -/
import Derived.Test.YtdjkjdeaglimeaaDueNext
import Derived.Test.YtdjkjdeaglimeaaRowR
set_option linter.unusedVariables false
set_option linter.unusedSimpArgs false
namespace Go.Proofs.Ytdjkjdeaglimeaa
open Go.RowKit

def dueQ (L : List QR) (now : Int) : List QR := L.takeWhile (fun r => decide (r.time ≤ now))
def restQ (L : List QR) (now : Int) : List QR := L.dropWhile (fun r => decide (r.time ≤ now))
theorem due_split {now : Int} {R : List QR} (hR : ∀ x R', R = x :: R' → now < x.time) : ∀ A : List QR, (∀ r ∈ A, r.time ≤ now) → dueQ (A ++ R) now = A ∧ restQ (A ++ R) now = R
  | [], _ => by
    cases R with
    | nil => exact ⟨rfl, rfl⟩
    | cons x R =>
      have := hR x R rfl
      constructor
      · unfold dueQ; rw [List.nil_append, List.takeWhile_cons, if_neg (by simp; omega)]
      · unfold restQ; rw [List.nil_append, List.dropWhile_cons, if_neg (by simp; omega)]
  | y :: A, h => by
    obtain ⟨h1, h2⟩ := due_split hR A (fun r hr => h r (List.mem_cons_of_mem _ hr))
    have hy : y.time ≤ now := h y List.mem_cons_self
    unfold dueQ restQ at *
    rw [List.cons_append, List.takeWhile_cons, List.dropWhile_cons, if_pos (by simpa using hy), if_pos (by simpa using hy), h1, h2]
    exact ⟨rfl, rfl⟩
theorem qpop_any (w : World) (b : Nat) (h : QH) (x : QR) (R : List QR) (q : QL w b h (x :: R)) :
    Calls Try.prog 45 #[.iface 90 (.pointer (some ⟨b, 0, none⟩))] w fun e w' => (∃ v, e = .returned v) ∧ QLStep w w' b h R := by
  obtain ⟨hs, l, q, hp⟩ := q
  have hx := first_of hp hs q.2
  refine (hpop_any w b h l q (by rw [hp.length_eq]; simp)).mono ?_
  rintro e w' ⟨hv, l', s, p⟩
  rw [hx] at p
  exact ⟨hv, QIStep.ql s (List.pairwise_cons.1 hs).2 ((p.trans hp).cons_inv)⟩
def kcells (L : List QR) : List (List Value) := L.map (fun r => [.string r.key])
def lenQ : Value → Nat
  | .slice _ n _ => n
  | _ => 0
/-- What Due hands back, and what it leaves. -/
def DueIs (w w' : World) (b : Nat) (h : QH) (A R : List QR) (v : Value) : Prop :=
  ∃ a c h1, v = .slice a A.length c ∧ OwnS w' w.heap.size 9 1 (.slice a A.length c) (kcells A) ∧ QL w' b h1 R ∧ Touch w w' (footQ b h) ∧ (∀ k, footQ b h1 k → footQ b h k ∨ w.heap.size ≤ k) ∧ (∀ x, (Value.slice a A.length c).ownBlock = some x → ¬ footQ b h1 x)
theorem infoStr : (Try.prog.info? 9).map (fun i => (i.zero, i.size, i.bytes)) = some (some (.string ByteArray.empty), 1, 16) := by kernel_rfl
set_option maxRecDepth 20000 in
set_option maxHeartbeats 8000000 in
theorem qdue_any (w : World) (b : Nat) (h : QH) (L : List QR) (q : QL w b h L) (now : Int) :
    Calls Try.prog 18 #[.pointer (some ⟨b, 0, none⟩), .int .i64 now] w fun e w' => ∃ v, e = .returned v ∧ DueIs w w' b h (dueQ L now) (restQ L now) v := by
  have hl4 := q.len
  have HII := Lib.hid infoStr
  go_enter Try.func18, Try.ntmps18
  go_wp2_with fail
  go_loopw [5] (fun s5 wr => ∃ (A R : List QR), L = A ++ R ∧ (∀ r ∈ A, r.time ≤ now) ∧ DueIs w wr b h A R s5) (fun s5 _ => L.length - lenQ s5)
  case atStart => exact ⟨[], L, rfl, by simp, none, 0, h, rfl, OwnS.nil _ _ _ _, q, Touch.refl _ _, fun _ h => .inl h, by simp [Value.ownBlock]⟩
  case round =>
    obtain ⟨A, R, hL, hA, a, c, h1, rfl, ho, hq, ht, hf, hd⟩ := hrel
    have HL := Lib.hid hL
    have HA := Lib.hid hA
    have HO := Lib.hid ho
    have HQ := Lib.hid hq
    have HT := Lib.hid ht
    have HF := Lib.hid hf
    have HD := Lib.hid hd
    have hlen : A.length + R.length = L.length := by rw [hL]; simp
    have HN := Lib.hid (qnext_any wr b h1 R hq)
    clear hL hA ho hq ht hf hd q
    cases R with
    | nil =>
      go_wp2_with fail
      refine HN.out.mono ?_
      rintro e w9 ⟨rfl, t9⟩
      have HT9 := Lib.hid t9
      clear t9
      go_wp2_with fail
      go_ret
      obtain ⟨e1, e2⟩ := due_split (now := now) (R := []) (by simp) A HA.out
      rw [HL.out, e1, e2]
      exact ⟨_, rfl, a, c, h1, rfl, HO.out.still HT9.out, HQ.out.still HT9.out, HT.out.trans HT9.out (fun _ _ h => h.elim), HF.out, HD.out⟩
    | cons x R =>
      by_cases hx : now < x.time
      · go_wp2_with fail
        refine HN.out.mono ?_
        rintro e w9 ⟨rfl, t9⟩
        have HT9 := Lib.hid t9
        clear t9
        have hx' : now < (headQ (x :: R)).time := hx
        go_wp2_with fail
        go_ret
        obtain ⟨e1, e2⟩ := due_split (now := now) (R := x :: R) (fun y R' e => by cases e; exact hx) A HA.out
        rw [HL.out, e1, e2]
        exact ⟨_, rfl, a, c, h1, rfl, HO.out.still HT9.out, HQ.out.still HT9.out, HT.out.trans HT9.out (fun _ _ h => h.elim), HF.out, HD.out⟩
      · have HX' : RowKit.Hid (¬ now < x.time) := Lib.hid hx
        go_wp2_with fail
        refine HN.out.mono ?_
        rintro e w9 ⟨rfl, t9⟩
        have hh : headQ (x :: R) = x := rfl
        rw [hh]
        have hx' := HX'.out
        have t5 : Touch wr (w9.alloc (.cells #[.string x.key] 9)) (fun _ => False) := t9.alloc _
        have HN5 := Lib.hid (news_of (heap_alloc_new w9 (.cells #[.string x.key] 9)))
        have HO5 := Lib.hid (HO.out.still t5)
        have HQ5 := Lib.hid (HQ.out.still t5)
        have HT5 := Lib.hid (HT.out.trans t5 (fun _ _ h => h.elim))
        have hown : (w9.alloc (.cells #[.string x.key] 9)).ownsRow w.heap.size 9 1 (.slice a A.length c) A.length (kcells A).flatten := by
          have := HO5.out.own
          rwa [kcells, List.length_map] at this
        have HOWN := Lib.hid hown
        have HB5 : RowKit.Hid (Below w.heap.size (w9.alloc (.cells #[.string x.key] 9)) (w9.alloc (.cells #[.string x.key] 9))) := Lib.hid ((Touch.refl _ (fun _ => False)).below (fun _ _ h => h.elim) HT5.out.size)
        simp only [List.length_cons] at hlen
        clear t9 t5 hown
        go_upto_region 6 with (at_builtin; (with_reducible refine wp_appR HOWN.out 35 Try.underlying35 _ 16 HII.out rfl (by decide) ⟨w9.heap.size, 0, none⟩ 1 1 _ rfl HN5.out (by simp [Value.oneCell']) (by simp only [maxLen]; omega) (by omega) HB5.out (Nat.le_refl _) HT5.out.size rfl _ _ rfl rfl rfl ?_); intro a4 c4 w6 ho4 hg4 hb4 hp4; have HO6 := Lib.hid ho4; have HG6 := Lib.hid hg4; have HP6 := Lib.hid hp4; clear ho4 hg4 hb4 hp4)
        have HQ6 : RowKit.Hid (QL w6 b h1 (x :: R)) := Lib.hid (HQ5.out.touch ((Touch.refl _ (fun k => (Value.slice a A.length c).ownBlock = some k)).grown HG6.out (fun k hk _ => hk)) (fun k hf e => HD.out k e hf))
        have HT6 : RowKit.Hid (Touch w w6 (footQ b h)) := Lib.hid (HT5.out.grown HG6.out (fun k hk hlt => by have := (HOWN.out.lt k hk).1; omega))
        have HS6 : RowKit.Hid (OwnS w6 w.heap.size 9 1 (.slice a4 (A.length + 1) c4) (kcells (A ++ [x]))) := Lib.hid (by
          unfold kcells
          rw [List.map_append, List.map_cons, List.map_nil]
          refine HO5.out.add (L2 := [[.string x.key]]) (by simp) ?_
          have := HO6.out
          simpa [kcells] using this)
        have HD6 : RowKit.Hid (∀ y, (Value.slice a4 (A.length + 1) c4).ownBlock = some y → ¬ footQ b h1 y ∧ y < w6.heap.size) := Lib.hid (fun y hy => by
          refine ⟨fun hf => ?_, (HS6.out.own.lt y hy).2⟩
          rcases HP6.out y hy with h | h
          · exact HD.out y h hf
          · have := HQ5.out.footlt y hf; omega)
        have HPOP := Lib.hid (qpop_any w6 b h1 x R HQ6.out)
        clear HO6 HO5 HOWN HG6 HP6 HB5 HN5
        go_wp2_with fail
        refine HPOP.out.mono ?_
        rintro e w7 ⟨⟨v, rfl⟩, h2, q2, t2, f2⟩
        have HX : RowKit.Hid (∃ (A' R' : List QR), L = A' ++ R' ∧ (∀ r ∈ A', r.time ≤ now) ∧ DueIs w w7 b h A' R' (.slice a4 (A.length + 1) c4)) := Lib.hid (by
          refine ⟨A ++ [x], R, by rw [HL.out]; simp, fun r hr => ?_, a4, c4, h2, by simp, ?_, q2, ?_, fun k hk => ?_, ?_⟩
          · rcases List.mem_append.1 hr with hr | hr
            · exact HA.out r hr
            · rw [List.mem_singleton.1 hr]; omega
          · rw [List.length_append]
            exact HS6.out.touch t2 (fun y hy => (HD6.out y hy).1)
          · exact HT6.out.trans t2 (fun k hk hf => by
              rcases HF.out k hf with h | h
              · exact h
              · omega)
          · rcases f2 k hk with h | h
            · exact HF.out k h
            · exact .inr (Nat.le_trans HT6.out.size h)
          · rw [List.length_append]
            intro y hy hf
            have := HD6.out y hy
            rcases f2 y hf with h | h
            · exact this.1 h
            · omega)
        clear q2 t2 f2
        go_wp2_with fail
        go_roundw
        · exact HX.out
        · simp only [lenQ]; omega
end Go.Proofs.Ytdjkjdeaglimeaa
