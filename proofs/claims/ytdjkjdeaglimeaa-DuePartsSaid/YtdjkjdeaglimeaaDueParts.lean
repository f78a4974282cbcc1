/- DueParts answers true for any calls and any two times. -/
import Derived.Test.YtdjkjdeaglimeaaDueTwo
import Derived.Test.YtdjkjdeaglimeaaAppNil
import Derived.Test.YtdjkjdeaglimeaaFrDueParts
set_option linter.unusedVariables false
set_option linter.unusedSimpArgs false
namespace Go.Proofs.Ytdjkjdeaglimeaa
open Go.RowKit

theorem modwP (t : Int) (m : Int) (h0 : 0 < m) (h1 : m ≤ 1000) : 0 ≤ wrap64 ((IntKind.u64.wrap t).tmod m) ∧ wrap64 ((IntKind.u64.wrap t).tmod m) < m := by
  have hu : 0 ≤ IntKind.u64.wrap t := by simp only [IntKind.wrap_u64]; omega
  have h2 : (IntKind.u64.wrap t).tmod m = (IntKind.u64.wrap t) % m := Int.tmod_eq_emod_of_nonneg hu
  have h3 := Int.emod_nonneg (IntKind.u64.wrap t) (show m ≠ 0 by omega)
  have h4 := Int.emod_lt_of_pos (IntKind.u64.wrap t) h0
  rw [h2]
  generalize (IntKind.u64.wrap t) % m = x at *
  have : wrap64 x = x := by unfold wrap64; omega
  omega
theorem due_le {X : Int} : ∀ (L : List QR) (r : QR), r ∈ dueQ L X → r.time ≤ X
  | [], r, h => by cases h
  | x :: L, r, h => by
    unfold dueQ at h
    rw [List.takeWhile_cons] at h
    split at h
    · rename_i hx
      rcases List.mem_cons.1 h with rfl | h
      · exact of_decide_eq_true hx
      · exact due_le L r h
    · cases h
theorem flat_one : ∀ B : List QR, (kcells B).flatten = B.map (fun r => Value.string r.key)
  | [] => rfl
  | y :: B => by
    have := flat_one B
    unfold kcells at this ⊢
    rw [List.map_cons, List.flatten_cons, this]
    rfl
theorem due_len (L : List QR) (X : Int) : (dueQ L X).length ≤ L.length := by
  have := congrArg List.length (List.takeWhile_append_dropWhile (p := fun r : QR => decide (r.time ≤ X)) (l := L))
  rw [List.length_append] at this
  unfold dueQ; omega
/-- A row of the call's own and another's rows behind one another. -/
theorem wp_app2 {w : World} {ops : Array Oper} {rest : List Oper} {o : Oper} {a : Act} {Q : Exit → Act → World → Prop} {base : Nat} {a1 a2 : Option Addr} {c1 c2 : Nat} {A B : List QR}
    (hA : OwnS w base 9 1 (.slice a1 A.length c1) (kcells A)) (hB : RowS w a2 B.length c2 1 (kcells B)) (hs : A.length + B.length ≤ 60) (hbase : base ≤ w.heap.size)
    (hgd : Region.wanted o (yielded ops a.tmps) = true) (s x : Operand) (ho : o.op = .call { callee := .builtin .append, args := #[s, x], argTypes := #[35, 35] })
    (hes : a.eval s = .slice a1 A.length c1) (hx : a.eval x = .slice a2 B.length c2)
    (h : ∀ a' c' w', OwnS w' base 9 1 (.slice a' (A.length + B.length) c') (kcells A ++ kcells B) → w.grownBy w' (Value.slice a1 A.length c1).ownBlock → (∀ b, (Value.slice a' (A.length + B.length) c').ownBlock = some b → (Value.slice a1 A.length c1).ownBlock = some b ∨ w.heap.size ≤ b) → wpList Try.prog ops Q rest (a.put o.dst (.slice a' (A.length + B.length) c')) w') : wpList Try.prog ops Q (o :: rest) a w := by
  refine BigFrame.wpList_want hgd fun K hK => ?_
  have hown : w.ownsRow base 9 1 (.slice a1 A.length c1) A.length (kcells A).flatten := by
    have := hA.own
    rwa [kcells, List.length_map] at this
  have key : ∃ a' c' w', (Builtin.append_ #[35, 35] o.type #[.slice a1 A.length c1, .slice a2 B.length c2]).run Try.prog w = .ok (.slice a' (A.length + B.length) c') w' ∧ OwnS w' base 9 1 (.slice a' (A.length + B.length) c') (kcells A ++ kcells B) ∧ w.grownBy w' (Value.slice a1 A.length c1).ownBlock ∧ (∀ b, (Value.slice a' (A.length + B.length) c').ownBlock = some b → (Value.slice a1 A.length c1).ownBlock = some b ∨ w.heap.size ≤ b) := by
    cases a2 with
    | none =>
      have hB0 : B = [] := by
        cases B with
        | nil => rfl
        | cons y B => obtain ⟨b, off, e⟩ := hB.some (by simp); cases e
      subst hB0
      refine ⟨a1, c1, w, ?_, ?_, ⟨rfl, rfl, rfl, Nat.le_refl _, fun _ _ _ => rfl⟩, fun b hb => .inl hb⟩
      · exact run_appNil w _ _ _ Try.underlying35 _ 1 16 infoStr a1 A.length c1 c2 hA.row'.2.1.hcap
      · simpa [kcells] using hA
    | some ad =>
      have hnews : ∀ j u, (B.map (fun r => Value.string r.key))[j]? = some u → w.cell? (ad.add j) = some u := by
        intro j u hu
        obtain ⟨hj, rfl⟩ := List.getElem?_eq_some_iff.1 hu
        have hj' : j < B.length := by simpa using hj
        obtain ⟨b, off, e⟩ := hB.some (by omega)
        simp only [Option.some.injEq] at e
        subst e
        have ea : (⟨b, off, none⟩ : Addr).add j = ⟨b, off + j, none⟩ := by simp only [Addr.add]; split <;> simp_all
        rw [ea, cell_one hB j hj', gq_get B j hj']
        simp
      obtain ⟨a', c', w', r1, r2, r3, r4⟩ := run_appR w 35 o.type 9 Try.underlying35 _ 1 16 infoStr rfl (by decide) base _ _ _ hown ad B.length c2 (B.map (fun r => Value.string r.key)) (by simp) hnews (by simp [Value.oneCell']) (by simp only [maxLen]; omega) (by omega) hbase
      refine ⟨a', c', w', r1, ?_, r3, r4⟩
      refine hA.add (L2 := kcells B) (by simp [kcells]) ?_
      have e : (kcells B).flatten = B.map (fun r => Value.string r.key) := by
        exact flat_one B
      rw [e]
      simpa [kcells] using r2
  obtain ⟨a', c', w', hrun, k1, k2, k3⟩ := key
  unfold Oper.wp execOp
  simp only [ho, resolve, invoke, builtin, Sem.run_bind, Sem.run_pure, Result.andThen_ok, List.map_toArray, List.map_cons, List.map_nil, hes, hx, hrun]
  exact hK _ _ (h a' c' w' k1 k2 k3)
theorem Q2.dueP2 {w w1 w2 : World} {bp bq : Nat} {hp hq : QH} {Lp Lq A R : List QR} {v : Value} (h : Q2 w w1 bp hp Lp bq hq Lq) (s : DueIs w1 w2 bp hp A R v) :
    ∃ a c hp', v = .slice a A.length c ∧ OwnS w2 w1.heap.size 9 1 (.slice a A.length c) (kcells A) ∧ (∀ k, footQ bp hp' k → footQ bp hp k ∨ w1.heap.size ≤ k) ∧ Q2 w w2 bp hp' R bq hq Lq ∧ Touch w1 w2 (footQ bp hp) := by
  obtain ⟨a, c, h1, rfl, ho, q, t, f, d⟩ := s
  refine ⟨a, c, h1, rfl, ho, f, ⟨⟨q, h.p.t.trans t (fun k hk hf => by have := h.p.f k hf; omega), fun k hk => ?_⟩, h.q.touch t (fun k hk hf => h.ap k hf hk) (fun k hk hf => by have := h.p.f k hf; omega), fun k hk hf => ?_⟩, t⟩
  · rcases f k hk with h2 | h2
    · exact h.p.f k h2
    · exact Nat.le_trans h.p.t.size h2
  · rcases f k hk with h2 | h2
    · exact h.ap k h2 hf
    · have := h.q.q.footlt k hf; omega
theorem own_not {w : World} {base n c : Nat} {a : Option Addr} {L : List (List Value)} (_ : OwnS w base 9 1 (.slice a n c) L) {S : Nat → Prop} (h : ∀ y, a = some y → ¬ S y.block) : ∀ x, (Value.slice a n c).ownBlock = some x → ¬ S x := by
  intro x hx
  cases a with
  | none => simp [Value.ownBlock] at hx
  | some y =>
    have e : y.block = x := by simpa [Value.ownBlock] using hx
    subst e
    exact h y rfl
/-- In a row by time: up to X, then up to Y, is up to Y. -/
theorem due_due {L : List QR} (hs : SortQ L) {X Y : Int} (h : X ≤ Y) : dueQ L X ++ dueQ (restQ L X) Y = dueQ L Y ∧ restQ (restQ L X) Y = restQ L Y := by
  have hA : ∀ r ∈ dueQ L X, r.time ≤ Y := fun r hr => Int.le_trans (due_le L r hr) h
  have e : L = dueQ L X ++ restQ L X := (List.takeWhile_append_dropWhile).symm
  have h2 : dueQ (dueQ L X ++ restQ L X) Y = dueQ L X ++ dueQ (restQ L X) Y ∧ restQ (dueQ L X ++ restQ L X) Y = restQ (restQ L X) Y := by
    generalize dueQ L X = A at hA
    generalize restQ L X = R
    clear e hs
    induction A with
    | nil => exact ⟨rfl, rfl⟩
    | cons x A ih =>
      obtain ⟨i1, i2⟩ := ih (fun r hr => hA r (List.mem_cons_of_mem _ hr))
      have hx := hA x List.mem_cons_self
      unfold dueQ restQ at *
      rw [List.cons_append, List.takeWhile_cons, List.dropWhile_cons, if_pos (by simpa using hx), if_pos (by simpa using hx), i1, i2]
      exact ⟨rfl, rfl⟩
  rw [← e] at h2
  exact ⟨h2.1.symm, h2.2.symm⟩
set_option maxRecDepth 20000 in
set_option maxHeartbeats 8000000 in
theorem parts_in (w : World) (a : Option Addr) (cap : Nat) (l : List CallQ) (hr : RowS w a l.length cap 3 (l.map CallQ.cells)) (hok : ∀ c ∈ l, CallOk c) (x y : Int) :
    Calls Try.prog 8 #[.slice a l.length cap, .int .i64 x, .int .i64 y] w fun e w' => e = .returned (.bool true) ∧ Below w.heap.size w w' := by
  obtain ⟨n, hn⟩ : ∃ n, l.length = n := ⟨_, rfl⟩
  rw [hn] at hr ⊢
  have hcap := hr.hcap
  have hmax := hr.hmax
  have HR := Lib.hid hr
  have HOK := Lib.hid hok
  clear hr hok
  obtain ⟨X0, hX⟩ : ∃ M, wrap64 ((IntKind.u64.wrap x).tmod 100) = M := ⟨_, rfl⟩
  obtain ⟨Y0, hY⟩ : ∃ M, wrap64 ((IntKind.u64.wrap y).tmod 100) = M := ⟨_, rfl⟩
  have hX01 := modwP x 100 (by omega) (by omega)
  have hY01 := modwP y 100 (by omega) (by omega)
  rw [hX] at hX01
  rw [hY] at hY01
  have HX := Lib.hid hX
  have HY := Lib.hid hY
  clear hX hY
  go_enter Try.func8, Try.ntmps8
  go_upto_region 2 with (fail)
  rw [HX.out, HY.out]
  clear HX HY
  by_cases hgt : Y0 < X0
  case pos =>
    have hXY : Y0 ≤ X0 := by omega
    go_upto_region 4 with (fail)
    go_wp2_with fail
    refine (qnew_any w).mono ?_
    rintro e w0 ⟨rfl, q0, t0, f0⟩
    have N0 := Lib.hid (QN.new (Touch.refl w _) q0 t0 f0)
    clear q0 t0 f0
    obtain ⟨b1, hb1⟩ : ∃ b1, w.heap.size = b1 := ⟨_, rfl⟩
    rw [hb1] at N0 ⊢
    have HB1 := Lib.hid hb1
    clear hb1
    go_wp2_with fail
    refine (qnew_any w0).mono ?_
    rintro e w1 ⟨rfl, q1, t1, f1⟩
    have N1 := Lib.hid (Q2.new N0.out q1 t1 f1)
    clear q1 t1 f1 N0
    generalize w0.heap.size = b2 at *
    go_wp2_with fail
    go_loopw [29] (fun s29 wr => ∃ (k : Nat) (L : List QR) (hp hq : QH), k ≤ n ∧ s29 = .int .i64 k ∧ Q2 w wr b1 hp L b2 hq L ∧ L.length ≤ k ∧ L.length ≤ 60) (fun s29 _ => n - (intOf s29).toNat)
    case atStart => exact ⟨0, [], _, _, Nat.zero_le _, rfl, N1.out, Nat.le_refl _, by simp⟩
    case round =>
      obtain ⟨k, L, hp, hq, hkn, rfl, hq2, hLk, hL60⟩ := hrel
      have HQX := Lib.hid hq2
      clear hq2 N1
      by_cases hlt : k < n
      case neg =>
        obtain rfl : n = k := by omega
        have HDD := Lib.hid (due_due HQX.out.p.q.1 (X := Y0) (Y := X0) hXY)
        have HU1 := Lib.hid (qdue_any wr b1 _ _ HQX.out.p.q Y0)
        go_upto_region 12 with (fail)
        go_wp2_with fail
        (with_reducible refine HU1.out.mono ?_)
        rintro e x1 ⟨v1, rfl, s1⟩
        obtain ⟨a1, c1, hp1, rfl, ho1, hd1, n1, t1⟩ := HQX.out.dueP s1
        have hsz1 := t1.size
        have HU2 := Lib.hid (qdue_any x1 b1 _ _ n1.p.q X0)
        have N1 := Lib.hid n1
        have HO1 := Lib.hid ho1
        have HD1 := Lib.hid hd1
        clear s1 n1 ho1 hd1 t1
        go_wp2_with fail
        (with_reducible refine HU2.out.mono ?_)
        rintro e x2 ⟨v2, rfl, s2⟩
        obtain ⟨a2, c2, hp2, rfl, ho2, hf2, n2, t2⟩ := N1.out.dueP2 s2
        have hl12 : (dueQ L Y0).length + (dueQ (restQ L Y0) X0).length ≤ 60 := by
          rw [← List.length_append, HDD.out.1]
          have := due_len L (X0)
          omega
        have HOA : RowKit.Hid (OwnS x2 wr.heap.size 9 1 (.slice a1 (dueQ L Y0).length c1) (kcells (dueQ L Y0))) := Lib.hid (HO1.out.touch t2 (fun x hx => own_not HO1.out (fun y hy => (HD1.out y hy).1) x hx))
        have HRB : RowKit.Hid (RowS x2 a2 (dueQ (restQ L Y0) X0).length c2 1 (kcells (dueQ (restQ L Y0) X0))) := Lib.hid ho2.row'.2.1
        have HNB : RowKit.Hid (∀ x, (Value.slice a1 (dueQ L Y0).length c1).ownBlock = some x → ¬ footQ b1 hp2 x ∧ ¬ footQ b2 hq x ∧ w.heap.size ≤ x) := Lib.hid (fun x hx => by
          have hlt := HO1.out.own.lt x hx
          refine ⟨fun hf => ?_, own_not HO1.out (fun y hy => (HD1.out y hy).2) x hx, Nat.le_trans HQX.out.p.t.size hlt.1⟩
          rcases hf2 x hf with h | h
          · exact own_not HO1.out (fun y hy => (HD1.out y hy).1) x hx h
          · omega)
        have HBX : RowKit.Hid (wr.heap.size ≤ x2.heap.size) := Lib.hid (Nat.le_trans hsz1 t2.size)
        have N2 := Lib.hid n2
        clear s2 n2 t2 ho2 hf2
        go_upto_region 13 with (at_builtin; (with_reducible refine wp_app2 HOA.out HRB.out hl12 HBX.out rfl _ _ rfl rfl rfl ?_); intro a3 c3 x3 ho3 hg3 hp3; have HO3 := Lib.hid ho3; have HG3 := Lib.hid hg3; have HP3 := Lib.hid hp3; clear ho3 hg3 hp3)
        have HT3 : RowKit.Hid (Touch x2 x3 (fun k => (Value.slice a1 (dueQ L Y0).length c1).ownBlock = some k)) := Lib.hid ((Touch.refl x2 _).grown HG3.out (fun k hk _ => hk))
        have N3 : RowKit.Hid (Q2 w x3 b1 hp2 (restQ (restQ L Y0) X0) b2 hq L) := Lib.hid (N2.out.touch HT3.out (fun k hf e => (HNB.out k e).1 hf) (fun k hf e => (HNB.out k e).2.1 hf) (fun k hk e => by have := (HNB.out k e).2.2; omega))
        have HNC : RowKit.Hid (∀ x, (Value.slice a3 ((dueQ L Y0).length + (dueQ (restQ L Y0) X0).length) c3).ownBlock = some x → ¬ footQ b2 hq x) := Lib.hid (fun x hx hf => by
          rcases HP3.out x hx with h | h
          · exact (HNB.out x h).2.1 hf
          · have := N2.out.q.q.footlt x hf; omega)
        have HU3 := Lib.hid (qdue_any x3 b2 _ _ N3.out.q.q X0)
        clear HT3 HNB HP3 HG3
        go_wp2_with fail
        (with_reducible refine HU3.out.mono ?_)
        rintro e x4 ⟨v4, rfl, s4⟩
        obtain ⟨a4, c4, hq4, rfl, ho4, -, n4, t4⟩ := N3.out.dueQ' s4
        have HO4 : RowKit.Hid (OwnS x4 wr.heap.size 9 1 (.slice a3 ((dueQ L Y0).length + (dueQ (restQ L Y0) X0).length) c3) (kcells (dueQ L X0))) := Lib.hid (by
          have h := HO3.out.touch t4 (fun x hx => HNC.out x hx)
          unfold kcells at h ⊢
          rw [← List.map_append, HDD.out.1] at h
          exact h)
        have hld : (dueQ L Y0).length + (dueQ (restQ L Y0) X0).length = (dueQ L X0).length := by rw [← List.length_append, HDD.out.1]
        rw [hld] at HO4 hl12 ⊢
        have HSM := Lib.hid (same_any x4 a3 a4 _ c3 _ c4 (dueQ L X0) (dueQ L X0) HO4.out.row'.2.1 ho4.row'.2.1 rfl rfl (by omega) (by omega))
        rw [decide_eq_true rfl] at HSM
        rw [HDD.out.2] at n4
        have N4 := Lib.hid n4
        clear s4 n4 t4 ho4
        go_wp2_with fail
        (with_reducible refine HSM.out.mono ?_)
        rintro e x5 ⟨rfl, t5⟩
        have n5 := N4.out.still t5
        have HL1 := Lib.hid (qlen_any x5 b1 _ _ n5.p.q)
        have HL2 := Lib.hid (qlen_any x5 b2 _ _ n5.q.q)
        have HT5 := Lib.hid n5.p.t
        clear t5 n5
        go_wp2_with fail
        (with_reducible refine HL1.out.mono ?_)
        rintro e w' ⟨rfl, rfl⟩
        go_wp2_with fail
        (with_reducible refine HL2.out.mono ?_)
        rintro e w' ⟨rfl, rfl⟩
        go_wp2_with fail
        refine (awake10 x5).mono ?_
        rintro e x7 ⟨rfl, t7⟩
        have HT7 := Lib.hid (HT5.out.trans t7 (fun _ _ h => h))
        clear t7
        go_wp2_with fail
        go_ret
        exact ⟨rfl, HT7.out.below (fun _ _ h => h.elim) (Nat.le_refl _)⟩
      case pos =>
        have HRX := Lib.hid (HR.out.still HQX.out.p.t)
        obtain ⟨g, off, rfl⟩ := HRX.out.some (by omega)
        obtain ⟨d0, d1, d2⟩ := call_cells HRX.out k (by omega)
        obtain ⟨ok1, ok2, ok3⟩ := HOK.out _ (gc_mem l k (by omega))
        generalize gc l k = cc at *
        obtain ⟨W2, hW2⟩ : ∃ W, wr.alloc (.cells #[.int .i64 cc.do_, .string cc.key, .int .i64 cc.at_] 30) = W := ⟨_, rfl⟩
        have t2 : Touch wr W2 (fun _ => False) := hW2 ▸ (Touch.refl wr _).alloc _
        have g2 : W2.heap[wr.heap.size]? = some (.cells #[.int .i64 cc.do_, .string cc.key, .int .i64 cc.at_] 30 (0, 0)) := hW2 ▸ heap_alloc_new ..
        have HQ2 := Lib.hid (HQX.out.still t2)
        have HG2 := Lib.hid g2
        have HW2 := Lib.hid hW2
        have hlI : (k : Int) < n := by omega
        clear t2 g2 hW2
        have HEND : RowKit.Hid (∀ W (L' : List QR) hp' hq', Q2 w W b1 hp' L' b2 hq' L' → L'.length ≤ L.length + 1 → L'.length ≤ 60 → ∃ (k' : Nat) (L'' : List QR) (hp'' hq'' : QH), k' ≤ n ∧ Value.int .i64 ((k : Int) + 1) = .int .i64 k' ∧ Q2 w W b1 hp'' L'' b2 hq'' L'' ∧ L''.length ≤ k' ∧ L''.length ≤ 60) := Lib.hid (fun W L' hp' hq' q hl hn => ⟨k + 1, L', hp', hq', by omega, by go_num, q, by omega, hn⟩)
        have c1 : W2.cell? ⟨wr.heap.size, 1, none⟩ = some (.string cc.key) := cell_of_cells HG2.out 1
        have c2 : W2.cell? ⟨wr.heap.size, 2, none⟩ = some (.int .i64 cc.at_) := cell_of_cells HG2.out 2
        go_upto_region 8 with (fail)
        rw [HW2.out]
        clear d0 d1 d2
        by_cases h60 : k < 60
        case neg =>
          have h60' : ¬ (k : Int) < 60 := by omega
          go_wp2_with fail
          go_roundw
          · exact HEND.out _ _ _ _ HQ2.out (by omega) hL60
          · simp only [intOf]; omega
        case pos =>
          have h60' : (k : Int) < 60 := by omega
          have HS1 := Lib.hid (qset_any W2 b1 _ _ HQ2.out.p.q cc.key ok1 (wrap64 ((IntKind.u64.wrap cc.at_).tmod 100)))
          go_wp2_with fail
          (with_reducible refine HS1.out.mono ?_)
          rintro e x1 ⟨rfl, s1⟩
          obtain ⟨hp1, n1, t1⟩ := HQ2.out.stepP s1
          have g1 := t1.keeps HG2.out (fun hf => by have := HQX.out.p.q.footlt _ hf; omega)
          have e1 : x1.cell? ⟨wr.heap.size, 1, none⟩ = some (.string cc.key) := cell_of_cells g1 1
          have e2 : x1.cell? ⟨wr.heap.size, 2, none⟩ = some (.int .i64 cc.at_) := cell_of_cells g1 2
          have HS2 := Lib.hid (qset_any x1 b2 _ _ n1.q.q cc.key ok1 (wrap64 ((IntKind.u64.wrap cc.at_).tmod 100)))
          have N1 := Lib.hid n1
          clear s1 n1 t1 g1 c1 c2
          go_wp2_with fail
          (with_reducible refine HS2.out.mono ?_)
          rintro e x2 ⟨rfl, s2⟩
          obtain ⟨hq2, n2, -⟩ := N1.out.stepQ s2
          have HX := Lib.hid (HEND.out _ _ _ _ n2 (set_length L cc.key _) (by have := set_length L cc.key (wrap64 ((IntKind.u64.wrap cc.at_).tmod 100)); omega))
          clear s2 n2
          go_wp2_with fail
          go_roundw
          · exact HX.out
          · simp only [intOf]; omega
  case neg =>
    have hXY : X0 ≤ Y0 := by omega
    go_upto_region 4 with (fail)
    go_wp2_with fail
    refine (qnew_any w).mono ?_
    rintro e w0 ⟨rfl, q0, t0, f0⟩
    have N0 := Lib.hid (QN.new (Touch.refl w _) q0 t0 f0)
    clear q0 t0 f0
    obtain ⟨b1, hb1⟩ : ∃ b1, w.heap.size = b1 := ⟨_, rfl⟩
    rw [hb1] at N0 ⊢
    have HB1 := Lib.hid hb1
    clear hb1
    go_wp2_with fail
    refine (qnew_any w0).mono ?_
    rintro e w1 ⟨rfl, q1, t1, f1⟩
    have N1 := Lib.hid (Q2.new N0.out q1 t1 f1)
    clear q1 t1 f1 N0
    generalize w0.heap.size = b2 at *
    go_wp2_with fail
    go_loopw [29] (fun s29 wr => ∃ (k : Nat) (L : List QR) (hp hq : QH), k ≤ n ∧ s29 = .int .i64 k ∧ Q2 w wr b1 hp L b2 hq L ∧ L.length ≤ k ∧ L.length ≤ 60) (fun s29 _ => n - (intOf s29).toNat)
    case atStart => exact ⟨0, [], _, _, Nat.zero_le _, rfl, N1.out, Nat.le_refl _, by simp⟩
    case round =>
      obtain ⟨k, L, hp, hq, hkn, rfl, hq2, hLk, hL60⟩ := hrel
      have HQX := Lib.hid hq2
      clear hq2 N1
      by_cases hlt : k < n
      case neg =>
        obtain rfl : n = k := by omega
        have HDD := Lib.hid (due_due HQX.out.p.q.1 (X := X0) (Y := Y0) hXY)
        have HU1 := Lib.hid (qdue_any wr b1 _ _ HQX.out.p.q X0)
        go_upto_region 12 with (fail)
        go_wp2_with fail
        (with_reducible refine HU1.out.mono ?_)
        rintro e x1 ⟨v1, rfl, s1⟩
        obtain ⟨a1, c1, hp1, rfl, ho1, hd1, n1, t1⟩ := HQX.out.dueP s1
        have hsz1 := t1.size
        have HU2 := Lib.hid (qdue_any x1 b1 _ _ n1.p.q Y0)
        have N1 := Lib.hid n1
        have HO1 := Lib.hid ho1
        have HD1 := Lib.hid hd1
        clear s1 n1 ho1 hd1 t1
        go_wp2_with fail
        (with_reducible refine HU2.out.mono ?_)
        rintro e x2 ⟨v2, rfl, s2⟩
        obtain ⟨a2, c2, hp2, rfl, ho2, hf2, n2, t2⟩ := N1.out.dueP2 s2
        have hl12 : (dueQ L X0).length + (dueQ (restQ L X0) Y0).length ≤ 60 := by
          rw [← List.length_append, HDD.out.1]
          have := due_len L (Y0)
          omega
        have HOA : RowKit.Hid (OwnS x2 wr.heap.size 9 1 (.slice a1 (dueQ L X0).length c1) (kcells (dueQ L X0))) := Lib.hid (HO1.out.touch t2 (fun x hx => own_not HO1.out (fun y hy => (HD1.out y hy).1) x hx))
        have HRB : RowKit.Hid (RowS x2 a2 (dueQ (restQ L X0) Y0).length c2 1 (kcells (dueQ (restQ L X0) Y0))) := Lib.hid ho2.row'.2.1
        have HNB : RowKit.Hid (∀ x, (Value.slice a1 (dueQ L X0).length c1).ownBlock = some x → ¬ footQ b1 hp2 x ∧ ¬ footQ b2 hq x ∧ w.heap.size ≤ x) := Lib.hid (fun x hx => by
          have hlt := HO1.out.own.lt x hx
          refine ⟨fun hf => ?_, own_not HO1.out (fun y hy => (HD1.out y hy).2) x hx, Nat.le_trans HQX.out.p.t.size hlt.1⟩
          rcases hf2 x hf with h | h
          · exact own_not HO1.out (fun y hy => (HD1.out y hy).1) x hx h
          · omega)
        have HBX : RowKit.Hid (wr.heap.size ≤ x2.heap.size) := Lib.hid (Nat.le_trans hsz1 t2.size)
        have N2 := Lib.hid n2
        clear s2 n2 t2 ho2 hf2
        go_upto_region 13 with (at_builtin; (with_reducible refine wp_app2 HOA.out HRB.out hl12 HBX.out rfl _ _ rfl rfl rfl ?_); intro a3 c3 x3 ho3 hg3 hp3; have HO3 := Lib.hid ho3; have HG3 := Lib.hid hg3; have HP3 := Lib.hid hp3; clear ho3 hg3 hp3)
        have HT3 : RowKit.Hid (Touch x2 x3 (fun k => (Value.slice a1 (dueQ L X0).length c1).ownBlock = some k)) := Lib.hid ((Touch.refl x2 _).grown HG3.out (fun k hk _ => hk))
        have N3 : RowKit.Hid (Q2 w x3 b1 hp2 (restQ (restQ L X0) Y0) b2 hq L) := Lib.hid (N2.out.touch HT3.out (fun k hf e => (HNB.out k e).1 hf) (fun k hf e => (HNB.out k e).2.1 hf) (fun k hk e => by have := (HNB.out k e).2.2; omega))
        have HNC : RowKit.Hid (∀ x, (Value.slice a3 ((dueQ L X0).length + (dueQ (restQ L X0) Y0).length) c3).ownBlock = some x → ¬ footQ b2 hq x) := Lib.hid (fun x hx hf => by
          rcases HP3.out x hx with h | h
          · exact (HNB.out x h).2.1 hf
          · have := N2.out.q.q.footlt x hf; omega)
        have HU3 := Lib.hid (qdue_any x3 b2 _ _ N3.out.q.q Y0)
        clear HT3 HNB HP3 HG3
        go_wp2_with fail
        (with_reducible refine HU3.out.mono ?_)
        rintro e x4 ⟨v4, rfl, s4⟩
        obtain ⟨a4, c4, hq4, rfl, ho4, -, n4, t4⟩ := N3.out.dueQ' s4
        have HO4 : RowKit.Hid (OwnS x4 wr.heap.size 9 1 (.slice a3 ((dueQ L X0).length + (dueQ (restQ L X0) Y0).length) c3) (kcells (dueQ L Y0))) := Lib.hid (by
          have h := HO3.out.touch t4 (fun x hx => HNC.out x hx)
          unfold kcells at h ⊢
          rw [← List.map_append, HDD.out.1] at h
          exact h)
        have hld : (dueQ L X0).length + (dueQ (restQ L X0) Y0).length = (dueQ L Y0).length := by rw [← List.length_append, HDD.out.1]
        rw [hld] at HO4 hl12 ⊢
        have HSM := Lib.hid (same_any x4 a3 a4 _ c3 _ c4 (dueQ L Y0) (dueQ L Y0) HO4.out.row'.2.1 ho4.row'.2.1 rfl rfl (by omega) (by omega))
        rw [decide_eq_true rfl] at HSM
        rw [HDD.out.2] at n4
        have N4 := Lib.hid n4
        clear s4 n4 t4 ho4
        go_wp2_with fail
        (with_reducible refine HSM.out.mono ?_)
        rintro e x5 ⟨rfl, t5⟩
        have n5 := N4.out.still t5
        have HL1 := Lib.hid (qlen_any x5 b1 _ _ n5.p.q)
        have HL2 := Lib.hid (qlen_any x5 b2 _ _ n5.q.q)
        have HT5 := Lib.hid n5.p.t
        clear t5 n5
        go_wp2_with fail
        (with_reducible refine HL1.out.mono ?_)
        rintro e w' ⟨rfl, rfl⟩
        go_wp2_with fail
        (with_reducible refine HL2.out.mono ?_)
        rintro e w' ⟨rfl, rfl⟩
        go_wp2_with fail
        refine (awake10 x5).mono ?_
        rintro e x7 ⟨rfl, t7⟩
        have HT7 := Lib.hid (HT5.out.trans t7 (fun _ _ h => h))
        clear t7
        go_wp2_with fail
        go_ret
        exact ⟨rfl, HT7.out.below (fun _ _ h => h.elim) (Nat.le_refl _)⟩
      case pos =>
        have HRX := Lib.hid (HR.out.still HQX.out.p.t)
        obtain ⟨g, off, rfl⟩ := HRX.out.some (by omega)
        obtain ⟨d0, d1, d2⟩ := call_cells HRX.out k (by omega)
        obtain ⟨ok1, ok2, ok3⟩ := HOK.out _ (gc_mem l k (by omega))
        generalize gc l k = cc at *
        obtain ⟨W2, hW2⟩ : ∃ W, wr.alloc (.cells #[.int .i64 cc.do_, .string cc.key, .int .i64 cc.at_] 30) = W := ⟨_, rfl⟩
        have t2 : Touch wr W2 (fun _ => False) := hW2 ▸ (Touch.refl wr _).alloc _
        have g2 : W2.heap[wr.heap.size]? = some (.cells #[.int .i64 cc.do_, .string cc.key, .int .i64 cc.at_] 30 (0, 0)) := hW2 ▸ heap_alloc_new ..
        have HQ2 := Lib.hid (HQX.out.still t2)
        have HG2 := Lib.hid g2
        have HW2 := Lib.hid hW2
        have hlI : (k : Int) < n := by omega
        clear t2 g2 hW2
        have HEND : RowKit.Hid (∀ W (L' : List QR) hp' hq', Q2 w W b1 hp' L' b2 hq' L' → L'.length ≤ L.length + 1 → L'.length ≤ 60 → ∃ (k' : Nat) (L'' : List QR) (hp'' hq'' : QH), k' ≤ n ∧ Value.int .i64 ((k : Int) + 1) = .int .i64 k' ∧ Q2 w W b1 hp'' L'' b2 hq'' L'' ∧ L''.length ≤ k' ∧ L''.length ≤ 60) := Lib.hid (fun W L' hp' hq' q hl hn => ⟨k + 1, L', hp', hq', by omega, by go_num, q, by omega, hn⟩)
        have c1 : W2.cell? ⟨wr.heap.size, 1, none⟩ = some (.string cc.key) := cell_of_cells HG2.out 1
        have c2 : W2.cell? ⟨wr.heap.size, 2, none⟩ = some (.int .i64 cc.at_) := cell_of_cells HG2.out 2
        go_upto_region 8 with (fail)
        rw [HW2.out]
        clear d0 d1 d2
        by_cases h60 : k < 60
        case neg =>
          have h60' : ¬ (k : Int) < 60 := by omega
          go_wp2_with fail
          go_roundw
          · exact HEND.out _ _ _ _ HQ2.out (by omega) hL60
          · simp only [intOf]; omega
        case pos =>
          have h60' : (k : Int) < 60 := by omega
          have HS1 := Lib.hid (qset_any W2 b1 _ _ HQ2.out.p.q cc.key ok1 (wrap64 ((IntKind.u64.wrap cc.at_).tmod 100)))
          go_wp2_with fail
          (with_reducible refine HS1.out.mono ?_)
          rintro e x1 ⟨rfl, s1⟩
          obtain ⟨hp1, n1, t1⟩ := HQ2.out.stepP s1
          have g1 := t1.keeps HG2.out (fun hf => by have := HQX.out.p.q.footlt _ hf; omega)
          have e1 : x1.cell? ⟨wr.heap.size, 1, none⟩ = some (.string cc.key) := cell_of_cells g1 1
          have e2 : x1.cell? ⟨wr.heap.size, 2, none⟩ = some (.int .i64 cc.at_) := cell_of_cells g1 2
          have HS2 := Lib.hid (qset_any x1 b2 _ _ n1.q.q cc.key ok1 (wrap64 ((IntKind.u64.wrap cc.at_).tmod 100)))
          have N1 := Lib.hid n1
          clear s1 n1 t1 g1 c1 c2
          go_wp2_with fail
          (with_reducible refine HS2.out.mono ?_)
          rintro e x2 ⟨rfl, s2⟩
          obtain ⟨hq2, n2, -⟩ := N1.out.stepQ s2
          have HX := Lib.hid (HEND.out _ _ _ _ n2 (set_length L cc.key _) (by have := set_length L cc.key (wrap64 ((IntKind.u64.wrap cc.at_).tmod 100)); omega))
          clear s2 n2
          go_wp2_with fail
          go_roundw
          · exact HX.out
          · simp only [intOf]; omega
theorem dueParts_holds : Rows.DuePartsSaid := by
  refine dueParts.said fun H enc W base v0 v1 v2 d0 d1 d2 p0 p1 p2 h0 h1 h2 => ?_
  obtain ⟨a, cap, l, rfl, hr, hok⟩ := h0.callsQ
  obtain ⟨x, rfl, _⟩ := h1.i64 Try.underlying2
  obtain ⟨y, rfl, _⟩ := h2.i64 Try.underlying2
  exact parts_in W a cap l hr hok x y
end Go.Proofs.Ytdjkjdeaglimeaa
