/- JE: RfIm, RfT, RfI, FrM. -/
import Derived.Test.YtgmimdnebgncoaaGreatJAZ
import Derived.Test.YtgmimdnebgncoaaGreatGFZ
import Derived.Test.YtgmimdnebgncoaaGreatGIZ
import Derived.Test.YtgmimdnebgncoaaGreatGHZ
import Derived.Test.YtgmimdnebgncoaaGreatHAZ
import Derived.Test.YtgmimdnebgncoaaGreatGMZ
section
/- Idle flows in their order: as the table has them and as the reference has them; pure. -/
set_option linter.unusedVariables false
set_option linter.unusedSimpArgs false
namespace Go.Proofs.YtgmimdnebgncoaaGreat
open Go.RowKit

def lexN : List Nat → List Nat → Bool
  | _, [] => false
  | [], _ :: _ => true
  | x :: a, y :: b => decide (x < y) || (decide (x = y) && lexN a b)
theorem bl_lex : ∀ (a b : List Nat), (∀ x ∈ a, x < 256) → (∀ x ∈ b, x < 256) → blB (a.map UInt8.ofNat) (b.map UInt8.ofNat) = lexN a b
  | a, [], _, _ => by cases a <;> rfl
  | [], y :: b, _, _ => rfl
  | x :: a, y :: b, ha, hb => by
    have ih := bl_lex a b (fun z hz => ha z (List.mem_cons_of_mem _ hz)) (fun z hz => hb z (List.mem_cons_of_mem _ hz))
    have hx := ha x (List.mem_cons_self ..)
    have hy := hb y (List.mem_cons_self ..)
    unfold blB at ih ⊢
    simp only [List.map_cons, Op.bytesLess, lexN, ih]
    have e1 : decide (UInt8.ofNat x < UInt8.ofNat y) = decide (x < y) := by
      rw [Bool.eq_iff_iff, decide_eq_true_iff, decide_eq_true_iff, UInt8.lt_iff_toNat_lt, UInt8.toNat_ofNat', UInt8.toNat_ofNat']; omega
    have e2 : (UInt8.ofNat x == UInt8.ofNat y) = decide (x = y) := by
      rw [Bool.eq_iff_iff, beq_iff_eq, decide_eq_true_iff, ← UInt8.toNat_inj, UInt8.toNat_ofNat', UInt8.toNat_ofNat']; omega
    rw [e1, e2]
theorem lexN_pre : ∀ (p a b : List Nat), lexN (p ++ a) (p ++ b) = lexN a b
  | [], a, b => rfl
  | x :: p, a, b => by
    show (decide (x < x) || (decide (x = x) && lexN (p ++ a) (p ++ b))) = lexN a b
    rw [lexN_pre p a b]; simp
theorem lexN_4 {x y : Nat} (hx : x < 4294967296) (hy : y < 4294967296) (h : x < y) (a b : List Nat) : lexN (beB 4 x ++ a) (beB 4 y ++ b) = true := by
  simp only [beB, List.range_succ, List.range_zero, List.nil_append, List.map_append, List.map_cons, List.map_nil, List.cons_append, List.append_assoc, lexN, Bool.or_eq_true, Bool.and_eq_true, decide_eq_true_eq]
  simp only [Nat.reduceMul, Nat.reduceSub, Nat.reducePow, Nat.sub_zero, Nat.div_one]
  rw [show x / 65536 = x / 256 / 256 by omega, show y / 65536 = y / 256 / 256 by omega, show x / 16777216 = x / 256 / 256 / 256 by omega, show y / 16777216 = y / 256 / 256 / 256 by omega]
  omega
theorem lexN_1 {x y : Nat} (hx : x < 256) (hy : y < 256) (h : x < y) (a b : List Nat) : lexN (beB 1 x ++ a) (beB 1 y ++ b) = true := by
  simp only [beB, List.range_succ, List.range_zero, List.nil_append, List.map_append, List.map_cons, List.map_nil, List.cons_append, List.append_assoc, lexN, Bool.or_eq_true, Bool.and_eq_true, decide_eq_true_eq]
  simp only [Nat.reduceMul, Nat.reduceSub, Nat.reducePow, Nat.sub_zero]
  omega
theorem lexN_2 {x y : Nat} (hx : x < 65536) (hy : y < 65536) (h : x < y) (a b : List Nat) : lexN (beB 2 x ++ a) (beB 2 y ++ b) = true := by
  simp only [beB, List.range_succ, List.range_zero, List.nil_append, List.map_append, List.map_cons, List.map_nil, List.cons_append, List.append_assoc, lexN, Bool.or_eq_true, Bool.and_eq_true, decide_eq_true_eq]
  simp only [Nat.reduceMul, Nat.reduceSub, Nat.reducePow, Nat.sub_zero]
  omega
theorem may_bounds {t : TupD} (o : TupOk t) (m : mayTB t = true) : (0 ≤ t.src ∧ t.src < 4294967296) ∧ (0 ≤ t.dst ∧ t.dst < 4294967296) ∧ (0 ≤ t.proto ∧ t.proto < 256) ∧ (0 ≤ t.sport ∧ t.sport < 65536) ∧ 0 ≤ t.dport ∧ t.dport < 65536 := by
  have h1 := o.src
  have h2 := o.dst
  have h3 := (mayTB_iff t).1 m
  unfold u32 at h1 h2
  omega
/-- The keys of tuples that may be are in their tuples' order. -/
theorem key_less {a b : TupD} (oa : TupOk a) (ob : TupOk b) (ma : mayTB a = true) (mb : mayTB b = true) (h : lessT a b = true) : blB (kT a).toList (kT b).toList = true := by
  have e : ∀ t, (kT t).toList = (tbF t).map UInt8.ofNat := fun t => by unfold kT; rw [Lib.toList_data]; simp [strB]
  rw [e, e, bl_lex _ _ (tbF_lt a) (tbF_lt b)]
  rw [lessT_iff] at h
  have ba := may_bounds oa ma
  have bb := may_bounds ob mb
  obtain ⟨⟨a1, a2⟩, ⟨a3, a4⟩, ⟨a5, a6⟩, ⟨a7, a8⟩, a9, a10⟩ := ba
  obtain ⟨⟨b1, b2⟩, ⟨b3, b4⟩, ⟨b5, b6⟩, ⟨b7, b8⟩, b9, b10⟩ := bb
  unfold tbF
  simp only [List.append_assoc]
  have u : ∀ n : Int, 0 ≤ n → n < 4294967296 → u64N n = n.toNat := fun n h0 h1 => by unfold u64N; omega
  rw [u a.src a1 a2, u a.dst a3 a4, u a.proto a5 (by omega), u a.sport a7 (by omega), u a.dport a9 (by omega), u b.src b1 b2, u b.dst b3 b4, u b.proto b5 (by omega), u b.sport b7 (by omega), u b.dport b9 (by omega)]
  rcases h with h | ⟨e1, h⟩
  · exact lexN_4 (by omega) (by omega) (by omega) _ _
  rw [e1, lexN_pre]
  rcases h with h | ⟨e1, h⟩
  · exact lexN_4 (by omega) (by omega) (by omega) _ _
  rw [e1, lexN_pre]
  rcases h with h | ⟨e1, h⟩
  · exact lexN_1 (by omega) (by omega) (by omega) _ _
  rw [e1, lexN_pre]
  rcases h with h | ⟨e1, h⟩
  · exact lexN_2 (by omega) (by omega) (by omega) _ _
  rw [e1, lexN_pre]
  have := lexN_2 (x := a.dport.toNat) (y := b.dport.toNat) (by omega) (by omega) (by omega) [] []
  simpa using this
/-- By the time they were seen, then by tuple. -/
def ltS (a b : FlD) : Prop := a.fs < b.fs ∨ (a.fs = b.fs ∧ lessT a.t b.t = true)
def SortS (A : List FlD) : Prop := A.Pairwise ltS
theorem sortS_uniq {A B : List FlD} (h : A.Perm B) (hA : SortS A) (hB : SortS B) : A = B :=
  List.Perm.eq_of_pairwise (le := ltS) (fun a b _ _ h1 h2 => by
    exfalso
    unfold ltS at h1 h2
    rcases h1 with h1 | ⟨h1, h3⟩
    · rcases h2 with h2 | ⟨h2, _⟩ <;> omega
    · rcases h2 with h2 | ⟨_, h4⟩
      · omega
      · have := less_trans _ _ _ h3 h4
        rw [less_irr] at this; cases this) hA hB h
theorem sortS_put {O : List FlD} {d : FlD} {k : Nat} (hs : SortS O) (hk : k ≤ O.length) (h1 : ∀ j, k ≤ j → j < O.length → d.fs < (gf O j).fs) (h2 : k = 0 ∨ (gf O (k - 1)).fs ≤ d.fs) (h3 : ∀ x ∈ O, lessT x.t d.t = true) : SortS (O.take k ++ d :: O.drop k) := by
  have ht : SortS (O.take k ++ O.drop k) := by rw [List.take_append_drop]; exact hs
  unfold SortS at ht ⊢
  rw [List.pairwise_append] at ht ⊢
  obtain ⟨t1, t2, t3⟩ := ht
  have hlo : ∀ x ∈ O.take k, ltS x d := fun x hx => by
    obtain ⟨i, hi, rfl⟩ := List.getElem_of_mem hx
    have hik : i < k := by simp at hi; omega
    have hiO : i < O.length := by omega
    rw [List.getElem_take]
    have hb := h3 O[i] (List.getElem_mem _)
    have hu : O[i].fs ≤ d.fs := by
      rcases h2 with h2 | h2
      · omega
      · by_cases e : i = k - 1
        · subst e; rw [gf_get O _ (by omega)] at h2; exact h2
        · have h4 := List.pairwise_iff_getElem.1 hs i (k - 1) hiO (by omega) (by omega)
          rw [gf_get O _ (by omega)] at h2
          unfold ltS at h4
          omega
    unfold ltS
    rcases Int.lt_or_eq_of_le hu with hu | hu
    · exact .inl hu
    · exact .inr ⟨hu, hb⟩
  have hhi : ∀ x ∈ O.drop k, ltS d x := fun x hx => by
    obtain ⟨i, hi, rfl⟩ := List.getElem_of_mem hx
    have hiO : k + i < O.length := by simp at hi; omega
    rw [List.getElem_drop]
    have := h1 (k + i) (by omega) hiO
    rw [gf_get O _ hiO] at this
    exact .inl this
  refine ⟨t1, List.pairwise_cons.2 ⟨hhi, t2⟩, fun x hx y hy => ?_⟩
  rcases List.mem_cons.1 hy with rfl | hy
  · exact hlo x hx
  · exact t3 x hx y hy
theorem sortS_of {M : List FlD} (ok : MayF M) (h : SortQ (M.map qf)) : SortS M := by
  unfold SortQ at h
  rw [List.pairwise_map] at h
  refine (List.Pairwise.imp_of_mem ?_ h)
  intro a b ha hb hab
  rw [ltQ_iff] at hab
  rcases hab with hab | ⟨e, hk⟩
  · exact .inl hab
  · refine .inr ⟨e, ?_⟩
    obtain ⟨oa, ma⟩ := ok a ha
    obtain ⟨ob, mb⟩ := ok b hb
    cases hl : lessT a.t b.t with
    | true => rfl
    | false =>
      exfalso
      by_cases e2 : a.t = b.t
      · have hk' : blB (kT a.t).toList (kT b.t).toList = true := hk
        rw [e2, bl_irrefl] at hk'; cases hk'
      · have h2 := key_less ob oa (may_ok mb).1 (may_ok ma).1 (less_tot hl e2)
        have h3 := bl_trans _ _ _ hk h2
        have h4 := bl_irrefl (kT a.t).toList
        rw [show blB (qf a).key.toList (kT a.t).toList = blB (kT a.t).toList (kT a.t).toList from rfl, h4] at h3
        cases h3
theorem gone_filter {M : List FlD} (h : SortS M) (c : Int) : goneF M c = M.filter (fun d => decide (d.fs ≤ c)) ∧ leftF M c = M.filter (fun d => !decide (d.fs ≤ c)) := by
  induction M with
  | nil => exact ⟨rfl, rfl⟩
  | cons x r ih =>
    obtain ⟨h1, h2⟩ := List.pairwise_cons.1 h
    obtain ⟨i1, i2⟩ := ih h2
    unfold goneF at i1 ⊢
    unfold leftF at i2 ⊢
    rw [List.takeWhile_cons, List.dropWhile_cons, List.filter_cons, List.filter_cons]
    by_cases hx : x.fs ≤ c
    · simp only [hx, decide_true, Bool.not_true, if_true, Bool.false_eq_true, if_false]
      exact ⟨by rw [i1], i2⟩
    · have hr : ∀ y ∈ r, ¬ y.fs ≤ c := fun y hy => by
        have := h1 y hy
        unfold ltS at this
        omega
      simp only [hx, decide_false, Bool.not_false, if_true, Bool.false_eq_true, if_false]
      refine ⟨?_, ?_⟩
      · symm; rw [List.filter_eq_nil_iff]; intro y hy; simp [hr y hy]
      · congr 1; symm; rw [List.filter_eq_self]; intro y hy; simp [hr y hy]
/-- What the reference lets go, and what it keeps. -/
def goP (wait now : Int) (d : FlD) : Bool := !(decide (now < 0) || decide (now - wait < d.fs))
theorem take_fF {G : List FlD} {i : Nat} (hi : i < G.length) (p : FlD → Bool) : (G.take (i + 1)).filter p = if p (gf G i) then (G.take i).filter p ++ [gf G i] else (G.take i).filter p := by
  rw [List.take_succ_eq_append_getElem hi, List.filter_append, ← gf_get G i hi]
  by_cases h : p (gf G i) = true
  · rw [if_pos h]; simp [h]
  · rw [if_neg h]; simp [h]
theorem idle_both {M L : List FlD} (ok : MayF M) (hs : SortQ (M.map qf)) (hp : L.Perm M) {wait : Int} (hw : 1 ≤ wait) (now : Int) :
    (idleA M wait now).Perm (L.filter (goP wait now)) ∧ SortS (idleA M wait now) ∧ (idleR M wait now).Perm (L.filter (fun d => !goP wait now d)) := by
  have hsm := sortS_of ok hs
  unfold idleA idleR
  by_cases hn : now < wait
  · rw [if_pos hn, if_pos hn]
    have e : ∀ d ∈ L, goP wait now d = false := fun d hd => by
      have h0 := (may_ok (ok d (hp.mem_iff.1 hd)).2).2.2.2.1
      unfold goP
      simp only [Bool.not_eq_false', Bool.or_eq_true, decide_eq_true_eq]
      omega
    have e1 : L.filter (goP wait now) = [] := by rw [List.filter_eq_nil_iff]; intro d hd; rw [e d hd]; simp
    have e2 : L.filter (fun d => !goP wait now d) = L := by rw [List.filter_eq_self]; intro d hd; rw [e d hd]; rfl
    rw [e1, e2]
    exact ⟨.refl _, List.Pairwise.nil, hp.symm⟩
  · rw [if_neg hn, if_neg hn]
    obtain ⟨g1, g2⟩ := gone_filter hsm (now - wait)
    have e : ∀ d : FlD, goP wait now d = decide (d.fs ≤ now - wait) := fun d => by
      unfold goP
      rw [Bool.eq_iff_iff]
      simp only [Bool.not_eq_true', Bool.or_eq_false_iff, decide_eq_false_iff_not, decide_eq_true_eq]
      omega
    have e1 : goP wait now = fun d => decide (d.fs ≤ now - wait) := funext e
    rw [g1, g2, e1]
    exact ⟨(hp.filter _).symm, List.Pairwise.sublist List.filter_sublist hsm, (hp.filter _).symm⟩
end Go.Proofs.YtgmimdnebgncoaaGreat

end

section
/- The reference's flows: NewFlows, Touch, Of. -/
set_option linter.unusedVariables false
set_option linter.unusedSimpArgs false
namespace Go.Proofs.YtgmimdnebgncoaaGreat
open Go.RowKit

theorem geI_boolT (a b : Int) (c : Bool) (h : decide (a ≥ b) = c) (x y : Operand) (W : World) :
    (do eqGuard BinOp.geq 2 x y (.int .i64 a) (.int .i64 b); binOp BinOp.geq 2 (.int .i64 a) (.int .i64 b) : Sem Value).run Tryz.prog W = .ok (.bool c) W := by
  subst h
  go_simp
theorem enter_rtimeT (a : Value) (w : World) : (callFunc 30 #[a]).run Tryz.prog w = .ok (.enter 30 #[a]) w := by kernel_rfl
theorem min_runT (T : TypeId) (hT : Tryz.prog.underlying T = some (.int .i64)) (a b : Int) (W : World) : (Builtin.min_ #[T, T] T #[.int .i64 a, .int .i64 b]).run Tryz.prog W = .ok (.int .i64 (min a b)) W := by
  by_cases h : b < a
  · have e : min a b = b := by omega
    rw [e]
    go_simp
  · have e : min a b = a := by omega
    rw [e]
    go_simp
theorem max_runT (T : TypeId) (hT : Tryz.prog.underlying T = some (.int .i64)) (a b : Int) (W : World) : (Builtin.max_ #[T, T] T #[.int .i64 a, .int .i64 b]).run Tryz.prog W = .ok (.int .i64 (max a b)) W := by
  by_cases h : a < b
  · have e : max a b = b := by omega
    rw [e]
    go_simp
  · have e : max a b = a := by omega
    rw [e]
    go_simp
set_option maxRecDepth 20000 in
set_option maxHeartbeats 4000000 in
theorem rfnew_any (w : World) (most idle : Int) :
    Calls Tryz.prog 5 #[.int .i64 most, .int .i64 idle] w fun e w' => ∃ b, e = .returned (.pointer (some ⟨b, 0, none⟩)) ∧ RF w' b none 0 (min (max most 0) 256) (min (max idle 1) 1099511627776) [] ∧ Touch w w' (fun _ => False) ∧ w.heap.size ≤ b := by
  have m1 := fun W => min_runT 3 Tryz.underlying3 most 256 W
  have m2 := fun W => max_runT 3 Tryz.underlying3 0 (min most 256) W
  have m3 := fun W => min_runT 2 Tryz.underlying2 idle 1099511627776 W
  have m4 := fun W => max_runT 2 Tryz.underlying2 1 (min idle 1099511627776) W
  rw [show max 0 (min most 256) = min (max most 0) 256 by omega] at m2
  rw [show max 1 (min idle 1099511627776) = min (max idle 1) 1099511627776 by omega] at m4
  generalize min most 256 = z1 at *
  generalize min idle 1099511627776 = z2 at *
  generalize min (max most 0) 256 = z3 at *
  generalize min (max idle 1) 1099511627776 = z4 at *
  obtain ⟨W3, hW3⟩ : ∃ W, w.alloc (.cells #[.slice none 0 0, .int .i64 z3, .int .i64 z4] 30) = W := ⟨_, rfl⟩
  have t3 : Touch w W3 (fun _ => False) := hW3 ▸ (Touch.refl w _).alloc _
  have h3 : W3.heap[w.heap.size]? = some (.cells #[.slice none 0 0, .int .i64 z3, .int .i64 z4] 30 (0, 0)) := hW3 ▸ heap_alloc_new ..
  have HX : RowKit.Hid (RF W3 w.heap.size none 0 z3 z4 [] ∧ Touch w W3 (fun _ => False)) := Lib.hid ⟨⟨h3, RowS.nil _ _ _ _ (by omega), fun x hx => (by cases hx), .inl rfl⟩, t3⟩
  have HW3 := Lib.hid hW3
  clear t3 h3 hW3
  go_enter Tryz.func5, Tryz.ntmps5
  go_wp2_with fail
  rw [HW3.out]
  go_ret
  exact ⟨_, rfl, HX.out.1, HX.out.2, Nat.le_refl _⟩
/-- What Touch makes of the reference's row. -/
def rtouF (L : List FlD) (t : TupD) (now : Int) : List FlD := if touchB L t now = true then putL L ⟨t, (getF L t).fb, (getF L t).fg, now⟩ else L
set_option maxRecDepth 20000 in
set_option maxHeartbeats 8000000 in
theorem rftouch_any (w : World) (b : Nat) (a : Option Addr) (c : Nat) (most wait : Int) (L : List FlD) (q : RF w b a c most wait L) (hnd : (L.map FlD.t).Nodup) (hl : L.length ≤ 1000) (t : TupD) (now : Int) :
    Calls Tryz.prog 10 #[.pointer (some ⟨b, 0, none⟩), .agg (tcs t), .int .i64 now] w fun e w' => e = .returned (.bool (hasF L t)) ∧ RFStep w w' b a most wait (rtouF L t now) := by
  have hb := heap_lt q.head
  obtain ⟨W1, hW1⟩ : ∃ W, w.alloc (.cells (tcs t) 33) = W := ⟨_, rfl⟩
  obtain ⟨KT, hKT⟩ : ∃ k, w.heap.size = k := ⟨_, rfl⟩
  have t1 : Touch w W1 (fun _ => False) := hW1 ▸ (Touch.refl w _).alloc _
  have g1 : W1.heap[KT]? = some (.cells (tcs t) 33 (0, 0)) := hKT ▸ hW1 ▸ heap_alloc_new ..
  have HAT := Lib.hid (rfat_any W1 b a c most wait L (q.still t1) t)
  have HG1 := Lib.hid g1
  have HT1 := Lib.hid t1
  have HQ := Lib.hid (q.still t1)
  have HB := Lib.hid hb
  have HW1 := Lib.hid (And.intro hW1 hKT)
  have HRT : RowKit.Hid (rtouF L t now = if touchB L t now = true then putL L ⟨t, (getF L t).fb, (getF L t).fg, now⟩ else L) := Lib.hid rfl
  simp only [tcs] at HW1 HAT ⊢
  clear t1 g1 hW1 hKT hb
  go_enter Tryz.func10, Tryz.ntmps10
  go_upto_region 1 with (fail)
  rw [HW1.out.1, HW1.out.2]
  have y0 : W1.cell? ⟨KT, 0, none⟩ = some (.int .u32 t.src) := cell_of_cells HG1.out 0
  have y1 : W1.cell? ⟨KT, 1, none⟩ = some (.int .u32 t.dst) := cell_of_cells HG1.out 1
  have y2 : W1.cell? ⟨KT, 2, none⟩ = some (.int .i64 t.proto) := cell_of_cells HG1.out 2
  have y3 : W1.cell? ⟨KT, 3, none⟩ = some (.int .i64 t.sport) := cell_of_cells HG1.out 3
  have y4 : W1.cell? ⟨KT, 4, none⟩ = some (.int .i64 t.dport) := cell_of_cells HG1.out 4
  go_wp2_with fail
  (with_reducible refine HAT.out.mono ?_)
  rintro e wz ⟨rfl, t2⟩
  have HTZ := Lib.hid (HT1.out.trans t2 (fun _ _ h => h))
  have HQZ := Lib.hid (HQ.out.still t2)
  clear t2 y0 y1 y2 y3 y4
  cases hh : hasF L t with
  | false =>
    rw [idxL_neg hh]
    have HX : RowKit.Hid (RFStep w wz b a most wait (rtouF L t now)) := Lib.hid (by
      rw [HRT.out, if_neg (by unfold touchB; rw [hh]; simp)]
      exact ⟨a, c, HQZ.out, HTZ.out.mono (fun _ _ h => h.elim), fun y hy => .inr ⟨y, hy, rfl⟩⟩)
    have HH := Lib.hid hh
    clear hh
    go_wp2_with fail
    go_ret
    exact ⟨by rw [HH.out]; rfl, HX.out⟩
  | true =>
    obtain ⟨hk, hg, ht, hd⟩ := posL_get hnd hh
    obtain ⟨i, hi⟩ : ∃ i, posL L t = i := ⟨_, rfl⟩
    rw [show idxL L t = (i : Int) by unfold idxL; rw [if_pos hh, hi]]
    obtain ⟨n, hn⟩ : ∃ n, L.length = n := ⟨_, rfl⟩
    have hcap := HQZ.out.row.hcap
    have hmax := HQZ.out.row.hmax
    have hin : i < n := by rw [← hi, ← hn]; exact hk
    rw [hn] at hcap hl
    obtain ⟨g, off, hga⟩ := HQZ.out.row.some (by omega)
    subst hga
    have hgt : (getF L t).t = t := by rw [← hg]; exact ht
    have HCD : RowKit.Hid (∀ W, Touch wz W (fun _ => False) → W.cell? ⟨b, 0, none⟩ = some (.slice (some ⟨g, off, none⟩) n c) ∧ W.cell? ⟨g, off + i * 8 + 7, none⟩ = some (.int .i64 (getF L t).fs)) := Lib.hid (fun W x => by
      have h := x.keeps HQZ.out.head (fun h => h)
      rw [hn] at h
      have h2 := (row_flc (HQZ.out.row.still x) (posL L t) hk).2.2.2.2.2.2.2
      rw [hg, hi] at h2
      exact ⟨cell_of_cells h 0, h2⟩)
    have HCF : RowKit.Hid (∀ W, Touch wz W (fun _ => False) → W.cell? ⟨g, off + i * 8, none⟩ = some (.int .u32 (getF L t).t.src) ∧ W.cell? ⟨g, off + i * 8 + 1, none⟩ = some (.int .u32 (getF L t).t.dst) ∧ W.cell? ⟨g, off + i * 8 + 2, none⟩ = some (.int .i64 (getF L t).t.proto) ∧ W.cell? ⟨g, off + i * 8 + 3, none⟩ = some (.int .i64 (getF L t).t.sport) ∧ W.cell? ⟨g, off + i * 8 + 4, none⟩ = some (.int .i64 (getF L t).t.dport) ∧ W.cell? ⟨g, off + i * 8 + 5, none⟩ = some (.int .i64 (getF L t).fb) ∧ W.cell? ⟨g, off + i * 8 + 6, none⟩ = some (.int .i64 (getF L t).fg) ∧ W.cell? ⟨g, off + i * 8 + 7, none⟩ = some (.int .i64 (getF L t).fs)) := Lib.hid (fun W x => by
      have h2 := row_flc (HQZ.out.row.still x) (posL L t) hk
      rw [hg, hi] at h2
      exact h2)
    have HTB : RowKit.Hid (touchB L t now = (timB now && decide ((getF L t).fs ≤ now))) := Lib.hid (by unfold touchB; rw [hh]; rfl)
    have hi0 : ¬ (i : Int) < 0 := by omega
    have hinI : (i : Int) < n := by omega
    have hcc : 0 ≤ (i : Int) ∧ (i : Int) < n := by omega
    have HTI := Lib.hid (fun W => rtimeD_any W now)
    have HH := Lib.hid hh
    have HGT := Lib.hid hgt
    have HN := Lib.hid hn
    have hbz : b < wz.heap.size := heap_lt HQZ.out.head
    have htm : decide (0 ≤ now ∧ now ≤ 1099511627776) = timB now := rfl
    rw [htm] at HTI
    clear hh hg ht hd hi HAT hk hgt htm hn
    obtain ⟨f, hf⟩ : ∃ f, getF L t = f := ⟨_, rfl⟩
    rw [hf] at HCD HCF HTB HGT HRT
    clear hf
    obtain ⟨tb, htb⟩ : ∃ x, timB now = x := ⟨_, rfl⟩
    rw [htb] at HTI HTB
    clear htb
    have HSAME : RowKit.Hid (touchB L t now = false → ∀ w5, Touch wz w5 (fun _ => False) → RFStep w w5 b (some ⟨g, off, none⟩) most wait (rtouF L t now)) := Lib.hid (fun h w5 t5 => by
      rw [HRT.out, if_neg (by rw [h]; decide)]
      exact ⟨_, c, HQZ.out.still t5, (HTZ.out.trans t5 (fun _ _ h => h)).mono (fun _ _ h => h.elim), fun y hy => .inr ⟨y, hy, rfl⟩⟩)
    obtain ⟨c0, c1, c2, c3, c4, c5, c6, c7⟩ := HCF.out _ (Touch.refl wz _)
    have z0 := (HCD.out _ (Touch.refl wz _)).1
    cases tb with
    | false =>
      have HX := Lib.hid (HSAME.out (by rw [HTB.out]; rfl) wz (Touch.refl wz _))
      clear HSAME
      go_wp2_with fail
      refine (HTI.out _).mono ?_
      rintro e w' ⟨rfl, rfl⟩
      go_wp2_with fail
      go_ret
      exact ⟨by rw [HH.out]; rfl, HX.out⟩
    | true =>
      by_cases hge : f.fs ≤ now
      case neg =>
        have hge2 : ¬ now ≥ f.fs := hge
        have HX := Lib.hid (HSAME.out (by rw [HTB.out, decide_eq_false hge]; rfl) wz (Touch.refl wz _))
        clear HSAME hge
        go_wp2_with fail
        refine (HTI.out _).mono ?_
        rintro e w' ⟨rfl, rfl⟩
        go_wp2_with fail
        go_ret
        exact ⟨by rw [HH.out]; rfl, HX.out⟩
      case pos =>
      have hge2 : now ≥ f.fs := hge
      have HRX : RowKit.Hid (rtouF L t now = putL L ⟨t, f.fb, f.fg, now⟩) := Lib.hid (by rw [HRT.out, if_pos (by rw [HTB.out, decide_eq_true hge]; rfl)])
      have T0 : RowKit.Hid (Touch wz wz (fun _ => False)) := Lib.hid (Touch.refl _ _)
      clear HSAME hge HRT HTB
      go_wp2_with fail
      refine (HTI.out _).mono ?_
      rintro e w' ⟨rfl, rfl⟩
      obtain ⟨W4, hW4⟩ : ∃ W, wz.alloc (.cells (fca f) 35) = W := ⟨_, rfl⟩
      obtain ⟨KF, hKF⟩ : ∃ k, wz.heap.size = k := ⟨_, rfl⟩
      have t4 : Touch wz W4 (fun _ => False) := hW4 ▸ (Touch.refl wz _).alloc _
      have g4 : W4.heap[KF]? = some (.cells (fca f) 35 (0, 0)) := hKF ▸ hW4 ▸ heap_alloc_new ..
      have HW4 := Lib.hid (And.intro hW4 hKF)
      have HG4 := Lib.hid g4
      have T4 := Lib.hid (T0.out.trans t4 (fun _ _ h => h))
      have HKB : RowKit.Hid (KF ≠ b) := Lib.hid (by have := T0.out.size; omega)
      have HKW : RowKit.Hid (wz.heap.size ≤ KF) := Lib.hid (by have := T0.out.size; omega)
      simp only [fca] at HW4
      clear t4 g4 hW4 hKF
      go_upto_region 6 with (fail)
      rw [HW4.out.1, HW4.out.2]
      clear c0 c1 c2 c3 c4 c5 c6 c7 z0
      have b0 := cell_of_cells HG4.out 7
      have ff := free_of_cells HG4.out 7
      obtain ⟨f9, hf9⟩ : ∃ f9 : FlD, f9 = ⟨t, f.fb, f.fg, now⟩ := ⟨_, rfl⟩
      have g5 := heap_setCell_same W4 KF 7 _ _ (.int .i64 now) HG4.out
      have g6 : (W4.setCell ⟨KF, 7, none⟩ (.int .i64 now)).heap[KF]? = some (.cells (fca f9) 35 (0, 0)) := by
        rw [g5, hf9, ← HGT.out]; rfl
      have t5 : Touch W4 (W4.setCell ⟨KF, 7, none⟩ (.int .i64 now)) (fun k => k = KF) := (Touch.refl W4 (fun k => k = KF)).setCell ⟨KF, 7, none⟩ (.int .i64 now) (fun _ => rfl)
      obtain ⟨wy, hwy⟩ : ∃ W, W4.setCell ⟨KF, 7, none⟩ (.int .i64 now) = W := ⟨_, rfl⟩
      rw [hwy] at g6 t5
      have T5 := Lib.hid (T4.out.trans t5 (fun k h1 h2 => by have h2 : k = KF := h2; have := HKW.out; omega))
      have HGY := Lib.hid g6
      have HQY := Lib.hid (HQZ.out.still T5.out)
      have HWY := Lib.hid hwy
      rw [← hf9] at HRX
      clear g5 g6 t5 hwy hf9
      go_upto_region 7 with (fail)
      rw [HWY.out]
      clear b0 ff
      have HHD : RowKit.Hid (wy.drew.heap[b]? = some (.cells #[.slice (some ⟨g, off, none⟩) n c, .int .i64 most, .int .i64 wait] 30 (0, 0))) := Lib.hid (by have h := HQY.out.head; rw [HN.out] at h; exact h)
      have HCK : RowKit.Hid (∀ W, Touch wy W (fun k => k = b) → W.heap[KF]? = some (.cells (fca f9) 35 (0, 0))) := Lib.hid (fun W t => t.keeps HGY.out (fun e => HKB.out e))
      have HPF : RowKit.Hid (∀ W, Touch wy W (fun k => k = b) → Calls Tryz.prog 28 #[.slice (some ⟨g, off, none⟩) n c, .agg (fca f9)] W fun e w' => ∃ a' c', PutIsF W w' L f9 e a' c') := Lib.hid (fun W t => by
        have h := HQY.out.row.touch t (fun y hy => (HQY.out.ne y hy).imp (fun h => h) (fun h e => h e))
        have h2 := rputflow_any W _ c L f9 h (by have := HN.out; omega) HQY.out.pl
        rwa [HN.out] at h2)
      have HBW : RowKit.Hid (b < w.heap.size) := HB
      have HEND : RowKit.Hid (∀ (a9 : Option Addr) (c9 : Nat) (w9 : World), Touch wy w9 (fun k => k = b) → w9.heap[b]? = some (.cells #[.slice (some ⟨g, off, none⟩) n c, .int .i64 most, .int .i64 wait] 30 (0, 0)) → OwnS w9 wy.heap.size 35 8 (.slice a9 (putL L f9).length c9) ((putL L f9).map fcl) → RFStep w (w9.setCell ⟨b, 0, none⟩ (.slice a9 (putL L f9).length c9)) b (some ⟨g, off, none⟩) most wait (rtouF L t now)) := Lib.hid (fun a9 c9 w9 x h o => by
        have h8 := rf_end (a0 := some ⟨g, off, none⟩) (HTZ.out.trans T5.out (fun _ _ h => h)) HBW.out x h o
        rw [HRX.out]
        exact h8)
      simp only [PutIsF] at HPF
      simp only [fca] at HCK HPF
      have hS := (Touch.refl wy (fun k => k = b)).drew
      refine wp_region_tree3 (fun w' => Touch wy w' (fun k => k = b)) (.take 0 (.take 1 (.take 2 (.take 3 (.take 5 (.one 4 (.one 6 (.take 7 (.take 8 (.one 9 .fin)))))))))) (by kernel_rfl) (by kernel_rfl) (by kernel_rfl) (by kernel_rfl) hS ?_
      refine walk3_take ?_
      (refine takeN_take (v := ?_) (some 37) rfl rfl (fun _ _ _ h => h) (by rfl) ?_ ?_; rotate_left; (focus (intro w' hw'; go_simp; (try with_reducible rfl))); (try simp only [Act.put, List.setIfInBounds_toArray, List.set_cons_zero, List.set_cons_succ]))
      refine walk3_take ?_
      (refine takeN_take (v := ?_) (some 38) rfl rfl (fun _ _ _ h => h) (by rfl) ?_ ?_; rotate_left; (focus (intro w' hw'; go_simp; (try with_reducible rfl))); (try simp only [Act.put, List.setIfInBounds_toArray, List.set_cons_zero, List.set_cons_succ]))
      refine walk3_take ?_
      (refine takeN_take (v := ?_) (some 39) rfl rfl (fun _ _ _ h => h) (by rfl) ?_ ?_; rotate_left; (focus (intro w' hw'; go_simp; (try with_reducible rfl))); (try simp only [Act.put, List.setIfInBounds_toArray, List.set_cons_zero, List.set_cons_succ]))
      refine walk3_take ?_
      (refine takeN_take (v := ?_) (some 40) rfl rfl (fun _ _ _ h => h) (by rfl) ?_ ?_; rotate_left; (focus (intro w' hw'; go_simp; (try with_reducible rfl))); (try simp only [Act.put, List.setIfInBounds_toArray, List.set_cons_zero, List.set_cons_succ]))
      refine walk3_take ?_
      (refine takeN_row (some 42) rfl rfl 35 (.tmp 8) rfl (KF) rfl _ _ _ _ (fun w' h => HCK.out w' h) Tryz.underlying35 rfl infoFlG (fun _ _ _ h => h) (by rfl) ?_; (try simp only [Act.put, List.setIfInBounds_toArray, List.set_cons_zero, List.set_cons_succ]))
      refine walk3_one ?_
      (have cc := cell_of_cells HHD.out 0; refine runN_do (v := .slice (some ⟨g, off, none⟩) n c) (w' := _) (some 41) rfl rfl (by rfl) (by go_simp; (try with_reducible rfl)) hS (fun hS => ?_); clear cc; (try simp only [Act.put, List.setIfInBounds_toArray, List.set_cons_zero, List.set_cons_succ]))
      refine walk3_one ?_
      (refine runN_call 43 28 _ _ _ (HPF.out _ hS) rfl rfl rfl (by rfl) rfl (enter_rputO _ _ _) ?_; rintro e x9 ⟨a9, c9, rfl, o9, t9⟩; have HO9 := Lib.hid (OwnS.rebase (base' := wy.heap.size) o9 (fun x hx => Nat.le_trans hS.size (o9.own.lt x hx).1)); have HHD := Lib.hid (t9.keeps HHD.out (fun h => h)); have hS := hS.trans t9 (fun _ _ h => h.elim); refine ⟨_, rfl, hS, fun hS => ?_⟩; clear t9 o9; (try simp only [Act.put, List.setIfInBounds_toArray, List.set_cons_zero, List.set_cons_succ]))
      refine walk3_take ?_
      (refine takeN_take (v := ?_) (some 44) rfl rfl (fun _ _ _ h => h) (by rfl) ?_ ?_; rotate_left; (focus (intro w' hw'; go_simp; (try with_reducible rfl))); (try simp only [Act.put, List.setIfInBounds_toArray, List.set_cons_zero, List.set_cons_succ]))
      refine walk3_take ?_
      (refine takeN_take (v := ?_) (some 45) rfl rfl (fun _ _ _ h => h) (by rfl) ?_ ?_; rotate_left; (focus (intro w' hw'; go_simp; (try with_reducible rfl))); (try simp only [Act.put, List.setIfInBounds_toArray, List.set_cons_zero, List.set_cons_succ]))
      refine walk3_one ?_
      (have cc := cell_of_cells HHD.out 0; have ff := free_of_cells HHD.out 0; refine runN_skip0 none rfl rfl (by rfl) (w' := World.setCell x9 ⟨b, 0, none⟩ (.slice a9 ((putL L f9).length) c9)) (by go_simp; (try with_reducible rfl)) ?_ ?_; (exact hS.setCell _ _ (fun _ => rfl)); clear cc ff; intro hS9; (try simp only [Act.put, List.setIfInBounds_toArray, List.set_cons_zero, List.set_cons_succ]))
      refine walk3_fin ?_
      go_wp2_with fail
      go_ret
      exact ⟨by rw [HH.out]; rfl, HEND.out _ _ _ hS HHD.out HO9.out⟩
set_option maxRecDepth 20000 in
set_option maxHeartbeats 4000000 in
theorem rfof_any (w : World) (b : Nat) (a : Option Addr) (c : Nat) (most wait : Int) (G : List FlD) (q : RF w b a c most wait G) (hl : G.length ≤ 1000) (id : Int) :
    Calls Tryz.prog 21 #[.pointer (some ⟨b, 0, none⟩), .int .i64 id] w fun e w' => ∃ a1 c1, e = .returned (.slice a1 (G.filter (isOf id)).length c1) ∧ OwnS w' w.heap.size 35 8 (.slice a1 (G.filter (isOf id)).length c1) ((G.filter (isOf id)).map fcl) ∧ Touch w w' (fun _ => False) := by
  obtain ⟨n, hn⟩ : ∃ n, G.length = n := ⟨_, rfl⟩
  have c0 : w.cell? ⟨b, 0, none⟩ = some (.slice a G.length c) := cell_of_cells q.head 0
  have hcap := q.row.hcap
  have hmax := q.row.hmax
  have HQ := Lib.hid q
  have HN := Lib.hid hn
  have HIF := Lib.hid infoFlowB
  rw [hn] at c0 hl hcap
  clear q hn
  go_enter Tryz.func21, Tryz.ntmps21
  go_wp2_with fail
  go_loopw [5, 13] (fun s5 s13 wr => ∃ (i : Nat) (K : List FlD) (ak : Option Addr) (ck : Nat), i ≤ n ∧ s13 = .int .i64 i ∧ s5 = .slice ak K.length ck ∧ OwnS wr w.heap.size 35 8 (.slice ak K.length ck) (K.map fcl) ∧ K = (G.take i).filter (isOf id) ∧ Touch w wr (fun _ => False)) (fun _ s13 _ => n - (RowKit.intOf s13).toNat)
  case atStart => exact ⟨0, [], none, 0, Nat.zero_le _, rfl, rfl, OwnS.nil _ _ _ _, rfl, Touch.refl _ _⟩
  case round =>
    obtain ⟨i, K, ak, ck, hi, rfl, rfl, hkk, hke, ht⟩ := hrel
    have HK := Lib.hid hkk
    have HKE := Lib.hid hke
    have HT := Lib.hid ht
    clear hkk hke ht
    have hkl : K.length ≤ n := by
      have h1 := List.length_filter_le (isOf id) (G.take i)
      rw [← HKE.out, List.length_take] at h1
      omega
    by_cases hlt : i < n
    case neg =>
      obtain rfl : n = i := by omega
      have HKF : RowKit.Hid (K = G.filter (isOf id)) := Lib.hid (by
        have h1 := HKE.out
        rwa [List.take_of_length_le (by rw [HN.out]; exact Nat.le_refl _)] at h1)
      have hlt' : ¬ (n : Int) < n := by omega
      go_wp2_with fail
      go_ret
      rw [← HKF.out]
      exact ⟨ak, ck, rfl, HK.out, HT.out⟩
    case pos =>
      have hq := HQ.out.still HT.out
      obtain ⟨g, off, ea⟩ := hq.row.some (by rw [HN.out]; omega)
      subst ea
      have hqr := hq.row
      rw [HN.out] at hqr
      have hiG : i < G.length := by rw [HN.out]; exact hlt
      obtain ⟨d0, d1, d2, d3, d4, d5, d6, d7⟩ := row_flc hqr i hiG
      have htk := take_fF hiG (isOf id)
      rw [gf_get G i hiG] at htk
      obtain ⟨x, hx⟩ : ∃ x, G[i] = x := ⟨_, rfl⟩
      rw [hx] at d0 d1 d2 d3 d4 d5 d6 d7 htk
      have HTK := Lib.hid htk
      obtain ⟨W2, hW2⟩ : ∃ W, wr.alloc (.cells (fca x) 35) = W := ⟨_, rfl⟩
      have t2 : Touch wr W2 (fun _ => False) := hW2 ▸ (Touch.refl wr _).alloc _
      have g2 : W2.heap[wr.heap.size]? = some (.cells (fca x) 35 (0, 0)) := hW2 ▸ heap_alloc_new ..
      have HT2 := Lib.hid (HT.out.trans t2 (fun _ _ h => h))
      have HK2 := Lib.hid (HK.out.still t2)
      have HW2 := Lib.hid hW2
      have hlI : (i : Int) < n := by omega
      have x0 : W2.cell? ⟨wr.heap.size, 0, none⟩ = some (.int .u32 x.t.src) := cell_of_cells g2 0
      have x1 : W2.cell? ⟨wr.heap.size, 1, none⟩ = some (.int .u32 x.t.dst) := cell_of_cells g2 1
      have x2 : W2.cell? ⟨wr.heap.size, 2, none⟩ = some (.int .i64 x.t.proto) := cell_of_cells g2 2
      have x3 : W2.cell? ⟨wr.heap.size, 3, none⟩ = some (.int .i64 x.t.sport) := cell_of_cells g2 3
      have x4 : W2.cell? ⟨wr.heap.size, 4, none⟩ = some (.int .i64 x.t.dport) := cell_of_cells g2 4
      have x5 : W2.cell? ⟨wr.heap.size, 5, none⟩ = some (.int .i64 x.fb) := cell_of_cells g2 5
      have x6 : W2.cell? ⟨wr.heap.size, 6, none⟩ = some (.int .i64 x.fg) := cell_of_cells g2 6
      have x7 : W2.cell? ⟨wr.heap.size, 7, none⟩ = some (.int .i64 x.fs) := cell_of_cells g2 7
      have hszx : w.heap.size ≤ W2.heap.size := HT2.out.size
      obtain ⟨mk, hmk⟩ : ∃ mk, K.length = mk := ⟨_, rfl⟩
      have HMK := Lib.hid hmk
      rw [hmk] at hkl HK2 ⊢
      clear hq hqr htk hx t2 g2 hW2 hiG hmk
      simp only [fca] at HW2
      by_cases hid : x.fb = id
      · have HX : RowKit.Hid ((G.take (i + 1)).filter (isOf id) = K ++ [x]) := Lib.hid (by rw [HTK.out, if_pos (by unfold isOf; exact decide_eq_true hid), ← HKE.out])
        subst hid
        go_upto_region 5 with (fail)
        rw [HW2.out]
        clear d0 d1 d2 d3 d4 d5 d6 d7
        have HKA : RowKit.Hid (OwnS (W2.alloc (.cells #[.int .u32 x.t.src, .int .u32 x.t.dst, .int .i64 x.t.proto, .int .i64 x.t.sport, .int .i64 x.t.dport, .int .i64 x.fb, .int .i64 x.fg, .int .i64 x.fs] 35)) w.heap.size 35 8 (.slice ak mk ck) (K.map fcl)) := Lib.hid (HK2.out.still ((Touch.refl W2 (fun _ => False)).alloc _))
        go_wp2_with (at_builtin; (with_reducible refine wp_add1 (w := W2) HKA.out rfl rfl rfl (by simp [Value.oneCell']) (by omega) 28 Tryz.underlying28 _ 56 HIF.out rfl (by decide) (by decide) hszx rfl _ _ rfl rfl rfl ?_); intro a5 c5 w5 ho5 t5 p5; have HO5 := Lib.hid ho5; have HT5 := Lib.hid t5; have HP5 := Lib.hid p5; clear ho5 t5 p5)
        go_roundw
        · refine ⟨i + 1, K ++ [x], a5, c5, by omega, by go_num, by rw [List.length_append, HMK.out]; rfl, by rw [List.length_append, HMK.out, List.map_append]; exact HO5.out, HX.out.symm, HT2.out.trans HT5.out (fun k hk e => by have := (HK2.out.own.lt k e).1; omega)⟩
        · simp only [RowKit.intOf]; omega
      · have HX : RowKit.Hid ((G.take (i + 1)).filter (isOf id) = K) := Lib.hid (by rw [HTK.out, if_neg (by unfold isOf; simpa using hid), ← HKE.out])
        have hid2 : (x.fb == id) = false := by simpa using hid
        go_upto_region 5 with (fail)
        rw [HW2.out]
        clear d0 d1 d2 d3 d4 d5 d6 d7
        go_wp2_with fail
        go_roundw
        · exact ⟨i + 1, K, ak, ck, by omega, by go_num, by rw [HMK.out], by rw [HMK.out]; exact HK2.out, HX.out.symm, HT2.out⟩
        · simp only [RowKit.intOf]; omega
end Go.Proofs.YtgmimdnebgncoaaGreat

end

section
/- The reference's flows: Idle. -/
set_option linter.unusedVariables false
set_option linter.unusedSimpArgs false
namespace Go.Proofs.YtgmimdnebgncoaaGreat
open Go.RowKit

theorem subI_runI (a b c : Int) (h : a - b = c ∧ -9223372036854775808 ≤ c ∧ c ≤ 9223372036854775807) (x y : Operand) (W : World) :
    (do eqGuard BinOp.sub 2 x y (.int .i64 a) (.int .i64 b); binOp BinOp.sub 2 (.int .i64 a) (.int .i64 b) : Sem Value).run Tryz.prog W = .ok (.int .i64 c) W := by
  obtain ⟨rfl, h1, h2⟩ := h
  have hw : wrap64 (a - b) = a - b := by unfold wrap64; omega
  have hw2 : IntKind.i64.wrap (a - b) = a - b := IntWalk.i64_in _ (by omega)
  go_simp
theorem own_someI {a : Option Addr} {n c k : Nat} (h : (Value.slice a n c).ownBlock = some k) : ∃ y, a = some y ∧ y.block = k := by
  cases a with
  | none => simp [Value.ownBlock] at h
  | some y => exact ⟨y, rfl, by simpa [Value.ownBlock] using h⟩
theorem ltI_boolI (a b : Int) (c : Bool) (h : decide (a < b) = c) (x y : Operand) (W : World) :
    (do eqGuard BinOp.lss 2 x y (.int .i64 a) (.int .i64 b); binOp BinOp.lss 2 (.int .i64 a) (.int .i64 b) : Sem Value).run Tryz.prog W = .ok (.bool c) W := by
  subst h
  go_simp
set_option maxRecDepth 20000 in
set_option maxHeartbeats 16000000 in
theorem rfidle_any (w : World) (b : Nat) (a : Option Addr) (c : Nat) (most wait : Int) (G : List FlD) (q : RF w b a c most wait G) (hl : G.length ≤ 1000) (hs : SortL G) (hw8 : 1 ≤ wait ∧ wait ≤ 1099511627776) (now : Int) (hnow : i64 now) (A : List FlD) (hA : A.Perm (G.filter (goP wait now))) (hAs : SortS A) :
    Calls Tryz.prog 15 #[.pointer (some ⟨b, 0, none⟩), .int .i64 now] w fun e w' => ∃ a1 c1, e = .returned (.slice a1 A.length c1) ∧ OwnS w' w.heap.size 35 8 (.slice a1 A.length c1) (A.map fcl) ∧ RFStep w w' b a most wait (G.filter (fun d => !goP wait now d)) := by
  obtain ⟨n, hn⟩ : ∃ n, G.length = n := ⟨_, rfl⟩
  have c0 : w.cell? ⟨b, 0, none⟩ = some (.slice a G.length c) := cell_of_cells q.head 0
  have hbl : b < w.heap.size := heap_lt q.head
  have hcap := q.row.hcap
  have hmax := q.row.hmax
  have HQ := Lib.hid q
  have HN := Lib.hid hn
  have HIF := Lib.hid infoFlowB
  have HS := Lib.hid hs
  have HA := Lib.hid hA
  have HAS := Lib.hid hAs
  have HW8 := Lib.hid hw8
  have HNOW := Lib.hid hnow
  rw [hn] at c0 hl hcap
  clear q hn hs hA hAs hw8 hnow
  go_enter Tryz.func15, Tryz.ntmps15
  go_wp2_with fail
  go_loopw [5, 6, 15] (fun s3 s4 s9 wr => ∃ (i : Nat) (O K : List FlD) (a' ak : Option Addr) (c' ck : Nat), i ≤ n ∧ s9 = .int .i64 i ∧ s3 = .slice a' O.length c' ∧ s4 = .slice ak K.length ck ∧ OwnS wr w.heap.size 35 8 (.slice a' O.length c') (O.map fcl) ∧ OwnS wr w.heap.size 35 8 (.slice ak K.length ck) (K.map fcl) ∧ (∀ x y, a' = some x → ak = some y → x.block ≠ y.block) ∧ SortS O ∧ O.Perm ((G.take i).filter (goP wait now)) ∧ K = (G.take i).filter (fun d => !goP wait now d) ∧ Touch w wr (fun _ => False)) (fun _ _ s9 _ => n - (RowKit.intOf s9).toNat)
  case atStart => exact ⟨0, [], [], none, none, 0, 0, Nat.zero_le _, rfl, rfl, rfl, OwnS.nil _ _ _ _, OwnS.nil _ _ _ _, (fun x y hx => by cases hx), List.Pairwise.nil, .refl _, rfl, Touch.refl _ _⟩
  case round =>
    obtain ⟨i, O, K, a', ak, c', ck, hi, rfl, rfl, rfl, ho, hkk, hne, hso, hpo, hke, ht⟩ := hrel
    have HO := Lib.hid ho
    have HK := Lib.hid hkk
    have HNE := Lib.hid hne
    have HSO := Lib.hid hso
    have HPO := Lib.hid hpo
    have HKE := Lib.hid hke
    have HT := Lib.hid ht
    clear ho hkk hne hso hpo hke ht
    have hkl : K.length ≤ n := by
      have h1 := List.length_filter_le (fun d => !goP wait now d) (G.take i)
      rw [← HKE.out, List.length_take] at h1
      omega
    by_cases hlt : i < n
    case neg =>
      obtain rfl : n = i := by omega
      have hOA : O = A := by
        have h1 := HPO.out
        rw [List.take_of_length_le (by rw [HN.out]; exact Nat.le_refl _)] at h1
        exact sortS_uniq (h1.trans HA.out.symm) HSO.out HAS.out
      subst hOA
      have HKF : RowKit.Hid (K = G.filter (fun d => !goP wait now d)) := Lib.hid (by
        have h1 := HKE.out
        rwa [List.take_of_length_le (by rw [HN.out]; exact Nat.le_refl _)] at h1)
      have hh := (HQ.out.still HT.out).head
      rw [HN.out] at hh
      have y0 := cell_of_cells hh 0
      have ff := free_of_cells hh 0
      obtain ⟨W9, hW9⟩ : ∃ W, wr.setCell ⟨b, 0, none⟩ (.slice ak K.length ck) = W := ⟨_, rfl⟩
      have HX : RowKit.Hid (RFStep w W9 b a most wait K) := Lib.hid (hW9 ▸ rf_end (Touch.refl w (fun _ => False)) hbl (HT.out.mono (fun _ _ h => h.elim)) hh HK.out)
      have HOX : RowKit.Hid (OwnS W9 w.heap.size 35 8 (.slice a' O.length c') (O.map fcl)) := Lib.hid (hW9 ▸ HO.out.touch ((Touch.refl wr (fun k => k = b)).setCell ⟨b, 0, none⟩ _ (fun _ => rfl)) (fun y hy e => by have e : y = b := e; have := (HO.out.own.lt y hy).1; omega))
      have HW9 := Lib.hid hW9
      clear hh hW9
      go_wp2_with fail
      rw [HW9.out]
      go_ret
      exact ⟨a', c', rfl, HOX.out, by rw [← HKF.out]; exact HX.out⟩
    case pos =>
      have hq := HQ.out.still HT.out
      obtain ⟨g, off, ea⟩ := hq.row.some (by rw [HN.out]; omega)
      subst ea
      have hqr := hq.row
      rw [HN.out] at hqr
      have hiG : i < G.length := by rw [HN.out]; exact hlt
      obtain ⟨d0, d1, d2, d3, d4, d5, d6, d7⟩ := row_flc hqr i hiG
      have hxb : ∀ y ∈ O, lessT y.t G[i].t = true := fun y hy => by
        have h1 := (List.mem_filter.1 (HPO.out.mem_iff.1 hy)).1
        obtain ⟨j, hj, rfl⟩ := List.getElem_of_mem h1
        have hji : j < i := by simp at hj; omega
        have := List.pairwise_iff_getElem.1 HS.out j i (by rw [HN.out]; omega) hiG hji
        rw [List.getElem_take]
        exact this
      have htf := take_fF hiG (goP wait now)
      have htk := take_fF hiG (fun d => !goP wait now d)
      rw [gf_get G i hiG] at htf htk
      obtain ⟨x, hx⟩ : ∃ x, G[i] = x := ⟨_, rfl⟩
      rw [hx] at d0 d1 d2 d3 d4 d5 d6 d7 hxb htf htk
      have HXB := Lib.hid hxb
      have HTF := Lib.hid htf
      have HTK := Lib.hid htk
      obtain ⟨W2, hW2⟩ : ∃ W, wr.alloc (.cells (fca x) 35) = W := ⟨_, rfl⟩
      have t2 : Touch wr W2 (fun _ => False) := hW2 ▸ (Touch.refl wr _).alloc _
      have g2 : W2.heap[wr.heap.size]? = some (.cells (fca x) 35 (0, 0)) := hW2 ▸ heap_alloc_new ..
      have HG2 := Lib.hid g2
      have HT2 := Lib.hid (HT.out.trans t2 (fun _ _ h => h))
      have HO2 := Lib.hid (HO.out.still t2)
      have HK2 := Lib.hid (HK.out.still t2)
      have HW2 := Lib.hid hW2
      have hlI : (i : Int) < n := by omega
      have hhd := t2.keeps hq.head (fun h => h)
      rw [HN.out] at hhd
      have z2 : W2.cell? ⟨b, 2, none⟩ = some (.int .i64 wait) := cell_of_cells hhd 2
      have x0 : W2.cell? ⟨wr.heap.size, 0, none⟩ = some (.int .u32 x.t.src) := cell_of_cells g2 0
      have x1 : W2.cell? ⟨wr.heap.size, 1, none⟩ = some (.int .u32 x.t.dst) := cell_of_cells g2 1
      have x2 : W2.cell? ⟨wr.heap.size, 2, none⟩ = some (.int .i64 x.t.proto) := cell_of_cells g2 2
      have x3 : W2.cell? ⟨wr.heap.size, 3, none⟩ = some (.int .i64 x.t.sport) := cell_of_cells g2 3
      have x4 : W2.cell? ⟨wr.heap.size, 4, none⟩ = some (.int .i64 x.t.dport) := cell_of_cells g2 4
      have x5 : W2.cell? ⟨wr.heap.size, 5, none⟩ = some (.int .i64 x.fb) := cell_of_cells g2 5
      have x6 : W2.cell? ⟨wr.heap.size, 6, none⟩ = some (.int .i64 x.fg) := cell_of_cells g2 6
      have x7 : W2.cell? ⟨wr.heap.size, 7, none⟩ = some (.int .i64 x.fs) := cell_of_cells g2 7
      have HLD : RowKit.Hid (∀ W, Touch W2 W (fun _ => False) → W.cell? ⟨b, 2, none⟩ = some (.int .i64 wait) ∧ W.cell? ⟨wr.heap.size, 7, none⟩ = some (.int .i64 x.fs)) := Lib.hid (fun W t => ⟨cell_of_cells (t.keeps hhd (fun h => h)) 2, cell_of_cells (t.keeps g2 (fun h => h)) 7⟩)
      clear hq hqr hxb htf htk hx t2 g2 hW2 hiG hhd
      simp only [fca] at HW2
      by_cases hgo : goP wait now x = false
      · have HX : RowKit.Hid (∀ (W : World) (a5 : Option Addr) (c5 : Nat), Touch W2 W (fun q => (Value.slice ak K.length ck).ownBlock = some q) → OwnS W w.heap.size 35 8 (.slice a5 (K.length + 1) c5) (K.map fcl ++ [fcl x]) → (∀ q, (Value.slice a5 (K.length + 1) c5).ownBlock = some q → (Value.slice ak K.length ck).ownBlock = some q ∨ W2.heap.size ≤ q) → ∃ (i' : Nat) (O' K' : List FlD) (a'' ak' : Option Addr) (c'' ck' : Nat), i' ≤ n ∧ Value.int .i64 ((i : Int) + 1) = .int .i64 i' ∧ Value.slice a' O.length c' = .slice a'' O'.length c'' ∧ Value.slice a5 (K.length + 1) c5 = .slice ak' K'.length ck' ∧ OwnS W w.heap.size 35 8 (.slice a'' O'.length c'') (O'.map fcl) ∧ OwnS W w.heap.size 35 8 (.slice ak' K'.length ck') (K'.map fcl) ∧ (∀ x y, a'' = some x → ak' = some y → x.block ≠ y.block) ∧ SortS O' ∧ O'.Perm ((G.take i').filter (goP wait now)) ∧ K' = (G.take i').filter (fun d => !goP wait now d) ∧ Touch w W (fun _ => False)) := Lib.hid (fun W a5 c5 t ho hb => by
          refine ⟨i + 1, O, K ++ [x], a', a5, c', c5, by omega, by go_num, rfl, by rw [List.length_append]; rfl, HO2.out.touch t (fun y hy e => ?_), by rw [List.length_append, List.map_append]; exact ho, fun y z hy hz => ?_, HSO.out, by rw [HTF.out, hgo]; exact HPO.out, by rw [HTK.out, hgo, ← HKE.out]; rfl, HT2.out.trans t (fun k hk e => ?_)⟩
          · obtain ⟨z1, hz1, e1⟩ := own_someI hy
            obtain ⟨z2, hz2, e2⟩ := own_someI e
            exact HNE.out z1 z2 hz1 hz2 (by rw [e1, e2])
          · rcases hb z.block (by subst hz; rfl) with h1 | h1
            · obtain ⟨z2, hz2, e2⟩ := own_someI h1
              rw [← e2]; exact HNE.out y z2 hy hz2
            · have := (HO2.out.row'.2.2 y hy).2; omega
          · have := (HK2.out.own.lt k e).1; omega)
        have hszx : w.heap.size ≤ W2.heap.size := HT2.out.size
        have hcapK := HK2.out.row'.2.1.hcap
        have hmaxK := HK2.out.row'.2.1.hmax
        unfold goP at hgo
        simp only [Bool.not_eq_false', Bool.or_eq_true, decide_eq_true_eq] at hgo
        obtain ⟨mk, hmk⟩ : ∃ mk, K.length = mk := ⟨_, rfl⟩
        rw [hmk] at hkl HK2 HX hcapK ⊢
        go_upto_region 5 with (fail)
        rw [HW2.out]
        clear d0 d1 d2 d3 d4 d5 d6 d7 x0 x1 x2 x3 x4 x5 x6 x7 z2
        by_cases hng : now < 0
        · have hX1 : decide (now < 0) = true := decide_eq_true hng
          have hS := (Touch.refl W2 (fun _ => False)).drew
          refine wp_region_sched (fun w' => Touch W2 w' (fun _ => False)) [(0, true), (1, true), (2, true), (3, true), (4, true), (5, true), (6, true), (7, true), (8, true), (9, true), (10, true), (11, true), (12, true)] (by kernel_rfl) (by kernel_rfl) rfl (by kernel_rfl) hS ?_
          (refine walkS_take (v := ?_) (some 19) rfl rfl (fun _ _ _ h => h) (by rfl) ?_ ?_; rotate_left; (focus (intro w' hw'; go_simp; (try with_reducible rfl))); (try simp only [Act.put, List.setIfInBounds_toArray, List.set_cons_zero, List.set_cons_succ]))
          (refine walkS_bin (some 20) _ _ _ _ _ _ _ _ (ltI_boolI _ _ _ hX1) rfl rfl rfl rfl rfl (fun _ _ _ h => h) (by rfl) ?_; (try simp only [Act.put, List.setIfInBounds_toArray, List.set_cons_zero, List.set_cons_succ]))
          (refine walkS_take (v := ?_) (some 21) rfl rfl (fun _ _ _ h => h) (by rfl) ?_ ?_; rotate_left; (focus (intro w' hw'; go_simp; (try with_reducible rfl))); (try simp only [Act.put, List.setIfInBounds_toArray, List.set_cons_zero, List.set_cons_succ]))
          first | (refine walkS_skip (some 22) rfl rfl (by rfl) (fun _ _ _ h => h) hS ?_; (try simp only [Act.put, List.setIfInBounds_toArray, List.set_cons_zero, List.set_cons_succ])) | (refine walkS_take (v := ?_) (some 22) rfl rfl (fun _ _ _ h => h) (by rfl) ?_ ?_; rotate_left; (focus (intro w' hw'; go_simp; (try with_reducible rfl))); (try simp only [Act.put, List.setIfInBounds_toArray, List.set_cons_zero, List.set_cons_succ]))
          first | (refine walkS_skip (some 23) rfl rfl (by rfl) (fun _ _ _ h => h) hS ?_; (try simp only [Act.put, List.setIfInBounds_toArray, List.set_cons_zero, List.set_cons_succ])) | (refine walkS_take (v := ?_) (some 23) rfl rfl (fun _ _ _ h => h) (by rfl) ?_ ?_; rotate_left; (focus (intro w' hw'; go_simp; (try with_reducible rfl))); (try simp only [Act.put, List.setIfInBounds_toArray, List.set_cons_zero, List.set_cons_succ]))
          first | (refine walkS_skip (some 24) rfl rfl (by rfl) (fun _ _ _ h => h) hS ?_; (try simp only [Act.put, List.setIfInBounds_toArray, List.set_cons_zero, List.set_cons_succ])) | (refine walkS_take (v := ?_) (some 24) rfl rfl (fun _ _ _ h => h) (by rfl) ?_ ?_; rotate_left; (focus (intro w' hw'; go_simp; (try with_reducible rfl))); (try simp only [Act.put, List.setIfInBounds_toArray, List.set_cons_zero, List.set_cons_succ]))
          first | (refine walkS_skip (some 25) rfl rfl (by rfl) (fun _ _ _ h => h) hS ?_; (try simp only [Act.put, List.setIfInBounds_toArray, List.set_cons_zero, List.set_cons_succ])) | (refine walkS_take (v := ?_) (some 25) rfl rfl (fun _ _ _ h => h) (by rfl) ?_ ?_; rotate_left; (focus (intro w' hw'; go_simp; (try with_reducible rfl))); (try simp only [Act.put, List.setIfInBounds_toArray, List.set_cons_zero, List.set_cons_succ]))
          first | (refine walkS_skip (some 26) rfl rfl (by rfl) (fun _ _ _ h => h) hS ?_; (try simp only [Act.put, List.setIfInBounds_toArray, List.set_cons_zero, List.set_cons_succ])) | (refine walkS_take (v := ?_) (some 26) rfl rfl (fun _ _ _ h => h) (by rfl) ?_ ?_; rotate_left; (focus (intro w' hw'; go_simp; (try with_reducible rfl))); (try simp only [Act.put, List.setIfInBounds_toArray, List.set_cons_zero, List.set_cons_succ]))
          first | (refine walkS_skip (some 27) rfl rfl (by rfl) (fun _ _ _ h => h) hS ?_; (try simp only [Act.put, List.setIfInBounds_toArray, List.set_cons_zero, List.set_cons_succ])) | (refine walkS_take (v := ?_) (some 27) rfl rfl (fun _ _ _ h => h) (by rfl) ?_ ?_; rotate_left; (focus (intro w' hw'; go_simp; (try with_reducible rfl))); (try simp only [Act.put, List.setIfInBounds_toArray, List.set_cons_zero, List.set_cons_succ]))
          first | (refine walkS_skip (some 28) rfl rfl (by rfl) (fun _ _ _ h => h) hS ?_; (try simp only [Act.put, List.setIfInBounds_toArray, List.set_cons_zero, List.set_cons_succ])) | (refine walkS_take (v := ?_) (some 28) rfl rfl (fun _ _ _ h => h) (by rfl) ?_ ?_; rotate_left; (focus (intro w' hw'; go_simp; (try with_reducible rfl))); (try simp only [Act.put, List.setIfInBounds_toArray, List.set_cons_zero, List.set_cons_succ]))
          first | (refine walkS_skip (some 29) rfl rfl (by rfl) (fun _ _ _ h => h) hS ?_; (try simp only [Act.put, List.setIfInBounds_toArray, List.set_cons_zero, List.set_cons_succ])) | (refine walkS_take (v := ?_) (some 29) rfl rfl (fun _ _ _ h => h) (by rfl) ?_ ?_; rotate_left; (focus (intro w' hw'; go_simp; (try with_reducible rfl))); (try simp only [Act.put, List.setIfInBounds_toArray, List.set_cons_zero, List.set_cons_succ]))
          first | (refine walkS_skip (some 30) rfl rfl (by rfl) (fun _ _ _ h => h) hS ?_; (try simp only [Act.put, List.setIfInBounds_toArray, List.set_cons_zero, List.set_cons_succ])) | (refine walkS_take (v := ?_) (some 30) rfl rfl (fun _ _ _ h => h) (by rfl) ?_ ?_; rotate_left; (focus (intro w' hw'; go_simp; (try with_reducible rfl))); (try simp only [Act.put, List.setIfInBounds_toArray, List.set_cons_zero, List.set_cons_succ]))
          (refine walkS_take (v := ?_) (some 31) rfl rfl (fun _ _ _ h => h) (by rfl) ?_ ?_; rotate_left; (focus (intro w' hw'; go_simp; (try with_reducible rfl))); (try simp only [Act.put, List.setIfInBounds_toArray, List.set_cons_zero, List.set_cons_succ]))
          refine walkS_done ?_
          have T3 := Lib.hid hS
          generalize W2.drew = W3 at *
          have g3 := T3.out.keeps HG2.out (fun h => h)
          have x0 : W3.cell? ⟨wr.heap.size, 0, none⟩ = some (.int .u32 x.t.src) := cell_of_cells g3 0
          have x1 : W3.cell? ⟨wr.heap.size, 1, none⟩ = some (.int .u32 x.t.dst) := cell_of_cells g3 1
          have x2 : W3.cell? ⟨wr.heap.size, 2, none⟩ = some (.int .i64 x.t.proto) := cell_of_cells g3 2
          have x3 : W3.cell? ⟨wr.heap.size, 3, none⟩ = some (.int .i64 x.t.sport) := cell_of_cells g3 3
          have x4 : W3.cell? ⟨wr.heap.size, 4, none⟩ = some (.int .i64 x.t.dport) := cell_of_cells g3 4
          have x5 : W3.cell? ⟨wr.heap.size, 5, none⟩ = some (.int .i64 x.fb) := cell_of_cells g3 5
          have x6 : W3.cell? ⟨wr.heap.size, 6, none⟩ = some (.int .i64 x.fg) := cell_of_cells g3 6
          have x7 : W3.cell? ⟨wr.heap.size, 7, none⟩ = some (.int .i64 x.fs) := cell_of_cells g3 7
          have HK3 : RowKit.Hid (OwnS (W3.alloc (.cells #[.int .u32 x.t.src, .int .u32 x.t.dst, .int .i64 x.t.proto, .int .i64 x.t.sport, .int .i64 x.t.dport, .int .i64 x.fb, .int .i64 x.fg, .int .i64 x.fs] 35)) w.heap.size 35 8 (.slice ak mk ck) (K.map fcl)) := Lib.hid ((HK2.out.still T3.out).still ((Touch.refl W3 (fun _ => False)).alloc _))
          have hsz3 : w.heap.size ≤ W3.heap.size := Nat.le_trans hszx T3.out.size
          clear hS g3
          go_wp2_with (at_builtin; (with_reducible refine wp_add1 (w := W3) HK3.out rfl rfl rfl (by simp [Value.oneCell']) (by omega) 28 Tryz.underlying28 _ 56 HIF.out rfl (by decide) (by decide) hsz3 rfl _ _ rfl rfl rfl ?_); intro a5 c5 w5 ho5 t5 p5; have HO5 := Lib.hid ho5; have HT5 := Lib.hid t5; have HP5 := Lib.hid p5; clear ho5 t5 p5)
          go_roundw
          · exact HX.out _ _ _ (T3.out.mono (fun _ _ h => h.elim) |>.trans HT5.out (fun _ _ h => h)) HO5.out (fun q hq => (HP5.out q hq).imp (fun h => h) (fun h => Nat.le_trans T3.out.size h))
          · simp only [RowKit.intOf]; omega
        · have hX1 : decide (now < 0) = false := decide_eq_false hng
          have hX2 : decide (now - wait < x.fs) = true := decide_eq_true (by omega)
          have HWR : RowKit.Hid (-9223372036854775808 ≤ now - wait ∧ now - wait ≤ 9223372036854775807) := Lib.hid (by have := HW8.out; have := HNOW.out; unfold i64 at this; omega)
          have hS := (Touch.refl W2 (fun _ => False)).drew
          refine wp_region_sched (fun w' => Touch W2 w' (fun _ => False)) [(0, true), (1, true), (2, true), (3, true), (4, true), (5, true), (6, true), (7, true), (8, true), (9, true), (10, true), (11, true), (12, true)] (by kernel_rfl) (by kernel_rfl) rfl (by kernel_rfl) hS ?_
          (refine walkS_take (v := ?_) (some 19) rfl rfl (fun _ _ _ h => h) (by rfl) ?_ ?_; rotate_left; (focus (intro w' hw'; go_simp; (try with_reducible rfl))); (try simp only [Act.put, List.setIfInBounds_toArray, List.set_cons_zero, List.set_cons_succ]))
          (refine walkS_bin (some 20) _ _ _ _ _ _ _ _ (ltI_boolI _ _ _ hX1) rfl rfl rfl rfl rfl (fun _ _ _ h => h) (by rfl) ?_; (try simp only [Act.put, List.setIfInBounds_toArray, List.set_cons_zero, List.set_cons_succ]))
          (refine walkS_take (v := ?_) (some 21) rfl rfl (fun _ _ _ h => h) (by rfl) ?_ ?_; rotate_left; (focus (intro w' hw'; go_simp; (try with_reducible rfl))); (try simp only [Act.put, List.setIfInBounds_toArray, List.set_cons_zero, List.set_cons_succ]))
          (refine walkS_take (v := ?_) (some 22) rfl rfl (fun _ _ _ h => h) (by rfl) ?_ ?_; rotate_left; (focus (intro w' hw'; go_simp; (try with_reducible rfl))); (try simp only [Act.put, List.setIfInBounds_toArray, List.set_cons_zero, List.set_cons_succ]))
          (refine walkS_take (v := ?_) (some 23) rfl rfl (fun _ _ _ h => h) (by rfl) ?_ ?_; rotate_left; (focus (intro w' hw'; go_simp; (try with_reducible rfl))); (try simp only [Act.put, List.setIfInBounds_toArray, List.set_cons_zero, List.set_cons_succ]))
          (refine walkS_take (v := ?_) (some 24) rfl rfl (fun _ _ _ h => h) (by rfl) ?_ ?_; rotate_left; (focus (intro w' hw'; go_simp; (try with_reducible rfl))); (try simp only [Act.put, List.setIfInBounds_toArray, List.set_cons_zero, List.set_cons_succ]))
          (refine walkS_take (v := ?_) (some 25) rfl rfl (fun _ _ _ h => h) (by rfl) ?_ ?_; rotate_left; (focus (intro w' hw'; go_simp; (try with_reducible rfl))); (try simp only [Act.put, List.setIfInBounds_toArray, List.set_cons_zero, List.set_cons_succ]))
          (refine walkS_take (v := ?_) (some 26) rfl rfl (fun _ _ _ h => h) (by rfl) ?_ ?_; rotate_left; (focus (intro w' hw'; have y0 := (HLD.out w' hw').1; go_simp; (try with_reducible rfl))); (try simp only [Act.put, List.setIfInBounds_toArray, List.set_cons_zero, List.set_cons_succ]))
          (refine walkS_bin (some 27) _ _ _ _ _ _ _ _ (subI_runI _ _ _ ⟨rfl, HWR.out⟩) rfl rfl rfl rfl rfl (fun _ _ _ h => h) (by rfl) ?_; (try simp only [Act.put, List.setIfInBounds_toArray, List.set_cons_zero, List.set_cons_succ]))
          (refine walkS_take (v := ?_) (some 28) rfl rfl (fun _ _ _ h => h) (by rfl) ?_ ?_; rotate_left; (focus (intro w' hw'; go_simp; (try with_reducible rfl))); (try simp only [Act.put, List.setIfInBounds_toArray, List.set_cons_zero, List.set_cons_succ]))
          (refine walkS_take (v := ?_) (some 29) rfl rfl (fun _ _ _ h => h) (by rfl) ?_ ?_; rotate_left; (focus (intro w' hw'; have y0 := (HLD.out w' hw').2; go_simp; (try with_reducible rfl))); (try simp only [Act.put, List.setIfInBounds_toArray, List.set_cons_zero, List.set_cons_succ]))
          (refine walkS_bin (some 30) _ _ _ _ _ _ _ _ (ltI_boolI _ _ _ hX2) rfl rfl rfl rfl rfl (fun _ _ _ h => h) (by rfl) ?_; (try simp only [Act.put, List.setIfInBounds_toArray, List.set_cons_zero, List.set_cons_succ]))
          (refine walkS_take (v := ?_) (some 31) rfl rfl (fun _ _ _ h => h) (by rfl) ?_ ?_; rotate_left; (focus (intro w' hw'; go_simp; (try with_reducible rfl))); (try simp only [Act.put, List.setIfInBounds_toArray, List.set_cons_zero, List.set_cons_succ]))
          refine walkS_done ?_
          have T3 := Lib.hid hS
          generalize W2.drew = W3 at *
          have g3 := T3.out.keeps HG2.out (fun h => h)
          have x0 : W3.cell? ⟨wr.heap.size, 0, none⟩ = some (.int .u32 x.t.src) := cell_of_cells g3 0
          have x1 : W3.cell? ⟨wr.heap.size, 1, none⟩ = some (.int .u32 x.t.dst) := cell_of_cells g3 1
          have x2 : W3.cell? ⟨wr.heap.size, 2, none⟩ = some (.int .i64 x.t.proto) := cell_of_cells g3 2
          have x3 : W3.cell? ⟨wr.heap.size, 3, none⟩ = some (.int .i64 x.t.sport) := cell_of_cells g3 3
          have x4 : W3.cell? ⟨wr.heap.size, 4, none⟩ = some (.int .i64 x.t.dport) := cell_of_cells g3 4
          have x5 : W3.cell? ⟨wr.heap.size, 5, none⟩ = some (.int .i64 x.fb) := cell_of_cells g3 5
          have x6 : W3.cell? ⟨wr.heap.size, 6, none⟩ = some (.int .i64 x.fg) := cell_of_cells g3 6
          have x7 : W3.cell? ⟨wr.heap.size, 7, none⟩ = some (.int .i64 x.fs) := cell_of_cells g3 7
          have HK3 : RowKit.Hid (OwnS (W3.alloc (.cells #[.int .u32 x.t.src, .int .u32 x.t.dst, .int .i64 x.t.proto, .int .i64 x.t.sport, .int .i64 x.t.dport, .int .i64 x.fb, .int .i64 x.fg, .int .i64 x.fs] 35)) w.heap.size 35 8 (.slice ak mk ck) (K.map fcl)) := Lib.hid ((HK2.out.still T3.out).still ((Touch.refl W3 (fun _ => False)).alloc _))
          have hsz3 : w.heap.size ≤ W3.heap.size := Nat.le_trans hszx T3.out.size
          clear hS g3
          go_wp2_with (at_builtin; (with_reducible refine wp_add1 (w := W3) HK3.out rfl rfl rfl (by simp [Value.oneCell']) (by omega) 28 Tryz.underlying28 _ 56 HIF.out rfl (by decide) (by decide) hsz3 rfl _ _ rfl rfl rfl ?_); intro a5 c5 w5 ho5 t5 p5; have HO5 := Lib.hid ho5; have HT5 := Lib.hid t5; have HP5 := Lib.hid p5; clear ho5 t5 p5)
          go_roundw
          · exact HX.out _ _ _ (T3.out.mono (fun _ _ h => h.elim) |>.trans HT5.out (fun _ _ h => h)) HO5.out (fun q hq => (HP5.out q hq).imp (fun h => h) (fun h => Nat.le_trans T3.out.size h))
          · simp only [RowKit.intOf]; omega
      · have hgo' : goP wait now x = true := by simpa using hgo
        have hrow := HO2.out.row'.2.1
        have hcapO := hrow.hcap
        have hmaxO := hrow.hmax
        have HRO := Lib.hid hrow
        have hm4 : O.length ≤ 1000 := by
          have h1 := HPO.out.length_eq
          have h2 := List.length_filter_le (goP wait now) (G.take i)
          have h3 : (G.take i).length ≤ i := by rw [List.length_take]; omega
          omega
        have HTF1 : RowKit.Hid ((G.take (i + 1)).filter (goP wait now) = (G.take i).filter (goP wait now) ++ [x]) := Lib.hid (by rw [HTF.out, hgo']; rfl)
        have HTK1 : RowKit.Hid ((G.take (i + 1)).filter (fun d => !goP wait now d) = (G.take i).filter (fun d => !goP wait now d)) := Lib.hid (by rw [HTK.out, hgo']; rfl)
        unfold goP at hgo'
        simp only [Bool.not_eq_true', Bool.or_eq_false_iff, decide_eq_false_iff_not] at hgo'
        obtain ⟨hng, hfs⟩ := hgo'
        have hX1 : decide (now < 0) = false := decide_eq_false hng
        have hX2 : decide (now - wait < x.fs) = false := decide_eq_false hfs
        have HWR : RowKit.Hid (-9223372036854775808 ≤ now - wait ∧ now - wait ≤ 9223372036854775807) := Lib.hid (by have := HW8.out; have := HNOW.out; unfold i64 at this; omega)
        obtain ⟨m, hm⟩ : ∃ m, O.length = m := ⟨_, rfl⟩
        have HM := Lib.hid hm
        have HLT := Lib.hid (fun y hy => (HO2.out.row'.2.2 y hy))
        rw [hm] at hcapO HRO hm4 ⊢
        have HBLK := Lib.hid (show wr.heap.size < W2.heap.size from heap_lt HG2.out)
        clear hrow hm hgo
        go_upto_region 5 with (fail)
        rw [HW2.out]
        clear d0 d1 d2 d3 d4 d5 d6 d7 x0 x1 x2 x3 x4 x5 x6 x7 z2
        have hS := (Touch.refl W2 (fun _ => False)).drew
        refine wp_region_sched (fun w' => Touch W2 w' (fun _ => False)) [(0, true), (1, true), (2, true), (3, true), (4, true), (5, true), (6, true), (7, true), (8, true), (9, true), (10, true), (11, true), (12, true)] (by kernel_rfl) (by kernel_rfl) rfl (by kernel_rfl) hS ?_
        (refine walkS_take (v := ?_) (some 19) rfl rfl (fun _ _ _ h => h) (by rfl) ?_ ?_; rotate_left; (focus (intro w' hw'; go_simp; (try with_reducible rfl))); (try simp only [Act.put, List.setIfInBounds_toArray, List.set_cons_zero, List.set_cons_succ]))
        (refine walkS_bin (some 20) _ _ _ _ _ _ _ _ (ltI_boolI _ _ _ hX1) rfl rfl rfl rfl rfl (fun _ _ _ h => h) (by rfl) ?_; (try simp only [Act.put, List.setIfInBounds_toArray, List.set_cons_zero, List.set_cons_succ]))
        (refine walkS_take (v := ?_) (some 21) rfl rfl (fun _ _ _ h => h) (by rfl) ?_ ?_; rotate_left; (focus (intro w' hw'; go_simp; (try with_reducible rfl))); (try simp only [Act.put, List.setIfInBounds_toArray, List.set_cons_zero, List.set_cons_succ]))
        (refine walkS_take (v := ?_) (some 22) rfl rfl (fun _ _ _ h => h) (by rfl) ?_ ?_; rotate_left; (focus (intro w' hw'; go_simp; (try with_reducible rfl))); (try simp only [Act.put, List.setIfInBounds_toArray, List.set_cons_zero, List.set_cons_succ]))
        (refine walkS_take (v := ?_) (some 23) rfl rfl (fun _ _ _ h => h) (by rfl) ?_ ?_; rotate_left; (focus (intro w' hw'; go_simp; (try with_reducible rfl))); (try simp only [Act.put, List.setIfInBounds_toArray, List.set_cons_zero, List.set_cons_succ]))
        (refine walkS_take (v := ?_) (some 24) rfl rfl (fun _ _ _ h => h) (by rfl) ?_ ?_; rotate_left; (focus (intro w' hw'; go_simp; (try with_reducible rfl))); (try simp only [Act.put, List.setIfInBounds_toArray, List.set_cons_zero, List.set_cons_succ]))
        (refine walkS_take (v := ?_) (some 25) rfl rfl (fun _ _ _ h => h) (by rfl) ?_ ?_; rotate_left; (focus (intro w' hw'; go_simp; (try with_reducible rfl))); (try simp only [Act.put, List.setIfInBounds_toArray, List.set_cons_zero, List.set_cons_succ]))
        (refine walkS_take (v := ?_) (some 26) rfl rfl (fun _ _ _ h => h) (by rfl) ?_ ?_; rotate_left; (focus (intro w' hw'; have y0 := (HLD.out w' hw').1; go_simp; (try with_reducible rfl))); (try simp only [Act.put, List.setIfInBounds_toArray, List.set_cons_zero, List.set_cons_succ]))
        (refine walkS_bin (some 27) _ _ _ _ _ _ _ _ (subI_runI _ _ _ ⟨rfl, HWR.out⟩) rfl rfl rfl rfl rfl (fun _ _ _ h => h) (by rfl) ?_; (try simp only [Act.put, List.setIfInBounds_toArray, List.set_cons_zero, List.set_cons_succ]))
        (refine walkS_take (v := ?_) (some 28) rfl rfl (fun _ _ _ h => h) (by rfl) ?_ ?_; rotate_left; (focus (intro w' hw'; go_simp; (try with_reducible rfl))); (try simp only [Act.put, List.setIfInBounds_toArray, List.set_cons_zero, List.set_cons_succ]))
        (refine walkS_take (v := ?_) (some 29) rfl rfl (fun _ _ _ h => h) (by rfl) ?_ ?_; rotate_left; (focus (intro w' hw'; have y0 := (HLD.out w' hw').2; go_simp; (try with_reducible rfl))); (try simp only [Act.put, List.setIfInBounds_toArray, List.set_cons_zero, List.set_cons_succ]))
        (refine walkS_bin (some 30) _ _ _ _ _ _ _ _ (ltI_boolI _ _ _ hX2) rfl rfl rfl rfl rfl (fun _ _ _ h => h) (by rfl) ?_; (try simp only [Act.put, List.setIfInBounds_toArray, List.set_cons_zero, List.set_cons_succ]))
        (refine walkS_take (v := ?_) (some 31) rfl rfl (fun _ _ _ h => h) (by rfl) ?_ ?_; rotate_left; (focus (intro w' hw'; go_simp; (try with_reducible rfl))); (try simp only [Act.put, List.setIfInBounds_toArray, List.set_cons_zero, List.set_cons_succ]))
        refine walkS_done ?_
        have T3 := Lib.hid hS
        obtain ⟨W9, hW9⟩ : ∃ W, W2.drew = W := ⟨_, rfl⟩
        rw [hW9] at T3 ⊢
        have HO2 := Lib.hid (HO2.out.still T3.out)
        have HK2 := Lib.hid (HK2.out.still T3.out)
        have HT2 := Lib.hid (HT2.out.trans T3.out (fun _ _ h => h))
        have HG2 := Lib.hid (T3.out.keeps HG2.out (fun h => h))
        have HRO := Lib.hid (HRO.out.still T3.out)
        have HLT := Lib.hid (fun y hy => (HO2.out.row'.2.2 y hy))
        have HBLK := Lib.hid (Nat.lt_of_lt_of_le HBLK.out T3.out.size)
        clear hS hW9
        obtain ⟨blk, hblk⟩ : ∃ blk, wr.heap.size = blk := ⟨_, rfl⟩
        rw [hblk] at HG2 HBLK ⊢
        have HBK := Lib.hid hblk
        clear hblk
        have HHC : RowKit.Hid (∀ W, Touch W9 W (fun _ => False) → W.cell? ⟨blk, 7, none⟩ = some (.int .i64 x.fs)) := Lib.hid (fun W t => cell_of_cells (t.keeps HG2.out (fun h => h)) 7)
        obtain ⟨W0, hW0⟩ : ∃ W0, W0 = wr := ⟨_, rfl⟩
        rw [← hW0] at HT HO HK
        clear hW0
        go_upto_block 2 with fail
        go_cut [9] (fun s8 wx => ∃ k : Nat, k ≤ m ∧ s8 = .int .i64 k ∧ (∀ j, k ≤ j → j < O.length → x.fs < (gf O j).fs) ∧ (k = 0 ∨ (gf O (k - 1)).fs ≤ x.fs) ∧ Touch W9 wx (fun _ => False))
        case first =>
          clear hX1 hX2 hfs hng
          go_wp2_with fail
          go_loopw [9] (fun s8 wx => ∃ k : Nat, k ≤ m ∧ s8 = .int .i64 k ∧ (∀ j, k ≤ j → j < O.length → x.fs < (gf O j).fs) ∧ Touch W9 wx (fun _ => False)) (fun s8 _ => (RowKit.intOf s8).toNat)
          case atStart => exact ⟨m, Nat.le_refl _, rfl, fun j h1 h2 => by rw [HM.out] at h2; omega, Touch.refl _ _⟩
          case round =>
            obtain ⟨k, hk, rfl, hgt, htk⟩ := hrel
            have HGT := Lib.hid hgt
            have HTKK := Lib.hid htk
            clear hgt htk
            cases k with
            | zero =>
              go_upto_region 8 with (fail)
              have hS := (Touch.refl wr (fun _ => False)).drew
              refine wp_region_sched (fun w' => Touch wr w' (fun _ => False)) [(0, true), (1, true), (2, true), (3, true), (4, true), (5, true), (6, true), (7, true), (8, true), (9, true), (10, true), (11, true), (12, true)] (by kernel_rfl) (by kernel_rfl) rfl (by kernel_rfl) hS ?_
              (refine walkS_take (v := ?_) (some 38) rfl rfl (fun _ _ _ h => h) (by rfl) ?_ ?_; rotate_left; (focus (intro w' hw'; go_simp; (try with_reducible rfl))); (try simp only [Act.put, List.setIfInBounds_toArray, List.set_cons_zero, List.set_cons_succ]))
              (refine walkS_take (v := ?_) (some 39) rfl rfl (fun _ _ _ h => h) (by rfl) ?_ ?_; rotate_left; (focus (intro w' hw'; go_simp; (try with_reducible rfl))); (try simp only [Act.put, List.setIfInBounds_toArray, List.set_cons_zero, List.set_cons_succ]))
              (refine walkS_take (v := ?_) (some 40) rfl rfl (fun _ _ _ h => h) (by rfl) ?_ ?_; rotate_left; (focus (intro w' hw'; go_simp; (try with_reducible rfl))); (try simp only [Act.put, List.setIfInBounds_toArray, List.set_cons_zero, List.set_cons_succ]))
              first | (refine walkS_skip (some 41) rfl rfl (by rfl) (fun _ _ _ h => h) hS ?_; (try simp only [Act.put, List.setIfInBounds_toArray, List.set_cons_zero, List.set_cons_succ])) | (refine walkS_take (v := ?_) (some 41) rfl rfl (fun _ _ _ h => h) (by rfl) ?_ ?_; rotate_left; (focus (intro w' hw'; go_simp; (try with_reducible rfl))); (try simp only [Act.put, List.setIfInBounds_toArray, List.set_cons_zero, List.set_cons_succ]))
              first | (refine walkS_skip (some 42) rfl rfl (by rfl) (fun _ _ _ h => h) hS ?_; (try simp only [Act.put, List.setIfInBounds_toArray, List.set_cons_zero, List.set_cons_succ])) | (refine walkS_take (v := ?_) (some 42) rfl rfl (fun _ _ _ h => h) (by rfl) ?_ ?_; rotate_left; (focus (intro w' hw'; go_simp; (try with_reducible rfl))); (try simp only [Act.put, List.setIfInBounds_toArray, List.set_cons_zero, List.set_cons_succ]))
              first | (refine walkS_skip (some 43) rfl rfl (by rfl) (fun _ _ _ h => h) hS ?_; (try simp only [Act.put, List.setIfInBounds_toArray, List.set_cons_zero, List.set_cons_succ])) | (refine walkS_take (v := ?_) (some 43) rfl rfl (fun _ _ _ h => h) (by rfl) ?_ ?_; rotate_left; (focus (intro w' hw'; go_simp; (try with_reducible rfl))); (try simp only [Act.put, List.setIfInBounds_toArray, List.set_cons_zero, List.set_cons_succ]))
              first | (refine walkS_skip (some 44) rfl rfl (by rfl) (fun _ _ _ h => h) hS ?_; (try simp only [Act.put, List.setIfInBounds_toArray, List.set_cons_zero, List.set_cons_succ])) | (refine walkS_take (v := ?_) (some 44) rfl rfl (fun _ _ _ h => h) (by rfl) ?_ ?_; rotate_left; (focus (intro w' hw'; go_simp; (try with_reducible rfl))); (try simp only [Act.put, List.setIfInBounds_toArray, List.set_cons_zero, List.set_cons_succ]))
              first | (refine walkS_skip (some 45) rfl rfl (by rfl) (fun _ _ _ h => h) hS ?_; (try simp only [Act.put, List.setIfInBounds_toArray, List.set_cons_zero, List.set_cons_succ])) | (refine walkS_take (v := ?_) (some 45) rfl rfl (fun _ _ _ h => h) (by rfl) ?_ ?_; rotate_left; (focus (intro w' hw'; go_simp; (try with_reducible rfl))); (try simp only [Act.put, List.setIfInBounds_toArray, List.set_cons_zero, List.set_cons_succ]))
              first | (refine walkS_skip (some 46) rfl rfl (by rfl) (fun _ _ _ h => h) hS ?_; (try simp only [Act.put, List.setIfInBounds_toArray, List.set_cons_zero, List.set_cons_succ])) | (refine walkS_take (v := ?_) (some 46) rfl rfl (fun _ _ _ h => h) (by rfl) ?_ ?_; rotate_left; (focus (intro w' hw'; go_simp; (try with_reducible rfl))); (try simp only [Act.put, List.setIfInBounds_toArray, List.set_cons_zero, List.set_cons_succ]))
              first | (refine walkS_skip (some 47) rfl rfl (by rfl) (fun _ _ _ h => h) hS ?_; (try simp only [Act.put, List.setIfInBounds_toArray, List.set_cons_zero, List.set_cons_succ])) | (refine walkS_take (v := ?_) (some 47) rfl rfl (fun _ _ _ h => h) (by rfl) ?_ ?_; rotate_left; (focus (intro w' hw'; go_simp; (try with_reducible rfl))); (try simp only [Act.put, List.setIfInBounds_toArray, List.set_cons_zero, List.set_cons_succ]))
              first | (refine walkS_skip (some 48) rfl rfl (by rfl) (fun _ _ _ h => h) hS ?_; (try simp only [Act.put, List.setIfInBounds_toArray, List.set_cons_zero, List.set_cons_succ])) | (refine walkS_take (v := ?_) (some 48) rfl rfl (fun _ _ _ h => h) (by rfl) ?_ ?_; rotate_left; (focus (intro w' hw'; go_simp; (try with_reducible rfl))); (try simp only [Act.put, List.setIfInBounds_toArray, List.set_cons_zero, List.set_cons_succ]))
              first | (refine walkS_skip (some 49) rfl rfl (by rfl) (fun _ _ _ h => h) hS ?_; (try simp only [Act.put, List.setIfInBounds_toArray, List.set_cons_zero, List.set_cons_succ])) | (refine walkS_take (v := ?_) (some 49) rfl rfl (fun _ _ _ h => h) (by rfl) ?_ ?_; rotate_left; (focus (intro w' hw'; go_simp; (try with_reducible rfl))); (try simp only [Act.put, List.setIfInBounds_toArray, List.set_cons_zero, List.set_cons_succ]))
              (refine walkS_take (v := ?_) (some 50) rfl rfl (fun _ _ _ h => h) (by rfl) ?_ ?_; rotate_left; (focus (intro w' hw'; go_simp; (try with_reducible rfl))); (try simp only [Act.put, List.setIfInBounds_toArray, List.set_cons_zero, List.set_cons_succ]))
              refine walkS_done ?_
              go_wp2_with fail
              go_meet
              exact ⟨0, Nat.zero_le _, rfl, HGT.out, .inl rfl, HTKK.out.drew⟩
            | succ k =>
              have hrow := HRO.out.still HTKK.out
              obtain ⟨g2, off2, ea⟩ := hrow.some (by omega)
              subst ea
              have hkO : k < O.length := by rw [HM.out]; omega
              have HOC : RowKit.Hid (∀ W, Touch wr W (fun _ => False) → W.cell? ⟨g2, off2 + k * 8 + 7, none⟩ = some (.int .i64 (gf O k).fs)) := Lib.hid (fun W t => by rw [gf_get O k hkO]; exact (row_flc (hrow.still t) k hkO).2.2.2.2.2.2.2)
              have HXC : RowKit.Hid (∀ W, Touch wr W (fun _ => False) → W.cell? ⟨blk, 7, none⟩ = some (.int .i64 x.fs)) := Lib.hid (fun W t => HHC.out W (HTKK.out.trans t (fun _ _ h => h)))
              clear hrow hkO
              have hkm : (k : Int) < m := by omega
              have hk0 : (0 : Int) ≤ k := by omega
              have HWK := Lib.hid (show IntKind.i64.wrap (k : Int) = k from by rw [IntKind.wrap_i64]; omega)
              by_cases hc : x.fs < (gf O k).fs
              · have HX : RowKit.Hid (∀ W, Touch W9 W (fun _ => False) → ∃ k' : Nat, k' ≤ m ∧ Value.int .i64 (k : Int) = .int .i64 k' ∧ (∀ j, k' ≤ j → j < O.length → x.fs < (gf O j).fs) ∧ Touch W9 W (fun _ => False)) := Lib.hid (fun W t => ⟨k, by omega, rfl, fun j h1 h2 => by
                  by_cases e : j = k
                  · rw [e]; exact hc
                  · exact HGT.out j (by omega) h2, t⟩)
                generalize (gf O k).fs = ku at *
                go_upto_region 8 with (fail)
                have hS := (Touch.refl wr (fun _ => False)).drew
                refine wp_region_sched (fun w' => Touch wr w' (fun _ => False)) [(0, true), (1, true), (2, true), (3, true), (4, true), (5, true), (6, true), (7, true), (8, true), (9, true), (10, true), (11, true), (12, true)] (by kernel_rfl) (by kernel_rfl) rfl (by kernel_rfl) hS ?_
                (refine walkS_take (v := ?_) (some 38) rfl rfl (fun _ _ _ h => h) (by rfl) ?_ ?_; rotate_left; (focus (intro w' hw'; have y0 := HOC.out w' hw'; have y1 := HXC.out w' hw'; go_simp; (try with_reducible rfl))); (try simp only [Act.put, List.setIfInBounds_toArray, List.set_cons_zero, List.set_cons_succ]))
                (refine walkS_take (v := ?_) (some 39) rfl rfl (fun _ _ _ h => h) (by rfl) ?_ ?_; rotate_left; (focus (intro w' hw'; have y0 := HOC.out w' hw'; have y1 := HXC.out w' hw'; go_simp; (try with_reducible rfl))); (try simp only [Act.put, List.setIfInBounds_toArray, List.set_cons_zero, List.set_cons_succ]))
                (refine walkS_take (v := ?_) (some 40) rfl rfl (fun _ _ _ h => h) (by rfl) ?_ ?_; rotate_left; (focus (intro w' hw'; have y0 := HOC.out w' hw'; have y1 := HXC.out w' hw'; go_simp; (try with_reducible rfl))); (try simp only [Act.put, List.setIfInBounds_toArray, List.set_cons_zero, List.set_cons_succ]))
                (refine walkS_take (v := ?_) (some 41) rfl rfl (fun _ _ _ h => h) (by rfl) ?_ ?_; rotate_left; (focus (intro w' hw'; have y0 := HOC.out w' hw'; have y1 := HXC.out w' hw'; go_simp; (try with_reducible rfl))); (try simp only [Act.put, List.setIfInBounds_toArray, List.set_cons_zero, List.set_cons_succ]))
                (refine walkS_take (v := ?_) (some 42) rfl rfl (fun _ _ _ h => h) (by rfl) ?_ ?_; rotate_left; (focus (intro w' hw'; have y0 := HOC.out w' hw'; have y1 := HXC.out w' hw'; go_simp; (try with_reducible rfl))); (try simp only [Act.put, List.setIfInBounds_toArray, List.set_cons_zero, List.set_cons_succ]))
                (refine walkS_take (v := ?_) (some 43) rfl rfl (fun _ _ _ h => h) (by rfl) ?_ ?_; rotate_left; (focus (intro w' hw'; go_simp; rw [HWK.out])); (try simp only [Act.put, List.setIfInBounds_toArray, List.set_cons_zero, List.set_cons_succ]))
                (refine walkS_take (v := ?_) (some 44) rfl rfl (fun _ _ _ h => h) (by rfl) ?_ ?_; rotate_left; (focus (intro w' hw'; have y0 := HOC.out w' hw'; have y1 := HXC.out w' hw'; go_simp; (try with_reducible rfl))); (try simp only [Act.put, List.setIfInBounds_toArray, List.set_cons_zero, List.set_cons_succ]))
                (refine walkS_take (v := ?_) (some 45) rfl rfl (fun _ _ _ h => h) (by rfl) ?_ ?_; rotate_left; (focus (intro w' hw'; have y0 := HOC.out w' hw'; have y1 := HXC.out w' hw'; go_simp; (try with_reducible rfl))); (try simp only [Act.put, List.setIfInBounds_toArray, List.set_cons_zero, List.set_cons_succ]))
                (refine walkS_take (v := ?_) (some 46) rfl rfl (fun _ _ _ h => h) (by rfl) ?_ ?_; rotate_left; (focus (intro w' hw'; have y0 := HOC.out w' hw'; have y1 := HXC.out w' hw'; go_simp; (try with_reducible rfl))); (try simp only [Act.put, List.setIfInBounds_toArray, List.set_cons_zero, List.set_cons_succ]))
                (refine walkS_take (v := ?_) (some 47) rfl rfl (fun _ _ _ h => h) (by rfl) ?_ ?_; rotate_left; (focus (intro w' hw'; have y0 := HOC.out w' hw'; have y1 := HXC.out w' hw'; go_simp; (try with_reducible rfl))); (try simp only [Act.put, List.setIfInBounds_toArray, List.set_cons_zero, List.set_cons_succ]))
                (refine walkS_take (v := ?_) (some 48) rfl rfl (fun _ _ _ h => h) (by rfl) ?_ ?_; rotate_left; (focus (intro w' hw'; have y0 := HOC.out w' hw'; have y1 := HXC.out w' hw'; go_simp; (try with_reducible rfl))); (try simp only [Act.put, List.setIfInBounds_toArray, List.set_cons_zero, List.set_cons_succ]))
                (refine walkS_take (v := ?_) (some 49) rfl rfl (fun _ _ _ h => h) (by rfl) ?_ ?_; rotate_left; (focus (intro w' hw'; have y0 := HOC.out w' hw'; have y1 := HXC.out w' hw'; go_simp; (try with_reducible rfl))); (try simp only [Act.put, List.setIfInBounds_toArray, List.set_cons_zero, List.set_cons_succ]))
                (refine walkS_take (v := ?_) (some 50) rfl rfl (fun _ _ _ h => h) (by rfl) ?_ ?_; rotate_left; (focus (intro w' hw'; have y0 := HOC.out w' hw'; have y1 := HXC.out w' hw'; go_simp; (try with_reducible rfl))); (try simp only [Act.put, List.setIfInBounds_toArray, List.set_cons_zero, List.set_cons_succ]))
                refine walkS_done ?_
                go_wp2_with fail
                go_roundw
                · exact HX.out _ (HTKK.out.trans ((Touch.refl wr (fun _ => False)).drew) (fun _ _ h => h))
                · simp only [RowKit.intOf]; omega
              · have HLE : RowKit.Hid ((gf O k).fs ≤ x.fs) := Lib.hid (by omega)
                obtain ⟨ku, hku⟩ : ∃ ku, (gf O k).fs = ku := ⟨_, rfl⟩
                rw [hku] at HOC hc
                clear hku
                go_upto_region 8 with (fail)
                have hS := (Touch.refl wr (fun _ => False)).drew
                refine wp_region_sched (fun w' => Touch wr w' (fun _ => False)) [(0, true), (1, true), (2, true), (3, true), (4, true), (5, true), (6, true), (7, true), (8, true), (9, true), (10, true), (11, true), (12, true)] (by kernel_rfl) (by kernel_rfl) rfl (by kernel_rfl) hS ?_
                (refine walkS_take (v := ?_) (some 38) rfl rfl (fun _ _ _ h => h) (by rfl) ?_ ?_; rotate_left; (focus (intro w' hw'; have y0 := HOC.out w' hw'; have y1 := HXC.out w' hw'; go_simp; (try with_reducible rfl))); (try simp only [Act.put, List.setIfInBounds_toArray, List.set_cons_zero, List.set_cons_succ]))
                (refine walkS_take (v := ?_) (some 39) rfl rfl (fun _ _ _ h => h) (by rfl) ?_ ?_; rotate_left; (focus (intro w' hw'; have y0 := HOC.out w' hw'; have y1 := HXC.out w' hw'; go_simp; (try with_reducible rfl))); (try simp only [Act.put, List.setIfInBounds_toArray, List.set_cons_zero, List.set_cons_succ]))
                (refine walkS_take (v := ?_) (some 40) rfl rfl (fun _ _ _ h => h) (by rfl) ?_ ?_; rotate_left; (focus (intro w' hw'; have y0 := HOC.out w' hw'; have y1 := HXC.out w' hw'; go_simp; (try with_reducible rfl))); (try simp only [Act.put, List.setIfInBounds_toArray, List.set_cons_zero, List.set_cons_succ]))
                (refine walkS_take (v := ?_) (some 41) rfl rfl (fun _ _ _ h => h) (by rfl) ?_ ?_; rotate_left; (focus (intro w' hw'; have y0 := HOC.out w' hw'; have y1 := HXC.out w' hw'; go_simp; (try with_reducible rfl))); (try simp only [Act.put, List.setIfInBounds_toArray, List.set_cons_zero, List.set_cons_succ]))
                (refine walkS_take (v := ?_) (some 42) rfl rfl (fun _ _ _ h => h) (by rfl) ?_ ?_; rotate_left; (focus (intro w' hw'; have y0 := HOC.out w' hw'; have y1 := HXC.out w' hw'; go_simp; (try with_reducible rfl))); (try simp only [Act.put, List.setIfInBounds_toArray, List.set_cons_zero, List.set_cons_succ]))
                (refine walkS_take (v := ?_) (some 43) rfl rfl (fun _ _ _ h => h) (by rfl) ?_ ?_; rotate_left; (focus (intro w' hw'; go_simp; rw [HWK.out])); (try simp only [Act.put, List.setIfInBounds_toArray, List.set_cons_zero, List.set_cons_succ]))
                (refine walkS_take (v := ?_) (some 44) rfl rfl (fun _ _ _ h => h) (by rfl) ?_ ?_; rotate_left; (focus (intro w' hw'; have y0 := HOC.out w' hw'; have y1 := HXC.out w' hw'; go_simp; (try with_reducible rfl))); (try simp only [Act.put, List.setIfInBounds_toArray, List.set_cons_zero, List.set_cons_succ]))
                (refine walkS_take (v := ?_) (some 45) rfl rfl (fun _ _ _ h => h) (by rfl) ?_ ?_; rotate_left; (focus (intro w' hw'; have y0 := HOC.out w' hw'; have y1 := HXC.out w' hw'; go_simp; (try with_reducible rfl))); (try simp only [Act.put, List.setIfInBounds_toArray, List.set_cons_zero, List.set_cons_succ]))
                (refine walkS_take (v := ?_) (some 46) rfl rfl (fun _ _ _ h => h) (by rfl) ?_ ?_; rotate_left; (focus (intro w' hw'; have y0 := HOC.out w' hw'; have y1 := HXC.out w' hw'; go_simp; (try with_reducible rfl))); (try simp only [Act.put, List.setIfInBounds_toArray, List.set_cons_zero, List.set_cons_succ]))
                (refine walkS_take (v := ?_) (some 47) rfl rfl (fun _ _ _ h => h) (by rfl) ?_ ?_; rotate_left; (focus (intro w' hw'; have y0 := HOC.out w' hw'; have y1 := HXC.out w' hw'; go_simp; (try with_reducible rfl))); (try simp only [Act.put, List.setIfInBounds_toArray, List.set_cons_zero, List.set_cons_succ]))
                (refine walkS_take (v := ?_) (some 48) rfl rfl (fun _ _ _ h => h) (by rfl) ?_ ?_; rotate_left; (focus (intro w' hw'; have y0 := HOC.out w' hw'; have y1 := HXC.out w' hw'; go_simp; (try with_reducible rfl))); (try simp only [Act.put, List.setIfInBounds_toArray, List.set_cons_zero, List.set_cons_succ]))
                (refine walkS_take (v := ?_) (some 49) rfl rfl (fun _ _ _ h => h) (by rfl) ?_ ?_; rotate_left; (focus (intro w' hw'; have y0 := HOC.out w' hw'; have y1 := HXC.out w' hw'; go_simp; (try with_reducible rfl))); (try simp only [Act.put, List.setIfInBounds_toArray, List.set_cons_zero, List.set_cons_succ]))
                (refine walkS_take (v := ?_) (some 50) rfl rfl (fun _ _ _ h => h) (by rfl) ?_ ?_; rotate_left; (focus (intro w' hw'; have y0 := HOC.out w' hw'; have y1 := HXC.out w' hw'; go_simp; (try with_reducible rfl))); (try simp only [Act.put, List.setIfInBounds_toArray, List.set_cons_zero, List.set_cons_succ]))
                refine walkS_done ?_
                go_wp2_with fail
                go_meet
                exact ⟨k + 1, hk, rfl, HGT.out, .inr HLE.out, HTKK.out.drew⟩
        case rest =>
          obtain ⟨k, hk, rfl, hgt, hle, htc⟩ := hcut
          have HPUT := Lib.hid (sortS_put HSO.out (by rw [HM.out]; exact hk) hgt hle HXB.out)
          have HRC := Lib.hid (HRO.out.still htc)
          have HTC := Lib.hid htc
          have HG : RowKit.Hid (∀ W, Touch wc W (fun _ => False) → W.heap[blk]? = some (.cells (fca x) 35 (0, 0))) := Lib.hid (fun W t => t.keeps (htc.keeps HG2.out (fun h => h)) (fun h => h))
          have HI2 := Lib.hid infoFlG
          simp only [fca] at HG
          have HKC := Lib.hid (HK2.out.still htc)
          have HX : RowKit.Hid (∀ W a'' c'', Touch wc W (fun _ => False) → OwnS W wc.heap.size 35 8 (.slice a'' (m + 1) c'') ((O.take k ++ x :: O.drop k).map fcl) → ∃ (i' : Nat) (O' K' : List FlD) (a3 ak' : Option Addr) (c3 ck' : Nat), i' ≤ n ∧ Value.int .i64 ((i : Int) + 1) = .int .i64 i' ∧ Value.slice a'' (m + 1) c'' = .slice a3 O'.length c3 ∧ Value.slice ak K.length ck = .slice ak' K'.length ck' ∧ OwnS W w.heap.size 35 8 (.slice a3 O'.length c3) (O'.map fcl) ∧ OwnS W w.heap.size 35 8 (.slice ak' K'.length ck') (K'.map fcl) ∧ (∀ x y, a3 = some x → ak' = some y → x.block ≠ y.block) ∧ SortS O' ∧ O'.Perm ((G.take i').filter (goP wait now)) ∧ K' = (G.take i').filter (fun d => !goP wait now d) ∧ Touch w W (fun _ => False)) := Lib.hid (fun W a'' c'' t ho => by
            have hlen : (O.take k ++ x :: O.drop k).length = m + 1 := by
              have := HM.out
              rw [List.length_append, List.length_cons, List.length_take, List.length_drop]; omega
            refine ⟨i + 1, O.take k ++ x :: O.drop k, K, a'', ak, c'', ck, by omega, by go_num, by rw [hlen], rfl, ?_, HKC.out.still t, fun y z hy hz => ?_, HPUT.out, ?_, ?_, (HT2.out.trans HTC.out (fun _ _ h => h)).trans t (fun _ _ h => h)⟩
            · rw [hlen]
              exact ho.rebase (fun y hy => by have h1 := (ho.own.lt y hy).1; have h2 := HT2.out.size; have h3 := HTC.out.size; omega)
            · have h1 := (ho.row'.2.2 y hy).1
              have h2 := (HKC.out.row'.2.2 z hz).2
              omega
            · rw [HTF1.out]
              have h1 : (O.take k ++ x :: O.drop k).Perm (x :: O) := by
                have h2 := List.perm_middle (a := x) (l₁ := O.take k) (l₂ := O.drop k)
                rwa [List.take_append_drop] at h2
              exact h1.trans ((HPO.out.cons x).trans (List.perm_append_comm (l₁ := [x])))
            · rw [HTK1.out]; exact HKE.out)
          clear hX1 hX2 hfs hng
          obtain hnone | ⟨g2, off2, hsome⟩ := own_plD HO2.out
          · subst hnone
            have hO0 : O = [] := by
              cases O with
              | nil => rfl
              | cons y O => obtain ⟨_, _, e⟩ := HRC.out.some (by have := HM.out; simp at this; omega); cases e
            have hm0 : m = 0 := by rw [← HM.out, hO0]; rfl
            have hk0 : k = 0 := by omega
            subst hO0
            subst hk0
            rw [hm0] at HRC HX hcapO ⊢
            clear HPUT HM hm0 hgt hle hk hm4 HO2 HRO
            have HRW : RowKit.Hid (RowS wc.drew none 0 c' 8 (([] : List FlD).map fcl)) := Lib.hid (HRC.out.still ((Touch.refl wc (fun _ => False)).drew))
            go_upto_region 10 with (fail)
            have hS := (Touch.refl wc (fun _ => False)).drew
            refine wp_region_tree (fun w' => Touch wc w' (fun _ => False)) (.take 0 (.take 1 (.take 2 (.take 4 (.take 7 (.take 8 (.take 9 (.two 3 5 (.one 5 (.one 6 (.one 10 (.take 11 .fin)))) (.one 3 (.one 6 (.one 10 (.take 11 .fin)))))))))))) (by kernel_rfl) (by kernel_rfl) (by kernel_rfl) (by kernel_rfl) hS ?_
            refine walkT_take ?_
            (refine takeN_take (v := ?_) (some 53) rfl rfl (fun _ _ _ h => h) (by rfl) ?_ ?_; rotate_left; (focus (intro w' hw'; go_simp; (try with_reducible rfl))); (try simp only [Act.put, List.setIfInBounds_toArray, List.set_cons_zero, List.set_cons_succ]))
            refine walkT_take ?_
            (refine takeN_take (v := ?_) (some 54) rfl rfl (fun _ _ _ h => h) (by rfl) ?_ ?_; rotate_left; (focus (intro w' hw'; go_simp; (try with_reducible rfl))); (try simp only [Act.put, List.setIfInBounds_toArray, List.set_cons_zero, List.set_cons_succ]))
            refine walkT_take ?_
            (refine takeN_take (v := ?_) (some 55) rfl rfl (fun _ _ _ h => h) (by rfl) ?_ ?_; rotate_left; (focus (intro w' hw'; go_simp; (try with_reducible rfl))); (try simp only [Act.put, List.setIfInBounds_toArray, List.set_cons_zero, List.set_cons_succ]))
            refine walkT_take ?_
            (refine takeN_row (some 57) rfl rfl 35 (.tmp 8) rfl (blk) rfl _ _ _ _ (fun w' h => HG.out w' h) Tryz.underlying35 rfl HI2.out (fun _ _ _ h => h) (by rfl) ?_; (try simp only [Act.put, List.setIfInBounds_toArray, List.set_cons_zero, List.set_cons_succ]))
            refine walkT_take ?_
            (refine takeN_take (v := ?_) (some 60) rfl rfl (fun _ _ _ h => h) (by rfl) ?_ ?_; rotate_left; (focus (intro w' hw'; go_simp; (try with_reducible rfl))); (try simp only [Act.put, List.setIfInBounds_toArray, List.set_cons_zero, List.set_cons_succ]))
            refine walkT_take ?_
            (refine takeN_take (v := ?_) (some 61) rfl rfl (fun _ _ _ h => h) (by rfl) ?_ ?_; rotate_left; (focus (intro w' hw'; go_simp; (try with_reducible rfl))); (try simp only [Act.put, List.setIfInBounds_toArray, List.set_cons_zero, List.set_cons_succ]))
            refine walkT_take ?_
            (refine takeN_take (v := ?_) (some 62) rfl rfl (fun _ _ _ h => h) (by rfl) ?_ ?_; rotate_left; (focus (intro w' hw'; go_simp; (try with_reducible rfl))); (try simp only [Act.put, List.setIfInBounds_toArray, List.set_cons_zero, List.set_cons_succ]))
            refine walkT_two ?_ ?_
            · (refine runN_appS 56 (.const (.slice none 0 0)) (.tmp 55) _ rfl rfl rfl (by rfl) 35 Tryz.underlying28 _ 8 56 infoFlowB rfl (by decide) wc.heap.size _ _ rfl (OwnS.nil _ _ _ _) _ _ _ _ rfl (RowS.nil _ _ _ _ (by omega)) (by simp) (0) ((([] : List FlD)).map fcl) (by simp) (by simp) (by simp only [maxLen]; omega) (by omega) hS.size ?_; intro a7 c7 w7 how9 hg9 hp9; have t9 := (Touch.refl _ (fun _ => False)).grown hg9 (fun k hk _ => by cases hk); have hS := hS.trans t9 (fun k h1 h2 => by first | exact h2.elim | (have h2 : wc.heap.size ≤ k := h2; omega)); refine ⟨hS, fun _ => ?_⟩; have HRW := Lib.hid (HRW.out.still t9); (try have HNW := Lib.hid (HNW.out.still t9)); have HO1 := Lib.hid how9; clear how9 hg9 hp9 t9; (try simp only [Act.put, List.setIfInBounds_toArray, List.set_cons_zero, List.set_cons_succ]))
              refine walkT_one ?_
              (refine runN_new 58 (fun W => .slice (some ⟨W.heap.size, 0, none⟩) 1 1) #[.int .u32 x.t.src, .int .u32 x.t.dst, .int .i64 x.t.proto, .int .i64 x.t.sport, .int .i64 x.t.dport, .int .i64 x.fb, .int .i64 x.fg, .int .i64 x.fs] 35 rfl rfl (by rfl) (by intro W; go_simp <;> first | with_reducible rfl | rfl | exact ⟨rfl, rfl⟩) ?_; intro w7 hw7 hM7 hs7 t9; have hS := hS.trans t9 (fun _ _ h => h.elim); refine ⟨hS, fun _ => ?_⟩; have HNW := Lib.hid (show RowS w7 _ 1 1 8 [fcl x] by rw [hw7]; exact ((OwnS.lit _ _ (Nat.le_refl _) 35 8 1 [fcl x] _ rfl rfl (by simp [fcl]) (by decide)).row').2.1); have HRW := Lib.hid (HRW.out.still t9); (try have HO1 := Lib.hid (HO1.out.still t9)); clear hw7 hM7 hs7 t9; (try simp only [Act.put, List.setIfInBounds_toArray, List.set_cons_zero, List.set_cons_succ]))
              refine walkT_one ?_
              (refine runN_appS 59 (.tmp 56) (.tmp 58) _ rfl rfl rfl (by rfl) 35 Tryz.underlying28 _ 8 56 infoFlowB rfl (by decide) wc.heap.size _ _ rfl HO1.out _ _ _ _ rfl HNW.out (one_fcl1P x) (1) ((([] : List FlD) ++ [x]).map fcl) (by simp) (by simp) (by simp only [maxLen]; omega) (by omega) hS.size ?_; intro a12 c12 w12 how9 hg9 hp9; have t9 := (Touch.refl _ (fun k => wc.heap.size ≤ k)).grown hg9 (fun k hk _ => (HO1.out.own.lt k hk).1); have hS := hS.trans t9 (fun k h1 h2 => by first | exact h2.elim | (have h2 : wc.heap.size ≤ k := h2; omega)); refine ⟨hS, fun _ => ?_⟩; have HRW := Lib.hid (HRW.out.touch t9 (fun y hy => by rcases HRC.out.lt y hy with h | h; exact .inl h; exact .inr (fun h2 => by have h2 : wc.heap.size ≤ y.block := h2; omega))); have HOB := Lib.hid how9; clear how9 hg9 hp9 t9; (try simp only [Act.put, List.setIfInBounds_toArray, List.set_cons_zero, List.set_cons_succ]))
              refine walkT_one ?_
              (refine runN_appS 63 (.tmp 59) (.tmp 62) _ rfl rfl rfl (by rfl) 35 Tryz.underlying28 _ 8 56 infoFlowB rfl (by decide) wc.heap.size _ _ rfl HOB.out _ _ _ _ rfl (RowS.nil _ _ _ _ (by omega)) (by simp) (1) ((([] : List FlD) ++ x :: ([] : List FlD)).map fcl) (by simp) (by simp) (by simp only [maxLen]; omega) (by omega) hS.size ?_; intro a19 c19 w19 how9 hg9 hp9; have t9 := (Touch.refl _ (fun k => wc.heap.size ≤ k)).grown hg9 (fun k hk _ => (HOB.out.own.lt k hk).1); have hS := hS.trans t9 (fun k h1 h2 => by first | exact h2.elim | (have h2 : wc.heap.size ≤ k := h2; omega)); refine ⟨hS, fun _ => ?_⟩; have HRW := Lib.hid (HRW.out.touch t9 (fun y hy => by rcases HRC.out.lt y hy with h | h; exact .inl h; exact .inr (fun h2 => by have h2 : wc.heap.size ≤ y.block := h2; omega))); have HO3 := Lib.hid how9; have HY := Lib.hid (HX.out _ _ _ hS how9); clear how9 hg9 hp9 t9; (try simp only [Act.put, List.setIfInBounds_toArray, List.set_cons_zero, List.set_cons_succ]))
              refine walkT_take ?_
              (refine takeN_take (v := ?_) (some 5) rfl rfl (fun _ _ _ h => h) (by rfl) ?_ ?_; rotate_left; (focus (intro w' hw'; go_simp; (try with_reducible rfl))); (try simp only [Act.put, List.setIfInBounds_toArray, List.set_cons_zero, List.set_cons_succ]))
              refine walkT_fin ?_
              go_wp2_with fail
              go_roundw
              · exact HY.out
              · simp only [RowKit.intOf]; omega
            · (refine runN_new 58 (fun W => .slice (some ⟨W.heap.size, 0, none⟩) 1 1) #[.int .u32 x.t.src, .int .u32 x.t.dst, .int .i64 x.t.proto, .int .i64 x.t.sport, .int .i64 x.t.dport, .int .i64 x.fb, .int .i64 x.fg, .int .i64 x.fs] 35 rfl rfl (by rfl) (by intro W; go_simp <;> first | with_reducible rfl | rfl | exact ⟨rfl, rfl⟩) ?_; intro w7 hw7 hM7 hs7 t9; have hS := hS.trans t9 (fun _ _ h => h.elim); refine ⟨hS, fun _ => ?_⟩; have HNW := Lib.hid (show RowS w7 _ 1 1 8 [fcl x] by rw [hw7]; exact ((OwnS.lit _ _ (Nat.le_refl _) 35 8 1 [fcl x] _ rfl rfl (by simp [fcl]) (by decide)).row').2.1); have HRW := Lib.hid (HRW.out.still t9); (try have HO1 := Lib.hid (HO1.out.still t9)); clear hw7 hM7 hs7 t9; (try simp only [Act.put, List.setIfInBounds_toArray, List.set_cons_zero, List.set_cons_succ]))
              refine walkT_one ?_
              (refine runN_appS 56 (.const (.slice none 0 0)) (.tmp 55) _ rfl rfl rfl (by rfl) 35 Tryz.underlying28 _ 8 56 infoFlowB rfl (by decide) wc.heap.size _ _ rfl (OwnS.nil _ _ _ _) _ _ _ _ rfl (RowS.nil _ _ _ _ (by omega)) (by simp) (0) ((([] : List FlD)).map fcl) (by simp) (by simp) (by simp only [maxLen]; omega) (by omega) hS.size ?_; intro a7 c7 w7 how9 hg9 hp9; have t9 := (Touch.refl _ (fun _ => False)).grown hg9 (fun k hk _ => by cases hk); have hS := hS.trans t9 (fun k h1 h2 => by first | exact h2.elim | (have h2 : wc.heap.size ≤ k := h2; omega)); refine ⟨hS, fun _ => ?_⟩; have HRW := Lib.hid (HRW.out.still t9); (try have HNW := Lib.hid (HNW.out.still t9)); have HO1 := Lib.hid how9; clear how9 hg9 hp9 t9; (try simp only [Act.put, List.setIfInBounds_toArray, List.set_cons_zero, List.set_cons_succ]))
              refine walkT_one ?_
              (refine runN_appS 59 (.tmp 56) (.tmp 58) _ rfl rfl rfl (by rfl) 35 Tryz.underlying28 _ 8 56 infoFlowB rfl (by decide) wc.heap.size _ _ rfl HO1.out _ _ _ _ rfl HNW.out (one_fcl1P x) (1) ((([] : List FlD) ++ [x]).map fcl) (by simp) (by simp) (by simp only [maxLen]; omega) (by omega) hS.size ?_; intro a12 c12 w12 how9 hg9 hp9; have t9 := (Touch.refl _ (fun k => wc.heap.size ≤ k)).grown hg9 (fun k hk _ => (HO1.out.own.lt k hk).1); have hS := hS.trans t9 (fun k h1 h2 => by first | exact h2.elim | (have h2 : wc.heap.size ≤ k := h2; omega)); refine ⟨hS, fun _ => ?_⟩; have HRW := Lib.hid (HRW.out.touch t9 (fun y hy => by rcases HRC.out.lt y hy with h | h; exact .inl h; exact .inr (fun h2 => by have h2 : wc.heap.size ≤ y.block := h2; omega))); have HOB := Lib.hid how9; clear how9 hg9 hp9 t9; (try simp only [Act.put, List.setIfInBounds_toArray, List.set_cons_zero, List.set_cons_succ]))
              refine walkT_one ?_
              (refine runN_appS 63 (.tmp 59) (.tmp 62) _ rfl rfl rfl (by rfl) 35 Tryz.underlying28 _ 8 56 infoFlowB rfl (by decide) wc.heap.size _ _ rfl HOB.out _ _ _ _ rfl (RowS.nil _ _ _ _ (by omega)) (by simp) (1) ((([] : List FlD) ++ x :: ([] : List FlD)).map fcl) (by simp) (by simp) (by simp only [maxLen]; omega) (by omega) hS.size ?_; intro a19 c19 w19 how9 hg9 hp9; have t9 := (Touch.refl _ (fun k => wc.heap.size ≤ k)).grown hg9 (fun k hk _ => (HOB.out.own.lt k hk).1); have hS := hS.trans t9 (fun k h1 h2 => by first | exact h2.elim | (have h2 : wc.heap.size ≤ k := h2; omega)); refine ⟨hS, fun _ => ?_⟩; have HRW := Lib.hid (HRW.out.touch t9 (fun y hy => by rcases HRC.out.lt y hy with h | h; exact .inl h; exact .inr (fun h2 => by have h2 : wc.heap.size ≤ y.block := h2; omega))); have HO3 := Lib.hid how9; have HY := Lib.hid (HX.out _ _ _ hS how9); clear how9 hg9 hp9 t9; (try simp only [Act.put, List.setIfInBounds_toArray, List.set_cons_zero, List.set_cons_succ]))
              refine walkT_take ?_
              (refine takeN_take (v := ?_) (some 5) rfl rfl (fun _ _ _ h => h) (by rfl) ?_ ?_; rotate_left; (focus (intro w' hw'; go_simp; (try with_reducible rfl))); (try simp only [Act.put, List.setIfInBounds_toArray, List.set_cons_zero, List.set_cons_succ]))
              refine walkT_fin ?_
              go_wp2_with fail
              go_roundw
              · exact HY.out
              · simp only [RowKit.intOf]; omega
          · subst hsome
            have hkc : k ≤ c' := Nat.le_trans hk hcapO
            have HRW : RowKit.Hid (RowS wc.drew (some ⟨g2, off2, none⟩) m c' 8 (O.map fcl)) := Lib.hid (HRC.out.still ((Touch.refl wc (fun _ => False)).drew))
            clear hgt hle HO2 HRO
            go_upto_region 10 with (fail)
            have hS := (Touch.refl wc (fun _ => False)).drew
            refine wp_region_tree (fun w' => Touch wc w' (fun _ => False)) (.take 0 (.take 1 (.take 2 (.take 4 (.take 7 (.take 8 (.take 9 (.two 3 5 (.one 5 (.one 6 (.one 10 (.take 11 .fin)))) (.one 3 (.one 6 (.one 10 (.take 11 .fin)))))))))))) (by kernel_rfl) (by kernel_rfl) (by kernel_rfl) (by kernel_rfl) hS ?_
            refine walkT_take ?_
            (refine takeN_take (v := ?_) (some 53) rfl rfl (fun _ _ _ h => h) (by rfl) ?_ ?_; rotate_left; (focus (intro w' hw'; go_simp; (try with_reducible rfl))); (try simp only [Act.put, List.setIfInBounds_toArray, List.set_cons_zero, List.set_cons_succ]))
            refine walkT_take ?_
            (refine takeN_take (v := ?_) (some 54) rfl rfl (fun _ _ _ h => h) (by rfl) ?_ ?_; rotate_left; (focus (intro w' hw'; go_simp; (try with_reducible rfl))); (try simp only [Act.put, List.setIfInBounds_toArray, List.set_cons_zero, List.set_cons_succ]))
            refine walkT_take ?_
            (refine takeN_take (v := ?_) (some 55) rfl rfl (fun _ _ _ h => h) (by rfl) ?_ ?_; rotate_left; (focus (intro w' hw'; go_simp; (try with_reducible rfl))); (try simp only [Act.put, List.setIfInBounds_toArray, List.set_cons_zero, List.set_cons_succ]))
            refine walkT_take ?_
            (refine takeN_row (some 57) rfl rfl 35 (.tmp 8) rfl (blk) rfl _ _ _ _ (fun w' h => HG.out w' h) Tryz.underlying35 rfl HI2.out (fun _ _ _ h => h) (by rfl) ?_; (try simp only [Act.put, List.setIfInBounds_toArray, List.set_cons_zero, List.set_cons_succ]))
            refine walkT_take ?_
            (refine takeN_take (v := ?_) (some 60) rfl rfl (fun _ _ _ h => h) (by rfl) ?_ ?_; rotate_left; (focus (intro w' hw'; go_simp; (try with_reducible rfl))); (try simp only [Act.put, List.setIfInBounds_toArray, List.set_cons_zero, List.set_cons_succ]))
            refine walkT_take ?_
            (refine takeN_take (v := ?_) (some 61) rfl rfl (fun _ _ _ h => h) (by rfl) ?_ ?_; rotate_left; (focus (intro w' hw'; go_simp; (try with_reducible rfl))); (try simp only [Act.put, List.setIfInBounds_toArray, List.set_cons_zero, List.set_cons_succ]))
            refine walkT_take ?_
            (refine takeN_take (v := ?_) (some 62) rfl rfl (fun _ _ _ h => h) (by rfl) ?_ ?_; rotate_left; (focus (intro w' hw'; go_simp; (try with_reducible rfl))); (try simp only [Act.put, List.setIfInBounds_toArray, List.set_cons_zero, List.set_cons_succ]))
            refine walkT_two ?_ ?_
            · (refine runN_appS 56 (.const (.slice none 0 0)) (.tmp 55) _ rfl rfl rfl (by rfl) 35 Tryz.underlying28 _ 8 56 infoFlowB rfl (by decide) wc.heap.size _ _ rfl (OwnS.nil _ _ _ _) _ _ _ _ rfl (row_front8 HRW.out k hk) (one_fclP _) (k) ((O.take k).map fcl) (by simp) (by simp) (by simp only [maxLen]; omega) (by omega) hS.size ?_; intro a7 c7 w7 how9 hg9 hp9; have t9 := (Touch.refl _ (fun _ => False)).grown hg9 (fun k hk _ => by cases hk); have hS := hS.trans t9 (fun k h1 h2 => by first | exact h2.elim | (have h2 : wc.heap.size ≤ k := h2; omega)); refine ⟨hS, fun _ => ?_⟩; have HRW := Lib.hid (HRW.out.still t9); (try have HNW := Lib.hid (HNW.out.still t9)); have HO1 := Lib.hid how9; clear how9 hg9 hp9 t9; (try simp only [Act.put, List.setIfInBounds_toArray, List.set_cons_zero, List.set_cons_succ]))
              refine walkT_one ?_
              (refine runN_new 58 (fun W => .slice (some ⟨W.heap.size, 0, none⟩) 1 1) #[.int .u32 x.t.src, .int .u32 x.t.dst, .int .i64 x.t.proto, .int .i64 x.t.sport, .int .i64 x.t.dport, .int .i64 x.fb, .int .i64 x.fg, .int .i64 x.fs] 35 rfl rfl (by rfl) (by intro W; go_simp <;> first | with_reducible rfl | rfl | exact ⟨rfl, rfl⟩) ?_; intro w7 hw7 hM7 hs7 t9; have hS := hS.trans t9 (fun _ _ h => h.elim); refine ⟨hS, fun _ => ?_⟩; have HNW := Lib.hid (show RowS w7 _ 1 1 8 [fcl x] by rw [hw7]; exact ((OwnS.lit _ _ (Nat.le_refl _) 35 8 1 [fcl x] _ rfl rfl (by simp [fcl]) (by decide)).row').2.1); have HRW := Lib.hid (HRW.out.still t9); (try have HO1 := Lib.hid (HO1.out.still t9)); clear hw7 hM7 hs7 t9; (try simp only [Act.put, List.setIfInBounds_toArray, List.set_cons_zero, List.set_cons_succ]))
              refine walkT_one ?_
              (refine runN_appS 59 (.tmp 56) (.tmp 58) _ rfl rfl rfl (by rfl) 35 Tryz.underlying28 _ 8 56 infoFlowB rfl (by decide) wc.heap.size _ _ rfl HO1.out _ _ _ _ rfl HNW.out (one_fcl1P x) (k + 1) ((O.take k ++ [x]).map fcl) (by simp) (by have := HM.out; simp; omega) (by simp only [maxLen]; omega) (by omega) hS.size ?_; intro a12 c12 w12 how9 hg9 hp9; have t9 := (Touch.refl _ (fun k => wc.heap.size ≤ k)).grown hg9 (fun k hk _ => (HO1.out.own.lt k hk).1); have hS := hS.trans t9 (fun k h1 h2 => by first | exact h2.elim | (have h2 : wc.heap.size ≤ k := h2; omega)); refine ⟨hS, fun _ => ?_⟩; have HRW := Lib.hid (HRW.out.touch t9 (fun y hy => by rcases HRC.out.lt y hy with h | h; exact .inl h; exact .inr (fun h2 => by have h2 : wc.heap.size ≤ y.block := h2; omega))); have HOB := Lib.hid how9; clear how9 hg9 hp9 t9; (try simp only [Act.put, List.setIfInBounds_toArray, List.set_cons_zero, List.set_cons_succ]))
              refine walkT_one ?_
              (refine runN_appS 63 (.tmp 59) (.tmp 62) _ rfl rfl rfl (by rfl) 35 Tryz.underlying28 _ 8 56 infoFlowB rfl (by decide) wc.heap.size _ _ rfl HOB.out _ _ _ _ rfl (row_back8 HRW.out k hk) (one_fclP _) (m + 1) ((O.take k ++ x :: O.drop k).map fcl) (by simp) (by have := HM.out; simp; omega) (by simp only [maxLen]; omega) (by omega) hS.size ?_; intro a19 c19 w19 how9 hg9 hp9; have t9 := (Touch.refl _ (fun k => wc.heap.size ≤ k)).grown hg9 (fun k hk _ => (HOB.out.own.lt k hk).1); have hS := hS.trans t9 (fun k h1 h2 => by first | exact h2.elim | (have h2 : wc.heap.size ≤ k := h2; omega)); refine ⟨hS, fun _ => ?_⟩; have HRW := Lib.hid (HRW.out.touch t9 (fun y hy => by rcases HRC.out.lt y hy with h | h; exact .inl h; exact .inr (fun h2 => by have h2 : wc.heap.size ≤ y.block := h2; omega))); have HO3 := Lib.hid how9; have HY := Lib.hid (HX.out _ _ _ hS how9); clear how9 hg9 hp9 t9; (try simp only [Act.put, List.setIfInBounds_toArray, List.set_cons_zero, List.set_cons_succ]))
              refine walkT_take ?_
              (refine takeN_take (v := ?_) (some 5) rfl rfl (fun _ _ _ h => h) (by rfl) ?_ ?_; rotate_left; (focus (intro w' hw'; go_simp; (try with_reducible rfl))); (try simp only [Act.put, List.setIfInBounds_toArray, List.set_cons_zero, List.set_cons_succ]))
              refine walkT_fin ?_
              go_wp2_with fail
              go_roundw
              · exact HY.out
              · simp only [RowKit.intOf]; omega
            · (refine runN_new 58 (fun W => .slice (some ⟨W.heap.size, 0, none⟩) 1 1) #[.int .u32 x.t.src, .int .u32 x.t.dst, .int .i64 x.t.proto, .int .i64 x.t.sport, .int .i64 x.t.dport, .int .i64 x.fb, .int .i64 x.fg, .int .i64 x.fs] 35 rfl rfl (by rfl) (by intro W; go_simp <;> first | with_reducible rfl | rfl | exact ⟨rfl, rfl⟩) ?_; intro w7 hw7 hM7 hs7 t9; have hS := hS.trans t9 (fun _ _ h => h.elim); refine ⟨hS, fun _ => ?_⟩; have HNW := Lib.hid (show RowS w7 _ 1 1 8 [fcl x] by rw [hw7]; exact ((OwnS.lit _ _ (Nat.le_refl _) 35 8 1 [fcl x] _ rfl rfl (by simp [fcl]) (by decide)).row').2.1); have HRW := Lib.hid (HRW.out.still t9); (try have HO1 := Lib.hid (HO1.out.still t9)); clear hw7 hM7 hs7 t9; (try simp only [Act.put, List.setIfInBounds_toArray, List.set_cons_zero, List.set_cons_succ]))
              refine walkT_one ?_
              (refine runN_appS 56 (.const (.slice none 0 0)) (.tmp 55) _ rfl rfl rfl (by rfl) 35 Tryz.underlying28 _ 8 56 infoFlowB rfl (by decide) wc.heap.size _ _ rfl (OwnS.nil _ _ _ _) _ _ _ _ rfl (row_front8 HRW.out k hk) (one_fclP _) (k) ((O.take k).map fcl) (by simp) (by simp) (by simp only [maxLen]; omega) (by omega) hS.size ?_; intro a7 c7 w7 how9 hg9 hp9; have t9 := (Touch.refl _ (fun _ => False)).grown hg9 (fun k hk _ => by cases hk); have hS := hS.trans t9 (fun k h1 h2 => by first | exact h2.elim | (have h2 : wc.heap.size ≤ k := h2; omega)); refine ⟨hS, fun _ => ?_⟩; have HRW := Lib.hid (HRW.out.still t9); (try have HNW := Lib.hid (HNW.out.still t9)); have HO1 := Lib.hid how9; clear how9 hg9 hp9 t9; (try simp only [Act.put, List.setIfInBounds_toArray, List.set_cons_zero, List.set_cons_succ]))
              refine walkT_one ?_
              (refine runN_appS 59 (.tmp 56) (.tmp 58) _ rfl rfl rfl (by rfl) 35 Tryz.underlying28 _ 8 56 infoFlowB rfl (by decide) wc.heap.size _ _ rfl HO1.out _ _ _ _ rfl HNW.out (one_fcl1P x) (k + 1) ((O.take k ++ [x]).map fcl) (by simp) (by have := HM.out; simp; omega) (by simp only [maxLen]; omega) (by omega) hS.size ?_; intro a12 c12 w12 how9 hg9 hp9; have t9 := (Touch.refl _ (fun k => wc.heap.size ≤ k)).grown hg9 (fun k hk _ => (HO1.out.own.lt k hk).1); have hS := hS.trans t9 (fun k h1 h2 => by first | exact h2.elim | (have h2 : wc.heap.size ≤ k := h2; omega)); refine ⟨hS, fun _ => ?_⟩; have HRW := Lib.hid (HRW.out.touch t9 (fun y hy => by rcases HRC.out.lt y hy with h | h; exact .inl h; exact .inr (fun h2 => by have h2 : wc.heap.size ≤ y.block := h2; omega))); have HOB := Lib.hid how9; clear how9 hg9 hp9 t9; (try simp only [Act.put, List.setIfInBounds_toArray, List.set_cons_zero, List.set_cons_succ]))
              refine walkT_one ?_
              (refine runN_appS 63 (.tmp 59) (.tmp 62) _ rfl rfl rfl (by rfl) 35 Tryz.underlying28 _ 8 56 infoFlowB rfl (by decide) wc.heap.size _ _ rfl HOB.out _ _ _ _ rfl (row_back8 HRW.out k hk) (one_fclP _) (m + 1) ((O.take k ++ x :: O.drop k).map fcl) (by simp) (by have := HM.out; simp; omega) (by simp only [maxLen]; omega) (by omega) hS.size ?_; intro a19 c19 w19 how9 hg9 hp9; have t9 := (Touch.refl _ (fun k => wc.heap.size ≤ k)).grown hg9 (fun k hk _ => (HOB.out.own.lt k hk).1); have hS := hS.trans t9 (fun k h1 h2 => by first | exact h2.elim | (have h2 : wc.heap.size ≤ k := h2; omega)); refine ⟨hS, fun _ => ?_⟩; have HRW := Lib.hid (HRW.out.touch t9 (fun y hy => by rcases HRC.out.lt y hy with h | h; exact .inl h; exact .inr (fun h2 => by have h2 : wc.heap.size ≤ y.block := h2; omega))); have HO3 := Lib.hid how9; have HY := Lib.hid (HX.out _ _ _ hS how9); clear how9 hg9 hp9 t9; (try simp only [Act.put, List.setIfInBounds_toArray, List.set_cons_zero, List.set_cons_succ]))
              refine walkT_take ?_
              (refine takeN_take (v := ?_) (some 5) rfl rfl (fun _ _ _ h => h) (by rfl) ?_ ?_; rotate_left; (focus (intro w' hw'; go_simp; (try with_reducible rfl))); (try simp only [Act.put, List.setIfInBounds_toArray, List.set_cons_zero, List.set_cons_succ]))
              refine walkT_fin ?_
              go_wp2_with fail
              go_roundw
              · exact HY.out
              · simp only [RowKit.intOf]; omega
end Go.Proofs.YtgmimdnebgncoaaGreat

end

section
/- The table of flows and the reference's, side by side. -/
set_option linter.unusedVariables false
set_option linter.unusedSimpArgs false
namespace Go.Proofs.YtgmimdnebgncoaaGreat
open Go.RowKit

/-- The program's table (made since w0) has M, the reference's, in block b, has L; they lie apart. -/
structure FR (w0 w : World) (g : Nat) (h : FH) (b : Nat) (a : Option Addr) (c : Nat) (most idle : Int) (M L : List FlD) : Prop where
  f : FN w0 w g h most idle M
  r : RF w b a c most idle L
  bn : ¬ footF g h b
  bw : w0.heap.size ≤ b
  an : ∀ x, a = some x → ¬ footF g h x.block
  al : ∀ x, a = some x → x.block < w.heap.size
theorem FR.still {w0 w w' : World} {g : Nat} {h : FH} {b : Nat} {a : Option Addr} {c : Nat} {most idle : Int} {M L : List FlD} (q : FR w0 w g h b a c most idle M L) (t : Touch w w' (fun _ => False)) : FR w0 w' g h b a c most idle M L :=
  ⟨q.f.still t, q.r.still t, q.bn, q.bw, q.an, fun x hx => Nat.lt_of_lt_of_le (q.al x hx) t.size⟩
theorem RF.touch {w w' : World} {b : Nat} {a : Option Addr} {c : Nat} {most wait : Int} {L : List FlD} {S : Nat → Prop} (q : RF w b a c most wait L) (t : Touch w w' S) (h1 : ¬ S b) (h2 : ∀ x, a = some x → ¬ S x.block) : RF w' b a c most wait L :=
  ⟨t.keeps q.head h1, q.row.touch t (fun x hx => .inr (h2 x hx)), q.ne, q.pl⟩
theorem FR.prog {w0 w w' : World} {g : Nat} {h : FH} {b : Nat} {a : Option Addr} {c : Nat} {most idle : Int} {M L M' : List FlD} (q : FR w0 w g h b a c most idle M L) (s : FStep w w' g h most idle M') :
    ∃ h' M1, M1.Perm M' ∧ FR w0 w' g h' b a c most idle M1 L := by
  obtain ⟨h', M1, hp, hf, hk, ht⟩ := q.f.step s
  refine ⟨h', M1, hp, hf, q.r.touch ht q.bn q.an, fun e => ?_, q.bw, fun x hx e => ?_, fun x hx => Nat.lt_of_lt_of_le (q.al x hx) ht.size⟩
  · rcases hk _ e with h1 | h1
    · exact q.bn h1
    · have := heap_lt q.r.head; omega
  · rcases hk _ e with h1 | h1
    · exact q.an x hx h1
    · have := q.al x hx; omega
theorem FR.idle {w0 w w' : World} {g : Nat} {h : FH} {b : Nat} {a : Option Addr} {c : Nat} {most idle : Int} {M L A R : List FlD} {v : Value} (q : FR w0 w g h b a c most idle M L) (s : FIdle w w' g h most idle A R v) :
    ∃ (a1 : Option Addr) (c1 : Nat) (h' : FH), v = .slice a1 A.length c1 ∧ OwnS w' w.heap.size 35 8 (.slice a1 A.length c1) (A.map fcl) ∧ FR w0 w' g h' b a c most idle R L ∧ (∀ x, a1 = some x → x.block ≠ b) := by
  obtain ⟨a1, c1, h', rfl, ho, hf, ht, hk, hx⟩ := s
  refine ⟨a1, c1, h', rfl, ho, ⟨⟨hf, q.f.t.trans ht (fun k h1 h2 => by have := q.f.f k h2; omega), fun k e => ?_⟩, q.r.touch ht q.bn q.an, fun e => ?_, q.bw, fun x hx e => ?_, fun x hx => Nat.lt_of_lt_of_le (q.al x hx) ht.size⟩, fun x hx e => ?_⟩
  · rcases hk k e with h1 | h1
    · exact q.f.f k h1
    · exact Nat.le_trans q.f.t.size h1
  · rcases hk _ e with h1 | h1
    · exact q.bn h1
    · have := heap_lt q.r.head; omega
  · rcases hk _ e with h1 | h1
    · exact q.an x hx h1
    · have := q.al x hx; omega
  · have h1 := (ho.row'.2.2 x hx).1
    have := heap_lt q.r.head; omega
theorem FR.ref {w0 w w' : World} {g : Nat} {h : FH} {b : Nat} {a : Option Addr} {c : Nat} {most idle : Int} {M L L' : List FlD} (q : FR w0 w g h b a c most idle M L) (s : RFStep w w' b a most idle L') :
    ∃ a' c', FR w0 w' g h b a' c' most idle M L' := by
  obtain ⟨a', c', hr, ht, hy⟩ := s
  refine ⟨a', c', q.f.touch ht (fun k hk e => by subst e; exact q.bn hk) (fun k hk e => by have := q.bw; omega), hr, q.bn, q.bw, fun x hx e => ?_, fun x hx => ?_⟩
  · rcases hy x hx with h1 | ⟨z, hz, e2⟩
    · have := q.f.q.footlt _ e; omega
    · rw [e2] at e; exact q.an z hz e
  · rcases hy x hx with h1 | ⟨z, hz, e2⟩
    · exact h1.2
    · rw [e2]; exact Nat.lt_of_lt_of_le (q.al z hz) ht.size
/-- Both have the same flows. -/
structure LikeF (most : Int) (M L : List FlD) : Prop where
  s : SortL L
  p : L.Perm M
  ok : MayF M
  nd : (M.map FlD.t).Nodup
  len : (M.length : Int) ≤ most
theorem LikeF.has {most : Int} {M L : List FlD} (k : LikeF most M L) (t : TupD) : hasF L t = hasF M t := hasF_perm k.p t
theorem LikeF.get {most : Int} {M L : List FlD} (k : LikeF most M L) (t : TupD) : getF L t = getF M t := by
  cases h : hasF M t with
  | false => rw [getF_no h, getF_no (by rw [k.has]; exact h)]
  | true =>
    obtain ⟨x, hx, rfl⟩ := List.mem_map.1 ((hasF_iff _ _).1 h)
    rw [getF_of k.nd hx, getF_of (((k.p.map FlD.t).nodup_iff).2 k.nd) (k.p.mem_iff.2 hx)]
theorem LikeF.perm {most : Int} {M M1 L : List FlD} (k : LikeF most M L) (h : M1.Perm M) : LikeF most M1 L :=
  ⟨k.s, k.p.trans h.symm, fun f hf => k.ok f (h.mem_iff.1 hf), ((h.map FlD.t).nodup_iff).2 k.nd, by rw [h.length_eq]; exact k.len⟩
theorem LikeF.nil (most : Int) (h : 0 ≤ most) : LikeF most [] [] := ⟨List.Pairwise.nil, .refl _, (fun f hf => by cases hf), List.nodup_nil, h⟩
theorem delF_perm2 {M L : List FlD} (h : L.Perm M) (t : TupD) : (delF L t).Perm (delF M t) := h.filter _
theorem keep_nd {M : List FlD} (hn : (M.map FlD.t).Nodup) (f : FlD) : ((f :: delF M f.t).map FlD.t).Nodup := by
  rw [List.map_cons, List.nodup_cons]
  refine ⟨fun hm => ?_, hn.sublist (List.filter_sublist.map _)⟩
  obtain ⟨y, hy, e⟩ := List.mem_map.1 hm
  have := (List.mem_filter.1 hy).2
  simp [e] at this
theorem LikeF.put {most : Int} {M L : List FlD} (k : LikeF most M L) (f : FlD) (of : TupOk f.t) (hm : mayFB f = true) (hr : hasF M f.t = true ∨ (M.length : Int) < most) : LikeF most (f :: delF M f.t) (putL L f) :=
  ⟨putL_sort f k.s, (putL_perm f k.s).trans ((delF_perm2 k.p f.t).cons f), keep_ok k.ok of hm, keep_nd k.nd f, keep_len k.nd hr k.len⟩
/-- Put tells the same, and leaves the same. -/
theorem LikeF.puts {most : Int} {M L : List FlD} (k : LikeF most M L) (f : FlD) (of : TupOk f.t) : putE M most f = .tuple #[.bool (rpB L most f), .int .i64 (rpE L most f)] ∧ LikeF most (putF M most f) (rpL L most f) := by
  have hl : L.length = M.length := k.p.length_eq
  have hh := k.has f.t
  cases hm : mayFB f with
  | false =>
    have e1 : rpE L most f = 1 := by unfold rpE; rw [if_pos hm]
    have e2 : rpB L most f = false := by unfold rpB; rw [hm]; rfl
    refine ⟨by unfold putE; rw [if_pos hm, e1, e2], ?_⟩
    unfold putF rpL putB
    rw [hm, e1]; exact k
  | true =>
    by_cases hr : hasF M f.t = true ∨ (M.length : Int) < most
    · have hb : putB M most f = true := by
        unfold putB; rw [hm]
        rcases hr with hr | hr
        · rw [hr]; rfl
        · rw [decide_eq_true hr]; simp
      have e1 : rpE L most f = 0 := by
        unfold rpE
        rw [if_neg (by rw [hm]; decide), if_neg]
        rintro ⟨h1, h2⟩
        rw [hh] at h1
        rcases hr with hr | hr
        · rw [hr] at h1; cases h1
        · rw [hl] at h2; omega
      have e2 : rpB L most f = !hasF M f.t := by
        unfold rpB; rw [hm, hh, hl]
        cases h3 : hasF M f.t with
        | true => rfl
        | false =>
          rcases hr with hr | hr
          · rw [hr] at h3; cases h3
          · rw [decide_eq_false (by omega)]; rfl
      refine ⟨?_, ?_⟩
      · unfold putE; rw [if_neg (by rw [hm]; decide), if_neg (by rw [hb]; decide), e1, e2]
      · unfold putF rpL; rw [if_pos hb, if_pos e1]; exact k.put f of hm hr
    · have h1 : hasF M f.t = false := by cases h : hasF M f.t with
        | false => rfl
        | true => exact absurd (.inl h) hr
      have h2 : ¬ (M.length : Int) < most := fun h => hr (.inr h)
      have hb : putB M most f = false := by unfold putB; rw [hm, h1, decide_eq_false h2]; rfl
      have e1 : rpE L most f = 9 := by
        unfold rpE
        rw [if_neg (by rw [hm]; decide), if_pos ⟨by rw [hh]; exact h1, by rw [hl]; omega⟩]
      have e2 : rpB L most f = false := by
        unfold rpB; rw [hm, hh, hl, h1, decide_eq_true (by omega)]; rfl
      refine ⟨?_, ?_⟩
      · unfold putE; rw [if_neg (by rw [hm]; decide), if_pos hb, e1, e2]
      · unfold putF rpL; rw [if_neg (by rw [hb]; decide), if_neg (by rw [e1]; decide)]; exact k
theorem del_like {most : Int} {M L : List FlD} (k : LikeF most M L) (t : TupD) : LikeF most (delF M t) (delF L t) :=
  ⟨delF_sort k.s t, delF_perm2 k.p t, fun f hf => k.ok f (List.mem_filter.1 hf).1, k.nd.sublist (List.filter_sublist.map _), by have h1 := List.length_filter_le (fun f : FlD => !decide (f.t = t)) M; have h2 := k.len; unfold delF; omega⟩
theorem LikeF.touched {most : Int} {M L : List FlD} (k : LikeF most M L) (t : TupD) (ot : TupOk t) (now : Int) : LikeF most (touchF M t now) (rtouF L t now) := by
  have hb : touchB L t now = touchB M t now := by unfold touchB; rw [k.has, k.get]
  unfold touchF rtouF
  rw [hb, k.get]
  by_cases h : touchB M t now = true
  · rw [if_pos h, if_pos h]
    have h' := h
    unfold touchB at h'
    simp only [Bool.and_eq_true] at h'
    obtain ⟨h1, h2, h3⟩ := h'
    obtain ⟨gm, gt⟩ := getF_mem k.nd h1
    have hm := may_ok (k.ok _ gm).2
    rw [gt] at hm
    have hn : 0 ≤ now ∧ now ≤ 1099511627776 := by unfold timB at h2; exact of_decide_eq_true h2
    refine k.put ⟨t, (getF M t).fb, (getF M t).fg, now⟩ ot ?_ (.inl h1)
    unfold mayFB rngF
    rw [hm.1, decide_eq_true ⟨hm.2.1, hm.2.2.1, hn⟩]; rfl
  · rw [if_neg h, if_neg h]; exact k
theorem LikeF.idle {most : Int} {M L : List FlD} (k : LikeF most M L) (hs : SortQ (M.map qf)) {wait : Int} (hw : 1 ≤ wait) (now : Int) : LikeF most (idleR M wait now) (L.filter (fun d => !goP wait now d)) := by
  obtain ⟨-, -, h3⟩ := idle_both k.ok hs k.p hw now
  have h4 : ∀ x ∈ idleR M wait now, x ∈ M := fun x hx => k.p.mem_iff.1 (List.mem_filter.1 (h3.mem_iff.1 hx)).1
  refine ⟨List.Pairwise.sublist List.filter_sublist k.s, h3.symm, fun f hf => k.ok f (h4 f hf), ?_, ?_⟩
  · have h5 : ((L.filter (fun d => !goP wait now d)).map FlD.t).Nodup := (((k.p.map FlD.t).nodup_iff).2 k.nd).sublist (List.filter_sublist.map _)
    exact ((h3.map FlD.t).nodup_iff).2 h5
  · have h5 := h3.length_eq
    have h6 := List.length_filter_le (fun d => !goP wait now d) L
    have h7 := k.p.length_eq
    have h8 := k.len
    omega
theorem LikeF.all {most : Int} {M L K : List FlD} (k : LikeF most M L) (hp : K.Perm M) (hs : StrictF K) : K = L := strict_ext (hp.trans k.p.symm) hs k.s
end Go.Proofs.YtgmimdnebgncoaaGreat

end
