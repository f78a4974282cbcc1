/- StateLast answers true for any records. -/
import Derived.Test.YtdhimlkndpiacaaStArgsZ
import Derived.Test.YtdhimlkndpiacaaTupArgsZ
import Derived.Test.YtdhimlkndpiacaaGIZ
import Derived.Test.YtdhimlkndpiacaaFrStateLastZ
set_option linter.unusedVariables false
set_option linter.unusedSimpArgs false
namespace Go.Proofs.Ytdhimlkndpiacaa
open Go.RowKit

theorem hasF_cons (f : FlD) (F : List FlD) (t : TupD) : hasF (f :: F) t = (decide (f.t = t) || hasF F t) := by
  rw [Bool.eq_iff_iff, Bool.or_eq_true, hasF_iff, hasF_iff, decide_eq_true_iff, List.map_cons, List.mem_cons]
  exact ⟨fun h => h.imp Eq.symm id, fun h => h.imp Eq.symm id⟩
theorem hasF_del (F : List FlD) (t k : TupD) : hasF (delF F t) k = (!decide (t = k) && hasF F k) := by
  rw [Bool.eq_iff_iff, Bool.and_eq_true, hasF_iff, hasF_iff, Bool.not_eq_true', decide_eq_false_iff_not]
  unfold delF
  constructor
  · intro h
    obtain ⟨f, hf, rfl⟩ := List.mem_map.1 h
    have h1 := List.mem_filter.1 hf
    refine ⟨fun e => ?_, List.mem_map_of_mem h1.1⟩
    have h2 := delF_not F t
    rw [e] at h2
    exact h2 (by rw [← e] at h ⊢; exact h)
  · rintro ⟨hne, h⟩
    obtain ⟨f, hf, rfl⟩ := List.mem_map.1 h
    exact List.mem_map.2 ⟨f, List.mem_filter.2 ⟨hf, by simpa using fun e => hne e.symm⟩, rfl⟩
theorem getF_eq {F G : List FlD} {k : TupD} (hF : (F.map FlD.t).Nodup) (hG : (G.map FlD.t).Nodup) (h : hasF F k = true) (hm : ∀ f ∈ F, f.t = k → f ∈ G) : getF G k = getF F k := by
  obtain ⟨h1, h2⟩ := getF_mem hF h
  have h3 := hm _ h1 h2
  have h4 := getF_of hG h3
  rw [h2] at h4
  exact h4
/-- What is known of the last record of a tuple, and of the last set. -/
def LaI (s : StS) (k : TupD) (la ge : RecD) : Prop :=
  s.gen = ge.gen ∧ s.bs.length = ge.bs.length ∧ hasF s.F k = decide (la.kind = 1) ∧ (la.kind = 1 → getF s.F k = flOf la)
def lastB (r : RecD) (k : TupD) : Bool := (decide (r.kind = 1) || decide (r.kind = 2)) && decide (r.t = k)
theorem last_step {s : StS} {k : TupD} {la ge : RecD} (o : StOk s) (I : LaI s k la ge) (r : RecD) (h0 : stE s r = 0) :
    LaI (stS s r) k (if lastB r k then r else la) (if r.kind = 3 then r else ge) := by
  have o' := o.step r
  obtain ⟨i1, i2, i3, i4⟩ := I
  have hs : stS s r = stDo s r := by unfold stS; rw [if_pos h0]
  rw [hs] at o' ⊢
  unfold stDo at o' ⊢
  unfold lastB
  by_cases h1 : r.kind = 1
  · rw [if_pos h1] at o' ⊢
    have h3 : ¬ r.kind = 3 := by omega
    rw [if_neg h3]
    by_cases hk : r.t = k
    · subst hk
      simp only [h1, decide_true, Bool.true_or, Bool.and_true, if_true]
      refine ⟨i1, i2, ?_, fun _ => ?_⟩
      · show hasF (flOf r :: delF s.F r.t) r.t = _
        rw [hasF_cons, show decide ((flOf r).t = r.t) = true from decide_eq_true rfl, h1]; rfl
      · exact getF_of (d := flOf r) o'.fn (List.mem_cons_self ..)
    · simp only [hk, decide_false, Bool.and_false, if_false, Bool.false_eq_true]
      have hd : hasF (flOf r :: delF s.F r.t) k = hasF s.F k := by
        rw [hasF_cons, hasF_del, show decide ((flOf r).t = k) = false from decide_eq_false hk, decide_eq_false hk]; simp
      refine ⟨i1, i2, hd.trans i3, fun hl => ?_⟩
      rw [← i4 hl]
      refine getF_eq o.fn o'.fn (by rw [i3, hl]; rfl) (fun f hf e => List.mem_cons_of_mem _ (List.mem_filter.2 ⟨hf, ?_⟩))
      subst e
      simpa using fun e => hk e.symm
  · rw [if_neg h1] at o' ⊢
    by_cases h2 : r.kind = 2
    · rw [if_pos h2] at o' ⊢
      have h3 : ¬ r.kind = 3 := by omega
      rw [if_neg h3]
      by_cases hk : r.t = k
      · subst hk
        simp only [h2, decide_true, Bool.or_true, Bool.and_true, if_true]
        refine ⟨i1, i2, ?_, fun h => absurd h h1⟩
        show hasF (delF s.F r.t) r.t = _
        rw [hasF_del, h2, decide_eq_true rfl]; rfl
      · simp only [hk, decide_false, Bool.and_false, if_false, Bool.false_eq_true]
        have hd : hasF (delF s.F r.t) k = hasF s.F k := by
          rw [hasF_del, decide_eq_false hk]; simp
        refine ⟨i1, i2, hd.trans i3, fun hl => ?_⟩
        rw [← i4 hl]
        refine getF_eq o.fn o'.fn (by rw [i3, hl]; rfl) (fun f hf e => List.mem_filter.2 ⟨hf, ?_⟩)
        subst e
        simpa using fun e => hk e.symm
    · rw [if_neg h2] at o' ⊢
      simp only [h1, h2, decide_false, Bool.or_self, Bool.false_and, if_false, Bool.false_eq_true]
      by_cases h3 : r.kind = 3
      · rw [if_pos h3, if_pos h3]
        exact ⟨rfl, rfl, i3, i4⟩
      · rw [if_neg h3, if_neg h3]
        by_cases h4 : r.kind = 4
        · rw [if_pos h4]; exact ⟨i1, i2, i3, i4⟩
        · rw [if_neg h4]
          by_cases h5 : r.kind = 5
          · rw [if_pos h5]; exact ⟨i1, i2, i3, i4⟩
          · rw [if_neg h5]; exact ⟨i1, i2, i3, i4⟩
theorem tupL_of {w : World} {B : Nat} {t : TupD} (hb : w.heap[B]? = some (.cells (tcs t) 24 (0, 0))) :
    w.cell? ⟨B, 0, none⟩ = some (.int .u32 t.src) ∧ w.cell? ⟨B, 1, none⟩ = some (.int .u32 t.dst) ∧ w.cell? ⟨B, 2, none⟩ = some (.int .i64 t.proto) ∧ w.cell? ⟨B, 3, none⟩ = some (.int .i64 t.sport) ∧ w.cell? ⟨B, 4, none⟩ = some (.int .i64 t.dport) :=
  ⟨cell_of_cells hb 0, cell_of_cells hb 1, cell_of_cells hb 2, cell_of_cells hb 3, cell_of_cells hb 4⟩
/-- A record is laid over another. -/
def recPut (w : World) (K : Nat) (r : RecD) (a : Option Addr) (c : Nat) : World := ((((((((((((((w.setCell ⟨K, 0, none⟩ (.int .i64 r.kind)).setCell ⟨K, 1, none⟩ (.int .u32 r.t.src)).setCell ⟨K, 2, none⟩ (.int .u32 r.t.dst)).setCell ⟨K, 3, none⟩ (.int .i64 r.t.proto)).setCell ⟨K, 4, none⟩ (.int .i64 r.t.sport)).setCell ⟨K, 5, none⟩ (.int .i64 r.t.dport)).setCell ⟨K, 6, none⟩ (.int .i64 r.fb)).setCell ⟨K, 7, none⟩ (.int .i64 r.fg)).setCell ⟨K, 8, none⟩ (.int .i64 r.fs)).setCell ⟨K, 9, none⟩ (.int .i64 r.gen)).setCell ⟨K, 10, none⟩ (.slice a r.bs.length c)).setCell ⟨K, 11, none⟩ (.int .i64 r.be)).setCell ⟨K, 12, none⟩ (.int .i64 r.un)).setCell ⟨K, 13, none⟩ (.int .i64 r.ct))
theorem recPut_at {w : World} {K : Nat} {r r0 : RecD} {a a0 : Option Addr} {c c0 : Nat} {T : TypeId} (g : w.heap[K]? = some (.cells (rcs r0 a0 c0) T (0, 0))) : (recPut w K r a c).heap[K]? = some (.cells (rcs r a c) T (0, 0)) := by
  have h := (heap_setCell_same _ K 13 _ _ (.int .i64 r.ct) (heap_setCell_same _ K 12 _ _ (.int .i64 r.un) (heap_setCell_same _ K 11 _ _ (.int .i64 r.be) (heap_setCell_same _ K 10 _ _ (.slice a r.bs.length c) (heap_setCell_same _ K 9 _ _ (.int .i64 r.gen) (heap_setCell_same _ K 8 _ _ (.int .i64 r.fs) (heap_setCell_same _ K 7 _ _ (.int .i64 r.fg) (heap_setCell_same _ K 6 _ _ (.int .i64 r.fb) (heap_setCell_same _ K 5 _ _ (.int .i64 r.t.dport) (heap_setCell_same _ K 4 _ _ (.int .i64 r.t.sport) (heap_setCell_same _ K 3 _ _ (.int .i64 r.t.proto) (heap_setCell_same _ K 2 _ _ (.int .u32 r.t.dst) (heap_setCell_same _ K 1 _ _ (.int .u32 r.t.src) (heap_setCell_same _ K 0 _ _ (.int .i64 r.kind) g))))))))))))))
  unfold recPut
  rw [h]
  simp [rcs]
theorem recPut_touch (w : World) (K : Nat) (r : RecD) (a : Option Addr) (c : Nat) : Touch w (recPut w K r a c) (fun k => k = K) :=
  (((((((((((((((Touch.refl w _).into 0 _).into 1 _).into 2 _).into 3 _).into 4 _).into 5 _).into 6 _).into 7 _).into 8 _).into 9 _).into 10 _).into 11 _).into 12 _).into 13 _)
/-- Backends don't lie in a record. -/
theorem StM.notRec {w : World} {b : Nat} {h : StH} {s : StS} (m : StM w b h s) {K : Nat} {r : RecD} {a : Option Addr} {c : Nat} (g : w.heap[K]? = some (.cells (rcs r a c) 29 (0, 0))) :
    ∀ x, h.ba = some x → s.bs.length = 0 ∨ x.block ≠ K := by
  intro x hx
  by_cases h0 : s.bs.length = 0
  · exact .inl h0
  refine .inr fun e => ?_
  have hr := m.bk
  rw [hx] at hr
  obtain ⟨g0, off, e1⟩ := RowS.some hr (by omega)
  injection e1 with e1
  subst e1
  obtain rfl : g0 = K := e
  have hk : 0 < (s.bs.map BkD.cells).length := by simp; omega
  have e2 : (s.bs.map BkD.cells)[0] = (s.bs[0]'(by omega)).cells := by rw [List.getElem_map]
  have c0 := RowS.cell hr 0 hk 0 _ (by rw [e2]; rfl)
  have c1 := RowS.cell hr 0 hk 1 _ (by rw [e2]; rfl)
  have c2 := RowS.cell hr 0 hk 2 _ (by rw [e2]; rfl)
  simp only [Nat.zero_mul, Nat.add_zero] at c0 c1 c2
  rw [cell_of_cells g] at c0 c1 c2
  rcases off with _ | _ | _ | _ | _ | _ | _ | _ | _ | _ | _ | _ | _ | off <;> simp [rcs] at c0 c1 c2
/-- The law's state beside its two records. -/
structure LaR (W2 wr : World) (b K6 K7 : Nat) (h : StH) (s : StS) (la ge : RecB) : Prop where
  n : StN W2 wr b h s
  g6 : wr.heap[K6]? = some (.cells (rcs la.r la.a la.c) 29 (0, 0))
  g7 : wr.heap[K7]? = some (.cells (rcs ge.r ge.a ge.c) 29 (0, 0))
  f6 : ¬ footS b h K6
  f7 : ¬ footS b h K7
  z6 : W2.heap.size ≤ K6
  z7 : W2.heap.size ≤ K7
  ne : K6 ≠ K7
section
variable {W2 wr w' : World} {b K6 K7 : Nat} {h : StH} {s s' : StS} {la ge x : RecB}
theorem LaR.still (q : LaR W2 wr b K6 K7 h s la ge) (t : Touch wr w' (fun _ => False)) : LaR W2 w' b K6 K7 h s la ge :=
  ⟨q.n.still t, t.keeps q.g6 (fun h => h), t.keeps q.g7 (fun h => h), q.f6, q.f7, q.z6, q.z7, q.ne⟩
theorem LaR.step (q : LaR W2 wr b K6 K7 h s la ge) (t : StTo wr w' b h s') : ∃ h', LaR W2 w' b K6 K7 h' s' la ge := by
  obtain ⟨h', n', e1, e2⟩ := q.n.step t
  refine ⟨h', n', t.touch.keeps q.g6 q.f6, t.touch.keeps q.g7 q.f7, ?_, ?_, q.z6, q.z7, q.ne⟩
  · unfold footS; rw [e1, e2]; exact q.f6
  · unfold footS; rw [e1, e2]; exact q.f7
theorem LaR.put6 (q : LaR W2 wr b K6 K7 h s la ge) (t : Touch wr w' (fun k => k = K6)) (g : w'.heap[K6]? = some (.cells (rcs x.r x.a x.c) 29 (0, 0))) : LaR W2 w' b K6 K7 h s x ge :=
  ⟨⟨q.n.m.touch t (fun k hk e => q.f6 (e ▸ hk)) (q.n.m.notRec q.g6), q.n.t.trans t (fun k hk e => by have := q.z6; subst e; omega), q.n.f⟩, g, t.keeps q.g7 (fun e => q.ne e.symm), q.f6, q.f7, q.z6, q.z7, q.ne⟩
theorem LaR.put7 (q : LaR W2 wr b K6 K7 h s la ge) (t : Touch wr w' (fun k => k = K7)) (g : w'.heap[K7]? = some (.cells (rcs x.r x.a x.c) 29 (0, 0))) : LaR W2 w' b K6 K7 h s la x :=
  ⟨⟨q.n.m.touch t (fun k hk e => q.f7 (e ▸ hk)) (q.n.m.notRec q.g7), q.n.t.trans t (fun k hk e => by have := q.z7; subst e; omega), q.n.f⟩, t.keeps q.g6 q.ne, g, q.f6, q.f7, q.z6, q.z7, q.ne⟩
end
set_option maxRecDepth 20000 in
set_option maxHeartbeats 8000000 in
theorem stateLast_walk (w : World) (a : Option Addr) (c : Nat) (l : List RecB) (hr : RowRB w a l.length c l) (hok : ∀ x ∈ l, RecBOk w x) (t : TupD) (ot : TupOk t) :
    Calls Try.prog 7 #[.slice a l.length c, .agg (tcs t)] w fun e w' => e = .returned (.bool true) ∧ Touch w w' (fun _ => False) := by
  obtain ⟨W1, hW1⟩ : ∃ W, w.alloc (.cells (tcs t) 24) = W := ⟨_, rfl⟩
  have t1 : Touch w W1 (fun _ => False) := hW1 ▸ (Touch.refl w _).alloc _
  have g1 : W1.heap[w.heap.size]? = some (.cells (tcs t) 24 (0, 0)) := hW1 ▸ heap_alloc_new ..
  obtain ⟨K1, hK1⟩ : ∃ K, w.heap.size = K := ⟨_, rfl⟩
  rw [hK1] at g1
  have HT1 := Lib.hid t1
  have HG1 := Lib.hid g1
  have HW1 := Lib.hid (And.intro hW1 hK1)
  have HR := Lib.hid hr
  have HOK := Lib.hid hok
  have hmx := RowS.hmax hr
  have hmc := RowS.hcap hr
  have hlt : l.length ≤ 200 ∨ ¬ l.length ≤ 200 := Decidable.em _
  obtain ⟨n, hn⟩ : ∃ n, l.length = n := ⟨_, rfl⟩
  have HN := Lib.hid hn
  have HLI := Lib.hid (light_any W1 a l.length c l (RowS.still hr t1))
  rw [hn] at HR HLI hmc ⊢
  clear t1 g1 hW1 hK1 hr hok hn hlt
  go_enter Try.func7, Try.ntmps7
  go_upto_region 1 with (fail)
  rw [HW1.out.1, HW1.out.2]
  go_wp2_with fail
  (with_reducible refine HLI.out.mono ?_)
  rintro e W2 ⟨rfl, t2⟩
  have HT2 := Lib.hid t2
  clear t2
  by_cases hl : lightB l = true
  case neg =>
    have hl' : lightB l = false := by simpa using hl
    rw [hl']
    clear hl hl'
    go_wp2_with fail
    refine (awake14 W2).mono ?_
    rintro e w8 ⟨rfl, t8⟩
    have HT8 := Lib.hid ((HT1.out.trans HT2.out (fun _ _ h => h)).trans t8 (fun _ _ h => h))
    clear t8
    go_wp2_with fail
    go_ret
    exact ⟨rfl, HT8.out⟩
  case pos =>
    rw [hl]
    have HL := Lib.hid (lightB_iff.1 hl)
    clear hl
    go_wp2_with fail
    refine (stnew_any W2).mono ?_
    rintro e w3 ⟨b, h, rfl, n3⟩
    obtain ⟨w4, hw4⟩ : ∃ W, w3.alloc (.cells (rcs noRB.r none 0) 29) = W := ⟨_, rfl⟩
    obtain ⟨w5, hw5⟩ : ∃ W, w4.alloc (.cells (rcs noRB.r none 0) 29) = W := ⟨_, rfl⟩
    have q5 : LaR W2 w5 b w3.heap.size w4.heap.size h stZ noRB noRB := by
      have t4 : Touch w3 w4 (fun _ => False) := hw4 ▸ (Touch.refl w3 _).alloc _
      have t5 : Touch w4 w5 (fun _ => False) := hw5 ▸ (Touch.refl w4 _).alloc _
      have g4 : w4.heap[w3.heap.size]? = some (.cells (rcs noRB.r none 0) 29 (0, 0)) := hw4 ▸ heap_alloc_new ..
      have g5 : w5.heap[w4.heap.size]? = some (.cells (rcs noRB.r none 0) 29 (0, 0)) := hw5 ▸ heap_alloc_new ..
      have s4 : w4.heap.size = w3.heap.size + 1 := by rw [← hw4]; simp
      refine ⟨(n3.still t4).still t5, t5.keeps g4 (fun h => h), g5, fun hf => ?_, fun hf => ?_, n3.t.size, ?_, by omega⟩
      · have := n3.m.lt _ hf; omega
      · have := n3.m.lt _ hf; omega
      · have := n3.t.size; omega
    obtain ⟨K6, hK6⟩ : ∃ K, w3.heap.size = K := ⟨_, rfl⟩
    obtain ⟨K7, hK7⟩ : ∃ K, w4.heap.size = K := ⟨_, rfl⟩
    rw [hK6, hK7] at q5
    have HQ5 := Lib.hid q5
    have HW4 := Lib.hid (And.intro hw4 hK6)
    have HW5 := Lib.hid (And.intro hw5 hK7)
    simp only [rcs, noRB, noT, List.length_nil] at HW4 HW5
    clear q5 hw4 hw5 hK6 hK7 n3
    go_upto_region 5 with (fail)
    rw [HW4.out.1, HW4.out.2]
    go_upto_region 6 with (fail)
    rw [HW5.out.1, HW5.out.2]
    go_wp2_with fail
    have hI0 : RowKit.Hid (LaI stZ t noRB.r noRB.r) := Lib.hid ⟨rfl, rfl, rfl, fun h => by cases h⟩
    go_loopw [21] (fun s21 wr => ∃ (k : Nat) (h : StH) (s : StS) (la ge : RecB), k ≤ n ∧ s21 = .int .i64 k ∧ LaR W2 wr b K6 K7 h s la ge ∧ LaI s t la.r ge.r) (fun s21 _ => n - (RowKit.intOf s21).toNat)
    case atStart => exact ⟨0, h, stZ, noRB, noRB, Nat.zero_le _, rfl, HQ5.out, hI0.out⟩
    case round =>
      obtain ⟨k, h, s, la, ge, hk, rfl, hq, hI⟩ := hrel
      have HQ := Lib.hid hq
      have HI := Lib.hid hI
      clear hq hI HQ5 hI0
      by_cases hlt : k < n
      case neg =>
        obtain rfl : n = k := by omega
        have HT7 := Lib.hid (HQ.out.n.t.keeps (HT2.out.keeps HG1.out (fun h => h)) (fun h => h))
        have HGT := Lib.hid (stget_any wr b h s HQ.out.n.m t ot)
        have hIrr : ¬ (n : Int) < n := by omega
        obtain ⟨z0, z1, z2, z3, z4⟩ := tupL_of HT7.out
        simp only [tcs] at HGT
        obtain ⟨X, hX⟩ : ∃ X, getF s.F t = X := ⟨_, rfl⟩
        obtain ⟨B, hB⟩ : ∃ B, hasF s.F t = B := ⟨_, rfl⟩
        rw [hX, hB] at HGT
        simp only [fca] at HGT
        obtain ⟨i1, i2, i3, i4⟩ := HI.out
        rw [hB] at i3
        rw [hX] at i4
        have HI3 := Lib.hid i3
        have HI4 := Lib.hid i4
        have HI12 := Lib.hid (And.intro i1 i2)
        clear i1 i2 i3 i4 hX hB hk hlt
        go_upto_region 15 with (fail)
        clear hIrr
        go_upto_region 16 with (go_at_call 8; (with_reducible refine HGT.out.mono ?_); rintro e w8 ⟨rfl, t8⟩; have HT8 := Lib.hid t8; clear t8 z0 z1 z2 z3 z4)
        obtain ⟨w9, hw9⟩ : ∃ W, w8.alloc (.cells (fca X) 26) = W := ⟨_, rfl⟩
        have t9 : Touch w8 w9 (fun _ => False) := hw9 ▸ (Touch.refl w8 _).alloc _
        have g9 : w9.heap[w8.heap.size]? = some (.cells (fca X) 26 (0, 0)) := hw9 ▸ heap_alloc_new ..
        obtain ⟨K10, hK10⟩ : ∃ K, w8.heap.size = K := ⟨_, rfl⟩
        rw [hK10] at g9
        have HQ9 := Lib.hid ((HQ.out.still HT8.out).still t9)
        have HG9 := Lib.hid g9
        have HW9 := Lib.hid (And.intro hw9 hK10)
        simp only [fca] at HW9
        have HVW := Lib.hid (stview_any w9 b h s HQ9.out.n.m)
        clear t9 g9 hw9 hK10
        rw [HW9.out.1, HW9.out.2]
        go_upto_region 17 with (go_at_call 9; (with_reducible refine HVW.out.mono ?_); rintro e w10 ⟨a1, c1, a2, c2, a3, c3, rfl, -, -, -, t10⟩; have HT10 := Lib.hid t10; clear t10)
        obtain ⟨w11, hw11⟩ : ∃ W, w10.alloc (.cells #[.int .i64 s.gen, .slice a1 s.bs.length c1, .slice a2 s.D.length c2, .slice a3 s.F.length c3] 36) = W := ⟨_, rfl⟩
        have t11 : Touch w10 w11 (fun _ => False) := hw11 ▸ (Touch.refl w10 _).alloc _
        have g11 : w11.heap[w10.heap.size]? = some (.cells #[.int .i64 s.gen, .slice a1 s.bs.length c1, .slice a2 s.D.length c2, .slice a3 s.F.length c3] 36 (0, 0)) := hw11 ▸ heap_alloc_new ..
        obtain ⟨K12, hK12⟩ : ∃ K, w10.heap.size = K := ⟨_, rfl⟩
        rw [hK12] at g11
        have HQ11 := Lib.hid ((HQ9.out.still HT10.out).still t11)
        have g9' := t11.keeps (HT10.out.keeps HG9.out (fun h => h)) (fun h => h)
        have HG11 := Lib.hid g9'
        have v0 := cell_of_cells g11 0
        have v1 := cell_of_cells g11 1
        simp at v0 v1
        rw [HI12.out.1] at v0
        rw [HI12.out.2] at v1
        rw [hw11, hK12]
        have hge := rcells_of HQ11.out.g7
        obtain ⟨-, -, -, -, -, -, -, -, -, x9, x10, -, -, -⟩ := hge
        clear t11 g11 g9' hw11 hK12
        go_upto_region 19 with (fail)
        clear v0 v1 x9 x10
        obtain ⟨p0, p1, p2, p3, p4, p5, p6, p7, p8, -⟩ := rcells_of HQ11.out.g6
        have hfin : RowKit.Hid (∀ W, Touch w11 W (fun _ => False) → Touch w W (fun _ => False)) := Lib.hid (fun W x => HT1.out.trans (HT2.out.trans (HQ11.out.n.t.trans x (fun _ _ h => h)) (fun _ _ h => h)) (fun _ _ h => h))
        by_cases h1 : la.r.kind = 1
        case pos =>
          have e1 := HI3.out
          have e2 := HI4.out h1
          rw [h1] at e1 p0
          obtain rfl : B = true := by simpa using e1
          have hx := HG11.out
          rw [e2] at hx
          obtain ⟨q0, q1, q2, q3, q4, q5, q6, q7⟩ := fcells_of hx
          simp only [flOf] at q0 q1 q2 q3 q4 q5 q6 q7
          clear e1 e2 hx h1
          go_wp2_with fail
          refine (awake14 w11).mono ?_
          rintro e w12 ⟨rfl, t12⟩
          have HT12 := Lib.hid (hfin.out _ t12)
          clear t12
          go_wp2_with fail
          go_ret
          exact ⟨rfl, HT12.out⟩
        case neg =>
          have e1 := HI3.out
          rw [decide_eq_false h1] at e1
          subst e1
          clear p1 p2 p3 p4 p5 p6 p7 p8
          go_wp2_with fail
          refine (awake14 w11).mono ?_
          rintro e w12 ⟨rfl, t12⟩
          have HT12 := Lib.hid (hfin.out _ t12)
          clear t12
          go_wp2_with fail
          go_ret
          refine ⟨?_, HT12.out⟩
          simp
          exact h1
      case pos =>
        have HRX := Lib.hid (RowS.still HR.out (HT1.out.trans (HT2.out.trans HQ.out.n.t (fun _ _ h => h)) (fun _ _ h => h)))
        obtain ⟨gr, off, rfl⟩ := HRX.out.some (by omega)
        obtain ⟨d0, d1, d2, d3, d4, d5, d6, d7, d8, d9, d10, d11, d12, d13⟩ := recB_cells HRX.out k (by have := HN.out; omega)
        have HXO := Lib.hid (HOK.out _ (grb_mem l k (by have := HN.out; omega)))
        have HXL := Lib.hid (HL.out.2 _ (grb_mem l k (by have := HN.out; omega)))
        obtain ⟨x, hx⟩ : ∃ x, grb l k = x := ⟨_, rfl⟩
        rw [hx] at d0 d1 d2 d3 d4 d5 d6 d7 d8 d9 d10 d11 d12 d13 HXO HXL
        clear hx
        obtain ⟨w6, hw6⟩ : ∃ W, wr.alloc (.cells (rcs x.r x.a x.c) 29) = W := ⟨_, rfl⟩
        have t6 : Touch wr w6 (fun _ => False) := hw6 ▸ (Touch.refl wr _).alloc _
        have g6 : w6.heap[wr.heap.size]? = some (.cells (rcs x.r x.a x.c) 29 (0, 0)) := hw6 ▸ heap_alloc_new ..
        have hlI : (k : Int) < n := by omega
        have HQ6 := Lib.hid (HQ.out.still t6)
        obtain ⟨K9, hK9⟩ : ∃ K, wr.heap.size = K := ⟨_, rfl⟩
        rw [hK9] at g6
        have HF9 : RowKit.Hid (¬ footS b h K9 ∧ K9 ≠ K6 ∧ K9 ≠ K7) := Lib.hid ⟨fun hf => by have := HQ.out.n.m.lt _ hf; omega, fun e => by have := heap_lt HQ.out.g6; omega, fun e => by have := heap_lt HQ.out.g7; omega⟩
        have HG6 := Lib.hid g6
        have HW6 := Lib.hid (And.intro hw6 hK9)
        have HXR := Lib.hid (RowS.still HXO.out.2 (HT1.out.trans (HT2.out.trans HQ6.out.n.t (fun _ _ h => h)) (fun _ _ h => h)))
        have HAP := Lib.hid (stapply_any w6 b h s HQ6.out.n.m x.r x.a x.c HXR.out (by have := HXL.out; omega) HXO.out.1)
        obtain ⟨y0, y1, y2, y3, y4, y5, y6, y7, y8, y9, y10, y11, y12, y13⟩ := rcells_of g6
        simp only [rcs] at HW6 HAP
        clear t6 g6 hw6 hK9
        go_upto_region 9 with (fail)
        rw [HW6.out.1, HW6.out.2]
        clear d0 d1 d2 d3 d4 d5 d6 d7 d8 d9 d10 d11 d12 d13
        go_wp2_with fail
        (with_reducible refine HAP.out.mono ?_)
        rintro e w7 ⟨rfl, s7⟩
        by_cases hz : stE s x.r = 0
        case neg =>
          rw [stS_bad hz] at s7
          obtain ⟨h7, q7⟩ := HQ6.out.step s7
          have HX : RowKit.Hid (∃ (k' : Nat) (h : StH) (s : StS) (la ge : RecB), k' ≤ n ∧ Value.int .i64 ((k : Int) + 1) = .int .i64 k' ∧ LaR W2 w7 b K6 K7 h s la ge ∧ LaI s t la.r ge.r) := Lib.hid ⟨k + 1, h7, s, la, ge, by omega, by go_num, q7, HI.out⟩
          have hz' : (stE s x.r == 0) = false := by simpa using hz
          clear s7 q7 y0 y1 y2 y3 y4 y5 y6 y7 y8 y9 y10 y11 y12 y13
          go_wp2_with fail
          go_roundw
          · exact HX.out
          · simp only [RowKit.intOf]; omega
        case pos =>
          obtain ⟨h7, q7⟩ := HQ6.out.step s7
          have HI7 := Lib.hid (last_step HQ6.out.n.m.ok HI.out x.r hz)
          have HG7 := Lib.hid (s7.touch.keeps HG6.out HF9.out.1)
          have HT7 := Lib.hid (q7.n.t.keeps (HT2.out.keeps HG1.out (fun h => h)) (fun h => h))
          have HQ7 := Lib.hid q7
          rw [hz]
          clear s7 q7 hz y0 y1 y2 y3 y4 y5 y6 y7 y8 y9 y10 y11 y12 y13
          obtain ⟨y0, y1, y2, y3, y4, y5, y6, y7, y8, y9, y10, y11, y12, y13⟩ := rcells_of HG7.out
          obtain ⟨z0, z1, z2, z3, z4⟩ := tupL_of HT7.out
          go_upto_region 10 with (fail)
          go_cut [43] (fun s43 wx => s43 = .bool (lastB x.r t) ∧ wx = w7)
          case first =>
            by_cases h1 : x.r.kind = 1 ∨ x.r.kind = 2
            case neg =>
              have h1' : ¬ x.r.kind = 1 := fun e => h1 (.inl e)
              have h2' : ¬ x.r.kind = 2 := fun e => h1 (.inr e)
              have hl : lastB x.r t = false := by unfold lastB; simp [h1', h2']
              clear h1
              have HLB := Lib.hid hl
              clear hl
              go_wp2_with fail
              go_meet
              exact ⟨by rw [HLB.out], rfl⟩
            case pos =>
              by_cases ht : x.r.t = t
              case pos =>
                have HLB : RowKit.Hid (lastB x.r t = true) := Lib.hid (by unfold lastB; rcases h1 with h | h <;> simp [h, ht])
                rw [ht] at y1 y2 y3 y4 y5
                clear ht
                rcases h1 with h1 | h1
                all_goals (go_wp2_with fail)
                all_goals (go_meet; exact ⟨by rw [HLB.out], rfl⟩)
              case neg =>
                have hne : ¬ (x.r.t.src = t.src ∧ x.r.t.dst = t.dst ∧ x.r.t.proto = t.proto ∧ x.r.t.sport = t.sport ∧ x.r.t.dport = t.dport) := fun e => ht (by
                  generalize x.r.t = u at *
                  obtain ⟨a1, a2, a3, a4, a5⟩ := u
                  obtain ⟨b1, b2, b3, b4, b5⟩ := t
                  simp only at e
                  obtain ⟨rfl, rfl, rfl, rfl, rfl⟩ := e
                  rfl)
                have HLB : RowKit.Hid (lastB x.r t = false) := Lib.hid (by unfold lastB; simp [ht])
                clear ht
                rcases h1 with h1 | h1
                all_goals (go_wp2_with fail)
                all_goals first
                  | (go_meet; exact ⟨by rw [HLB.out], rfl⟩)
                  | (exfalso; apply hne; simp_all)
          case rest =>
            obtain ⟨rfl, rfl⟩ := hcut
            have HF6 := Lib.hid (fun j => free_of_cells HQ7.out.g6 j)
            have HF7 := Lib.hid (fun j => free_of_cells HQ7.out.g7 j)
            clear z0 z1 z2 z3 z4
            by_cases hlb : lastB x.r t = true
            case pos =>
              have h3 : ¬ x.r.kind = 3 := by
                intro e
                unfold lastB at hlb
                rw [e] at hlb
                simp at hlb
              rw [hlb] at HI7 ⊢
              rw [if_neg h3] at HI7
              go_upto_region 11 with (fail)
              obtain ⟨p0, p1, p2, p3, p4, p5, p6, p7, p8, p9, p10, p11, p12, p13⟩ := rcells_of HQ7.out.g6
              have f0 := HF6.out 0
              have f1 := HF6.out 1
              have f2 := HF6.out 2
              have f3 := HF6.out 3
              have f4 := HF6.out 4
              have f5 := HF6.out 5
              have f6 := HF6.out 6
              have f7 := HF6.out 7
              have f8 := HF6.out 8
              have f9 := HF6.out 9
              have f10 := HF6.out 10
              have f11 := HF6.out 11
              have f12 := HF6.out 12
              have f13 := HF6.out 13
              have h11 : RowKit.Hid (∃ W, recPut wc K6 x.r x.a x.c = W) := Lib.hid ⟨_, rfl⟩
              obtain ⟨w8, hw8⟩ := h11.out
              have HQ8 := Lib.hid (HQ7.out.put6 (x := x) (hw8 ▸ recPut_touch wc K6 x.r x.a x.c) (hw8 ▸ recPut_at HQ7.out.g6))
              have HG8 := Lib.hid (Touch.keeps (hw8 ▸ recPut_touch wc K6 x.r x.a x.c : Touch wc w8 (fun k => k = K6)) HG7.out HF9.out.2.1)
              unfold recPut at hw8
              have HW8 := Lib.hid hw8
              have HX : RowKit.Hid (∃ (k' : Nat) (h : StH) (s : StS) (la ge : RecB), k' ≤ n ∧ Value.int .i64 ((k : Int) + 1) = .int .i64 k' ∧ LaR W2 w8 b K6 K7 h s la ge ∧ LaI s t la.r ge.r) := Lib.hid ⟨k + 1, h7, stS s x.r, x, ge, by omega, by go_num, HQ8.out, HI7.out⟩
              clear hw8 h11
              go_upto_region 12 with (fail)
              rw [HW8.out]
              clear p0 p1 p2 p3 p4 p5 p6 p7 p8 p9 p10 p11 p12 p13 f0 f1 f2 f3 f4 f5 f6 f7 f8 f9 f10 f11 f12 f13 y0 y1 y2 y3 y4 y5 y6 y7 y8 y9 y10 y11 y12 y13
              have y0 := (rcells_of HG8.out).1
              go_wp2_with fail
              go_roundw
              · exact HX.out
              · simp only [RowKit.intOf]; omega
            case neg =>
              have hlb' : lastB x.r t = false := by simpa using hlb
              rw [hlb'] at HI7 ⊢
              by_cases h3 : x.r.kind = 3
              case neg =>
                rw [if_neg h3] at HI7
                have HX : RowKit.Hid (∃ (k' : Nat) (h : StH) (s : StS) (la ge : RecB), k' ≤ n ∧ Value.int .i64 ((k : Int) + 1) = .int .i64 k' ∧ LaR W2 wc b K6 K7 h s la ge ∧ LaI s t la.r ge.r) := Lib.hid ⟨k + 1, h7, stS s x.r, la, ge, by omega, by go_num, HQ7.out, HI7.out⟩
                go_wp2_with fail
                go_roundw
                · exact HX.out
                · simp only [RowKit.intOf]; omega
              case pos =>
                rw [if_pos h3] at HI7
                obtain ⟨p0, p1, p2, p3, p4, p5, p6, p7, p8, p9, p10, p11, p12, p13⟩ := rcells_of HQ7.out.g7
                have f0 := HF7.out 0
                have f1 := HF7.out 1
                have f2 := HF7.out 2
                have f3 := HF7.out 3
                have f4 := HF7.out 4
                have f5 := HF7.out 5
                have f6 := HF7.out 6
                have f7 := HF7.out 7
                have f8 := HF7.out 8
                have f9 := HF7.out 9
                have f10 := HF7.out 10
                have f11 := HF7.out 11
                have f12 := HF7.out 12
                have f13 := HF7.out 13
                have h11 : RowKit.Hid (∃ W, recPut wc K7 x.r x.a x.c = W) := Lib.hid ⟨_, rfl⟩
                obtain ⟨w8, hw8⟩ := h11.out
                have HQ8 := Lib.hid (HQ7.out.put7 (x := x) (hw8 ▸ recPut_touch wc K7 x.r x.a x.c) (hw8 ▸ recPut_at HQ7.out.g7))
                unfold recPut at hw8
                have HW8 := Lib.hid hw8
                have HX : RowKit.Hid (∃ (k' : Nat) (h : StH) (s : StS) (la ge : RecB), k' ≤ n ∧ Value.int .i64 ((k : Int) + 1) = .int .i64 k' ∧ LaR W2 w8 b K6 K7 h s la ge ∧ LaI s t la.r ge.r) := Lib.hid ⟨k + 1, h7, stS s x.r, la, x, by omega, by go_num, HQ8.out, HI7.out⟩
                clear hw8 h11
                rw [h3] at HW8 y0
                clear h3
                go_upto_region 14 with (fail)
                rw [HW8.out]
                clear p0 p1 p2 p3 p4 p5 p6 p7 p8 p9 p10 p11 p12 p13 f0 f1 f2 f3 f4 f5 f6 f7 f8 f9 f10 f11 f12 f13 y0 y1 y2 y3 y4 y5 y6 y7 y8 y9 y10 y11 y12 y13
                go_wp2_with fail
                go_roundw
                · exact HX.out
                · simp only [RowKit.intOf]; omega
theorem stateLast_holds : Rows.StateLastSaid := by
  refine stateLast.said fun H enc W base v0 v1 d0 d1 p0 p1 h0 h1 => ?_
  obtain ⟨a, c, l, rfl, hr, hok⟩ := h0.recsB
  obtain ⟨t, rfl, ot⟩ := h1.tupD
  exact (stateLast_walk W a c l hr hok t ot).mono fun e w' h => ⟨h.1, h.2.below (fun _ _ h => h.elim) (Nat.le_refl _)⟩
end Go.Proofs.Ytdhimlkndpiacaa
