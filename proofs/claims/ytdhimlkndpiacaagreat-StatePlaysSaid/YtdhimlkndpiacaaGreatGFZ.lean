/- GF: FlowMap, FlowK, FlowB, FlowGet, FlowPut, FlowPut2, FlowGone, FlowIdle, FlowAwake, FlowArgs. -/
import Derived.Test.YtdhimlkndpiacaaGreatHCZ
import Derived.Maps.OwnSet
import Derived.Maps.OwnOps
import Derived.WideKeyEntry
import Derived.DeepKeys4
import Derived.Test.YtdhimlkndpiacaaGreatHDZ
import Derived.Test.YtdhimlkndpiacaaGreatHAZ
import Derived.Carry
import Derived.Test.YtdhimlkndpiacaaGreatHEZ
import Derived.Lib.ConvBytes
import Derived.Test.YtdhimlkndpiacaaGreatGCZ
section
/- Maps from tuples to flows, told by a list of their flows. -/
set_option linter.unusedVariables false
set_option linter.unusedSimpArgs false
namespace Go.Proofs.YtdhimlkndpiacaaGreat
open Go.RowKit

/-- A flow. -/
structure FlD where
  t : TupD
  fb : Int
  fg : Int
  fs : Int
theorem FlD.ext' {f g : FlD} (h1 : f.t = g.t) (h2 : f.fb = g.fb) (h3 : f.fg = g.fg) (h4 : f.fs = g.fs) : f = g := by
  cases f; cases g; simp only at h1 h2 h3 h4; subst h1 h2 h3 h4; rfl
instance : DecidableEq TupD := fun a b => by
  cases a; cases b
  rename_i a1 a2 a3 a4 a5 b1 b2 b3 b4 b5
  exact decidable_of_iff (a1 = b1 ∧ a2 = b2 ∧ a3 = b3 ∧ a4 = b4 ∧ a5 = b5) (by simp)
structure FlOk (f : FlD) : Prop where
  t : TupOk f.t
  fb : i64 f.fb
  fg : i64 f.fg
  fs : i64 f.fs
def fca (f : FlD) : Array Value := #[.int .u32 f.t.src, .int .u32 f.t.dst, .int .i64 f.t.proto, .int .i64 f.t.sport, .int .i64 f.t.dport, .int .i64 f.fb, .int .i64 f.fg, .int .i64 f.fs]
def fcl (f : FlD) : List Value := [.int .u32 f.t.src, .int .u32 f.t.dst, .int .i64 f.t.proto, .int .i64 f.t.sport, .int .i64 f.t.dport, .int .i64 f.fb, .int .i64 f.fg, .int .i64 f.fs]
def noF : FlD := ⟨noT, 0, 0, 0⟩
/-- A flow as an element of a map is read. -/
def encF (f : FlD) : DataW Unit := .agg [.lit (.int .u32 f.t.src), .lit (.int .u32 f.t.dst), .lit (.int .i64 f.t.proto), .lit (.int .i64 f.t.sport), .lit (.int .i64 f.t.dport), .lit (.int .i64 f.fb), .lit (.int .i64 f.fg), .lit (.int .i64 f.fs)]
def readF : Value → Option (DataW Unit × List MemPlace)
  | .agg cs =>
    match cs.toList with
    | [.int .u32 a, .int .u32 b, .int .i64 c, .int .i64 d, .int .i64 e, .int .i64 f, .int .i64 g, .int .i64 h] => some (encF ⟨⟨a, b, c, d, e⟩, f, g, h⟩, [])
    | _ => none
  | _ => none
theorem readF_mk (f : FlD) : readF (.agg (fca f)) = some (encF f, []) := rfl
theorem encF_inj {f g : FlD} (h : encF f = encF g) : f = g := by
  unfold encF at h
  injection h with h
  simp only [List.cons.injEq, DataW.lit.injEq, Lit.int.injEq, true_and, and_true] at h
  obtain ⟨h1, h2, h3, h4, h5, h6, h7, h8⟩ := h
  obtain ⟨⟨a1, a2, a3, a4, a5⟩, a6, a7, a8⟩ := f
  obtain ⟨⟨b1, b2, b3, b4, b5⟩, b6, b7, b8⟩ := g
  simp only at h1 h2 h3 h4 h5 h6 h7 h8
  subst h1 h2 h3 h4 h5 h6 h7 h8
  rfl
theorem readF_inv {v : Value} {z : DataW Unit × List MemPlace} (h : readF v = some z) : ∃ f : FlD, v = .agg (fca f) ∧ z = (encF f, []) := by
  unfold readF at h
  split at h
  · rename_i cs
    split at h
    · rename_i a b c d e f g h' he
      injection h with h
      refine ⟨⟨⟨a, b, c, d, e⟩, f, g, h'⟩, ?_, h.symm⟩
      have : cs = (fca ⟨⟨a, b, c, d, e⟩, f, g, h'⟩) := Array.ext' he
      rw [this]
    · cases h
  · cases h
def klT (t : TupD) : Lit := .string (keyBytes [.int .u32 t.src, .int .u32 t.dst, .int .i64 t.proto, .int .i64 t.sport, .int .i64 t.dport])
theorem tupLaw : WideMaps.KeyLaw Tryz.prog 25 :=
  deep_law_laid (P := Tryz.prog) (by kernel_rfl) (m := 8) (by decide) (of_decide_eq_true (by kernel_rfl)) (by kernel_rfl) (by kernel_rfl)
theorem tupKeyed : Maps.Keyed Tryz.prog 25 := Maps.Keyed.of_law tupLaw
set_option maxRecDepth 20000 in
theorem keyT {t : TupD} (ok : TupOk t) : keyOf Tryz.prog 25 (.agg (tcs t)) = some (klT t) := by
  have hkt : Tryz.prog.keyType 25 = true := by kernel_rfl
  obtain ⟨m, hm⟩ : ∃ m, Tryz.prog.types.size = m + 1 := ⟨Tryz.prog.types.size - 1, by kernel_rfl⟩
  have h1 : Tryz.prog.cellsOf 23 = 1 := by kernel_rfl
  have h2 : Tryz.prog.cellsOf 3 = 1 := by kernel_rfl
  have h3 : Tryz.prog.cellsOf 25 = 5 := by kernel_rfl
  have w1 : (Lit.int .u32 t.src).wf = true := by have h := ok.src; unfold u32 at h; simp [Lit.wf, IntKind.min, IntKind.max, IntKind.signed, IntKind.bits]; omega
  have w2 : (Lit.int .u32 t.dst).wf = true := by have h := ok.dst; unfold u32 at h; simp [Lit.wf, IntKind.min, IntKind.max, IntKind.signed, IntKind.bits]; omega
  have w3 : (Lit.int .i64 t.proto).wf = true := by have h := ok.proto; unfold i64 at h; simp [Lit.wf, IntKind.min, IntKind.max, IntKind.signed, IntKind.bits]; omega
  have w4 : (Lit.int .i64 t.sport).wf = true := by have h := ok.sport; unfold i64 at h; simp [Lit.wf, IntKind.min, IntKind.max, IntKind.signed, IntKind.bits]; omega
  have w5 : (Lit.int .i64 t.dport).wf = true := by have h := ok.dport; unfold i64 at h; simp [Lit.wf, IntKind.min, IntKind.max, IntKind.signed, IntKind.bits]; omega
  unfold keyOf
  simp only [Tryz.underlying25]
  rw [if_pos (by simp [hkt, Value.formed, Tryz.underlying25, h3, tcs]), hm]
  unfold Program.keyLits
  simp only [Tryz.underlying25, Value.cells, tcs]
  rw [if_pos ⟨by rw [h3]; rfl, by kernel_rfl⟩]
  simp [Program.keyLits, Tryz.underlying23, Tryz.underlying3, h1, h2, w1, w2, w3, w4, w5, klT]
theorem klT_inj {a b : TupD} (ha : TupOk a) (hb : TupOk b) (h : klT a = klT b) : a = b := by
  have h1 := keyT ha
  have h2 := keyT hb
  rw [← h] at h2
  have := tupKeyed.inj h1 h2
  unfold tcs at this
  simp only [Value.agg.injEq, Array.mk.injEq, List.cons.injEq, Value.int.injEq, true_and, and_true] at this
  obtain ⟨e1, e2, e3, e4, e5⟩ := this
  cases a; cases b
  simp only at e1 e2 e3 e4 e5
  subst e1 e2 e3 e4 e5
  rfl
theorem isKeyT (t : TupD) : WideAt.IsKeyLit (klT t) := trivial
/-! ### lists of flows -/
def hasF (M : List FlD) (t : TupD) : Bool := M.any (fun f => decide (f.t = t))
def delF (M : List FlD) (t : TupD) : List FlD := M.filter (fun f => !decide (f.t = t))
def getF : List FlD → TupD → FlD
  | [], _ => noF
  | f :: M, t => if f.t = t then f else getF M t
theorem hasF_iff (M : List FlD) (t : TupD) : hasF M t = true ↔ t ∈ M.map FlD.t := by
  unfold hasF; rw [List.any_eq_true, List.mem_map]
  constructor
  · rintro ⟨d, hd, h⟩; exact ⟨d, hd, of_decide_eq_true h⟩
  · rintro ⟨d, hd, h⟩; exact ⟨d, hd, decide_eq_true h⟩
theorem hasF_perm {M M' : List FlD} (h : M.Perm M') (t : TupD) : hasF M t = hasF M' t := by
  rw [Bool.eq_iff_iff, hasF_iff, hasF_iff, (h.map _).mem_iff]
theorem ndF_perm {M M' : List FlD} (h : M.Perm M') (hn : (M.map FlD.t).Nodup) : (M'.map FlD.t).Nodup := (h.map _).nodup_iff.1 hn
theorem delF_not (M : List FlD) (t : TupD) : t ∉ (delF M t).map FlD.t := by
  intro h
  obtain ⟨d, hd, e⟩ := List.mem_map.1 h
  have := (List.mem_filter.1 hd).2
  simp [e] at this
theorem delF_none {M : List FlD} {t : TupD} (h : t ∉ M.map FlD.t) : delF M t = M := by
  unfold delF
  rw [List.filter_eq_self]
  intro d hd
  have : d.t ≠ t := fun e => h (List.mem_map.2 ⟨d, hd, e⟩)
  simp [this]
theorem delF_nd {M : List FlD} (hn : (M.map FlD.t).Nodup) (t : TupD) : ((delF M t).map FlD.t).Nodup := hn.sublist (List.filter_sublist.map _)
theorem delF_len {M : List FlD} (hn : (M.map FlD.t).Nodup) (t : TupD) : (delF M t).length + (if hasF M t then 1 else 0) = M.length := by
  induction M with
  | nil => rfl
  | cons d M ih =>
    rw [List.map_cons, List.nodup_cons] at hn
    have ih := ih hn.2
    unfold delF hasF at ih ⊢
    rw [List.filter_cons, List.any_cons]
    by_cases h : d.t = t
    · have hm : M.any (fun d => decide (d.t = t)) = false := by
        rw [Bool.eq_false_iff]; intro hm
        have := (hasF_iff M t).1 hm
        exact hn.1 (h ▸ this)
      rw [hm] at ih
      simp only [h, decide_true, Bool.not_true, Bool.false_eq_true, if_false, Bool.true_or, if_true, List.length_cons] at ih ⊢
      omega
    · simp only [h, decide_false, Bool.not_false, if_true, Bool.false_or, List.length_cons] at ih ⊢
      omega
theorem getF_of {M : List FlD} (hn : (M.map FlD.t).Nodup) {d : FlD} (hd : d ∈ M) : getF M d.t = d := by
  induction M with
  | nil => cases hd
  | cons x M ih =>
    rw [List.map_cons, List.nodup_cons] at hn
    unfold getF
    rcases List.mem_cons.1 hd with rfl | h
    · rw [if_pos rfl]
    · rw [if_neg (fun e => hn.1 (by rw [e]; exact List.mem_map.2 ⟨d, h, rfl⟩))]
      exact ih hn.2 h
theorem getF_none {M : List FlD} {t : TupD} (h : hasF M t = false) : getF M t = noF := by
  induction M with
  | nil => rfl
  | cons x M ih =>
    unfold hasF at h
    rw [List.any_cons, Bool.or_eq_false_iff] at h
    unfold getF
    rw [if_neg (by simpa using h.1)]
    exact ih h.2
theorem getF_perm {M M' : List FlD} (h : M.Perm M') (hn : (M.map FlD.t).Nodup) (t : TupD) : getF M t = getF M' t := by
  cases hh : hasF M t with
  | false =>
    have h2 := hh
    rw [hasF_perm h] at h2
    rw [getF_none hh, getF_none h2]
  | true =>
    obtain ⟨d, hd, rfl⟩ := List.mem_map.1 ((hasF_iff _ _).1 hh)
    rw [getF_of hn hd, getF_of (ndF_perm h hn) (h.mem_iff.1 hd)]
/-- The map has these flows. -/
structure PFl (D : DataW Unit) (M : List FlD) : Prop where
  tidy : Maps.Tidy D
  size : Maps.size D = M.length
  ok : ∀ f ∈ M, TupOk f.t
  at_ : ∀ f ∈ M, ∀ z, D.atKey (klT f.t) z = encF f
  has : ∀ t, TupOk t → Maps.has D (klT t) = hasF M t
theorem PFl.nil : PFl (.map []) [] := ⟨Maps.tidy_empty, rfl, by simp, by simp, fun _ _ => rfl⟩
theorem PFl.perm {D : DataW Unit} {M M' : List FlD} (p : PFl D M) (h : M.Perm M') : PFl D M' :=
  ⟨p.tidy, by rw [p.size, h.length_eq], fun d hd => p.ok d (h.mem_iff.2 hd), fun d hd => p.at_ d (h.mem_iff.2 hd), fun b ok => by rw [p.has b ok, hasF_perm h]⟩
theorem PFl.put {D : DataW Unit} {M : List FlD} (p : PFl D M) (hn : (M.map FlD.t).Nodup) (r : FlD) (hr : TupOk r.t) : PFl (D.put (klT r.t) (encF r)) (r :: delF M r.t) := by
  refine ⟨Maps.Tidy.put p.tidy (isKeyT _) _, ?_, fun d hd => ?_, fun d hd z => ?_, fun t ht => ?_⟩
  · rw [Maps.size_put p.tidy, p.has _ hr, p.size, List.length_cons]
    have := delF_len hn r.t
    cases hh : hasF M r.t <;> rw [hh] at this <;> simp at this ⊢ <;> omega
  · rcases List.mem_cons.1 hd with rfl | hd
    · exact hr
    · exact p.ok d (List.mem_filter.1 hd).1
  · rcases List.mem_cons.1 hd with rfl | hd
    · exact Maps.atKey_put_same p.tidy.isMap (isKeyT _) _ _
    · have h2 := List.mem_filter.1 hd
      have hne : klT d.t ≠ klT r.t := fun e => by have := klT_inj (p.ok d h2.1) hr e; simp [this] at h2
      rw [Maps.atKey_put_other hne]
      exact p.at_ d h2.1 z
  · by_cases e : t = r.t
    · subst e
      rw [Maps.has_put_same p.tidy.isMap (isKeyT _)]
      simp [hasF]
    · rw [Maps.has_put_other (fun h => e (klT_inj ht hr h)), p.has t ht]
      unfold hasF delF
      rw [List.any_cons, List.any_filter]
      have e2 : decide (r.t = t) = false := decide_eq_false (fun h => e h.symm)
      rw [e2, Bool.false_or]
      congr 1
      funext d
      by_cases h : d.t = t
      · simp [h, e]
      · simp [h]
theorem PFl.del {D : DataW Unit} {M : List FlD} (p : PFl D M) (hn : (M.map FlD.t).Nodup) (t : TupD) (ht : TupOk t) : PFl (D.del (klT t)) (delF M t) := by
  refine ⟨Maps.Tidy.del p.tidy _, ?_, fun d hd => p.ok d (List.mem_filter.1 hd).1, fun d hd z => ?_, fun c hc => ?_⟩
  · have h1 := Maps.size_del (k := klT t) p.tidy
    rw [p.has t ht, p.size] at h1
    have h2 := delF_len hn t
    omega
  · have h2 := List.mem_filter.1 hd
    have hne : klT d.t ≠ klT t := fun e => by have := klT_inj (p.ok d h2.1) ht e; simp [this] at h2
    rw [Maps.atKey_del_other hne]
    exact p.at_ d h2.1 z
  · by_cases e : c = t
    · subst e
      rw [Maps.has_del_same]
      refine (Bool.eq_false_iff.2 fun h => ?_).symm
      exact delF_not M c ((hasF_iff _ _).1 h)
    · rw [Maps.has_del_other (fun h => e (klT_inj hc ht h)), p.has c hc]
      unfold hasF delF
      rw [List.any_filter]
      congr 1
      funext d
      by_cases h : d.t = c
      · simp [h, e]
      · simp [h]
/-- A map of the call's own with these flows. -/
structure OwnFl (w : World) (mb : Nat) (M : List FlD) : Prop where
  nd : (M.map FlD.t).Nodup
  own : ∃ D : DataW Unit, w.ownsMap Tryz.prog 25 readF mb M.length D ∧ PFl D M
section
variable {w w' : World} {mb : Nat} {M M' : List FlD}
theorem ownsMapF_touch {H : Type} {P : Program} {k : TypeId} {R : Value → Option (DataW H × List MemPlace)} {mb n : Nat} {D : DataW H} {S : Nat → Prop} (h : w.ownsMap P k R mb n D) (t : Touch w w' S) (hn : ¬ S mb) : w'.ownsMap P k R mb n D := by
  obtain ⟨es, clock, hb, r⟩ := h
  exact ⟨es, clock, t.keeps hb hn, r⟩
theorem ownsMapF_tight {H : Type} {P : Program} {k : TypeId} {R : Value → Option (DataW H × List MemPlace)} {mb n : Nat} {D : DataW H} (h : w.ownsMap P k R mb n D) : w.ownsMap P k R mb (Maps.size D) D := by
  obtain ⟨es, clock, hb, F, hs, rfl⟩ := h
  exact ⟨es, clock, hb, F, by simp [Maps.size, length_sorted], rfl⟩
theorem OwnFl.touch {S : Nat → Prop} (h : OwnFl w mb M) (t : Touch w w' S) (hn : ¬ S mb) : OwnFl w' mb M := by
  obtain ⟨h0, D, h1, h2⟩ := h
  exact ⟨h0, D, ownsMapF_touch h1 t hn, h2⟩
theorem OwnFl.still (h : OwnFl w mb M) (t : Touch w w' (fun _ => False)) : OwnFl w' mb M := h.touch t (fun h => h)
theorem OwnFl.lt (h : OwnFl w mb M) : mb < w.heap.size := by
  obtain ⟨_, D, h1, _⟩ := h
  exact h1.lt
theorem OwnFl.ok (h : OwnFl w mb M) : ∀ f ∈ M, TupOk f.t := by
  obtain ⟨_, D, _, h2⟩ := h
  exact h2.ok
theorem OwnFl.perm (h : OwnFl w mb M) (p : M.Perm M') : OwnFl w mb M' := by
  obtain ⟨h0, D, h1, h2⟩ := h
  exact ⟨ndF_perm p h0, D, p.length_eq ▸ h1, h2.perm p⟩
theorem OwnFl.made (w : World) : OwnFl (w.alloc (.map #[] 0)) w.heap.size [] :=
  ⟨List.nodup_nil, _, World.ownsMap_made (H := Unit) w Tryz.prog _ readF, PFl.nil⟩
theorem zeroFl (w : World) : (zeroValue 39).run Tryz.prog w = .ok (.agg (fca noF)) w := by kernel_rfl
theorem mapTF : Tryz.prog.underlying 61 = some (.map 25 39) := Tryz.underlying61
set_option maxRecDepth 20000 in
theorem OwnFl.ok' (h : OwnFl w mb M) {t : TupD} (ht : TupOk t) :
    (Instr.lookup 61 (.map (some mb)) (.agg (tcs t)) true).run Tryz.prog w = .ok (.tuple #[.agg (fca (getF M t)), .bool (hasF M t)]) w := by
  obtain ⟨hn, D, hD, hP⟩ := h
  obtain ⟨v, ps, hrun, hv⟩ := World.ownsMap.look_ok hD tupKeyed mapTF (zeroFl w) (readF_mk noF) (keyT ht)
  obtain ⟨g, rfl, hg⟩ := readF_inv hv
  have hg := congrArg Prod.fst hg
  simp only at hg
  rw [hP.has t ht] at hrun
  cases hh : hasF M t with
  | false =>
    have h1 := hP.has t ht
    rw [hh] at h1
    rw [Maps.atKey_of_not_has h1] at hg
    rw [getF_none hh, encF_inj hg]
    rw [hh] at hrun; exact hrun
  | true =>
    obtain ⟨d, hd, rfl⟩ := List.mem_map.1 ((hasF_iff _ _).1 hh)
    rw [hP.at_ d hd] at hg
    rw [getF_of hn hd]
    rw [hh, ← encF_inj hg] at hrun; exact hrun
set_option maxRecDepth 20000 in
theorem OwnFl.get (h : OwnFl w mb M) {t : TupD} (ht : TupOk t) :
    (Instr.lookup 61 (.map (some mb)) (.agg (tcs t)) false).run Tryz.prog w = .ok (.agg (fca (getF M t))) w := by
  obtain ⟨hn, D, hD, hP⟩ := h
  obtain ⟨v, ps, hrun, hv⟩ := World.ownsMap.lookup hD tupKeyed mapTF (zeroFl w) (readF_mk noF) (keyT ht)
  obtain ⟨g, rfl, hg⟩ := readF_inv hv
  have hg := congrArg Prod.fst hg
  simp only at hg
  cases hh : hasF M t with
  | false =>
    have h1 := hP.has t ht
    rw [hh] at h1
    rw [Maps.atKey_of_not_has h1] at hg
    rw [getF_none hh, encF_inj hg]; exact hrun
  | true =>
    obtain ⟨d, hd, rfl⟩ := List.mem_map.1 ((hasF_iff _ _).1 hh)
    rw [hP.at_ d hd] at hg
    rw [getF_of hn hd]
    rw [← encF_inj hg] at hrun; exact hrun
theorem OwnFl.len (h : OwnFl w mb M) (ty : TypeId) : (Builtin.len_ #[61] ty #[.map (some mb)]).run Tryz.prog w = .ok (.int .i64 M.length) w := by
  obtain ⟨_, D, h1, h2⟩ := h
  have := h1.len mapTF ty
  rwa [h2.size] at this
theorem turnedF {w w' : World} {mb : Nat} (h : w.mapTurned w' mb) : Touch w w' (fun k => k = mb) := (Touch.refl w (fun k => k = mb)).grown h.grown (fun k hk _ => by simp only [Option.some.injEq] at hk; exact hk.symm)
set_option maxRecDepth 20000 in
theorem OwnFl.store (h : OwnFl w mb M) (hl : M.length ≤ 1000000) (r : FlD) (hr : TupOk r.t) :
    ∃ w', (Instr.mapUpdate 61 (.map (some mb)) (.agg (tcs r.t)) (.agg (fca r))).run Tryz.prog w = .ok () w' ∧ OwnFl w' mb (r :: delF M r.t) ∧ Touch w w' (fun k => k = mb) := by
  obtain ⟨hn, D, hD, hP⟩ := h
  obtain ⟨w5, r1, r2, r3⟩ := World.ownsMap.store hD tupKeyed mapTF (by simp only [maxLen]; omega) (keyT hr) (readF_mk r)
  have hp := hP.put hn r hr
  have r4 := ownsMapF_tight r2
  rw [hp.size] at r4
  refine ⟨w5, r1, ⟨?_, _, r4, hp⟩, turnedF r3⟩
  rw [List.map_cons, List.nodup_cons]
  exact ⟨delF_not M r.t, delF_nd hn _⟩
set_option maxRecDepth 20000 in
theorem OwnFl.drop (h : OwnFl w mb M) (t : TupD) (ht : TupOk t) (ty : TypeId) :
    ∃ w', (Builtin.delete_ #[61, 25] ty #[.map (some mb), .agg (tcs t)]).run Tryz.prog w = .ok (.tuple #[]) w' ∧ OwnFl w' mb (delF M t) ∧ Touch w w' (fun k => k = mb) := by
  obtain ⟨hn, D, hD, hP⟩ := h
  obtain ⟨w5, r1, r2, r3⟩ := World.ownsMap.drop hD tupKeyed mapTF (keyT ht) ty
  have hp := hP.del hn t ht
  have r4 := ownsMapF_tight r2
  rw [hp.size] at r4
  exact ⟨w5, r1, ⟨delF_nd hn t, _, r4, hp⟩, turnedF r3⟩
end
end Go.Proofs.YtdhimlkndpiacaaGreat

end

section
/- Flows: a tuple as a key; the small questions. -/
set_option linter.unusedVariables false
set_option linter.unusedSimpArgs false
namespace Go.Proofs.YtdhimlkndpiacaaGreat
open Go.RowKit

/-- The key of a tuple. -/
def kT (t : TupD) : ByteArray := strB (tbF t)
theorem kT_size (t : TupD) : (kT t).size ≤ 281474976710656 := by
  have h1 : (kT t).size = (tbF t).length := by
    show ((tbF t).map UInt8.ofNat).toArray.size = _
    simp
  rw [h1, tbF_length]; decide
theorem tbF_lt (t : TupD) : ∀ x ∈ tbF t, x < 256 := by
  intro x hx
  unfold tbF at hx
  simp only [List.mem_append] at hx
  rcases hx with (((hx | hx) | hx) | hx) | hx <;> exact beB_small _ _ x hx
theorem kT_inj {a b : TupD} (oa : TupOk a) (ob : TupOk b) (ma : mayTB a = true) (mb : mayTB b = true) (h : kT a = kT b) : a = b := by
  obtain ⟨h1, h2, h3, h4, h5⟩ := tbF_inj (strB_inj _ _ (tbF_lt a) (tbF_lt b) h) oa ob ma mb
  cases a; cases b
  simp only at h1 h2 h3 h4 h5
  subst h1 h2 h3 h4 h5
  rfl
end Go.Proofs.YtdhimlkndpiacaaGreat

end

section
/- Flows: the table in memory; its short words. -/
set_option linter.unusedVariables false
set_option linter.unusedSimpArgs false
namespace Go.Proofs.YtdhimlkndpiacaaGreat
open Go.RowKit

def rngF (f : FlD) : Bool := decide ((0 ≤ f.fb ∧ f.fb ≤ 65535) ∧ (0 ≤ f.fg ∧ f.fg ≤ 1000000) ∧ 0 ≤ f.fs ∧ f.fs ≤ 1099511627776)
def mayFB (f : FlD) : Bool := mayTB f.t && rngF f
theorem infoFlow : (Tryz.prog.info? 39).map (·.size) = some 8 := by kernel_rfl
theorem infoFlowB : (Tryz.prog.info? 39).map (fun i => (i.zero, i.size, i.bytes)) = some (some (.agg (fca noF)), 8, 56) := by kernel_rfl
theorem fcells_of {w : World} {B : Nat} {f : FlD} {T : TypeId} (hb : w.heap[B]? = some (.cells (fca f) T (0, 0))) :
    w.cell? ⟨B, 0, none⟩ = some (.int .u32 f.t.src) ∧ w.cell? ⟨B, 1, none⟩ = some (.int .u32 f.t.dst) ∧ w.cell? ⟨B, 2, none⟩ = some (.int .i64 f.t.proto) ∧ w.cell? ⟨B, 3, none⟩ = some (.int .i64 f.t.sport) ∧ w.cell? ⟨B, 4, none⟩ = some (.int .i64 f.t.dport) ∧ w.cell? ⟨B, 5, none⟩ = some (.int .i64 f.fb) ∧ w.cell? ⟨B, 6, none⟩ = some (.int .i64 f.fg) ∧ w.cell? ⟨B, 7, none⟩ = some (.int .i64 f.fs) :=
  ⟨cell_of_cells hb 0, cell_of_cells hb 1, cell_of_cells hb 2, cell_of_cells hb 3, cell_of_cells hb 4, cell_of_cells hb 5, cell_of_cells hb 6, cell_of_cells hb 7⟩
theorem may_ok {f : FlD} (h : mayFB f = true) : mayTB f.t = true ∧ (0 ≤ f.fb ∧ f.fb ≤ 65535) ∧ (0 ≤ f.fg ∧ f.fg ≤ 1000000) ∧ 0 ≤ f.fs ∧ f.fs ≤ 1099511627776 := by
  unfold mayFB rngF at h
  rw [Bool.and_eq_true, decide_eq_true_iff] at h
  exact h
def qf (f : FlD) : QR := ⟨kT f.t, f.fs⟩
/-- Flows that may be. -/
def MayF (M : List FlD) : Prop := ∀ f ∈ M, TupOk f.t ∧ mayFB f = true
theorem has_qf {M : List FlD} (ok : MayF M) {t : TupD} (ot : TupOk t) (mt : mayTB t = true) : hasQ (M.map qf) (kT t) = hasF M t := by
  rw [Bool.eq_iff_iff, has_iff, hasF_iff, List.map_map, List.mem_map, List.mem_map]
  constructor
  · rintro ⟨d, hd, e⟩
    exact ⟨d, hd, kT_inj (ok d hd).1 ot (may_ok (ok d hd).2).1 mt e⟩
  · rintro ⟨d, hd, e⟩
    exact ⟨d, hd, by simp only [Function.comp, qf, e]⟩
theorem del_qf {M : List FlD} (ok : MayF M) {t : TupD} (ot : TupOk t) (mt : mayTB t = true) : delQ (M.map qf) (kT t) = (delF M t).map qf := by
  unfold delQ delF
  rw [List.filter_map]
  congr 1
  apply List.filter_congr
  intro d hd
  by_cases e : d.t = t
  · simp [e, qf]
  · have : ¬ kT d.t = kT t := fun h => e (kT_inj (ok d hd).1 ot (may_ok (ok d hd).2).1 mt h)
    simp [e, qf, this]
theorem perm_mapF {α β : Type} (f : α → β) : ∀ {L : List β} {M : List α}, L.Perm (M.map f) → ∃ M1 : List α, M1.Perm M ∧ L = M1.map f
  | [], M, h => ⟨[], by have := h.length_eq; simp at this; rw [List.eq_nil_of_length_eq_zero this.symm], rfl⟩
  | x :: L, M, h => by
    obtain ⟨d, hd, e⟩ := List.mem_map.1 (h.mem_iff.1 List.mem_cons_self)
    obtain ⟨s, t, rfl⟩ := List.append_of_mem hd
    have h2 : (x :: L).Perm (f d :: (s ++ t).map f) := h.trans (List.perm_middle.map f)
    rw [e] at h2
    obtain ⟨M1, p1, e1⟩ := perm_mapF f (h2.cons_inv)
    exact ⟨d :: M1, (p1.cons d).trans List.perm_middle.symm, by rw [List.map_cons, e1, e]⟩
theorem set_qf {M : List FlD} (ok : MayF M) {f : FlD} (of : TupOk f.t) (mf : mayFB f = true) (hl : M.length < 1024) : ∃ M1 : List FlD, M1.Perm (f :: delF M f.t) ∧ setQ (M.map qf) (kT f.t) f.fs = M1.map qf ∧ setE (M.map qf) (kT f.t) f.fs = 0 := by
  obtain ⟨m1, _, _, m4, m5⟩ := may_ok mf
  have he : setE (M.map qf) (kT f.t) f.fs = 0 := by
    unfold setE
    rw [if_neg (by omega)]
    split
    · rfl
    · rw [if_neg (by simp; omega)]
  obtain ⟨M1, p1, e1⟩ := perm_mapF qf (L := setQ (M.map qf) (kT f.t) f.fs) (M := f :: delF M f.t) (by
    unfold setQ
    rw [if_pos he, del_qf ok of m1]
    exact ins_perm _ _)
  exact ⟨M1, p1, e1, he⟩
/-- Where a table lies. -/
structure FH where
  mb : Nat
  bq : Nat
  hq : QH
def footF (g : Nat) (h : FH) (k : Nat) : Prop := k = g ∨ k = h.mb ∨ footQ h.bq h.hq k
section
variable {w w' : World} {g : Nat} {h : FH} {most idle : Int} {M : List FlD}
end
end Go.Proofs.YtdhimlkndpiacaaGreat

end

section
/- Flows: Get, keep, Put. -/
set_option linter.unusedVariables false
set_option linter.unusedSimpArgs false
namespace Go.Proofs.YtdhimlkndpiacaaGreat
open Go.RowKit

theorem infoTupF : (Tryz.prog.info? 25).map (·.size) = some 5 := by kernel_rfl
end Go.Proofs.YtdhimlkndpiacaaGreat

end

section
/- Flows: keep, Put. -/
set_option linter.unusedVariables false
set_option linter.unusedSimpArgs false
namespace Go.Proofs.YtdhimlkndpiacaaGreat
open Go.RowKit

theorem keep_len {M : List FlD} (hn : (M.map FlD.t).Nodup) {f : FlD} {most : Int} (hr : hasF M f.t = true ∨ (M.length : Int) < most) (hl : (M.length : Int) ≤ most) : ((f :: delF M f.t).length : Int) ≤ most := by
  have := delF_len hn f.t
  rw [List.length_cons]
  rcases hr with hr | hr
  · rw [hr] at this; simp at this; omega
  · omega
theorem keep_ok {M : List FlD} (ok : MayF M) {f : FlD} (of : TupOk f.t) (mf : mayFB f = true) : MayF (f :: delF M f.t) := fun x hx => by
  rcases List.mem_cons.1 hx with rfl | hx
  · exact ⟨of, mf⟩
  · exact ok x (List.mem_filter.1 hx).1
end Go.Proofs.YtdhimlkndpiacaaGreat

end

section
/- Flows: Put. -/
set_option linter.unusedVariables false
set_option linter.unusedSimpArgs false
namespace Go.Proofs.YtdhimlkndpiacaaGreat
open Go.RowKit

def putB (M : List FlD) (most : Int) (f : FlD) : Bool := mayFB f && (hasF M f.t || decide ((M.length : Int) < most))
def putE (M : List FlD) (most : Int) (f : FlD) : Value := if mayFB f = false then .tuple #[.bool false, .int .i64 1] else if putB M most f = false then .tuple #[.bool false, .int .i64 9] else .tuple #[.bool (!hasF M f.t), .int .i64 0]
def putF (M : List FlD) (most : Int) (f : FlD) : List FlD := if putB M most f = true then f :: delF M f.t else M
end Go.Proofs.YtdhimlkndpiacaaGreat

end

section
/- Flows: what Idle lets go and what it leaves; a string's bytes as a row. -/
set_option linter.unusedVariables false
set_option linter.unusedSimpArgs false
namespace Go.Proofs.YtdhimlkndpiacaaGreat
open Go.RowKit

def goneF (M : List FlD) (c : Int) : List FlD := M.takeWhile (fun d => decide (d.fs ≤ c))
def leftF (M : List FlD) (c : Int) : List FlD := M.dropWhile (fun d => decide (d.fs ≤ c))
theorem due_qf (M : List FlD) (c : Int) : dueQ (M.map qf) c = (goneF M c).map qf ∧ restQ (M.map qf) c = (leftF M c).map qf := by
  unfold dueQ restQ goneF leftF
  rw [List.takeWhile_map, List.dropWhile_map]
  exact ⟨rfl, rfl⟩
theorem gone_left (M : List FlD) (c : Int) : goneF M c ++ leftF M c = M := List.takeWhile_append_dropWhile
def idleA (M : List FlD) (idle now : Int) : List FlD := if now < idle then [] else goneF M (now - idle)
def idleR (M : List FlD) (idle now : Int) : List FlD := if now < idle then M else leftF M (now - idle)
def gf (M : List FlD) (i : Nat) : FlD := M.getD i noF
theorem gf_get (M : List FlD) (i : Nat) (h : i < M.length) : gf M i = M[i] := by unfold gf; rw [List.getD_eq_getElem?_getD, List.getElem?_eq_getElem h]; rfl
theorem gf_mem (M : List FlD) (i : Nat) (h : i < M.length) : gf M i ∈ M := by rw [gf_get M i h]; exact List.getElem_mem h
theorem gq_qf (A : List FlD) (i : Nat) (h : i < A.length) : gq (A.map qf) i = qf (gf A i) := by
  rw [gq_get _ i (by simpa using h), List.getElem_map, gf_get A i h]
theorem del_head {x : FlD} {L : List FlD} (hn : ((x :: L).map FlD.t).Nodup) : delF (x :: L) x.t = L := by
  rw [List.map_cons, List.nodup_cons] at hn
  have := delF_none hn.1
  unfold delF at this ⊢
  rw [List.filter_cons, if_neg (by simp), this]
theorem touch_bw (w : World) (e : TypeId) (s : ByteArray) : Touch w (Lib.bytesWorld w e s) (fun _ => False) := by
  unfold Lib.bytesWorld
  exact Touch.ofBelow (Lib.below_freeze (((Below.refl _ w).drew).alloc (Nat.le_refl _) _) (Nat.le_refl _) _) (fun k h1 h2 => by have h1 : w.heap.size ≤ k := h1; omega)
theorem kT_size13 (t : TupD) : (kT t).size = 13 := by
  have h1 : (kT t).size = (tbF t).length := by
    show ((tbF t).map UInt8.ofNat).toArray.size = _
    simp
  rw [h1, tbF_length]
theorem row_bw (w : World) (e : TypeId) (t : TupD) : RowB (Lib.bytesWorld w e (kT t)) (some ⟨w.heap.size, 0, none⟩) 13 (grownCap w 13 0 e) (tbF t) := by
  refine ⟨tbF_length t, grownCap_ge w 13 0 e, ?_, by omega, tbF_lt t, .inr ⟨w.heap.size, 0, rfl, fun i hi => ?_⟩⟩
  · have := grownCap_le_maxLen w 13 0 e (by simp only [maxLen]; omega)
    simp only [maxLen] at this; omega
  · have h13 : i < 13 := by rw [tbF_length] at hi; exact hi
    rw [Nat.zero_add, Lib.bytesWorld_cell w e (kT t) i (by rw [kT_size13]; exact h13)]
    have h2 : (kT t).data.toList = (tbF t).map UInt8.ofNat := by unfold kT strB; simp
    have h3 := tbF_lt t _ (List.getElem_mem hi)
    rw [h2, List.getD_eq_getElem?_getD, List.getElem?_map, List.getElem?_eq_getElem hi]
    simp only [Option.map_some, Option.getD_some, UInt8.toNat_ofNat']
    rw [Nat.mod_eq_of_lt (by simpa using h3)]
theorem idle_wrap {now idle : Int} (hn : i64 now) (hi : 1 ≤ idle ∧ idle ≤ 1099511627776) (h : ¬ now < idle) : IntKind.i64.wrap (now - idle) = now - idle := by
  have := hn.1; have := hn.2
  rw [IntKind.wrap_i64]; omega
theorem one_fcl (x : FlD) : ∀ l ∈ [fcl x], ∀ u ∈ l, u.oneCell' = true := by simp [fcl, Value.oneCell']
theorem row_oneF (w : World) (x : FlD) : RowS (w.alloc (.cells (fca x) 39)) (some ⟨w.heap.size, 0, none⟩) 1 1 8 [fcl x] :=
  ((OwnS.lit w w.heap.size (Nat.le_refl _) 39 8 1 [fcl x] (fca x) rfl rfl (by simp [fcl]) (by omega)).row').2.1
end Go.Proofs.YtdhimlkndpiacaaGreat

end

section
/- Flows: Idle. -/
set_option linter.unusedVariables false
set_option linter.unusedSimpArgs false
namespace Go.Proofs.YtdhimlkndpiacaaGreat
open Go.RowKit

end Go.Proofs.YtdhimlkndpiacaaGreat

end

section
/- Flows: awake; a table that there isn't. -/
set_option linter.unusedVariables false
set_option linter.unusedSimpArgs false
namespace Go.Proofs.YtdhimlkndpiacaaGreat
open Go.RowKit

section
variable {w w1 w2 : World} {g : Nat} {h : FH} {most idle : Int} {M M' A R : List FlD} {v : Value}
end
/-- The law's flow of a number. -/
def flN (n s : Int) : FlD := ⟨⟨n, 0, 17, 0, 0⟩, 0, 0, s⟩
theorem flN_ok (n s : Int) (h0 : 0 ≤ n) (h1 : n < 4294967296) : TupOk (flN n s).t := by
  have z : (0 : Int) ≤ 4294967295 := by decide
  have z1 : (-9223372036854775808 : Int) ≤ 0 ∧ (0 : Int) ≤ 9223372036854775807 := by decide
  have z2 : (-9223372036854775808 : Int) ≤ 17 ∧ (17 : Int) ≤ 9223372036854775807 := by decide
  have z3 : n ≤ 4294967295 := by omega
  exact ⟨⟨h0, z3⟩, ⟨Int.le_refl 0, z⟩, z2, z1, z1⟩
instance : DecidableEq FlD := fun a b =>
  decidable_of_iff (a.t = b.t ∧ a.fb = b.fb ∧ a.fg = b.fg ∧ a.fs = b.fs) ⟨fun h => FlD.ext' h.1 h.2.1 h.2.2.1 h.2.2.2, fun h => by subst h; exact ⟨rfl, rfl, rfl, rfl⟩⟩
end Go.Proofs.YtdhimlkndpiacaaGreat

end

section
/- A flow that came in. -/
set_option linter.unusedVariables false
set_option linter.unusedSimpArgs false
namespace Go.Proofs.YtdhimlkndpiacaaGreat
open Go.RowKit
variable {H : Type} {enc : TypeId × Value → H} {W : World} {base : Nat} {v : Value} {d : DataW H} {p : List MemPlace} {cs : List Value}

theorem Tr.flD (h : Tr enc Tryz.prog W 39 cs d) : ∃ f : FlD, cs = fcl f ∧ FlOk f := by
  obtain ⟨ds, hd, hl, hc, hf⟩ := h.struct Tryz.underlying39
  have hcf : Tryz.prog.cellsOf 39 = 8 := by kernel_rfl
  have hct : Tryz.prog.cellsOf 25 = 5 := by kernel_rfl
  rw [hcf] at hc
  obtain ⟨u1, u2, u3, u4, u5, u6, u7, u8, rfl⟩ := listEight hc
  obtain ⟨f0, f1, f2, f3, rfl⟩ := listFour (l := ds) (by simpa using hl)
  have k0 : Tr enc Tryz.prog W 25 ((([u1, u2, u3, u4, u5, u6, u7, u8] : List Value).drop 0).take (Tryz.prog.cellsOf 25)) f0 := hf 0 _ f0 rfl rfl
  have k1 : Tr enc Tryz.prog W 3 ((([u1, u2, u3, u4, u5, u6, u7, u8] : List Value).drop 5).take (Tryz.prog.cellsOf 3)) f1 := hf 1 _ f1 rfl rfl
  have k2 : Tr enc Tryz.prog W 3 ((([u1, u2, u3, u4, u5, u6, u7, u8] : List Value).drop 6).take (Tryz.prog.cellsOf 3)) f2 := hf 2 _ f2 rfl rfl
  have k3 : Tr enc Tryz.prog W 2 ((([u1, u2, u3, u4, u5, u6, u7, u8] : List Value).drop 7).take (Tryz.prog.cellsOf 2)) f3 := hf 3 _ f3 rfl rfl
  rw [hct] at k0
  rw [cint] at k1 k2
  rw [cint64] at k3
  obtain ⟨t, gt, ht⟩ := k0.tupD
  obtain ⟨y1, q1, m1, n1, _⟩ := k1.i64 Tryz.underlying3
  obtain ⟨y2, q2, m2, n2, _⟩ := k2.i64 Tryz.underlying3
  obtain ⟨y3, q3, m3, n3, _⟩ := k3.i64 Tryz.underlying2
  simp at q1 q2 q3 gt
  obtain ⟨r0, r1, r2, r3, r4⟩ := gt
  subst q1 q2 q3 r0 r1 r2 r3 r4
  exact ⟨⟨t, y1, y2, y3⟩, rfl, ⟨ht, ⟨m1, n1⟩, ⟨m2, n2⟩, ⟨m3, n3⟩⟩⟩
theorem ArgIn.flD (h : ArgIn enc Tryz.prog W base 39 v d p) : ∃ f : FlD, v = .agg (fca f) ∧ FlOk f := by
  obtain ⟨cs, rfl, _⟩ := h.struct Tryz.underlying39
  obtain ⟨f, e, ok⟩ := h.tr.flD
  simp only [Value.cells] at e
  have := congrArg List.toArray e
  simp at this
  exact ⟨f, by rw [this]; rfl, ok⟩
end Go.Proofs.YtdhimlkndpiacaaGreat

end
