/- Maps whose keys are ints and whose elements are ints, told by a list of their entries. -/
import Derived.Test.YtgpchkobjgglhaaGreatDoorGAZ
import Derived.Maps.OwnSet
import Derived.Maps.OwnOps
import Derived.WideKeyEntry
import Derived.Lib.SlKeysI
set_option linter.unusedVariables false
set_option linter.unusedSimpArgs false
namespace Go.Proofs.YtgpchkobjgglhaaGreatDoor
open Go.RowKit

/-- A number and what stands at it. -/
structure DR where
  b : Int
  u : Int
def klZ (b : Int) : Lit := .int .i64 b
def hasD (M : List DR) (b : Int) : Bool := M.any (fun d => decide (d.b = b))
def delD (M : List DR) (b : Int) : List DR := M.filter (fun d => !decide (d.b = b))
def timeD : List DR → Int → Int
  | [], _ => 0
  | d :: M, b => if d.b = b then d.u else timeD M b
def i64D (b : Int) : Prop := -9223372036854775808 ≤ b ∧ b ≤ 9223372036854775807
theorem klZ_inj {a b : Int} (h : klZ a = klZ b) : a = b := by
  unfold klZ at h
  simpa using h
theorem isKeyZ (b : Int) : WideAt.IsKeyLit (klZ b) := trivial
theorem litZ_inj {a c : Int} (h : (DataW.lit (.int .i64 a) : DataW Unit) = .lit (.int .i64 c)) : a = c := by
  have h4 := congrArg (fun d : DataW Unit => match d with | .lit (.int _ n) => n | _ => (0:Int)) h
  exact h4
theorem hasD_iff (M : List DR) (b : Int) : hasD M b = true ↔ b ∈ M.map DR.b := by
  unfold hasD; rw [List.any_eq_true, List.mem_map]
  constructor
  · rintro ⟨d, hd, h⟩; exact ⟨d, hd, of_decide_eq_true h⟩
  · rintro ⟨d, hd, h⟩; exact ⟨d, hd, decide_eq_true h⟩
theorem hasD_perm {M M' : List DR} (h : M.Perm M') (b : Int) : hasD M b = hasD M' b := by
  rw [Bool.eq_iff_iff, hasD_iff, hasD_iff, (h.map _).mem_iff]
theorem ndD_perm {M M' : List DR} (h : M.Perm M') (hn : (M.map DR.b).Nodup) : (M'.map DR.b).Nodup := (h.map _).nodup_iff.1 hn
theorem delD_not (M : List DR) (b : Int) : b ∉ (delD M b).map DR.b := by
  intro h
  obtain ⟨d, hd, e⟩ := List.mem_map.1 h
  have := (List.mem_filter.1 hd).2
  simp [e] at this
theorem delD_none {M : List DR} {b : Int} (h : b ∉ M.map DR.b) : delD M b = M := by
  unfold delD
  rw [List.filter_eq_self]
  intro d hd
  have : d.b ≠ b := fun e => h (List.mem_map.2 ⟨d, hd, e⟩)
  simp [this]
theorem delD_nd {M : List DR} (hn : (M.map DR.b).Nodup) (b : Int) : ((delD M b).map DR.b).Nodup := hn.sublist (List.filter_sublist.map _)
theorem delD_len {M : List DR} (hn : (M.map DR.b).Nodup) (b : Int) : (delD M b).length + (if hasD M b then 1 else 0) = M.length := by
  induction M with
  | nil => rfl
  | cons d M ih =>
    rw [List.map_cons, List.nodup_cons] at hn
    have ih := ih hn.2
    unfold delD hasD at ih ⊢
    rw [List.filter_cons, List.any_cons]
    by_cases h : d.b = b
    · have hm : M.any (fun d => decide (d.b = b)) = false := by
        rw [Bool.eq_false_iff]; intro hm
        have := (hasD_iff M b).1 hm
        exact hn.1 (h ▸ this)
      rw [hm] at ih
      simp only [h, decide_true, Bool.not_true, Bool.false_eq_true, if_false, Bool.true_or, if_true, List.length_cons] at ih ⊢
      omega
    · simp only [h, decide_false, Bool.not_false, if_true, Bool.false_or, List.length_cons] at ih ⊢
      omega
theorem timeD_of {M : List DR} (hn : (M.map DR.b).Nodup) {d : DR} (hd : d ∈ M) : timeD M d.b = d.u := by
  induction M with
  | nil => cases hd
  | cons x M ih =>
    rw [List.map_cons, List.nodup_cons] at hn
    unfold timeD
    rcases List.mem_cons.1 hd with rfl | h
    · rw [if_pos rfl]
    · rw [if_neg (fun e => hn.1 (by rw [e]; exact List.mem_map.2 ⟨d, h, rfl⟩))]
      exact ih hn.2 h
theorem timeD_none {M : List DR} {b : Int} (h : hasD M b = false) : timeD M b = 0 := by
  induction M with
  | nil => rfl
  | cons x M ih =>
    unfold hasD at h
    rw [List.any_cons, Bool.or_eq_false_iff] at h
    unfold timeD
    rw [if_neg (by simpa using h.1)]
    exact ih h.2
theorem timeD_perm {M M' : List DR} (h : M.Perm M') (hn : (M.map DR.b).Nodup) (b : Int) : timeD M b = timeD M' b := by
  cases hh : hasD M b with
  | false =>
    have h2 := hh
    rw [hasD_perm h] at h2
    rw [timeD_none hh, timeD_none h2]
  | true =>
    obtain ⟨d, hd, rfl⟩ := List.mem_map.1 ((hasD_iff _ _).1 hh)
    rw [timeD_of hn hd, timeD_of (ndD_perm h hn) (h.mem_iff.1 hd)]
/-- The map has these entries. -/
structure PZ (D : DataW Unit) (M : List DR) : Prop where
  tidy : Maps.Tidy D
  size : Maps.size D = M.length
  at_ : ∀ d ∈ M, D.atKey (klZ d.b) (.lit (.int .i64 0)) = .lit (.int .i64 d.u)
  has : ∀ b : Int, Maps.has D (klZ b) = hasD M b
  keys : ∀ es, D = .map es → ∀ p ∈ es, ∃ b, p.1 = klZ b
theorem PZ.nil : PZ (.map []) [] := ⟨Maps.tidy_empty, rfl, by simp, fun _ => rfl, fun es e p hp => by cases e; cases hp⟩
theorem PZ.perm {D : DataW Unit} {M M' : List DR} (p : PZ D M) (h : M.Perm M') : PZ D M' :=
  ⟨p.tidy, by rw [p.size, h.length_eq], fun d hd => p.at_ d (h.mem_iff.2 hd), fun b => by rw [p.has, hasD_perm h], p.keys⟩
theorem PZ.put {D : DataW Unit} {M : List DR} (p : PZ D M) (hn : (M.map DR.b).Nodup) (r : DR) : PZ (D.put (klZ r.b) (.lit (.int .i64 r.u))) (r :: delD M r.b) := by
  refine ⟨Maps.Tidy.put p.tidy (isKeyZ _) _, ?_, fun d hd => ?_, fun b => ?_, fun es e q hq => ?_⟩
  · rw [Maps.size_put p.tidy, p.has, p.size, List.length_cons]
    have := delD_len hn r.b
    cases hh : hasD M r.b <;> rw [hh] at this <;> simp at this ⊢ <;> omega
  · rcases List.mem_cons.1 hd with rfl | hd
    · exact Maps.atKey_put_same p.tidy.isMap (isKeyZ _) _ _
    · have h2 := List.mem_filter.1 hd
      have hne : klZ d.b ≠ klZ r.b := fun e => by have := klZ_inj e; simp [this] at h2
      rw [Maps.atKey_put_other hne]
      exact p.at_ d h2.1
  · by_cases e : b = r.b
    · subst e
      rw [Maps.has_put_same p.tidy.isMap (isKeyZ _)]
      simp [hasD]
    · rw [Maps.has_put_other (fun h => e (klZ_inj h)), p.has]
      unfold hasD delD
      rw [List.any_cons, List.any_filter]
      have e2 : decide (r.b = b) = false := decide_eq_false (fun h => e h.symm)
      rw [e2, Bool.false_or]
      congr 1
      funext d
      by_cases h : d.b = b
      · have : ¬ d.b = r.b := fun h2 => e (h.symm.trans h2)
        simp [h, this, e]
      · simp [h]
  · obtain ⟨fs, rfl⟩ := p.tidy.isMap
    have e : DataW.insert (klZ r.b, .lit (.int .i64 r.u)) (fs.filter fun p => !p.1.sameKey (klZ r.b)) = es := by
      have e2 : (DataW.map (DataW.insert (klZ r.b, .lit (.int .i64 r.u)) (fs.filter fun p => !p.1.sameKey (klZ r.b))) : DataW Unit) = .map es := e
      injection e2
    rw [← e] at hq
    rcases List.mem_cons.1 ((WideShapes.insert_perm _ _).mem_iff.1 hq) with h | h
    · exact ⟨r.b, by rw [h]⟩
    · exact p.keys fs rfl q (List.mem_filter.1 h).1
theorem PZ.del {D : DataW Unit} {M : List DR} (p : PZ D M) (hn : (M.map DR.b).Nodup) (b : Int) : PZ (D.del (klZ b)) (delD M b) := by
  refine ⟨Maps.Tidy.del p.tidy _, ?_, fun d hd => ?_, fun c => ?_, fun es e q hq => ?_⟩
  · have h1 := Maps.size_del (k := klZ b) p.tidy
    rw [p.has, p.size] at h1
    have h2 := delD_len hn b
    omega
  · have h2 := List.mem_filter.1 hd
    have hne : klZ d.b ≠ klZ b := fun e => by have := klZ_inj e; simp [this] at h2
    rw [Maps.atKey_del_other hne]
    exact p.at_ d h2.1
  · by_cases e : c = b
    · subst e
      rw [Maps.has_del_same]
      refine (Bool.eq_false_iff.2 fun h => ?_).symm
      exact delD_not M c ((hasD_iff _ _).1 h)
    · rw [Maps.has_del_other (fun h => e (klZ_inj h)), p.has]
      unfold hasD delD
      rw [List.any_filter]
      congr 1
      funext d
      by_cases h : d.b = c
      · simp [h, e]
      · simp [h]
  · obtain ⟨fs, rfl⟩ := p.tidy.isMap
    have e : (fs.filter fun p => !p.1.sameKey (klZ b)) = es := by
      have e2 : (DataW.map (fs.filter fun p => !p.1.sameKey (klZ b)) : DataW Unit) = .map es := e
      injection e2
    rw [← e] at hq
    exact p.keys fs rfl q (List.mem_filter.1 hq).1
/-- Its keys. -/
theorem PZ.ints {D : DataW Unit} {M : List DR} (p : PZ D M) (hn : (M.map DR.b).Nodup) : (M.map DR.b).Perm (intKeys D) := by
  obtain ⟨es, rfl, hp⟩ := p.tidy
  refine perm_intKeys hp (fun q hq => ?_) hn (fun x => ?_)
  · exact p.keys es rfl q hq
  · rw [show (.int .i64 x : Lit) = klZ x from rfl, p.has, hasD_iff]
/-- A map of the call's own with these entries; E: the elements' type. -/
structure OwnZ (w : World) (T E : TypeId) (mb : Nat) (M : List DR) : Prop where
  nd : (M.map DR.b).Nodup
  own : ∃ D : DataW Unit, w.ownsMap Tryz.prog T (plainElem Tryz.prog E) mb M.length D ∧ PZ D M
section
variable {w w' : World} {T E t : TypeId} {mb : Nat} {M M' : List DR}
theorem ownsMapZ_touch {H : Type} {P : Program} {k : TypeId} {R : Value → Option (DataW H × List MemPlace)} {mb n : Nat} {D : DataW H} {S : Nat → Prop} (h : w.ownsMap P k R mb n D) (t : Touch w w' S) (hn : ¬ S mb) : w'.ownsMap P k R mb n D := by
  obtain ⟨es, clock, hb, r⟩ := h
  exact ⟨es, clock, t.keeps hb hn, r⟩
theorem ownsMapZ_tight {H : Type} {P : Program} {k : TypeId} {R : Value → Option (DataW H × List MemPlace)} {mb n : Nat} {D : DataW H} (h : w.ownsMap P k R mb n D) : w.ownsMap P k R mb (Maps.size D) D := by
  obtain ⟨es, clock, hb, F, hs, rfl⟩ := h
  exact ⟨es, clock, hb, F, by simp [Maps.size, length_sorted], rfl⟩
theorem OwnZ.touch {S : Nat → Prop} (h : OwnZ w T E mb M) (t : Touch w w' S) (hn : ¬ S mb) : OwnZ w' T E mb M := by
  obtain ⟨h0, D, h1, h2⟩ := h
  exact ⟨h0, D, ownsMapZ_touch h1 t hn, h2⟩
theorem OwnZ.still (h : OwnZ w T E mb M) (t : Touch w w' (fun _ => False)) : OwnZ w' T E mb M := h.touch t (fun h => h)
theorem OwnZ.lt (h : OwnZ w T E mb M) : mb < w.heap.size := by
  obtain ⟨_, D, h1, _⟩ := h
  exact h1.lt
theorem OwnZ.perm (h : OwnZ w T E mb M) (p : M.Perm M') : OwnZ w T E mb M' := by
  obtain ⟨h0, D, h1, h2⟩ := h
  exact ⟨ndD_perm p h0, D, p.length_eq ▸ h1, h2.perm p⟩
theorem OwnZ.made (w : World) (T E : TypeId) : OwnZ (w.alloc (.map #[] 0)) T E w.heap.size [] :=
  ⟨List.nodup_nil, _, World.ownsMap_made (H := Unit) w Tryz.prog T (plainElem Tryz.prog E), PZ.nil⟩
theorem keyZ (hT : Tryz.prog.underlying T = some (.int .i64)) {b : Int} (hb : i64D b) : keyOf Tryz.prog T (.int .i64 b) = some (klZ b) :=
  Maps.keyOf_int_mk hT (by have h1 := hb.1; have h2 := hb.2; simp [Lit.wf, IntKind.min, IntKind.max, IntKind.signed, IntKind.bits]; omega)
theorem elemZ (hE : Tryz.prog.underlying E = some (.int .i64)) {b : Int} (hb : i64D b) : plainElem (H := Unit) Tryz.prog E (.int .i64 b) = some (.lit (.int .i64 b), []) :=
  plainElem_int hE (by have h1 := hb.1; have h2 := hb.2; simp [Lit.wf, IntKind.min, IntKind.max, IntKind.signed, IntKind.bits]; omega)
theorem OwnZ.ok (h : OwnZ w T E mb M) (hT : Tryz.prog.underlying T = some (.int .i64)) (hE : Tryz.prog.underlying E = some (.int .i64)) (ht : Tryz.prog.underlying t = some (.map T E)) (hz : (zeroValue E).run Tryz.prog w = .ok (.int .i64 0) w) {b : Int} (hb : i64D b) :
    (Instr.lookup t (.map (some mb)) (.int .i64 b) true).run Tryz.prog w = .ok (.tuple #[.int .i64 (timeD M b), .bool (hasD M b)]) w := by
  obtain ⟨hn, D, hD, hP⟩ := h
  obtain ⟨v, ps, hrun, hv⟩ := World.ownsMap.look_ok hD (Maps.int_keyed hT) ht hz (plainElem_int (H := Unit) hE (by decide)) (keyZ hT hb)
  obtain ⟨c, rfl, hc, hwc⟩ := plainElem_int_inv hE hv
  rw [hP.has] at hrun
  cases hh : hasD M b with
  | false =>
    have h1 := hP.has b
    rw [hh] at h1
    have h2 := Maps.atKey_of_not_has h1 (.lit (.int .i64 0))
    have h3 := congrArg Prod.fst hc
    simp only at h3
    rw [h2] at h3
    rw [timeD_none hh, litZ_inj h3]
    rw [hh] at hrun; exact hrun
  | true =>
    obtain ⟨d, hd, rfl⟩ := List.mem_map.1 ((hasD_iff _ _).1 hh)
    have h2 := hP.at_ d hd
    have h3 := congrArg Prod.fst hc
    simp only at h3
    rw [h2] at h3
    rw [timeD_of hn hd, litZ_inj h3]
    rw [hh] at hrun; exact hrun
theorem OwnZ.get (h : OwnZ w T E mb M) (hT : Tryz.prog.underlying T = some (.int .i64)) (hE : Tryz.prog.underlying E = some (.int .i64)) (ht : Tryz.prog.underlying t = some (.map T E)) (hz : (zeroValue E).run Tryz.prog w = .ok (.int .i64 0) w) {b : Int} (hb : i64D b) :
    (Instr.lookup t (.map (some mb)) (.int .i64 b) false).run Tryz.prog w = .ok (.int .i64 (timeD M b)) w := by
  obtain ⟨hn, D, hD, hP⟩ := h
  obtain ⟨c, hrun, hat, _⟩ := World.ownsMap.lookup_int hD (Maps.int_keyed hT) ht hE hz (keyZ hT hb)
  cases hh : hasD M b with
  | false =>
    have h1 := hP.has b
    rw [hh] at h1
    have h2 := Maps.atKey_of_not_has h1 (.lit (.int .i64 0))
    rw [timeD_none hh, litZ_inj (h2.symm.trans hat)]; exact hrun
  | true =>
    obtain ⟨d, hd, rfl⟩ := List.mem_map.1 ((hasD_iff _ _).1 hh)
    have h2 := hP.at_ d hd
    rw [timeD_of hn hd, litZ_inj (h2.symm.trans hat)]; exact hrun
theorem OwnZ.len (h : OwnZ w T E mb M) (ht : Tryz.prog.underlying t = some (.map T E)) (ty : TypeId) : (Builtin.len_ #[t] ty #[.map (some mb)]).run Tryz.prog w = .ok (.int .i64 M.length) w := by
  obtain ⟨_, D, h1, h2⟩ := h
  have := h1.len ht ty
  rwa [h2.size] at this
theorem turnedZ {w w' : World} {mb : Nat} (h : w.mapTurned w' mb) : Touch w w' (fun k => k = mb) := (Touch.refl w (fun k => k = mb)).grown h.grown (fun k hk _ => by simp only [Option.some.injEq] at hk; exact hk.symm)
theorem OwnZ.store (h : OwnZ w T E mb M) (hT : Tryz.prog.underlying T = some (.int .i64)) (hE : Tryz.prog.underlying E = some (.int .i64)) (ht : Tryz.prog.underlying t = some (.map T E)) (hl : M.length ≤ 1000000) (r : DR) (hb : i64D r.b) (hu : i64D r.u) :
    ∃ w', (Instr.mapUpdate t (.map (some mb)) (.int .i64 r.b) (.int .i64 r.u)).run Tryz.prog w = .ok () w' ∧ OwnZ w' T E mb (r :: delD M r.b) ∧ Touch w w' (fun k => k = mb) := by
  obtain ⟨hn, D, hD, hP⟩ := h
  obtain ⟨w5, r1, r2, r3⟩ := World.ownsMap.store hD (Maps.int_keyed hT) ht (by simp only [maxLen]; omega) (keyZ hT hb) (elemZ hE hu)
  have hp := hP.put hn r
  have r4 := ownsMapZ_tight r2
  rw [hp.size] at r4
  refine ⟨w5, r1, ⟨?_, _, r4, hp⟩, turnedZ r3⟩
  rw [List.map_cons, List.nodup_cons]
  exact ⟨delD_not M r.b, delD_nd hn _⟩
theorem OwnZ.drop (h : OwnZ w T E mb M) (hT : Tryz.prog.underlying T = some (.int .i64)) (ht : Tryz.prog.underlying t = some (.map T E)) (b : Int) (hb : i64D b) (ty : TypeId) :
    ∃ w', (Builtin.delete_ #[t, T] ty #[.map (some mb), .int .i64 b]).run Tryz.prog w = .ok (.tuple #[]) w' ∧ OwnZ w' T E mb (delD M b) ∧ Touch w w' (fun k => k = mb) := by
  obtain ⟨hn, D, hD, hP⟩ := h
  obtain ⟨w5, r1, r2, r3⟩ := World.ownsMap.drop hD (Maps.int_keyed hT) ht (keyZ hT hb) ty
  have hp := hP.del hn b
  have r4 := ownsMapZ_tight r2
  rw [hp.size] at r4
  exact ⟨w5, r1, ⟨delD_nd hn b, _, r4, hp⟩, turnedZ r3⟩
end
end Go.Proofs.YtgpchkobjgglhaaGreatDoor
