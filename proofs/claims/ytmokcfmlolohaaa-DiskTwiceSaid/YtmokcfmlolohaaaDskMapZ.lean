/- Maps from names to files, told by a list of their entries. -/
import Derived.Test.YtmokcfmlolohaaaGAZ
import Derived.Maps.OwnSet
import Derived.Maps.OwnOps
import Derived.Maps.RangeWalk
import Derived.WideKeyEntry
import Derived.Sort.MapsRangeIn
set_option linter.unusedVariables false
set_option linter.unusedSimpArgs false
namespace Go.Proofs.Ytmokcfmlolohaaa
open Go.RowKit

/-- A name and the block of the file that it names. -/
structure NmD where
  n : ByteArray
  f : Option Nat
def pvN (o : Option Nat) : Value := .pointer (o.map fun b => ⟨b, 0, none⟩)
def encN (o : Option Nat) : DataW Unit := .lit (.int .i64 (match o with | none => -1 | some b => (b : Int)))
def readN : Value → Option (DataW Unit × List MemPlace)
  | .pointer none => some (encN none, [])
  | .pointer (some ⟨b, 0, none⟩) => some (encN (some b), [])
  | _ => none
theorem readN_mk (o : Option Nat) : readN (pvN o) = some (encN o, []) := by cases o <;> rfl
theorem litN_inj {a c : Int} (h : (DataW.lit (.int .i64 a) : DataW Unit) = .lit (.int .i64 c)) : a = c := by
  have h4 := congrArg (fun d : DataW Unit => match d with | .lit (.int _ n) => n | _ => (0:Int)) h
  exact h4
theorem encN_inj {a b : Option Nat} (h : encN a = encN b) : a = b := by
  have h2 := litN_inj h
  cases a <;> cases b <;> simp only at h2
  · rfl
  · omega
  · omega
  · rw [show _ = _ from Int.ofNat.inj h2]
theorem readN_inv {v : Value} {z : DataW Unit × List MemPlace} (h : readN v = some z) : ∃ o, v = pvN o ∧ z = (encN o, []) := by
  unfold readN at h
  split at h
  · exact ⟨none, rfl, (Option.some.inj h).symm⟩
  · exact ⟨some _, rfl, (Option.some.inj h).symm⟩
  · cases h
def klN (k : ByteArray) : Lit := .string k.data.toList
theorem klN_inj {a b : ByteArray} (h : klN a = klN b) : a = b := by
  unfold klN at h
  have h2 : a.data.toList = b.data.toList := by simpa using h
  have h3 : a.data = b.data := Array.ext' h2
  cases a; cases b; simp only at h3; rw [h3]
theorem isKeyN (k : ByteArray) : WideAt.IsKeyLit (klN k) := trivial
def szN (k : ByteArray) : Prop := k.size ≤ 281474976710656
theorem strKeyedN : Maps.Keyed Try.prog 9 := Maps.string_keyed Try.underlying9
theorem keyN {k : ByteArray} (h : szN k) : keyOf Try.prog 9 (.string k) = some (klN k) := WideMaps.keyOf_string_mk Try.underlying9 (by unfold szN at h; simp only [maxLen]; omega)
/-! ### lists of names -/
def hasN (M : List NmD) (k : ByteArray) : Bool := M.any (fun d => decide (d.n = k))
def delN (M : List NmD) (k : ByteArray) : List NmD := M.filter (fun d => !decide (d.n = k))
def getN : List NmD → ByteArray → Option Nat
  | [], _ => none
  | d :: M, k => if d.n = k then d.f else getN M k
def putN (M : List NmD) (k : ByteArray) (f : Option Nat) : List NmD := ⟨k, f⟩ :: delN M k
theorem hasN_iff (M : List NmD) (k : ByteArray) : hasN M k = true ↔ k ∈ M.map NmD.n := by
  unfold hasN; rw [List.any_eq_true, List.mem_map]
  constructor
  · rintro ⟨d, hd, h⟩; exact ⟨d, hd, of_decide_eq_true h⟩
  · rintro ⟨d, hd, h⟩; exact ⟨d, hd, decide_eq_true h⟩
theorem hasN_perm {M M' : List NmD} (h : M.Perm M') (k : ByteArray) : hasN M k = hasN M' k := by
  rw [Bool.eq_iff_iff, hasN_iff, hasN_iff, (h.map _).mem_iff]
theorem ndN_perm {M M' : List NmD} (h : M.Perm M') (hn : (M.map NmD.n).Nodup) : (M'.map NmD.n).Nodup := (h.map _).nodup_iff.1 hn
theorem delN_not (M : List NmD) (k : ByteArray) : k ∉ (delN M k).map NmD.n := by
  intro h
  obtain ⟨d, hd, e⟩ := List.mem_map.1 h
  have := (List.mem_filter.1 hd).2
  simp [e] at this
theorem delN_none {M : List NmD} {k : ByteArray} (h : k ∉ M.map NmD.n) : delN M k = M := by
  unfold delN
  rw [List.filter_eq_self]
  intro d hd
  have : d.n ≠ k := fun e => h (List.mem_map.2 ⟨d, hd, e⟩)
  simp [this]
theorem delN_nd {M : List NmD} (hn : (M.map NmD.n).Nodup) (k : ByteArray) : ((delN M k).map NmD.n).Nodup := hn.sublist (List.filter_sublist.map _)
theorem putN_nd {M : List NmD} (hn : (M.map NmD.n).Nodup) (k : ByteArray) (f : Option Nat) : ((putN M k f).map NmD.n).Nodup := by
  unfold putN
  rw [List.map_cons, List.nodup_cons]
  exact ⟨delN_not M k, delN_nd hn k⟩
theorem delN_len {M : List NmD} (hn : (M.map NmD.n).Nodup) (k : ByteArray) : (delN M k).length + (if hasN M k then 1 else 0) = M.length := by
  induction M with
  | nil => rfl
  | cons d M ih =>
    rw [List.map_cons, List.nodup_cons] at hn
    have ih := ih hn.2
    unfold delN hasN at ih ⊢
    rw [List.filter_cons, List.any_cons]
    by_cases h : d.n = k
    · have hm : M.any (fun d => decide (d.n = k)) = false := by
        rw [Bool.eq_false_iff]; intro hm
        have := (hasN_iff M k).1 hm
        exact hn.1 (h ▸ this)
      rw [hm] at ih
      simp only [h, decide_true, Bool.not_true, Bool.false_eq_true, if_false, Bool.true_or, if_true, List.length_cons] at ih ⊢
      omega
    · simp only [h, decide_false, Bool.not_false, if_true, Bool.false_or, List.length_cons] at ih ⊢
      omega
theorem putN_len {M : List NmD} (hn : (M.map NmD.n).Nodup) (k : ByteArray) (f : Option Nat) : (putN M k f).length = M.length + (if hasN M k then 0 else 1) := by
  have := delN_len hn k
  unfold putN
  rw [List.length_cons]
  cases hh : hasN M k <;> rw [hh] at this <;> simp at this ⊢ <;> omega
theorem getN_of {M : List NmD} (hn : (M.map NmD.n).Nodup) {d : NmD} (hd : d ∈ M) : getN M d.n = d.f := by
  induction M with
  | nil => cases hd
  | cons x M ih =>
    rw [List.map_cons, List.nodup_cons] at hn
    unfold getN
    rcases List.mem_cons.1 hd with rfl | h
    · rw [if_pos rfl]
    · rw [if_neg (fun e => hn.1 (by rw [e]; exact List.mem_map.2 ⟨d, h, rfl⟩))]
      exact ih hn.2 h
theorem getN_none {M : List NmD} {k : ByteArray} (h : hasN M k = false) : getN M k = none := by
  induction M with
  | nil => rfl
  | cons x M ih =>
    unfold hasN at h
    rw [List.any_cons, Bool.or_eq_false_iff] at h
    unfold getN
    rw [if_neg (by simpa using h.1)]
    exact ih h.2
theorem getN_mem {M : List NmD} {k : ByteArray} {b : Nat} (h : getN M k = some b) : ⟨k, some b⟩ ∈ M := by
  induction M with
  | nil => cases h
  | cons x M ih =>
    unfold getN at h
    split at h
    · rename_i e
      obtain ⟨n, f⟩ := x
      simp only at h e
      subst h e
      exact List.mem_cons_self
    · exact List.mem_cons_of_mem _ (ih h)
theorem getN_perm {M M' : List NmD} (h : M.Perm M') (hn : (M.map NmD.n).Nodup) (k : ByteArray) : getN M k = getN M' k := by
  cases hh : hasN M k with
  | false =>
    have h2 := hh
    rw [hasN_perm h] at h2
    rw [getN_none hh, getN_none h2]
  | true =>
    obtain ⟨d, hd, rfl⟩ := List.mem_map.1 ((hasN_iff _ _).1 hh)
    rw [getN_of hn hd, getN_of (ndN_perm h hn) (h.mem_iff.1 hd)]
theorem getN_put (M : List NmD) (k : ByteArray) (f : Option Nat) (c : ByteArray) : getN (putN M k f) c = if c = k then f else getN M c := by
  unfold putN
  rw [getN]
  by_cases h : k = c
  · rw [if_pos h, if_pos h.symm]
  · rw [if_neg h, if_neg (fun e => h e.symm)]
    induction M with
    | nil => rfl
    | cons x M ih =>
      unfold delN at ih ⊢
      rw [List.filter_cons]
      by_cases hx : x.n = k
      · rw [if_neg (by simp [hx]), ih, getN, if_neg (fun e => h (hx.symm.trans e))]
      · rw [if_pos (by simp [hx]), getN, getN, ih]
theorem getN_del (M : List NmD) (k : ByteArray) (c : ByteArray) : getN (delN M k) c = if c = k then none else getN M c := by
  by_cases h : c = k
  · rw [if_pos h, h]
    exact getN_none (by rw [Bool.eq_false_iff]; exact fun e => delN_not M k ((hasN_iff _ _).1 e))
  · rw [if_neg h]
    induction M with
    | nil => rfl
    | cons x M ih =>
      unfold delN at ih ⊢
      rw [List.filter_cons]
      by_cases hx : x.n = k
      · rw [if_neg (by simp [hx]), ih, getN, if_neg (fun e => h (e.symm.trans hx))]
      · rw [if_pos (by simp [hx]), getN, getN, ih]
theorem hasN_put (M : List NmD) (k : ByteArray) (f : Option Nat) (c : ByteArray) : hasN (putN M k f) c = (decide (c = k) || hasN M c) := by
  unfold putN
  by_cases h : c = k
  · subst h; simp [hasN]
  · unfold hasN delN
    rw [List.any_cons, List.any_filter]
    have e2 : decide (k = c) = false := decide_eq_false (fun e => h e.symm)
    have e3 : decide (c = k) = false := decide_eq_false h
    simp only [e2, e3, Bool.false_or]
    congr 1
    funext d
    by_cases hd : d.n = c
    · simp [hd, h]
    · simp [hd]
theorem hasN_del (M : List NmD) (k : ByteArray) (c : ByteArray) : hasN (delN M k) c = (!decide (c = k) && hasN M c) := by
  by_cases h : c = k
  · subst h
    simp only [decide_true, Bool.not_true, Bool.false_and]
    rw [Bool.eq_false_iff]
    exact fun e => delN_not M c ((hasN_iff _ _).1 e)
  · unfold hasN delN
    rw [List.any_filter]
    have e3 : decide (c = k) = false := decide_eq_false h
    simp only [e3, Bool.not_false, Bool.true_and]
    congr 1
    funext d
    by_cases hd : d.n = c
    · simp [hd, h]
    · simp [hd]
/-- The map has these entries. -/
structure PN (D : DataW Unit) (M : List NmD) : Prop where
  tidy : Maps.Tidy D
  size : Maps.size D = M.length
  ok : ∀ d ∈ M, szN d.n
  at_ : ∀ d ∈ M, ∀ z, D.atKey (klN d.n) z = encN d.f
  has : ∀ k : ByteArray, Maps.has D (klN k) = hasN M k
  keys : ∀ es, D = .map es → ∀ p ∈ es, ∃ k, p.1 = klN k
theorem PN.nil : PN (.map []) [] := ⟨Maps.tidy_empty, rfl, by simp, by simp, fun _ => rfl, fun es e p hp => by cases e; cases hp⟩
theorem PN.perm {D : DataW Unit} {M M' : List NmD} (p : PN D M) (h : M.Perm M') : PN D M' :=
  ⟨p.tidy, by rw [p.size, h.length_eq], fun d hd => p.ok d (h.mem_iff.2 hd), fun d hd => p.at_ d (h.mem_iff.2 hd), fun k => by rw [p.has, hasN_perm h], p.keys⟩
theorem PN.put {D : DataW Unit} {M : List NmD} (p : PN D M) (hn : (M.map NmD.n).Nodup) (k : ByteArray) (hk : szN k) (f : Option Nat) : PN (D.put (klN k) (encN f)) (putN M k f) := by
  refine ⟨Maps.Tidy.put p.tidy (isKeyN _) _, ?_, fun d hd => ?_, fun d hd z => ?_, fun c => ?_, fun es e q hq => ?_⟩
  · rw [Maps.size_put p.tidy, p.has, p.size, putN_len hn]
    cases hh : hasN M k <;> simp
  · rcases List.mem_cons.1 hd with rfl | hd
    · exact hk
    · exact p.ok d (List.mem_filter.1 hd).1
  · rcases List.mem_cons.1 hd with rfl | hd
    · exact Maps.atKey_put_same p.tidy.isMap (isKeyN _) _ _
    · have h2 := List.mem_filter.1 hd
      have hne : klN d.n ≠ klN k := fun e => by have := klN_inj e; simp [this] at h2
      rw [Maps.atKey_put_other hne]
      exact p.at_ d h2.1 z
  · rw [hasN_put]
    by_cases e : c = k
    · subst e
      rw [Maps.has_put_same p.tidy.isMap (isKeyN _)]
      simp
    · rw [Maps.has_put_other (fun h => e (klN_inj h)), p.has]
      simp [e]
  · obtain ⟨fs, rfl⟩ := p.tidy.isMap
    have e : DataW.insert (klN k, encN f) (fs.filter fun p => !p.1.sameKey (klN k)) = es := by
      have e2 : (DataW.map (DataW.insert (klN k, encN f) (fs.filter fun p => !p.1.sameKey (klN k))) : DataW Unit) = .map es := e
      injection e2
    rw [← e] at hq
    rcases List.mem_cons.1 ((WideShapes.insert_perm _ _).mem_iff.1 hq) with h | h
    · exact ⟨k, by rw [h]⟩
    · exact p.keys fs rfl q (List.mem_filter.1 h).1
theorem PN.del {D : DataW Unit} {M : List NmD} (p : PN D M) (hn : (M.map NmD.n).Nodup) (k : ByteArray) : PN (D.del (klN k)) (delN M k) := by
  refine ⟨Maps.Tidy.del p.tidy _, ?_, fun d hd => p.ok d (List.mem_filter.1 hd).1, fun d hd z => ?_, fun c => ?_, fun es e q hq => ?_⟩
  · have h1 := Maps.size_del (k := klN k) p.tidy
    rw [p.has, p.size] at h1
    have h2 := delN_len hn k
    omega
  · have h2 := List.mem_filter.1 hd
    have hne : klN d.n ≠ klN k := fun e => by have := klN_inj e; simp [this] at h2
    rw [Maps.atKey_del_other hne]
    exact p.at_ d h2.1 z
  · rw [hasN_del]
    by_cases e : c = k
    · subst e
      rw [Maps.has_del_same]
      simp
    · rw [Maps.has_del_other (fun h => e (klN_inj h)), p.has]
      simp [e]
  · obtain ⟨fs, rfl⟩ := p.tidy.isMap
    have e : (fs.filter fun p => !p.1.sameKey (klN k)) = es := by
      have e2 : (DataW.map (fs.filter fun p => !p.1.sameKey (klN k)) : DataW Unit) = .map es := e
      injection e2
    rw [← e] at hq
    exact p.keys fs rfl q (List.mem_filter.1 hq).1
/-- A map of the call's own with these entries. -/
structure OwnN (w : World) (mb : Nat) (M : List NmD) : Prop where
  nd : (M.map NmD.n).Nodup
  own : ∃ D : DataW Unit, w.ownsMap Try.prog 9 readN mb M.length D ∧ PN D M
section
variable {w w' : World} {mb : Nat} {M M' : List NmD}
theorem ownsMapN_touch {H : Type} {P : Program} {k : TypeId} {R : Value → Option (DataW H × List MemPlace)} {mb n : Nat} {D : DataW H} {S : Nat → Prop} (h : w.ownsMap P k R mb n D) (t : Touch w w' S) (hn : ¬ S mb) : w'.ownsMap P k R mb n D := by
  obtain ⟨es, clock, hb, r⟩ := h
  exact ⟨es, clock, t.keeps hb hn, r⟩
theorem ownsMapN_tight {H : Type} {P : Program} {k : TypeId} {R : Value → Option (DataW H × List MemPlace)} {mb n : Nat} {D : DataW H} (h : w.ownsMap P k R mb n D) : w.ownsMap P k R mb (Maps.size D) D := by
  obtain ⟨es, clock, hb, F, hs, rfl⟩ := h
  exact ⟨es, clock, hb, F, by simp [Maps.size, length_sorted], rfl⟩
theorem OwnN.touch {S : Nat → Prop} (h : OwnN w mb M) (t : Touch w w' S) (hn : ¬ S mb) : OwnN w' mb M := by
  obtain ⟨h0, D, h1, h2⟩ := h
  exact ⟨h0, D, ownsMapN_touch h1 t hn, h2⟩
theorem OwnN.still (h : OwnN w mb M) (t : Touch w w' (fun _ => False)) : OwnN w' mb M := h.touch t (fun h => h)
theorem OwnN.lt (h : OwnN w mb M) : mb < w.heap.size := by
  obtain ⟨_, D, h1, _⟩ := h
  exact h1.lt
theorem OwnN.ok (h : OwnN w mb M) : ∀ d ∈ M, szN d.n := by
  obtain ⟨_, D, _, h2⟩ := h
  exact h2.ok
theorem OwnN.perm (h : OwnN w mb M) (p : M.Perm M') : OwnN w mb M' := by
  obtain ⟨h0, D, h1, h2⟩ := h
  exact ⟨ndN_perm p h0, D, p.length_eq ▸ h1, h2.perm p⟩
theorem OwnN.made (w : World) : OwnN (w.alloc (.map #[] 0)) w.heap.size [] :=
  ⟨List.nodup_nil, _, World.ownsMap_made (H := Unit) w Try.prog _ readN, PN.nil⟩
theorem zeroN (w : World) : (zeroValue 71).run Try.prog w = .ok (.pointer none) w := by kernel_rfl
theorem mapNm : Try.prog.underlying 62 = some (.map 9 71) := Try.underlying62
theorem OwnN.get (h : OwnN w mb M) {k : ByteArray} (hk : szN k) :
    (Instr.lookup 62 (.map (some mb)) (.string k) false).run Try.prog w = .ok (pvN (getN M k)) w := by
  obtain ⟨hn, D, hD, hP⟩ := h
  obtain ⟨v, ps, hrun, hv⟩ := World.ownsMap.lookup hD strKeyedN mapNm (zeroN w) (readN_mk none) (keyN hk)
  obtain ⟨g, rfl, hg⟩ := readN_inv hv
  have hg := congrArg Prod.fst hg
  simp only at hg
  cases hh : hasN M k with
  | false =>
    have h1 := hP.has k
    rw [hh] at h1
    rw [Maps.atKey_of_not_has h1] at hg
    rw [getN_none hh, encN_inj hg]; exact hrun
  | true =>
    obtain ⟨d, hd, rfl⟩ := List.mem_map.1 ((hasN_iff _ _).1 hh)
    rw [hP.at_ d hd] at hg
    rw [getN_of hn hd]
    rw [← encN_inj hg] at hrun; exact hrun
theorem OwnN.len (h : OwnN w mb M) (ty : TypeId) : (Builtin.len_ #[62] ty #[.map (some mb)]).run Try.prog w = .ok (.int .i64 M.length) w := by
  obtain ⟨_, D, h1, h2⟩ := h
  have := h1.len mapNm ty
  rwa [h2.size] at this
theorem turnedN {w w' : World} {mb : Nat} (h : w.mapTurned w' mb) : Touch w w' (fun k => k = mb) := (Touch.refl w (fun k => k = mb)).grown h.grown (fun k hk _ => by simp only [Option.some.injEq] at hk; exact hk.symm)
theorem OwnN.store (h : OwnN w mb M) (hl : M.length ≤ 1000000) {k : ByteArray} (hk : szN k) (f : Option Nat) :
    ∃ w', (Instr.mapUpdate 62 (.map (some mb)) (.string k) (pvN f)).run Try.prog w = .ok () w' ∧ OwnN w' mb (putN M k f) ∧ Touch w w' (fun k => k = mb) := by
  obtain ⟨hn, D, hD, hP⟩ := h
  obtain ⟨w5, r1, r2, r3⟩ := World.ownsMap.store hD strKeyedN mapNm (by simp only [maxLen]; omega) (keyN hk) (readN_mk f)
  have hp := hP.put hn k hk f
  have r4 := ownsMapN_tight r2
  rw [hp.size] at r4
  exact ⟨w5, r1, ⟨putN_nd hn k f, _, r4, hp⟩, turnedN r3⟩
theorem OwnN.drop (h : OwnN w mb M) {k : ByteArray} (hk : szN k) (ty : TypeId) :
    ∃ w', (Builtin.delete_ #[62, 9] ty #[.map (some mb), .string k]).run Try.prog w = .ok (.tuple #[]) w' ∧ OwnN w' mb (delN M k) ∧ Touch w w' (fun k => k = mb) := by
  obtain ⟨hn, D, hD, hP⟩ := h
  obtain ⟨w5, r1, r2, r3⟩ := World.ownsMap.drop hD strKeyedN mapNm (keyN hk) ty
  have hp := hP.del hn k
  have r4 := ownsMapN_tight r2
  rw [hp.size] at r4
  exact ⟨w5, r1, ⟨delN_nd hn k, _, r4, hp⟩, turnedN r3⟩
end
end Go.Proofs.Ytmokcfmlolohaaa
