/- IC: DskPM, DskCp, DskCpF, DskCpN, DskCpI, DskCpD, DskCpC. -/
import Derived.Test.YtmokcfmlolohaaaDskMapZ
import Derived.LaidEqlPtr
import Derived.MapKept
import Derived.Test.YtmokcfmlolohaaaDskTagZ
import Derived.Test.YtmokcfmlolohaaaDskNmsZ
import Derived.Test.YtmokcfmlolohaaaDskNewZ
section
/- Maps whose keys are the places of files. -/
set_option linter.unusedVariables false
set_option linter.unusedSimpArgs false
namespace Go.Proofs.Ytmokcfmlolohaaa
open Go.RowKit

def lookE : List (Nat × Nat) → Nat → Option Nat
  | [], _ => none
  | p :: E, g => if g = p.1 then some p.2 else lookE E g
theorem lookE_mem : ∀ {E : List (Nat × Nat)} {g b : Nat}, lookE E g = some b → (g, b) ∈ E
  | [], _, _, h => by cases h
  | (a, c) :: E, g, b, h => by
    unfold lookE at h
    split at h
    · rename_i e
      simp only at e h
      cases h; subst e
      exact List.mem_cons_self
    · exact List.mem_cons_of_mem _ (lookE_mem h)
theorem lookE_app {E : List (Nat × Nat)} {g b : Nat} (h : lookE E g = some b) (D : List (Nat × Nat)) : lookE (E ++ D) g = some b := by
  induction E with
  | nil => cases h
  | cons p E ih =>
    rw [List.cons_append]
    unfold lookE at h ⊢
    split
    · rename_i e; rw [if_pos e] at h; exact h
    · rename_i e; rw [if_neg e] at h; exact ih h
theorem lookE_new {E : List (Nat × Nat)} {g : Nat} (h : lookE E g = none) (b : Nat) : lookE (E ++ [(g, b)]) g = some b := by
  induction E with
  | nil => simp [lookE]
  | cons p E ih =>
    rw [List.cons_append]
    unfold lookE at h ⊢
    split
    · rename_i e; rw [if_pos e] at h; cases h
    · rename_i e; rw [if_neg e] at h; exact ih h
/-- The map block mb has these entries, in this order. -/
structure PtM (w : World) (mb : Nat) (E : List (Nat × Nat)) : Prop where
  map : ∃ es clock, w.heap[mb]? = some (.map es clock) ∧ es.toList.map (fun e => (e.key, e.val)) = E.map (fun p => (pvN (some p.1), pvN (some p.2)))
  key : ∀ p ∈ E, ∃ cs t, w.heap[p.1]? = some (.cells cs t (0, 0))
theorem pt_ty : Try.prog.underlying 71 = some (.pointer 74) := Try.underlying71
theorem pt_map : Try.prog.underlying 92 = some (.map 71 71) := Try.underlying92
theorem pt_size : (Try.prog.info? 74).map (·.size) = some 2 := by kernel_rfl
theorem eq_pt (w : World) (g b : Nat) {c1 c2 : Array Value} {t1 t2 : TypeId} (hg : w.heap[g]? = some (.cells c1 t1 (0, 0))) (hb : w.heap[b]? = some (.cells c2 t2 (0, 0))) :
    (Op.equal 71 (pvN (some g)) (pvN (some b))).run Try.prog w = .ok (decide (g = b)) w := by
  obtain ⟨j, hj, hs⟩ := Option.map_eq_some_iff.1 pt_size
  by_cases e : g = b
  · subst e
    have h : ∀ d : Nat, (Op.equalIn (d + 1) 71 (.pointer (some ⟨g, 0, none⟩)) (.pointer (some ⟨g, 0, none⟩))).run Try.prog w = .ok true w := fun d => by
      simp [Op.equalIn, run_underlying pt_ty, sizeOf, typeInfo, hj, run_sameAddr_same]
    rw [decide_eq_true rfl]
    exact h 9999
  · have hne : (⟨g, 0, none⟩ : Addr) ≠ ⟨b, 0, none⟩ := fun h => e (by injection h)
    have h : ∀ d : Nat, (Op.equalIn (d + 1) 71 (.pointer (some ⟨g, 0, none⟩)) (.pointer (some ⟨b, 0, none⟩))).run Try.prog w = .ok false w := fun d => by
      simp [Op.equalIn, run_underlying pt_ty, sizeOf, typeInfo, hj, hs, run_sameAddr_other w hne hg hb]
    rw [decide_eq_false e]
    exact h 9999
theorem eqPt_nil (w : World) (b : Nat) : (Op.equal 71 (pvN none) (pvN (some b))).run Try.prog w = .ok false w := by
  have h : ∀ d : Nat, (Op.equalIn (d + 1) 71 (.pointer none) (.pointer (some ⟨b, 0, none⟩))).run Try.prog w = .ok false w := fun d => by
    simp [Op.equalIn, run_underlying pt_ty]
  exact h 9999
theorem ask_pt (w : World) (g : Nat) {c1 : Array Value} {t1 : TypeId} (hg : w.heap[g]? = some (.cells c1 t1 (0, 0))) : ∀ (E : List (Nat × Nat)) (es : List MapEntry) (i : Nat), es.map (fun e => (e.key, e.val)) = E.map (fun p => (pvN (some p.1), pvN (some p.2))) → (∀ p ∈ E, ∃ cs t, w.heap[p.1]? = some (.cells cs t (0, 0))) →
    ∃ r, (Instr.findAsking 71 (pvN (some g)) es i).run Try.prog w = .ok r w ∧ r.map Prod.snd = (lookE E g).map (fun b => pvN (some b))
  | [], [], _, _, _ => ⟨none, by simp [Instr.findAsking], rfl⟩
  | [], _ :: _, _, h, _ => by cases h
  | _ :: _, [], _, h, _ => by cases h
  | p :: E, e :: es, i, h, hk => by
    simp only [List.map_cons, List.cons.injEq, Prod.mk.injEq] at h
    obtain ⟨⟨h1, h2⟩, h3⟩ := h
    obtain ⟨cs, t, hp⟩ := hk p List.mem_cons_self
    have he := eq_pt w g p.1 hg hp
    obtain ⟨r, r1, r2⟩ := ask_pt w g hg E es (i + 1) h3 (fun q hq => hk q (List.mem_cons_of_mem _ hq))
    unfold Instr.findAsking lookE
    by_cases hgp : g = p.1
    · refine ⟨some (i, e.val), ?_, ?_⟩
      · rw [h1]
        rw [hgp] at he
        simp [Sem.run_bind, he, hgp, Result.andThen]
      · rw [if_pos hgp, h2]; rfl
    · refine ⟨r, ?_, ?_⟩
      · rw [h1]
        simp [Sem.run_bind, he, hgp, Result.andThen, r1]
      · rw [if_neg hgp]; exact r2
theorem askPt_nil (w : World) : ∀ (E : List (Nat × Nat)) (es : List MapEntry) (i : Nat), es.map (fun e => (e.key, e.val)) = E.map (fun p => (pvN (some p.1), pvN (some p.2))) →
    (Instr.findAsking 71 (pvN none) es i).run Try.prog w = .ok none w
  | [], [], _, _ => by simp [Instr.findAsking]
  | [], _ :: _, _, h => by cases h
  | _ :: _, [], _, h => by cases h
  | p :: E, e :: es, i, h => by
    simp only [List.map_cons, List.cons.injEq, Prod.mk.injEq] at h
    obtain ⟨⟨h1, h2⟩, h3⟩ := h
    have r1 := askPt_nil w E es (i + 1) h3
    unfold Instr.findAsking
    rw [h1]
    simp [Sem.run_bind, eqPt_nil, Result.andThen, r1]
theorem findPt_any (w : World) (k : Option Nat) (es : List MapEntry) (r : Option (Nat × Value)) (h : (Instr.findAsking 71 (pvN k) es 0).run Try.prog w = .ok r w) (h0 : es = [] → r = none) :
    (Instr.findKey 71 (pvN k) es).run Try.prog w = .ok r w := by
  cases es with
  | nil =>
    rw [h0 rfl]
    simp [Instr.findKey, run_underlying pt_ty, Result.andThen, Instr.findNow]
  | cons e es =>
    have hn : Instr.findNow (.pointer 74) (pvN k) (e :: es) 0 = none := by
      unfold Instr.findNow Instr.sameNow
      rfl
    simp [Instr.findKey, run_underlying pt_ty, Result.andThen, hn, h]
theorem check_pt (w : World) (k : Option Nat) (em : Bool) (n : Nat) : (Instr.checkKey em (n + 1) 71 (pvN k)).run Try.prog w = .ok () w := by
  unfold Instr.checkKey
  simp [run_underlying pt_ty, Result.andThen, pvN]
theorem zeroPt (w : World) : (zeroValue 71).run Try.prog w = .ok (pvN none) w := by kernel_rfl
section
variable {w w' : World} {mb : Nat} {E : List (Nat × Nat)}
theorem PtM.get (h : PtM w mb E) {g : Nat} {c1 : Array Value} {t1 : TypeId} (hg : w.heap[g]? = some (.cells c1 t1 (0, 0))) :
    (Instr.lookup 92 (.map (some mb)) (pvN (some g)) false).run Try.prog w = .ok (pvN (lookE E g)) w := by
  obtain ⟨es, clock, hb, he⟩ := h.map
  obtain ⟨r, r1, r2⟩ := ask_pt w g hg E es.toList 0 he h.key
  have hf := findPt_any w (some g) es.toList r r1 (fun e0 => by
    rw [e0] at he
    cases E with
    | nil => cases r with
      | none => rfl
      | some z => cases r2
    | cons p E => cases he)
  cases hl : lookE E g with
  | none =>
    rw [hl] at r2
    cases r with
    | some z => cases r2
    | none => simp [Instr.lookup, run_underlying pt_map, MapKept.run_getObj_map hb, check_pt, hf, zeroPt, Result.andThen]; rfl
  | some b =>
    rw [hl] at r2
    cases r with
    | none => cases r2
    | some z =>
      obtain ⟨i, v⟩ := z
      simp only [Option.map_some, Option.some.injEq] at r2
      subst r2
      simp [Instr.lookup, run_underlying pt_map, MapKept.run_getObj_map hb, check_pt, hf, Result.andThen]
theorem PtM.get_nil (h : PtM w mb E) :
    (Instr.lookup 92 (.map (some mb)) (pvN none) false).run Try.prog w = .ok (pvN none) w := by
  obtain ⟨es, clock, hb, he⟩ := h.map
  have hf := findPt_any w none es.toList none (askPt_nil w E es.toList 0 he) (fun _ => rfl)
  simp [Instr.lookup, run_underlying pt_map, MapKept.run_getObj_map hb, check_pt, hf, zeroPt, Result.andThen]; rfl
theorem PtM.touch {S : Nat → Prop} (h : PtM w mb E) (t : Touch w w' S) (h1 : ¬ S mb) (h2 : ∀ p ∈ E, ¬ S p.1) : PtM w' mb E := by
  obtain ⟨⟨es, clock, hb, he⟩, hk⟩ := h
  exact ⟨⟨es, clock, t.keeps hb h1, he⟩, fun p hp => by obtain ⟨cs, ty, hc⟩ := hk p hp; exact ⟨cs, ty, t.keeps hc (h2 p hp)⟩⟩
theorem PtM.still (h : PtM w mb E) (t : Touch w w' (fun _ => False)) : PtM w' mb E := h.touch t (fun h => h) (fun _ _ h => h)
theorem PtM.lt (h : PtM w mb E) : mb < w.heap.size := by
  obtain ⟨⟨es, clock, hb, -⟩, -⟩ := h
  exact heap_lt hb
/-- A file that is not there yet is put in. -/
theorem PtM.put (h : PtM w mb E) {g : Nat} (b : Nat) {c1 : Array Value} {t1 : TypeId} (hg : w.heap[g]? = some (.cells c1 t1 (0, 0))) (hn : lookE E g = none) :
    ∃ w', (Instr.mapUpdate 92 (.map (some mb)) (pvN (some g)) (pvN (some b))).run Try.prog w = .ok () w' ∧ PtM w' mb (E ++ [(g, b)]) ∧ Touch w w' (fun k => k = mb) := by
  obtain ⟨es, clock, hb, he⟩ := h.map
  obtain ⟨r, r1, r2⟩ := ask_pt w g hg E es.toList 0 he h.key
  rw [hn] at r2
  obtain rfl : r = none := by
    cases r with
    | none => rfl
    | some z => cases r2
  have hf := findPt_any w (some g) es.toList none r1 (fun _ => rfl)
  obtain ⟨s1, s2⟩ := MapKept.heap_set (o' := .map (es.push { key := pvN (some g), val := pvN (some b), born := clock }) (clock + 1)) hb
  have t : Touch w { w with heap := w.heap.setIfInBounds mb (.map (es.push { key := pvN (some g), val := pvN (some b), born := clock }) (clock + 1)) } (fun k => k = mb) := by
    exact ⟨rfl, rfl, rfl, by simp, fun k hk hS => s2 k hS⟩
  refine ⟨_, by simp [Instr.mapUpdate, run_underlying pt_map, MapKept.run_getObj_map hb, check_pt, hf, MapKept.run_setObj_map _ hb, Result.andThen], ⟨⟨_, _, s1, ?_⟩, fun p hp => ?_⟩, t⟩
  · simp [he]
  · have hne : ∀ k cs ty, w.heap[k]? = some (.cells cs ty (0, 0)) → k ≠ mb := fun k cs ty hc e => by rw [e, hb] at hc; cases hc
    rcases List.mem_append.1 hp with hp | hp
    · obtain ⟨cs, ty, hc⟩ := h.key p hp
      exact ⟨cs, ty, t.keeps hc (hne _ _ _ hc)⟩
    · rw [List.mem_singleton.1 hp]
      exact ⟨_, _, t.keeps hg (hne _ _ _ hg)⟩
theorem PtM.made (w : World) : PtM (w.alloc (.map #[] 0)) w.heap.size [] :=
  ⟨⟨#[], 0, (MapKept.heap_alloc w _).1, rfl⟩, fun p hp => by cases hp⟩
end
end Go.Proofs.Ytmokcfmlolohaaa

end

section
/- What the copier has: which files it has copied, and where to. -/
set_option linter.unusedVariables false
set_option linter.unusedSimpArgs false
namespace Go.Proofs.Ytmokcfmlolohaaa
open Go.RowKit

structure CpM (w1 w : World) (h : DkH) (F : Nat → DkFc) (cb mb : Nat) (E : List (Nat × Nat)) (T : Nat → DkTg) (ao : Nat → Option Addr) (co : Nat → Nat) : Prop where
  head : w.heap[cb]? = some (.cells #[.map (some mb)] 94 (0, 0))
  map : PtM w mb E
  ns : (E.map Prod.snd).Nodup
  src : ∀ p ∈ E, h.T p.1 = .fb
  files : ∀ p ∈ E, T p.2 = .fb ∧ DkFile w p.2 (F p.1) (ao p.2) (co p.2) T
  only : ∀ k, T k = .fb → ∃ p ∈ E, p.2 = k
  foot : ∀ k, T k ≠ .out → w1.heap.size ≤ k ∧ k < w.heap.size
  tc : T cb = .out
  tm : T mb = .out
  cl : w1.heap.size ≤ cb
  ml : w1.heap.size ≤ mb
  cm : cb ≠ mb
  t : Touch w1 w (fun _ => False)
/-- Behind a step of the copier's. -/
def CpTo (w1 w w' : World) (h : DkH) (F : Nat → DkFc) (cb mb : Nat) (E : List (Nat × Nat)) (T : Nat → DkTg) (E' : List (Nat × Nat)) : Prop :=
  ∃ T' ao' co', CpM w1 w' h F cb mb E' T' ao' co' ∧ Touch w w' (fun k => k = mb) ∧ (∀ k, T k ≠ .out → T' k = T k) ∧ (∀ k, T' k ≠ .out → T k ≠ .out ∨ w.heap.size ≤ k ∧ (T' k = .fb ∨ ∃ g, T' k = .fa g)) ∧ ∃ D, E' = E ++ D
section
variable {w1 w w' w2 w7 w9 : World} {h : DkH} {F : Nat → DkFc} {cb mb : Nat} {E E' E2 : List (Nat × Nat)} {T : Nat → DkTg} {ao : Nat → Option Addr} {co : Nat → Nat}
theorem CpM.touch {S : Nat → Prop} (c : CpM w1 w h F cb mb E T ao co) (t : Touch w w' S) (hc : ¬ S cb) (hm : ¬ S mb) (hT : ∀ k, T k ≠ .out → ¬ S k) (ho : ∀ k, k < w1.heap.size → ¬ S k) (hs : ∀ p ∈ E, p.1 < w1.heap.size) : CpM w1 w' h F cb mb E T ao co where
  head := t.keeps c.head hc
  map := c.map.touch t hm (fun p hp => ho _ (hs p hp))
  ns := c.ns
  src := c.src
  files := fun p hp => by
    obtain ⟨h1, h2⟩ := c.files p hp
    exact ⟨h1, h2.touch t (hT _ (by rw [h1]; simp)) (fun y hy => hT _ (by rw [h2.arr y hy]; simp))⟩
  only := c.only
  foot := fun k hk => ⟨(c.foot k hk).1, Nat.lt_of_lt_of_le (c.foot k hk).2 t.size⟩
  tc := c.tc
  tm := c.tm
  cl := c.cl
  ml := c.ml
  cm := c.cm
  t := c.t.trans t (fun k hk hS => ho k hk hS)
theorem CpM.still (c : CpM w1 w h F cb mb E T ao co) (t : Touch w w' (fun _ => False)) : CpM w1 w' h F cb mb E T ao co where
  head := t.keeps c.head (fun h => h)
  map := c.map.still t
  ns := c.ns
  src := c.src
  files := fun p hp => by
    obtain ⟨h1, h2⟩ := c.files p hp
    exact ⟨h1, h2.touch t (fun h => h) (fun _ _ h => h)⟩
  only := c.only
  foot := fun k hk => ⟨(c.foot k hk).1, Nat.lt_of_lt_of_le (c.foot k hk).2 t.size⟩
  tc := c.tc
  tm := c.tm
  cl := c.cl
  ml := c.ml
  cm := c.cm
  t := c.t.trans t (fun _ _ h => h)
theorem CpM.to (c : CpM w1 w h F cb mb E T ao co) : CpTo w1 w w h F cb mb E T E :=
  ⟨T, ao, co, c, Touch.refl _ _, fun _ _ => rfl, fun _ hk => .inl hk, [], by simp⟩
theorem lookE_mem_some {p : Nat × Nat} : ∀ {E : List (Nat × Nat)}, p ∈ E → (lookE E p.1).isSome = true
  | [], h => by cases h
  | q :: E, h => by
    unfold lookE
    split
    · rfl
    · rename_i e
      rcases List.mem_cons.1 h with rfl | h
      · exact absurd rfl e
      · exact lookE_mem_some h
theorem CpM.add (c : CpM w1 w h F cb mb E T ao co) {g B : Nat} {a2 : Option Addr} {c2 : Nat} (hg : h.T g = .fb) (hn : lookE E g = none) (hl : (F g).b.length ≤ 1048576) (hsu : (F g).s ≤ (F g).b.length) (hp : PtM w9 mb (E ++ [(g, B)]))
    {w0 : World} (t2 : Touch w0 w2 (fun _ => False)) (t0 : Touch w w0 (fun _ => False)) (ho : OwnB w2 w0.heap.size 5 (.slice a2 (F g).b.length c2) (F g).b) (t7 : Touch w2 w7 (fun _ => False)) (hB : w2.heap.size = B) (hd : w7.heap[B]? = some (.cells #[.slice a2 (F g).b.length c2, .int .i64 (F g).s] 74 (0, 0)))
    (t9 : Touch w7 w9 (fun k => k = mb)) : CpTo w1 w w9 h F cb mb E T (E ++ [(g, B)]) := by
  subst hB
  have t27 := (t0.trans t2 (fun _ _ h => h)).trans t7 (fun _ _ h => h)
  have tt : Touch w w9 (fun k => k = mb) := (t27.mono (fun _ _ h => h.elim)).trans t9 (fun _ _ h => h)
  have hsz : w.heap.size ≤ w2.heap.size := Nat.le_trans t0.size t2.size
  have hml : mb < w.heap.size := c.map.lt
  have hcl : cb < w.heap.size := heap_lt c.head
  have hout : ∀ k, w.heap.size ≤ k → T k = .out := fun k hk => by
    cases hT : T k with
    | out => rfl
    | _ => have := (c.foot k (by rw [hT]; simp)).2; omega
  have ha2 : ∀ x, a2 = some x → w0.heap.size ≤ x.block ∧ x.block < w2.heap.size := fun x hx => by subst hx; exact ho.own.lt x.block rfl
  have hs0 : w.heap.size ≤ w0.heap.size := t0.size
  obtain ⟨T', hT'⟩ : ∃ T', T' = fun k => if k = w2.heap.size then DkTg.fb else if a2.map (·.block) = some k then DkTg.fa w2.heap.size else T k := ⟨_, rfl⟩
  have eB : T' w2.heap.size = .fb := by rw [hT']; simp
  have eA : ∀ x, a2 = some x → T' x.block = .fa w2.heap.size := fun x hx => by
    have := (ha2 x hx).2
    rw [hT']; simp only
    rw [if_neg (by omega), if_pos (by rw [hx]; rfl)]
  have eO : ∀ k, k < w.heap.size → T' k = T k := fun k hk => by
    rw [hT']; simp only
    rw [if_neg (by omega), if_neg (fun e => by obtain ⟨x, hx, e2⟩ := some_block e; have := (ha2 x hx).1; omega)]
  have eK : ∀ k, T k ≠ .out → T' k = T k := fun k hk => eO k (c.foot k hk).2
  have eN : ∀ k, T' k ≠ .out → k = w2.heap.size ∨ (∃ x, a2 = some x ∧ x.block = k) ∨ T k ≠ .out := fun k hk => by
    rw [hT'] at hk; simp only at hk
    split at hk
    · exact .inl (by assumption)
    · split at hk
      · rename_i e; exact .inr (.inl (some_block e))
      · exact .inr (.inr hk)
  have hown : OwnB w9 0 5 (.slice a2 (F g).b.length c2) (F g).b := ((ho.base (fun _ _ => Nat.zero_le _)).touch t7 (fun _ _ h => h)).touch t9 (fun k hk e => by
    have e : k = mb := e
    have := (ho.own.lt k hk).1; omega)
  refine ⟨T', fun k => if k = w2.heap.size then a2 else ao k, fun k => if k = w2.heap.size then c2 else co k, ⟨?_, hp, ?_, ?_, ?_, ?_, ?_, ?_, ?_, c.cl, c.ml, c.cm, ?_⟩, tt, eK, ?_, _, rfl⟩
  · exact tt.keeps c.head c.cm
  · rw [List.map_append, List.nodup_append]
    refine ⟨c.ns, by simp, fun a ha b hb e => ?_⟩
    obtain ⟨p, hp, rfl⟩ := List.mem_map.1 ha
    simp only [List.map_cons, List.map_nil, List.mem_singleton] at hb
    have h1 := (c.files p hp).1
    have h2 := (c.foot p.2 (by rw [h1]; simp)).2
    omega
  · intro p hp
    rcases List.mem_append.1 hp with hp | hp
    · exact c.src p hp
    · rw [List.mem_singleton.1 hp]; exact hg
  · intro p hp
    rcases List.mem_append.1 hp with hp | hp
    · obtain ⟨h1, h2⟩ := c.files p hp
      have h3 := (c.foot p.2 (by rw [h1]; simp)).2
      have h4 : p.2 ≠ w2.heap.size := by omega
      simp only [if_neg h4]
      have h5 := h2.touch tt (fun e => by have e : p.2 = mb := e; rw [e, c.tm] at h1; cases h1) (fun y hy e => by have e : y.block = mb := e; have h6 := h2.arr y hy; rw [e, c.tm] at h6; cases h6)
      exact ⟨by rw [eO _ h3]; exact h1, h5.head, h5.own, h5.len, h5.sure, fun y hy => by rw [eK _ (by rw [h2.arr y hy]; simp)]; exact h2.arr y hy⟩
    · rw [List.mem_singleton.1 hp]
      simp only [if_true]
      exact ⟨eB, t9.keeps hd (fun e => by have e : w2.heap.size = mb := e; omega), hown, hl, hsu, fun y hy => eA y hy⟩
  · intro k hk
    rcases eN k (by rw [hk]; simp) with h1 | ⟨x, hx, h1⟩ | h1
    · exact ⟨(g, w2.heap.size), List.mem_append_right _ (List.mem_singleton.2 rfl), h1.symm⟩
    · rw [← h1, eA x hx] at hk; cases hk
    · rw [eK k h1] at hk
      obtain ⟨p, hp, e⟩ := c.only k hk
      exact ⟨p, List.mem_append_left _ hp, e⟩
  · intro k hk
    have hw1 := c.t.size
    rcases eN k hk with h1 | ⟨x, hx, h1⟩ | h1
    · exact ⟨by omega, by rw [h1]; exact Nat.lt_of_lt_of_le (heap_lt hd) t9.size⟩
    · have := ha2 x hx
      have h8 := t7.size; have h9 := t9.size
      exact ⟨by omega, by omega⟩
    · exact ⟨(c.foot k h1).1, Nat.lt_of_lt_of_le (c.foot k h1).2 tt.size⟩
  · rw [eO _ hcl]; exact c.tc
  · rw [eO _ hml]; exact c.tm
  · exact c.t.trans tt (fun k hk e => by have e : k = mb := e; have := c.ml; omega)
  · intro k hk
    rcases eN k hk with h1 | ⟨x, hx, h1⟩ | h1
    · exact .inr ⟨by omega, .inl (by rw [h1]; exact eB)⟩
    · exact .inr ⟨by have := ha2 x hx; omega, .inr ⟨_, by rw [← h1]; exact eA x hx⟩⟩
    · exact .inl h1
end
end Go.Proofs.Ytmokcfmlolohaaa

end

section
/- The copier's file: a file is copied once. -/
set_option linter.unusedVariables false
set_option linter.unusedSimpArgs false
namespace Go.Proofs.Ytmokcfmlolohaaa
open Go.RowKit

theorem enterP_bclone (a : Value) (w : World) : (callFunc 46 #[a]).run Try.prog w = .ok (.enter 46 #[a]) w := by kernel_rfl
theorem enterP_file (a b : Value) (w : World) : (callFunc 59 #[a, b]).run Try.prog w = .ok (.enter 59 #[a, b]) w := by kernel_rfl
theorem neqP_some (g : Nat) (w : World) : (binOp BinOp.neq 71 (.pointer (some ⟨g, 0, none⟩)) (.pointer none)).run Try.prog w = .ok (.bool true) w := by kernel_rfl
theorem neqP_none (w : World) : (binOp BinOp.neq 71 (.pointer none) (.pointer none)).run Try.prog w = .ok (.bool false) w := by kernel_rfl
theorem eqP_some (g : Nat) (w : World) : (binOp BinOp.eql 71 (.pointer (some ⟨g, 0, none⟩)) (.pointer none)).run Try.prog w = .ok (.bool false) w := by kernel_rfl
theorem eqP_none (w : World) : (binOp BinOp.eql 71 (.pointer none) (.pointer none)).run Try.prog w = .ok (.bool true) w := by kernel_rfl
set_option maxRecDepth 20000 in
set_option maxHeartbeats 16000000 in
theorem cfile_any (w1 w : World) (h : DkH) (F : Nat → DkFc) (cb mb : Nat) (E : List (Nat × Nat)) (T : Nat → DkTg) (ao : Nat → Option Addr) (co : Nat → Nat) (c : CpM w1 w h F cb mb E T ao co) (o : Option Nat)
    (hs : ∀ g, o = some g → h.T g = .fb ∧ DkFile w1 g (F g) (h.ao g) (h.co g) h.T) :
    Calls Try.prog 59 #[.pointer (some ⟨cb, 0, none⟩), pvN o] w fun e w' => ∃ E', e = .returned (pvN (o.bind (lookE E'))) ∧ CpTo w1 w w' h F cb mb E T E' ∧ ∀ g, o = some g → (lookE E' g).isSome = true := by
  have k0 : w.cell? ⟨cb, 0, none⟩ = some (.map (some mb)) := cell_of_cells c.head 0
  have HC := Lib.hid c
  cases o with
  | none =>
    have hl := c.map.get_nil
    have q1 := neqP_none w
    simp only [pvN, Option.map_none] at hl ⊢
    clear c hs
    go_enter Try.func59, Try.ntmps59
    go_wp2_with fail
    go_ret
    exact ⟨E, rfl, HC.out.to, fun g hg => by cases hg⟩
  | some g =>
    obtain ⟨hg, hf⟩ := hs g rfl
    have hgc := c.t.keeps hf.head (fun h => h)
    have hl := c.map.get hgc
    have q1 := neqP_some g w
    have HG := Lib.hid hg
    simp only [pvN, Option.map_some] at hl ⊢
    cases hn : lookE E g with
    | some b =>
      rw [hn] at hl
      simp only [pvN, Option.map_some] at hl
      have q2 := eqP_some b w
      have HN := Lib.hid hn
      clear c hs hf hgc hg hn
      go_enter Try.func59, Try.ntmps59
      go_wp2_with fail
      go_ret
      exact ⟨E, by simp only [Option.bind_some, HN.out]; rfl, HC.out.to, fun g' hg' => by cases hg'; rw [HN.out]; rfl⟩
    | none =>
      rw [hn] at hl
      simp only [pvN, Option.map_none] at hl
      have q2 := eqP_none w
      have HLN := Lib.hid hn
      have HFL : RowKit.Hid ((F g).b.length ≤ 140737488355328) := Lib.hid (by have := hf.len; omega)
      have HB : RowKit.Hid ((F g).b.length ≤ 1048576 ∧ (F g).s ≤ (F g).b.length) := Lib.hid ⟨hf.len, hf.sure⟩
      have HGC := Lib.hid hgc
      obtain ⟨a0, cap0, hv0, hrow, -⟩ := (hf.own.touch c.t (fun _ _ h => h)).row
      simp only [Value.slice.injEq] at hv0
      obtain ⟨hva, -, hvc⟩ := hv0
      rw [← hva, ← hvc] at hrow
      have HRW := Lib.hid hrow
      have hgm : g ≠ mb := fun e => by have h1 := hf.head; have := heap_lt h1; have := c.ml; omega
      have hcm := c.cm
      have HKM : RowKit.Hid (∀ W, Touch w W (fun k => k = mb) → W.cell? ⟨cb, 0, none⟩ = some (.map (some mb)) ∧ W.cell? ⟨g, 0, none⟩ = some (.slice (h.ao g) (F g).b.length (h.co g)) ∧ W.cell? ⟨g, 1, none⟩ = some (.int .i64 (F g).s)) := Lib.hid (fun W t => ⟨cell_of_cells (t.keeps HC.out.head HC.out.cm) 0, cell_of_cells (t.keeps HGC.out hgm) 0, cell_of_cells (t.keeps HGC.out hgm) 1⟩)
      have HTD : RowKit.Hid (Touch w w.drew (fun _ => False)) := Lib.hid ((Touch.refl w (fun _ => False)).drew)
      have HGM := Lib.hid (And.intro hgm hcm)
      clear c hs hf hgc hg hn hrow hva hvc hgm hcm
      go_enter Try.func59, Try.ntmps59
      go_upto_region 2 with (fail)
      have hS := (Touch.refl w (fun k => k = mb)).drew
      refine wp_region_tree (fun w' => Touch w w' (fun k => k = mb)) (.take 0 (.take 1 (.take 2 (.take 3 (.take 4 (.take 5 (.take 6 (.take 7 (.take 8 (.take 10 (.take 11 (.take 12 (.take 13 (.one 9 (.take 14 (.one 15 (.one 16 .fin))))))))))))))))) (by kernel_rfl) (by kernel_rfl) (by kernel_rfl) (by kernel_rfl) hS ?_
      refine walkT_take ?_
      (refine takeN_take (v := ?_) (some 16) rfl rfl (fun _ _ _ h => h) (by rfl) ?_ ?_; rotate_left; (focus (intro w' hw'; obtain ⟨k1, k2, k3⟩ := HKM.out w' hw'; go_simp; (try with_reducible rfl))); (try simp only [Act.put, List.setIfInBounds_toArray, List.set_cons_zero, List.set_cons_succ]))
      refine walkT_take ?_
      (refine takeN_take (v := ?_) (some 17) rfl rfl (fun _ _ _ h => h) (by rfl) ?_ ?_; rotate_left; (focus (intro w' hw'; obtain ⟨k1, k2, k3⟩ := HKM.out w' hw'; go_simp; (try with_reducible rfl))); (try simp only [Act.put, List.setIfInBounds_toArray, List.set_cons_zero, List.set_cons_succ]))
      refine walkT_take ?_
      (refine takeN_take (v := ?_) (some 18) rfl rfl (fun _ _ _ h => h) (by rfl) ?_ ?_; rotate_left; (focus (intro w' hw'; obtain ⟨k1, k2, k3⟩ := HKM.out w' hw'; go_simp; (try with_reducible rfl))); (try simp only [Act.put, List.setIfInBounds_toArray, List.set_cons_zero, List.set_cons_succ]))
      refine walkT_take ?_
      (refine takeN_take (v := ?_) (some 19) rfl rfl (fun _ _ _ h => h) (by rfl) ?_ ?_; rotate_left; (focus (intro w' hw'; obtain ⟨k1, k2, k3⟩ := HKM.out w' hw'; go_simp; (try with_reducible rfl))); (try simp only [Act.put, List.setIfInBounds_toArray, List.set_cons_zero, List.set_cons_succ]))
      refine walkT_take ?_
      (refine takeN_take (v := ?_) (some 20) rfl rfl (fun _ _ _ h => h) (by rfl) ?_ ?_; rotate_left; (focus (intro w' hw'; obtain ⟨k1, k2, k3⟩ := HKM.out w' hw'; go_simp; (try with_reducible rfl))); (try simp only [Act.put, List.setIfInBounds_toArray, List.set_cons_zero, List.set_cons_succ]))
      refine walkT_take ?_
      (refine takeN_take (v := ?_) (some 21) rfl rfl (fun _ _ _ h => h) (by rfl) ?_ ?_; rotate_left; (focus (intro w' hw'; obtain ⟨k1, k2, k3⟩ := HKM.out w' hw'; go_simp; (try with_reducible rfl))); (try simp only [Act.put, List.setIfInBounds_toArray, List.set_cons_zero, List.set_cons_succ]))
      refine walkT_take ?_
      (refine takeN_take (v := ?_) (some 22) rfl rfl (fun _ _ _ h => h) (by rfl) ?_ ?_; rotate_left; (focus (intro w' hw'; obtain ⟨k1, k2, k3⟩ := HKM.out w' hw'; go_simp; (try with_reducible rfl))); (try simp only [Act.put, List.setIfInBounds_toArray, List.set_cons_zero, List.set_cons_succ]))
      refine walkT_take ?_
      (refine takeN_take (v := ?_) (some 23) rfl rfl (fun _ _ _ h => h) (by rfl) ?_ ?_; rotate_left; (focus (intro w' hw'; obtain ⟨k1, k2, k3⟩ := HKM.out w' hw'; go_simp; (try with_reducible rfl))); (try simp only [Act.put, List.setIfInBounds_toArray, List.set_cons_zero, List.set_cons_succ]))
      refine walkT_take ?_
      (refine takeN_take (v := ?_) (some 24) rfl rfl (fun _ _ _ h => h) (by rfl) ?_ ?_; rotate_left; (focus (intro w' hw'; obtain ⟨k1, k2, k3⟩ := HKM.out w' hw'; go_simp; (try with_reducible rfl))); (try simp only [Act.put, List.setIfInBounds_toArray, List.set_cons_zero, List.set_cons_succ]))
      refine walkT_take ?_
      (refine takeN_take (v := ?_) (some 26) rfl rfl (fun _ _ _ h => h) (by rfl) ?_ ?_; rotate_left; (focus (intro w' hw'; obtain ⟨k1, k2, k3⟩ := HKM.out w' hw'; go_simp; (try with_reducible rfl))); (try simp only [Act.put, List.setIfInBounds_toArray, List.set_cons_zero, List.set_cons_succ]))
      refine walkT_take ?_
      (refine takeN_take (v := ?_) (some 27) rfl rfl (fun _ _ _ h => h) (by rfl) ?_ ?_; rotate_left; (focus (intro w' hw'; obtain ⟨k1, k2, k3⟩ := HKM.out w' hw'; go_simp; (try with_reducible rfl))); (try simp only [Act.put, List.setIfInBounds_toArray, List.set_cons_zero, List.set_cons_succ]))
      refine walkT_take ?_
      (refine takeN_take (v := ?_) (some 28) rfl rfl (fun _ _ _ h => h) (by rfl) ?_ ?_; rotate_left; (focus (intro w' hw'; obtain ⟨k1, k2, k3⟩ := HKM.out w' hw'; go_simp; (try with_reducible rfl))); (try simp only [Act.put, List.setIfInBounds_toArray, List.set_cons_zero, List.set_cons_succ]))
      refine walkT_take ?_
      (refine takeN_take (v := ?_) (some 29) rfl rfl (fun _ _ _ h => h) (by rfl) ?_ ?_; rotate_left; (focus (intro w' hw'; obtain ⟨k1, k2, k3⟩ := HKM.out w' hw'; go_simp; (try with_reducible rfl))); (try simp only [Act.put, List.setIfInBounds_toArray, List.set_cons_zero, List.set_cons_succ]))
      refine walkT_one ?_
      (refine runN_call 25 _ _ _ _ (bclone_any _ _ _ _ _ (RowB.touch HRW.out ((Touch.refl w (fun _ => False)).drew) (fun _ _ => .inr (fun h => h))) HFL.out) rfl rfl rfl (by rfl) rfl (enterP_bclone _ _) ?_; rintro e w2 ⟨a2, c2, rfl, ho2, t2⟩; have hS := hS.trans t2 (fun _ _ h => h.elim); have HO := Lib.hid ho2; have HT2 := Lib.hid t2; refine ⟨_, rfl, hS, fun hS => ?_⟩; clear ho2 t2; (try simp only [Act.put, List.setIfInBounds_toArray, List.set_cons_zero, List.set_cons_succ]))
      refine walkT_take ?_
      (refine takeN_take (v := ?_) (some 30) rfl rfl (fun _ _ _ h => h) (by rfl) ?_ ?_; rotate_left; (focus (intro w' hw'; obtain ⟨k1, k2, k3⟩ := HKM.out w' hw'; go_simp; (try with_reducible rfl))); (try simp only [Act.put, List.setIfInBounds_toArray, List.set_cons_zero, List.set_cons_succ]))
      refine walkT_one ?_
      (refine runN_new 31 (fun W => .pointer (some ⟨W.heap.size, 0, none⟩)) #[.slice a2 (F g).b.length c2, .int .i64 (F g).s] 74 rfl rfl (by rfl) (by intro W; go_simp <;> first | with_reducible rfl | rfl | exact ⟨rfl, rfl⟩) ?_; intro w7 hw7 hM7 hs7 t7; have hS := hS.trans t7 (fun _ _ h => h.elim); refine ⟨hS, fun hS => ?_⟩; obtain ⟨B, hB⟩ : ∃ B, w2.heap.size = B := ⟨_, rfl⟩; rw [hB] at hM7 ⊢; have HHD := Lib.hid hM7; have HBB := Lib.hid hB; have HT7 := Lib.hid t7; have HS7 := Lib.hid ((HTD.out.trans HT2.out (fun _ _ h => h)).trans t7 (fun _ _ h => h)); clear hw7 hM7 hs7 t7 hB; (try simp only [Act.put, List.setIfInBounds_toArray, List.set_cons_zero, List.set_cons_succ]))
      refine walkT_one ?_
      (obtain ⟨w9, hst, hp9, t9⟩ := (HC.out.map.still HS7.out).put (g := g) B (HS7.out.keeps HGC.out (fun h => h)) HLN.out; have hst : (Instr.mapUpdate 92 (.map (some mb)) (.pointer (some ⟨g, 0, none⟩)) (.pointer (some ⟨B, 0, none⟩))).run Try.prog w7 = .ok () w9 := hst; refine runN_skip0 none rfl rfl (by rfl) (w' := w9) (by go_simp; (try with_reducible rfl)) ?_ ?_; (exact hS.trans t9 (fun _ _ h => h)); intro hS; (try simp only [Act.put, List.setIfInBounds_toArray, List.set_cons_zero, List.set_cons_succ]))
      refine walkT_fin ?_
      have HTO := Lib.hid (HC.out.add HG.out HLN.out HB.out.1 HB.out.2 hp9 (HT2.out) (HTD.out) HO.out HT7.out HBB.out HHD.out t9)
      have hp := Lib.hid hp9
      have k9 : w9.cell? ⟨cb, 0, none⟩ = some (.map (some mb)) := cell_of_cells (t9.keeps (HS7.out.keeps HC.out.head (fun h => h)) (fun e => HGM.out.2 e)) 0
      have hl9 := hp9.get (g := g) (t9.keeps (HS7.out.keeps HGC.out (fun h => h)) (fun e => HGM.out.1 e))
      rw [lookE_new HLN.out] at hl9
      simp only [pvN, Option.map_some] at hl9
      clear hp9 t9 hst q1 q2 hl k0
      go_wp2_with fail
      go_ret
      exact ⟨_, by simp only [Option.bind_some, lookE_new HLN.out]; rfl, HTO.out, fun g' hg' => by cases hg'; rw [lookE_new HLN.out]; rfl⟩
end Go.Proofs.Ytmokcfmlolohaaa

end

section
/- The copier's names: a map of names is copied. -/
set_option linter.unusedVariables false
set_option linter.unusedSimpArgs false
namespace Go.Proofs.Ytmokcfmlolohaaa
open Go.RowKit

def mapE (E : List (Nat × Nat)) (x : NmD) : NmD := ⟨x.n, x.f.bind (lookE E)⟩
def InE (E : List (Nat × Nat)) (o : Option Nat) : Prop := ∃ g, o = some g ∧ (lookE E g).isSome = true
theorem InE.app {E : List (Nat × Nat)} {o : Option Nat} (h : InE E o) (D : List (Nat × Nat)) : InE (E ++ D) o ∧ o.bind (lookE (E ++ D)) = o.bind (lookE E) := by
  obtain ⟨g, rfl, hg⟩ := h
  obtain ⟨b, hb⟩ := Option.isSome_iff_exists.1 hg
  have := lookE_app hb D
  refine ⟨⟨g, rfl, by rw [this]; rfl⟩, ?_⟩
  simp only [Option.bind_some]
  rw [this, hb]
theorem map_app {E : List (Nat × Nat)} {M : List NmD} (h : ∀ x ∈ M, InE E x.f) (D : List (Nat × Nat)) : M.map (mapE (E ++ D)) = M.map (mapE E) := by
  refine List.map_congr_left fun x hx => ?_
  unfold mapE
  rw [((h x hx).app D).2]
theorem mapE_n (E : List (Nat × Nat)) (M : List NmD) : (M.map (mapE E)).map NmD.n = M.map NmD.n := by
  rw [List.map_map]; rfl
/-- What is there while names are copied. -/
structure CnI (w1 w wr : World) (h : DkH) (F : Nat → DkFc) (cb mb : Nat) (E : List (Nat × Nat)) (T : Nat → DkTg) (mo nb r : Nat) (M : List NmD) (left : Lit → Bool) (cnt : Nat) (E' : List (Nat × Nat)) (T' : Nat → DkTg) (ao' : Nat → Option Addr) (co' : Nat → Nat) (M' : List NmD) : Prop where
  rg : RangesN wr mo r M left cnt
  c : CpM w1 wr h F cb mb E' T' ao' co'
  o : OwnN wr nb M'
  p : M'.Perm ((seenN M left).map (mapE E'))
  i : ∀ x ∈ seenN M left, InE E' x.f
  t : Touch w wr (fun k => k = mb)
  k : ∀ k, T k ≠ .out → T' k = T k
  f : ∀ k, T' k ≠ .out → T k ≠ .out ∨ w.heap.size ≤ k ∧ (T' k = .fb ∨ ∃ g, T' k = .fa g)
  a : ∃ D, E' = E ++ D
  tn : T' nb = .out
  tr : T' r = .out
/-- Names were copied. -/
structure CnTo (w1 w w' : World) (h : DkH) (F : Nat → DkFc) (cb mb : Nat) (E : List (Nat × Nat)) (T : Nat → DkTg) (M : List NmD) (nb : Nat) (E' : List (Nat × Nat)) (T' : Nat → DkTg) (ao' : Nat → Option Addr) (co' : Nat → Nat) : Prop where
  c : CpM w1 w' h F cb mb E' T' ao' co'
  o : OwnN w' nb (M.map (mapE E'))
  i : ∀ x ∈ M, InE E' x.f
  t : Touch w w' (fun k => k = mb)
  k : ∀ k, T k ≠ .out → T' k = T k
  f : ∀ k, T' k ≠ .out → T k ≠ .out ∨ w.heap.size ≤ k ∧ (T' k = .fb ∨ ∃ g, T' k = .fa g)
  a : ∃ D, E' = E ++ D
  tn : T' nb = .out
  new : w.heap.size ≤ nb ∧ nb < w'.heap.size
set_option maxRecDepth 20000 in
set_option maxHeartbeats 16000000 in
theorem cnames_any (w1 w : World) (h : DkH) (F : Nat → DkFc) (cb mb : Nat) (E : List (Nat × Nat)) (T : Nat → DkTg) (ao : Nat → Option Addr) (co : Nat → Nat) (c : CpM w1 w h F cb mb E T ao co) (mo : Nat) (M : List NmD) (ho : OwnN w mo M) (hmo : mo < w1.heap.size) (hM : M.length ≤ 200) (hnd : (M.map NmD.n).Nodup)
    (hlt : ∀ k, h.T k ≠ .out → k < w1.heap.size) (hs : ∀ x ∈ M, szN x.n ∧ ∃ g, x.f = some g ∧ h.T g = .fb ∧ DkFile w1 g (F g) (h.ao g) (h.co g) h.T) :
    Calls Try.prog 58 #[.pointer (some ⟨cb, 0, none⟩), .map (some mo)] w fun e w' => ∃ nb E' T' ao' co', e = .returned (.map (some nb)) ∧ CnTo w1 w w' h F cb mb E T M nb E' T' ao' co' := by
  have hmk1 := run_makeMap (P := Try.prog) 62 w
  obtain ⟨W1, hW1⟩ : ∃ W, w.alloc (.map #[] 0) = W := ⟨_, rfl⟩
  have t1 : Touch w W1 (fun _ => False) := hW1 ▸ (Touch.refl w _).alloc _
  have o1 : OwnN W1 w.heap.size [] := hW1 ▸ OwnN.made w
  have ho1 := ho.still t1
  have c1 := c.still t1
  obtain ⟨nb, hnb⟩ : ∃ nb, w.heap.size = nb := ⟨_, rfl⟩
  rw [hW1] at hmk1
  rw [hnb] at o1 hmk1
  have hmkC := heap_lt c.head
  have hmkM := c.map.lt
  have hml := c.ml
  have hcl := c.cl
  have HKK : RowKit.Hid (nb ≠ cb ∧ nb ≠ mb ∧ mo ≠ nb ∧ mo ≠ mb ∧ mo ≠ cb ∧ w1.heap.size ≤ nb ∧ w1.heap.size ≤ w.heap.size) := Lib.hid ⟨by omega, by omega, by have := ho.lt; omega, by omega, by omega, by have := c.t.size; omega, c.t.size⟩
  have hTn : T nb = .out := by
    cases hT : T nb with
    | out => rfl
    | _ => have := (c.foot nb (by rw [hT]; simp)).2; omega
  have HC := Lib.hid c
  have HC1 := Lib.hid c1
  have HO1 := Lib.hid ho1
  have HN1 := Lib.hid o1
  have HT1 := Lib.hid t1
  have HTN := Lib.hid hTn
  have HNB := Lib.hid hnb
  have HS := Lib.hid hs
  have HLT := Lib.hid hlt
  have HND := Lib.hid hnd
  have HML := Lib.hid hM
  have HMO := Lib.hid hmo
  clear c c1 ho ho1 o1 t1 hTn hnb hs hlt hnd hM hmo hmkC hmkM hml hcl hW1
  go_enter Try.func58, Try.ntmps58
  go_wp2_with (at_range; refine wp_rangeN rfl _ rfl mo M rfl HO1.out ?_; intro w2 left0 cnt0 hrg0 hsn0 t2)
  obtain ⟨r, hr⟩ : ∃ r, W1.heap.size = r := ⟨_, rfl⟩
  have HRR := Lib.hid hr
  rw [hr] at hrg0 ⊢
  have HRN : RowKit.Hid (r ≠ nb ∧ r ≠ mb ∧ r ≠ cb ∧ r ≠ mo ∧ w.heap.size ≤ r ∧ T r = .out) := Lib.hid (by
    have h1 := HN1.out.lt
    have h3 := HO1.out.lt
    have h4 := heap_lt HC1.out.head
    have h5 := HC1.out.map.lt
    have h6 := HT1.out.size
    refine ⟨by omega, by omega, by omega, by omega, by omega, ?_⟩
    cases hT : T r with
    | out => rfl
    | _ => have := (HC1.out.foot r (by rw [hT]; simp)).2; omega)
  simp only [Act.put, List.setIfInBounds_toArray, List.set_cons_zero, List.set_cons_succ]
  go_loopw [] (fun wr => ∃ (left : Lit → Bool) (cnt : Nat) (E' : List (Nat × Nat)) (T' : Nat → DkTg) (ao' : Nat → Option Addr) (co' : Nat → Nat) (M' : List NmD), CnI w1 w wr h F cb mb E T mo nb r M left cnt E' T' ao' co' M') (fun wr => wr.rangeLeft mo r)
  case atStart => exact ⟨left0, cnt0, E, T, ao, co, [], hrg0, HC1.out.still t2, HN1.out.still t2, by rw [hsn0]; exact List.Perm.refl _, by rw [hsn0]; simp, (HT1.out.trans t2 (fun _ _ h => h)).mono (fun _ _ h => h.elim), fun _ _ => rfl, fun _ hk => .inl hk, ⟨[], by simp⟩, HTN.out, HRN.out.2.2.2.2.2⟩
  case round =>
    obtain ⟨left, cnt, E', T', ao', co', M', hI⟩ := hrel
    have HI := Lib.hid hI
    clear hI hrg0 hsn0 t2
    go_wp2_with (at_next; refine wp_nextN rfl _ rfl mo r M left cnt rfl HI.out.rg ?_ ?_)
    · intro hdone
      have HX := Lib.hid hdone
      clear hdone
      go_wp2_with fail
      go_ret
      refine ⟨nb, E', T', ao', co', rfl, HI.out.c, ?_, ?_, HI.out.t, HI.out.k, HI.out.f, HI.out.a, HI.out.tn, ?_⟩
      · have hp := HI.out.p
        rw [HX.out] at hp
        exact HI.out.o.perm hp
      · have hi := HI.out.i
        rw [HX.out] at hi
        exact hi
      · exact ⟨by have := HNB.out; omega, HI.out.o.lt⟩
    · intro f left' w3 cnt3 hf hp3 hrg3 hlt3 t3 hen3
      obtain ⟨hsz, g, eg, hg, hfile⟩ := HS.out f hf
      have hfresh : ∀ k, k < w1.heap.size → k ≠ r := fun k hk e => by
        have h1 := HRN.out.2.2.2.2.1; have h2 := HC.out.t.size; omega
      have hc3 : CpM w1 w3 h F cb mb E' T' ao' co' := HI.out.c.touch t3 (fun e => HRN.out.2.2.1 e.symm) (fun e => HRN.out.2.1 e.symm) (fun k hk e => by have e : k = r := e; rw [e] at hk; exact hk HI.out.tr) (fun k hk e => hfresh k hk e) (fun p hp => HLT.out _ (by rw [HI.out.c.src p hp]; simp))
      have ho3 : OwnN w3 nb M' := HI.out.o.touch t3 (fun e => HRN.out.1 e.symm)
      have HCF := Lib.hid (cfile_any w1 w3 h F cb mb E' T' ao' co' hc3 f.f (fun g' hg' => by rw [eg] at hg'; cases hg'; exact ⟨hg, hfile⟩))
      have HF3 := Lib.hid (And.intro hrg3 (And.intro ho3 (And.intro hp3 (And.intro t3 hlt3))))
      have HEG := Lib.hid (And.intro eg (And.intro hf hsz))
      have HRL := Lib.hid (And.intro hrg3.left_eq hlt3)
      obtain ⟨k, o⟩ := f
      simp only at eg hen3 HCF HEG hsz
      subst eg
      simp only [pvN, Option.map_some] at hen3
      have HCF := Lib.hid (HCF.out)
      simp only [pvN, Option.map_some] at HCF
      clear hf hp3 hrg3 hlt3 t3 hc3 ho3 hsz hg hfile
      go_wp2_with fail
      refine HCF.out.mono ?_
      rintro e w4 ⟨E4, rfl, hto, hse⟩
      have hse := hse g rfl
      obtain ⟨T4, ao4, co4, c4, t4, k4, f4, D4, rfl⟩ := hto
      obtain ⟨b, hb⟩ := Option.isSome_iff_exists.1 hse
      obtain ⟨hrg3, ho3, hp3, t3, hlt3⟩ := HF3.out
      obtain ⟨-, hf, hsz⟩ := HEG.out
      have n4 : ∀ x, x < w3.heap.size → T' x = .out → T4 x = .out := fun x hx ho => by
        cases hT : T4 x with
        | out => rfl
        | _ => rcases f4 x (by rw [hT]; simp) with h1 | h1
               · exact absurd ho h1
               · omega
      have ho4 : OwnN w4 nb M' := ho3.touch t4 (fun e => HKK.out.2.1 e)
      have hML : M'.length ≤ 200 := by
        have h1 := HI.out.p.length_eq
        rw [List.length_map] at h1
        have h2 : (seenN M left).length ≤ M.length := List.length_filter_le _ _
        have := HML.out; omega
      have hndl : (((⟨k, some g⟩ : NmD) :: seenN M left).map NmD.n).Nodup := ndN_perm hp3 (HND.out.sublist (List.filter_sublist.map _))
      have hkn : k ∉ M'.map NmD.n := by
        have h1 := (HI.out.p.map NmD.n)
        rw [mapE_n] at h1
        rw [h1.mem_iff]
        rw [List.map_cons, List.nodup_cons] at hndl
        exact hndl.1
      obtain ⟨w5, hst, o5, t5⟩ := ho4.store (by omega) hsz (some b)
      have hst : (Instr.mapUpdate 62 (.map (some nb)) (.string k) (.pointer (some ⟨b, 0, none⟩))).run Try.prog w4 = .ok () w5 := hst
      have hput : putN M' k (some b) = ⟨k, some b⟩ :: M' := by unfold putN; rw [delN_none hkn]
      rw [hput] at o5
      have hrg5 := (hrg3.touch t4 (fun e => HKK.out.2.2.2.1 e) (fun e => HRN.out.2.1 e)).touch t5 (fun e => HKK.out.2.2.1 e) (fun e => HRN.out.1 e)
      have hnbT : T4 nb = .out := n4 nb ho3.lt HI.out.tn
      have HX : RowKit.Hid (∃ (left : Lit → Bool) (cnt : Nat) (E' : List (Nat × Nat)) (T' : Nat → DkTg) (ao' : Nat → Option Addr) (co' : Nat → Nat) (M' : List NmD), CnI w1 w w5 h F cb mb E T mo nb r M left cnt E' T' ao' co' M') := Lib.hid ⟨left', cnt3, E' ++ D4, T4, ao4, co4, _, hrg5, c4.touch t5 (fun e => HKK.out.1 e.symm) (fun e => HKK.out.2.1 e.symm) (fun x hx e => by have e : x = nb := e; rw [e] at hx; exact hx hnbT) (fun x hx e => by have e : x = nb := e; have := HKK.out.2.2.2.2.2.1; omega) (fun p hp => HLT.out _ (by rw [c4.src p hp]; simp)), o5, (by
          refine List.Perm.trans ?_ (hp3.map _).symm
          rw [List.map_cons, map_app HI.out.i]
          have e1 : mapE (E' ++ D4) ⟨k, some g⟩ = ⟨k, some b⟩ := by unfold mapE; simp only [Option.bind_some]; rw [hb]
          rw [e1]
          exact HI.out.p.cons _), (by
          intro x hx
          rcases List.mem_cons.1 (hp3.mem_iff.1 hx) with e | hx
          · rw [e]; exact ⟨g, rfl, hse⟩
          · exact ((HI.out.i x hx).app D4).1), ((HI.out.t.trans t3 (fun x hx e => by have e : x = r := e; have := HRN.out.2.2.2.2.1; omega)).trans t4 (fun _ _ e => e)).trans t5 (fun x hx e => by have e : x = nb := e; have := HNB.out; omega), (fun x hx => by rw [k4 x (by rw [HI.out.k x hx]; exact hx)]; exact HI.out.k x hx), (fun x hx => by
          rcases f4 x hx with h1 | ⟨h1, h2⟩
          · rcases HI.out.f x h1 with h3 | ⟨h3, h4⟩
            · exact .inl h3
            · exact .inr ⟨h3, by rw [k4 x h1]; exact h4⟩
          · exact .inr ⟨by have := HI.out.t.size; have := t3.size; omega, h2⟩), (by
          obtain ⟨D, hD⟩ := HI.out.a
          exact ⟨D ++ D4, by rw [hD, List.append_assoc]⟩), hnbT, n4 r hrg3.lt HI.out.tr⟩
      have HR5 := Lib.hid hrg5.left_eq
      simp only [Option.bind_some]
      rw [hb]
      simp only [pvN, Option.map_some]
      clear hrg3 ho3 hp3 t3 hlt3 hf hsz n4 ho4 hML hndl hkn o5 t5 hput hrg5 hnbT c4 t4 k4 f4 hse hb
      go_wp2_with fail
      go_roundw
      · exact HX.out
      · have e1 := HI.out.rg.left_eq
        have e2 := HRL.out
        have e3 := HR5.out
        omega
end Go.Proofs.Ytmokcfmlolohaaa

end

section
/- What is there while a disk is copied. -/
set_option linter.unusedVariables false
set_option linter.unusedSimpArgs false
namespace Go.Proofs.Ytmokcfmlolohaaa
open Go.RowKit

def mapC (E : List (Nat × Nat)) (c : DkCh) : DkCh := { c with f := c.f.bind (lookE E) }
theorem mapC_app {E : List (Nat × Nat)} {M : List DkCh} (h : ∀ x ∈ M, x.f = none ∨ InE E x.f) (D : List (Nat × Nat)) : M.map (mapC (E ++ D)) = M.map (mapC E) := by
  refine List.map_congr_left fun x hx => ?_
  unfold mapC
  rcases h x hx with e | e
  · rw [e]; rfl
  · rw [(e.app D).2]
structure CySep (w : World) (cb mb nb ns tw : Nat) : Prop where
  n : w.heap.size ≤ nb ∧ w.heap.size ≤ ns ∧ w.heap.size ≤ tw
  d : nb ≠ cb ∧ nb ≠ mb ∧ ns ≠ cb ∧ ns ≠ mb ∧ tw ≠ cb ∧ tw ≠ mb ∧ nb ≠ ns ∧ tw ≠ nb ∧ tw ≠ ns ∧ cb ≠ mb
structure CyI (w wr : World) (h : DkH) (st : DkS) (cb mb nb ns tw k : Nat) (E : List (Nat × Nat)) (T : Nat → DkTg) (ao : Nat → Option Addr) (co : Nat → Nat) (a : Option Addr) (cc : Nat) : Prop where
  c : CpM w wr h st.F cb mb E T ao co
  oN : OwnN wr nb (st.N.map (mapE E))
  oS : OwnN wr ns (st.S.map (mapE E))
  iN : ∀ x ∈ st.N, InE E x.f
  iS : ∀ x ∈ st.S, InE E x.f
  iC : ∀ c ∈ st.C.take k, c.f = none ∨ InE E c.f
  hd : wr.heap[tw]? = some (.cells #[.int .i64 st.q, .map (some nb), .map (some ns), .slice a k cc, .int .i64 st.ops, .int .i64 st.fail] 65 (0, 0))
  ow : OwnS wr 0 88 4 (.slice a k cc) (((st.C.take k).map (mapC E)).map dkl)
  off : ∀ x, a = some x → x.block ≠ cb ∧ x.block ≠ mb ∧ x.block ≠ nb ∧ x.block ≠ ns ∧ x.block ≠ tw ∧ T x.block = .out ∧ w.heap.size ≤ x.block
  tn : T nb = .out
  ts : T ns = .out
  tt : T tw = .out
  s : CySep w cb mb nb ns tw
section
variable {w wr w' w2 w3 w4 w5 w9 : World} {h : DkH} {st : DkS} {cb mb nb ns tw k : Nat} {E E1 E2 E' : List (Nat × Nat)} {T T0 T1 T2 : Nat → DkTg} {ao ao1 ao2 : Nat → Option Addr} {co co1 co2 : Nat → Nat} {a : Option Addr} {cc : Nat}
theorem CyI.touch {S : Nat → Prop} (y : CyI w wr h st cb mb nb ns tw k E T ao co a cc) (t : Touch wr w' S) (hlt : ∀ x, h.T x ≠ .out → x < w.heap.size)
    (hS : ∀ x, S x → w.heap.size ≤ x ∧ x ≠ cb ∧ x ≠ mb ∧ x ≠ nb ∧ x ≠ ns ∧ x ≠ tw ∧ T x = .out ∧ ∀ z, a = some z → z.block ≠ x) : CyI w w' h st cb mb nb ns tw k E T ao co a cc where
  c := y.c.touch t (fun e => (hS _ e).2.1 rfl) (fun e => (hS _ e).2.2.1 rfl) (fun x hx e => hx (hS _ e).2.2.2.2.2.2.1) (fun x hx e => by have := (hS _ e).1; omega) (fun p hp => hlt _ (by rw [y.c.src p hp]; simp))
  oN := y.oN.touch t (fun e => (hS _ e).2.2.2.1 rfl)
  oS := y.oS.touch t (fun e => (hS _ e).2.2.2.2.1 rfl)
  iN := y.iN
  iS := y.iS
  iC := y.iC
  hd := t.keeps y.hd (fun e => (hS _ e).2.2.2.2.2.1 rfl)
  ow := y.ow.touch t (fun x hx e => by obtain ⟨z, hz, rfl⟩ := bown_block hx; exact (hS _ e).2.2.2.2.2.2.2 z hz rfl)
  off := y.off
  tn := y.tn
  ts := y.ts
  tt := y.tt
  s := y.s
theorem CyI.still (y : CyI w wr h st cb mb nb ns tw k E T ao co a cc) (t : Touch wr w' (fun _ => False)) : CyI w w' h st cb mb nb ns tw k E T ao co a cc where
  c := y.c.still t
  oN := y.oN.still t
  oS := y.oS.still t
  iN := y.iN
  iS := y.iS
  iC := y.iC
  hd := t.keeps y.hd (fun h => h)
  ow := y.ow.still t
  off := y.off
  tn := y.tn
  ts := y.ts
  tt := y.tt
  s := y.s
/-- Both maps of names were copied, the twin laid. -/
theorem CyI.start (c1 : CnTo w w2 w3 h st.F cb mb E T0 st.N nb E1 T1 ao1 co1) (c2 : CnTo w w3 w4 h st.F cb mb E1 T1 st.S ns E2 T2 ao2 co2) (h2 : w.heap.size ≤ w2.heap.size) (hcb : cb < w2.heap.size) (hmb : mb < w2.heap.size) (t5 : Touch w4 w5 (fun _ => False))
    (hd : w5.heap[w4.heap.size]? = some (.cells #[.int .i64 st.q, .map (some nb), .map (some ns), .slice none 0 0, .int .i64 st.ops, .int .i64 st.fail] 65 (0, 0))) : CyI w w5 h st cb mb nb ns w4.heap.size 0 E2 T2 ao2 co2 none 0 := by
  have hn := c1.new
  have hs := c2.new
  have z3 := c2.t.size
  have z2 := c1.t.size
  have e1 : ∀ x, x < w3.heap.size → T1 x = .out → T2 x = .out := fun x hx ho => by
    cases hT : T2 x with
    | out => rfl
    | _ => rcases c2.f x (by rw [hT]; simp) with h1 | h1
           · exact absurd ho h1
           · omega
  obtain ⟨D, hD⟩ := c2.a
  have hcm := c1.c.cm
  have mapN : st.N.map (mapE E2) = st.N.map (mapE E1) := by rw [hD]; exact map_app c1.i D
  exact ⟨c2.c.still t5, by rw [mapN]; exact (c1.o.touch c2.t (fun e => by have e : nb = mb := e; omega)).still t5, c2.o.still t5, fun x hx => by rw [hD]; exact ((c1.i x hx).app D).1, c2.i, fun c hc => by simp at hc, hd, OwnS.nil _ _ _ _, fun x hx => (by cases hx), e1 nb hn.2 c1.tn, c2.tn, (by
    cases hT : T2 w4.heap.size with
    | out => rfl
    | _ => have := (c2.c.foot w4.heap.size (by rw [hT]; simp)).2; omega), ⟨⟨by omega, by omega, by omega⟩, by refine ⟨by omega, by omega, by omega, by omega, by omega, by omega, by omega, by omega, by omega, hcm⟩⟩⟩
/-- A file was copied. -/
theorem CyI.file (y : CyI w wr h st cb mb nb ns tw k E T ao co a cc) (t : CpTo w wr w' h st.F cb mb E T E') : ∃ T' ao' co', CyI w w' h st cb mb nb ns tw k E' T' ao' co' a cc ∧ (∀ x, x < wr.heap.size → T x = .out → T' x = .out) := by
  obtain ⟨T', ao', co', c', t', k', f', D, rfl⟩ := t
  have e1 : ∀ x, x < wr.heap.size → T x = .out → T' x = .out := fun x hx ho => by
    cases hT : T' x with
    | out => rfl
    | _ => rcases f' x (by rw [hT]; simp) with h1 | h1
           · exact absurd ho h1
           · omega
  have hs := y.s.d
  refine ⟨T', ao', co', ⟨c', ?_, ?_, fun x hx => ((y.iN x hx).app D).1, fun x hx => ((y.iS x hx).app D).1, fun x hx => (y.iC x hx).imp (fun h => h) (fun h => (h.app D).1), t'.keeps y.hd (fun e => by have e : tw = mb := e; omega), ?_, fun x hx => ?_, e1 _ y.oN.lt y.tn, e1 _ y.oS.lt y.ts, e1 _ (heap_lt y.hd) y.tt, y.s⟩, e1⟩
  · rw [map_app y.iN]; exact y.oN.touch t' (fun e => by have e : nb = mb := e; omega)
  · rw [map_app y.iS]; exact y.oS.touch t' (fun e => by have e : ns = mb := e; omega)
  · rw [mapC_app y.iC]
    exact y.ow.touch t' (fun x hx e => by obtain ⟨z, hz, rfl⟩ := bown_block hx; exact (y.off z hz).2.1 e)
  · obtain ⟨h1, h2, h3, h4, h5, h6, h7⟩ := y.off x hx
    have hb : x.block < wr.heap.size := by subst hx; exact (y.ow.own.lt x.block rfl).2
    exact ⟨h1, h2, h3, h4, h5, e1 _ hb h6, h7⟩
/-- A change was put behind the others. -/
theorem CyI.push (y : CyI w wr h st cb mb nb ns tw k E T ao co a cc) (hlt : ∀ x, h.T x ≠ .out → x < w.heap.size) (hk : k < st.C.length) {a2 : Option Addr} {c2 : Nat} (hi : st.C[k].f = none ∨ InE E st.C[k].f)
    (t : Touch wr w' (fun x => x = tw ∨ (Value.slice a k cc).ownBlock = some x))
    (hd : w'.heap[tw]? = some (.cells #[.int .i64 st.q, .map (some nb), .map (some ns), .slice a2 (k + 1) c2, .int .i64 st.ops, .int .i64 st.fail] 65 (0, 0)))
    (ho : OwnS w' 0 88 4 (.slice a2 (k + 1) c2) (((st.C.take k).map (mapC E)).map dkl ++ [dkl (mapC E st.C[k])]))
    (hp : ∀ b, (Value.slice a2 (k + 1) c2).ownBlock = some b → (Value.slice a k cc).ownBlock = some b ∨ wr.heap.size ≤ b) : CyI w w' h st cb mb nb ns tw (k + 1) E T ao co a2 c2 := by
  have hS : ∀ x, (x = tw ∨ (Value.slice a k cc).ownBlock = some x) → w.heap.size ≤ x ∧ x ≠ cb ∧ x ≠ mb ∧ x ≠ nb ∧ x ≠ ns ∧ T x = .out := by
    have hs := y.s.d
    have hn := y.s.n
    rintro x (rfl | e)
    · exact ⟨hn.2.2, by omega, by omega, by omega, by omega, y.tt⟩
    · obtain ⟨z, hz, rfl⟩ := bown_block e
      obtain ⟨h1, h2, h3, h4, h5, h6, h7⟩ := y.off z hz
      exact ⟨h7, h1, h2, h3, h4, h6⟩
  have htk : st.C.take (k + 1) = st.C.take k ++ [st.C[k]] := List.take_succ_eq_append_getElem hk
  refine ⟨y.c.touch t (fun e => (hS _ e).2.1 rfl) (fun e => (hS _ e).2.2.1 rfl) (fun x hx e => hx (hS _ e).2.2.2.2.2) (fun x hx e => by have := (hS _ e).1; omega) (fun p hp => hlt _ (by rw [y.c.src p hp]; simp)), y.oN.touch t (fun e => (hS _ e).2.2.2.1 rfl), y.oS.touch t (fun e => (hS _ e).2.2.2.2.1 rfl), y.iN, y.iS, ?_, hd, ?_, ?_, y.tn, y.ts, y.tt, y.s⟩
  · intro c hc
    rw [htk] at hc
    rcases List.mem_append.1 hc with hc | hc
    · exact y.iC c hc
    · rw [List.mem_singleton.1 hc]; exact hi
  · rw [htk, List.map_append, List.map_append]; exact ho
  · intro x hx
    have hb : (Value.slice a2 (k + 1) c2).ownBlock = some x.block := by rw [hx]; rfl
    rcases hp _ hb with h1 | h1
    · obtain ⟨z, hz, e⟩ := bown_block h1
      have := y.off z hz
      rw [e] at this
      exact this
    · have e1 := heap_lt y.c.head
      have e2 := y.c.map.lt
      have e3 := y.oN.lt
      have e4 := y.oS.lt
      have e5 := heap_lt y.hd
      have e6 := y.c.t.size
      refine ⟨by omega, by omega, by omega, by omega, by omega, ?_, by omega⟩
      cases hT : T x.block with
      | out => rfl
      | _ => have := (y.c.foot x.block (by rw [hT]; simp)).2; omega
end
end Go.Proofs.Ytmokcfmlolohaaa

end

section
/- A disk that was copied. -/
set_option linter.unusedVariables false
set_option linter.unusedSimpArgs false
namespace Go.Proofs.Ytmokcfmlolohaaa
open Go.RowKit

def invE : List (Nat × Nat) → Nat → Option Nat
  | [], _ => none
  | p :: E, b => if b = p.2 then some p.1 else invE E b
def cpF (F : Nat → DkFc) (E : List (Nat × Nat)) : Nat → DkFc := fun k => match invE E k with | some g => F g | none => F k
def cpS (st : DkS) (E : List (Nat × Nat)) : DkS := { st with S := st.S.map (mapE E), C := st.C.map (mapC E), F := cpF st.F E }
theorem invE_mem : ∀ {E : List (Nat × Nat)}, (E.map Prod.snd).Nodup → ∀ {p : Nat × Nat}, p ∈ E → invE E p.2 = some p.1
  | [], _, _, h => by cases h
  | q :: E, hn, p, h => by
    rw [List.map_cons, List.nodup_cons] at hn
    unfold invE
    rcases List.mem_cons.1 h with rfl | h
    · rw [if_pos rfl]
    · rw [if_neg (fun e => hn.1 (by rw [← e]; exact List.mem_map.2 ⟨p, h, rfl⟩))]
      exact invE_mem hn.2 h
theorem invE_none : ∀ {E : List (Nat × Nat)} {b : Nat}, (∀ p ∈ E, p.2 ≠ b) → invE E b = none
  | [], _, _ => rfl
  | q :: E, b, h => by
    unfold invE
    rw [if_neg (fun e => h q List.mem_cons_self e.symm)]
    exact invE_none (fun p hp => h p (List.mem_cons_of_mem _ hp))
theorem cpF_new {F : Nat → DkFc} {E : List (Nat × Nat)} (hn : (E.map Prod.snd).Nodup) {p : Nat × Nat} (hp : p ∈ E) : cpF F E p.2 = F p.1 := by
  unfold cpF; rw [invE_mem hn hp]
theorem cpF_old {F : Nat → DkFc} {E : List (Nat × Nat)} {b : Nat} (h : ∀ p ∈ E, p.2 ≠ b) : cpF F E b = F b := by
  unfold cpF; rw [invE_none h]
theorem delN_map (E : List (Nat × Nat)) (M : List NmD) (k : ByteArray) : delN (M.map (mapE E)) k = (delN M k).map (mapE E) := by
  unfold delN
  rw [List.filter_map]
  rfl
theorem putN_map (E : List (Nat × Nat)) (M : List NmD) (k : ByteArray) (f : Option Nat) : putN (M.map (mapE E)) k (f.bind (lookE E)) = (putN M k f).map (mapE E) := by
  unfold putN
  rw [delN_map]; rfl
theorem getN_map (E : List (Nat × Nat)) (k : ByteArray) : ∀ (M : List NmD), getN (M.map (mapE E)) k = (getN M k).bind (lookE E)
  | [] => rfl
  | x :: M => by
    rw [List.map_cons]
    unfold getN
    by_cases e : x.n = k
    · rw [if_pos (show (mapE E x).n = k from e), if_pos e]; rfl
    · rw [if_neg (show ¬ (mapE E x).n = k from e), if_neg e]
      exact getN_map E k M
theorem dkDo_map (E : List (Nat × Nat)) (M : List NmD) (c : DkCh) : dkDo (M.map (mapE E)) (mapC E c) = (dkDo M c).map (mapE E) := by
  unfold dkDo
  show (if c.k = 0 then putN (M.map (mapE E)) c.n (c.f.bind (lookE E)) else if c.k = 1 then delN (putN (M.map (mapE E)) c.tn (getN (M.map (mapE E)) c.n)) c.n else if c.k = 2 then delN (M.map (mapE E)) c.n else M.map (mapE E)) = _
  split
  · rw [putN_map]
  · split
    · rw [getN_map, putN_map, delN_map]
    · split
      · rw [delN_map]
      · rfl
theorem dkAll_map (E : List (Nat × Nat)) : ∀ (C : List DkCh) (M : List NmD), dkAll (M.map (mapE E)) (C.map (mapC E)) = (dkAll M C).map (mapE E)
  | [], _ => rfl
  | c :: C, M => by
    show dkAll (dkDo (M.map (mapE E)) (mapC E c)) (C.map (mapC E)) = (dkAll (dkDo M c) C).map (mapE E)
    rw [dkDo_map]
    exact dkAll_map E C _
theorem cpS_N (st : DkS) (E : List (Nat × Nat)) : (cpS st E).N = st.N.map (mapE E) := dkAll_map E st.C st.S
theorem dkDo_from {M : List NmD} {c : DkCh} {x : NmD} (h : x ∈ dkDo M c) : (∃ y ∈ M, y.f = x.f) ∨ c.f = x.f ∨ x.f = none := by
  have hd : ∀ {L : List NmD} {k : ByteArray}, x ∈ delN L k → x ∈ L := fun h => (List.mem_filter.1 h).1
  unfold dkDo at h
  split at h
  · rcases List.mem_cons.1 h with e | h
    · exact .inr (.inl (by rw [e]))
    · exact .inl ⟨x, hd h, rfl⟩
  · split at h
    · rcases List.mem_cons.1 (hd h) with e | h
      · cases hg : getN M c.n with
        | none => exact .inr (.inr (by rw [e, hg]))
        | some g => exact .inl ⟨_, getN_mem hg, by rw [e, hg]⟩
      · exact .inl ⟨x, hd h, rfl⟩
    · split at h
      · exact .inl ⟨x, hd h, rfl⟩
      · exact .inl ⟨x, h, rfl⟩
theorem dkAll_from : ∀ (C : List DkCh) {M : List NmD} {x : NmD}, x ∈ dkAll M C → (∃ y ∈ M, y.f = x.f) ∨ (∃ c ∈ C, c.f = x.f) ∨ x.f = none
  | [], M, x, h => .inl ⟨x, h, rfl⟩
  | c :: C, M, x, h => by
    rcases dkAll_from C (M := dkDo M c) h with ⟨y, hy, e⟩ | ⟨c', hc, e⟩ | e
    · rcases dkDo_from hy with ⟨z, hz, e2⟩ | e2 | e2
      · exact .inl ⟨z, hz, e2.trans e⟩
      · exact .inr (.inl ⟨c, List.mem_cons_self, e2.trans e⟩)
      · exact .inr (.inr (e ▸ e2))
    · exact .inr (.inl ⟨c', List.mem_cons_of_mem _ hc, e⟩)
    · exact .inr (.inr e)
/-- What is known of a copy. -/
structure CpOk (w : World) (h h' : DkH) (st : DkS) (E : List (Nat × Nat)) : Prop where
  ns : (E.map Prod.snd).Nodup
  src : ∀ p ∈ E, h.T p.1 = .fb
  new : ∀ p ∈ E, w.heap.size ≤ p.2 ∧ h'.T p.2 = .fb
  iA : ∀ k, k ≤ st.C.length → ∀ x ∈ dkAll st.S (st.C.take k), InE E x.f
theorem CyI.done {w wr : World} {d : Nat} {h : DkH} {st : DkS} {cb mb nb ns tw : Nat} {E : List (Nat × Nat)} {T : Nat → DkTg} {ao : Nat → Option Addr} {co : Nat → Nat} {a : Option Addr} {cc : Nat}
    (y : CyI w wr h st cb mb nb ns tw st.C.length E T ao co a cc) (m : DkM w d h st) : ∃ h', DkN w wr tw h' (cpS st E) ∧ CpOk w h h' st E := by
  have hs := y.s.d
  obtain ⟨T', hT'⟩ : ∃ T', T' = fun k => if k = tw then DkTg.head else if k = nb then DkTg.nm else if k = ns then DkTg.sm else if a.map (·.block) = some k then DkTg.ch else T k := ⟨_, rfl⟩
  have eA : ∀ x, a = some x → T' x.block = .ch := fun x hx => by
    have ho := y.off x hx
    rw [hT']; simp only
    rw [if_neg ho.2.2.2.2.1, if_neg ho.2.2.1, if_neg ho.2.2.2.1, if_pos (by rw [hx]; rfl)]
  have eK : ∀ k, T k ≠ .out → T' k = T k := fun k hk => by
    rw [hT']; simp only
    rw [if_neg (fun (e : k = tw) => hk (e ▸ y.tt)), if_neg (fun (e : k = nb) => hk (e ▸ y.tn)), if_neg (fun (e : k = ns) => hk (e ▸ y.ts)), if_neg (fun e => by
      obtain ⟨x, hx, e2⟩ := some_block e
      exact hk (e2 ▸ (y.off x hx).2.2.2.2.2.1))]
  have eN : ∀ k, T' k ≠ .out → k = tw ∨ k = nb ∨ k = ns ∨ (∃ x, a = some x ∧ x.block = k) ∨ T k ≠ .out := fun k hk => by
    rw [hT'] at hk; simp only at hk
    split at hk
    · exact .inl (by assumption)
    · split at hk
      · exact .inr (.inl (by assumption))
      · split at hk
        · exact .inr (.inr (.inl (by assumption)))
        · split at hk
          · rename_i e; exact .inr (.inr (.inr (.inl (some_block e))))
          · exact .inr (.inr (.inr (.inr hk)))
  have eF : ∀ k, T' k = .fb → T k = .fb := fun k hk => by
    by_cases hT : T k = .out
    · rw [hT'] at hk; simp only at hk
      split at hk
      · cases hk
      · split at hk
        · cases hk
        · split at hk
          · cases hk
          · split at hk
            · cases hk
            · exact hk
    · rw [← eK k hT]; exact hk
  have hwz := y.c.t.size
  have htk : st.C.take st.C.length = st.C := List.take_length
  have iA : ∀ k, k ≤ st.C.length → ∀ x ∈ dkAll st.S (st.C.take k), InE E x.f := fun k hk x hx => by
    obtain ⟨_, _, g, eg, hg⟩ := (m.good k hk).ref x hx
    rcases dkAll_from _ hx with ⟨z, hz, e⟩ | ⟨c, hc, e⟩ | e
    · rw [← e]; exact y.iS z hz
    · rcases y.iC c (by rw [htk]; exact List.mem_of_mem_take hc) with h1 | h1
      · rw [← e, h1] at eg; cases eg
      · rw [← e]; exact h1
    · rw [e] at eg; cases eg
  refine ⟨⟨nb, ns, a, cc, ao, co, T'⟩, ⟨⟨?_, ?_, y.oS, ?_, ?_, ?_, ?_, ?_, fun x hx => eA x hx, ?_, ?_, ?_, ?_, m.quota, m.fails⟩, y.c.t, ?_⟩, ⟨y.c.ns, y.c.src, fun p hp => ?_, iA⟩⟩
  · show wr.heap[tw]? = some (.cells #[.int .i64 st.q, .map (some nb), .map (some ns), .slice a (st.C.map (mapC E)).length cc, .int .i64 st.ops, .int .i64 st.fail] _ (0, 0))
    rw [List.length_map]; exact y.hd
  · rw [cpS_N]; exact y.oN
  · show OwnS wr 0 _ 4 (.slice a (st.C.map (mapC E)).length cc) _
    rw [List.length_map]
    have := y.ow
    rw [htk] at this
    exact this
  · intro g hg
    obtain ⟨p, hp, rfl⟩ := y.c.only g (eF g hg)
    obtain ⟨h1, h2⟩ := y.c.files p hp
    show DkFile wr p.2 (cpF st.F E p.2) (ao p.2) (co p.2) T'
    rw [cpF_new y.c.ns hp]
    exact ⟨h2.head, h2.own, h2.len, h2.sure, fun z hz => by rw [eK _ (by rw [h2.arr z hz]; simp)]; exact h2.arr z hz⟩
  · show T' tw = .head
    rw [hT']; simp
  · show T' nb = .nm
    rw [hT']; simp only
    rw [if_neg (by omega), if_pos trivial]
  · show T' ns = .sm
    rw [hT']; simp only
    rw [if_neg (by omega), if_neg (by omega), if_pos trivial]
  · intro k hk
    rcases eN k hk with rfl | rfl | rfl | ⟨x, hx, rfl⟩ | h1
    · exact heap_lt y.hd
    · exact y.oN.lt
    · exact y.oS.lt
    · subst hx; exact (y.ow.own.lt x.block rfl).2
    · exact (y.c.foot k h1).2
  · intro k hk
    have hk : k ≤ (st.C.map (mapC E)).length := hk
    rw [List.length_map] at hk
    show DkGood T' (dkAll (st.S.map (mapE E)) ((st.C.map (mapC E)).take k))
    rw [← List.map_take, dkAll_map]
    have g := m.good k hk
    refine ⟨by rw [List.length_map]; exact g.len, by rw [mapE_n]; exact g.nd, fun x hx => ?_⟩
    obtain ⟨z, hz, rfl⟩ := List.mem_map.1 hx
    obtain ⟨h1, h2, -⟩ := g.ref z hz
    refine ⟨h1, h2, ?_⟩
    obtain ⟨g1, e1, hs1⟩ := iA k hk z hz
    obtain ⟨b, hb⟩ := Option.isSome_iff_exists.1 hs1
    refine ⟨b, by show z.f.bind (lookE E) = some b; rw [e1]; exact hb, ?_⟩
    have h3 := (y.c.files _ (lookE_mem hb)).1
    show T' b = .fb
    rw [eK b (by rw [h3]; simp)]; exact h3
  · intro c hc
    obtain ⟨z, hz, rfl⟩ := List.mem_map.1 hc
    exact m.chok z hz
  · intro c hc
    obtain ⟨z, hz, rfl⟩ := List.mem_map.1 hc
    exact m.kinds z hz
  · intro k hk
    rcases eN k hk with rfl | rfl | rfl | ⟨x, hx, rfl⟩ | h1
    · exact y.s.n.2.2
    · exact y.s.n.1
    · exact y.s.n.2.1
    · exact (y.off x hx).2.2.2.2.2.2
    · exact (y.c.foot k h1).1
  · have h3 := (y.c.files p hp).1
    exact ⟨(y.c.foot _ (by rw [h3]; simp)).1, by show T' p.2 = .fb; rw [eK _ (by rw [h3]; simp)]; exact h3⟩
end Go.Proofs.Ytmokcfmlolohaaa

end

section
/- The disk's Copy. -/
set_option linter.unusedVariables false
set_option linter.unusedSimpArgs false
namespace Go.Proofs.Ytmokcfmlolohaaa
open Go.RowKit

theorem enterP_names (a b : Value) (w : World) : (callFunc 58 #[a, b]).run Try.prog w = .ok (.enter 58 #[a, b]) w := by kernel_rfl
set_option maxRecDepth 20000 in
set_option maxHeartbeats 32000000 in
theorem dcopy_any (w : World) (d : Nat) (h : DkH) (st : DkS) (m : DkM w d h st) (hco : ∀ c ∈ st.C, c.k = 0 ∨ c.f = none) (hCl : st.C.length ≤ 100000) :
    Calls Try.prog 32 #[.pointer (some ⟨d, 0, none⟩)] w fun e w' => ∃ tw h' E, e = .returned (.pointer (some ⟨tw, 0, none⟩)) ∧ DkN w w' tw h' (cpS st E) ∧ CpOk w h h' st E := by
  have hmk1 := run_makeMap (P := Try.prog) 92 w
  obtain ⟨W1, hW1⟩ : ∃ W, w.alloc (.map #[] 0) = W := ⟨_, rfl⟩
  obtain ⟨W2, hW2⟩ : ∃ W, W1.alloc (.cells #[.map (some w.heap.size)] 94) = W := ⟨_, rfl⟩
  have s1 : W1.heap.size = w.heap.size + 1 := by rw [← hW1]; simp
  have s2 : W2.heap.size = w.heap.size + 2 := by rw [← hW2]; simp; omega
  have t1 : Touch w W1 (fun _ => False) := hW1 ▸ (Touch.refl w _).alloc _
  have t2 : Touch W1 W2 (fun _ => False) := hW2 ▸ (Touch.refl W1 _).alloc _
  have p1 : PtM W1 w.heap.size [] := hW1 ▸ PtM.made w
  have g2 : W2.heap[W1.heap.size]? = some (.cells #[.map (some w.heap.size)] 94 (0, 0)) := hW2 ▸ heap_alloc_new ..
  obtain ⟨mb, hmb⟩ : ∃ mb, w.heap.size = mb := ⟨_, rfl⟩
  obtain ⟨cb, hcb⟩ : ∃ cb, W1.heap.size = cb := ⟨_, rfl⟩
  have cp2 : CpM w W2 h st.F cb mb [] (fun _ => .out) (fun _ => none) (fun _ => 0) := ⟨by rw [← hcb, ← hmb]; exact g2, by rw [← hmb]; exact p1.still t2, by simp, (fun p hp => by cases hp), (fun p hp => by cases hp), (fun k hk => by cases hk), (fun k hk => absurd rfl hk), rfl, rfl, by omega, by omega, by omega, t1.trans t2 (fun _ _ h => h)⟩
  have t12 := t1.trans t2 (fun _ _ h => h)
  have hdm : d ≠ mb := by have := heap_lt m.head; omega
  have hmn : h.mn < w.heap.size := m.nm.lt
  have hms : h.ms < w.heap.size := m.sm.lt
  have hsx : ∀ M : List NmD, DkGood h.T M → ∀ x ∈ M, szN x.n ∧ ∃ g, x.f = some g ∧ h.T g = .fb ∧ DkFile w g (st.F g) (h.ao g) (h.co g) h.T := fun M hM x hx => by
    obtain ⟨_, h2, g, e1, e2⟩ := hM.ref x hx
    exact ⟨by unfold szN; omega, g, e1, e2, m.files g e2⟩
  have HC1 : RowKit.Hid (∀ W, Touch W2 W (fun _ => False) → Calls Try.prog 58 #[.pointer (some ⟨cb, 0, none⟩), .map (some h.mn)] W fun e w' => ∃ nb E' T' ao' co', e = .returned (.map (some nb)) ∧ CnTo w W w' h st.F cb mb [] (fun _ => .out) st.N nb E' T' ao' co') := Lib.hid (fun W t => cnames_any w W h st.F cb mb [] _ _ _ (cp2.still t) h.mn st.N (m.nm.still (t12.trans t (fun _ _ h => h))) hmn m.goodN.len m.goodN.nd m.lt (hsx _ m.goodN))
  have HC2 : RowKit.Hid (∀ W E T ao co, CpM w W h st.F cb mb E T ao co → Calls Try.prog 58 #[.pointer (some ⟨cb, 0, none⟩), .map (some h.ms)] W fun e w' => ∃ nb E' T' ao' co', e = .returned (.map (some nb)) ∧ CnTo w W w' h st.F cb mb E T st.S nb E' T' ao' co') := Lib.hid (fun W E T ao co c => cnames_any w W h st.F cb mb E T ao co c h.ms st.S (m.sm.still c.t) hms m.goodS.len m.goodS.nd m.lt (hsx _ m.goodS))
  have HDC : RowKit.Hid (∀ W, Touch W2 W (fun k => k = mb) → W.cell? ⟨d, 0, none⟩ = some (.int .i64 st.q) ∧ W.cell? ⟨d, 1, none⟩ = some (.map (some h.mn)) ∧ W.cell? ⟨d, 2, none⟩ = some (.map (some h.ms)) ∧ W.cell? ⟨d, 4, none⟩ = some (.int .i64 st.ops) ∧ W.cell? ⟨d, 5, none⟩ = some (.int .i64 st.fail)) := Lib.hid (fun W t => by
    have hd := t.keeps (t12.keeps m.head (fun h => h)) hdm
    exact ⟨cell_of_cells hd 0, cell_of_cells hd 1, cell_of_cells hd 2, cell_of_cells hd 4, cell_of_cells hd 5⟩)
  have HSZ : RowKit.Hid (w.heap.size ≤ W2.drew.heap.size ∧ cb < W2.drew.heap.size ∧ mb < W2.drew.heap.size) := Lib.hid (by
    have e : W2.drew.heap.size = W2.heap.size := rfl
    rw [e]; omega)
  have HM := Lib.hid m
  have HCO := Lib.hid hco
  have HCL := Lib.hid hCl
  have HW1 := Lib.hid hW1
  have HW2 := Lib.hid hW2
  have HMB := Lib.hid hmb
  have HCB := Lib.hid hcb
  rw [hW1, hmb] at hmk1
  clear m hco hCl hW1 hW2 s1 s2 t1 t2 p1 g2 hmb hcb cp2 t12 hdm hmn hms hsx
  go_enter Try.func32, Try.ntmps32
  go_upto_region 4 with (fail)
  (try rw [HMB.out] at HW2)
  (try rw [HW2.out]); (try rw [HCB.out])
  clear hmk1
  have hS := (Touch.refl W2 (fun k => k = mb)).drew
  refine wp_region_tree (fun w' => Touch W2 w' (fun k => k = mb)) (.take 0 (.take 1 (.take 2 (.take 3 (.take 4 (.take 5 (.take 6 (.take 7 (.take 8 (.take 10 (.take 11 (.take 12 (.take 13 (.take 14 (.take 16 (.take 17 (.take 18 (.take 19 (.take 20 (.take 21 (.take 22 (.take 23 (.one 9 (.one 15 (.take 24 (.one 25 (.take 26 .fin))))))))))))))))))))))))))) (by kernel_rfl) (by kernel_rfl) (by kernel_rfl) (by kernel_rfl) hS ?_
  refine walkT_take ?_
  (refine takeN_take (v := ?_) (some 12) rfl rfl (fun _ _ _ h => h) (by rfl) ?_ ?_; rotate_left; (focus (intro w' hw'; obtain ⟨k0, k1, k2, k4, k5⟩ := HDC.out w' hw'; go_simp; (try with_reducible rfl))); (try simp only [Act.put, List.setIfInBounds_toArray, List.set_cons_zero, List.set_cons_succ]))
  refine walkT_take ?_
  (refine takeN_take (v := ?_) (some 13) rfl rfl (fun _ _ _ h => h) (by rfl) ?_ ?_; rotate_left; (focus (intro w' hw'; obtain ⟨k0, k1, k2, k4, k5⟩ := HDC.out w' hw'; go_simp; (try with_reducible rfl))); (try simp only [Act.put, List.setIfInBounds_toArray, List.set_cons_zero, List.set_cons_succ]))
  refine walkT_take ?_
  (refine takeN_take (v := ?_) (some 14) rfl rfl (fun _ _ _ h => h) (by rfl) ?_ ?_; rotate_left; (focus (intro w' hw'; obtain ⟨k0, k1, k2, k4, k5⟩ := HDC.out w' hw'; go_simp; (try with_reducible rfl))); (try simp only [Act.put, List.setIfInBounds_toArray, List.set_cons_zero, List.set_cons_succ]))
  refine walkT_take ?_
  (refine takeN_take (v := ?_) (some 15) rfl rfl (fun _ _ _ h => h) (by rfl) ?_ ?_; rotate_left; (focus (intro w' hw'; obtain ⟨k0, k1, k2, k4, k5⟩ := HDC.out w' hw'; go_simp; (try with_reducible rfl))); (try simp only [Act.put, List.setIfInBounds_toArray, List.set_cons_zero, List.set_cons_succ]))
  refine walkT_take ?_
  (refine takeN_take (v := ?_) (some 16) rfl rfl (fun _ _ _ h => h) (by rfl) ?_ ?_; rotate_left; (focus (intro w' hw'; obtain ⟨k0, k1, k2, k4, k5⟩ := HDC.out w' hw'; go_simp; (try with_reducible rfl))); (try simp only [Act.put, List.setIfInBounds_toArray, List.set_cons_zero, List.set_cons_succ]))
  refine walkT_take ?_
  (refine takeN_take (v := ?_) (some 17) rfl rfl (fun _ _ _ h => h) (by rfl) ?_ ?_; rotate_left; (focus (intro w' hw'; obtain ⟨k0, k1, k2, k4, k5⟩ := HDC.out w' hw'; go_simp; (try with_reducible rfl))); (try simp only [Act.put, List.setIfInBounds_toArray, List.set_cons_zero, List.set_cons_succ]))
  refine walkT_take ?_
  (refine takeN_take (v := ?_) (some 18) rfl rfl (fun _ _ _ h => h) (by rfl) ?_ ?_; rotate_left; (focus (intro w' hw'; obtain ⟨k0, k1, k2, k4, k5⟩ := HDC.out w' hw'; go_simp; (try with_reducible rfl))); (try simp only [Act.put, List.setIfInBounds_toArray, List.set_cons_zero, List.set_cons_succ]))
  refine walkT_take ?_
  (refine takeN_take (v := ?_) (some 19) rfl rfl (fun _ _ _ h => h) (by rfl) ?_ ?_; rotate_left; (focus (intro w' hw'; obtain ⟨k0, k1, k2, k4, k5⟩ := HDC.out w' hw'; go_simp; (try with_reducible rfl))); (try simp only [Act.put, List.setIfInBounds_toArray, List.set_cons_zero, List.set_cons_succ]))
  refine walkT_take ?_
  (refine takeN_take (v := ?_) (some 20) rfl rfl (fun _ _ _ h => h) (by rfl) ?_ ?_; rotate_left; (focus (intro w' hw'; obtain ⟨k0, k1, k2, k4, k5⟩ := HDC.out w' hw'; go_simp; (try with_reducible rfl))); (try simp only [Act.put, List.setIfInBounds_toArray, List.set_cons_zero, List.set_cons_succ]))
  refine walkT_take ?_
  (refine takeN_take (v := ?_) (some 22) rfl rfl (fun _ _ _ h => h) (by rfl) ?_ ?_; rotate_left; (focus (intro w' hw'; obtain ⟨k0, k1, k2, k4, k5⟩ := HDC.out w' hw'; go_simp; (try with_reducible rfl))); (try simp only [Act.put, List.setIfInBounds_toArray, List.set_cons_zero, List.set_cons_succ]))
  refine walkT_take ?_
  (refine takeN_take (v := ?_) (some 23) rfl rfl (fun _ _ _ h => h) (by rfl) ?_ ?_; rotate_left; (focus (intro w' hw'; obtain ⟨k0, k1, k2, k4, k5⟩ := HDC.out w' hw'; go_simp; (try with_reducible rfl))); (try simp only [Act.put, List.setIfInBounds_toArray, List.set_cons_zero, List.set_cons_succ]))
  refine walkT_take ?_
  (refine takeN_take (v := ?_) (some 24) rfl rfl (fun _ _ _ h => h) (by rfl) ?_ ?_; rotate_left; (focus (intro w' hw'; obtain ⟨k0, k1, k2, k4, k5⟩ := HDC.out w' hw'; go_simp; (try with_reducible rfl))); (try simp only [Act.put, List.setIfInBounds_toArray, List.set_cons_zero, List.set_cons_succ]))
  refine walkT_take ?_
  (refine takeN_take (v := ?_) (some 25) rfl rfl (fun _ _ _ h => h) (by rfl) ?_ ?_; rotate_left; (focus (intro w' hw'; obtain ⟨k0, k1, k2, k4, k5⟩ := HDC.out w' hw'; go_simp; (try with_reducible rfl))); (try simp only [Act.put, List.setIfInBounds_toArray, List.set_cons_zero, List.set_cons_succ]))
  refine walkT_take ?_
  (refine takeN_take (v := ?_) (some 26) rfl rfl (fun _ _ _ h => h) (by rfl) ?_ ?_; rotate_left; (focus (intro w' hw'; obtain ⟨k0, k1, k2, k4, k5⟩ := HDC.out w' hw'; go_simp; (try with_reducible rfl))); (try simp only [Act.put, List.setIfInBounds_toArray, List.set_cons_zero, List.set_cons_succ]))
  refine walkT_take ?_
  (refine takeN_take (v := ?_) (some 28) rfl rfl (fun _ _ _ h => h) (by rfl) ?_ ?_; rotate_left; (focus (intro w' hw'; obtain ⟨k0, k1, k2, k4, k5⟩ := HDC.out w' hw'; go_simp; (try with_reducible rfl))); (try simp only [Act.put, List.setIfInBounds_toArray, List.set_cons_zero, List.set_cons_succ]))
  refine walkT_take ?_
  (refine takeN_take (v := ?_) (some 29) rfl rfl (fun _ _ _ h => h) (by rfl) ?_ ?_; rotate_left; (focus (intro w' hw'; obtain ⟨k0, k1, k2, k4, k5⟩ := HDC.out w' hw'; go_simp; (try with_reducible rfl))); (try simp only [Act.put, List.setIfInBounds_toArray, List.set_cons_zero, List.set_cons_succ]))
  refine walkT_take ?_
  (refine takeN_take (v := ?_) (some 30) rfl rfl (fun _ _ _ h => h) (by rfl) ?_ ?_; rotate_left; (focus (intro w' hw'; obtain ⟨k0, k1, k2, k4, k5⟩ := HDC.out w' hw'; go_simp; (try with_reducible rfl))); (try simp only [Act.put, List.setIfInBounds_toArray, List.set_cons_zero, List.set_cons_succ]))
  refine walkT_take ?_
  (refine takeN_take (v := ?_) (some 31) rfl rfl (fun _ _ _ h => h) (by rfl) ?_ ?_; rotate_left; (focus (intro w' hw'; obtain ⟨k0, k1, k2, k4, k5⟩ := HDC.out w' hw'; go_simp; (try with_reducible rfl))); (try simp only [Act.put, List.setIfInBounds_toArray, List.set_cons_zero, List.set_cons_succ]))
  refine walkT_take ?_
  (refine takeN_take (v := ?_) (some 32) rfl rfl (fun _ _ _ h => h) (by rfl) ?_ ?_; rotate_left; (focus (intro w' hw'; obtain ⟨k0, k1, k2, k4, k5⟩ := HDC.out w' hw'; go_simp; (try with_reducible rfl))); (try simp only [Act.put, List.setIfInBounds_toArray, List.set_cons_zero, List.set_cons_succ]))
  refine walkT_take ?_
  (refine takeN_take (v := ?_) (some 33) rfl rfl (fun _ _ _ h => h) (by rfl) ?_ ?_; rotate_left; (focus (intro w' hw'; obtain ⟨k0, k1, k2, k4, k5⟩ := HDC.out w' hw'; go_simp; (try with_reducible rfl))); (try simp only [Act.put, List.setIfInBounds_toArray, List.set_cons_zero, List.set_cons_succ]))
  refine walkT_take ?_
  (refine takeN_take (v := ?_) (some 34) rfl rfl (fun _ _ _ h => h) (by rfl) ?_ ?_; rotate_left; (focus (intro w' hw'; obtain ⟨k0, k1, k2, k4, k5⟩ := HDC.out w' hw'; go_simp; (try with_reducible rfl))); (try simp only [Act.put, List.setIfInBounds_toArray, List.set_cons_zero, List.set_cons_succ]))
  refine walkT_take ?_
  (refine takeN_take (v := ?_) (some 35) rfl rfl (fun _ _ _ h => h) (by rfl) ?_ ?_; rotate_left; (focus (intro w' hw'; obtain ⟨k0, k1, k2, k4, k5⟩ := HDC.out w' hw'; go_simp; (try with_reducible rfl))); (try simp only [Act.put, List.setIfInBounds_toArray, List.set_cons_zero, List.set_cons_succ]))
  refine walkT_one ?_
  (refine runN_call 21 _ _ _ _ (HC1.out _ ((Touch.refl W2 (fun _ => False)).drew)) rfl rfl rfl (by rfl) rfl (enterP_names _ _ _) ?_; rintro e w3 ⟨nb, E1, T1, ao1, co1, rfl, cn1⟩; have hS := hS.trans cn1.t (fun _ _ h => h); have HN1 := Lib.hid cn1; refine ⟨_, rfl, hS, fun hS => ?_⟩; clear cn1; (try simp only [Act.put, List.setIfInBounds_toArray, List.set_cons_zero, List.set_cons_succ]))
  refine walkT_one ?_
  (refine runN_call 27 _ _ _ _ (HC2.out _ _ _ _ _ HN1.out.c) rfl rfl rfl (by rfl) rfl (enterP_names _ _ _) ?_; rintro e w4 ⟨ns, E2, T2, ao2, co2, rfl, cn2⟩; have hS := hS.trans cn2.t (fun _ _ h => h); have HN2 := Lib.hid cn2; refine ⟨_, rfl, hS, fun hS => ?_⟩; clear cn2; (try simp only [Act.put, List.setIfInBounds_toArray, List.set_cons_zero, List.set_cons_succ]))
  refine walkT_take ?_
  (refine takeN_take (v := ?_) (some 36) rfl rfl (fun _ _ _ h => h) (by rfl) ?_ ?_; rotate_left; (focus (intro w' hw'; obtain ⟨k0, k1, k2, k4, k5⟩ := HDC.out w' hw'; go_simp; (try with_reducible rfl))); (try simp only [Act.put, List.setIfInBounds_toArray, List.set_cons_zero, List.set_cons_succ]))
  refine walkT_one ?_
  (refine runN_new 37 (fun W => .pointer (some ⟨W.heap.size, 0, none⟩)) #[.int .i64 st.q, .map (some nb), .map (some ns), .slice none 0 0, .int .i64 st.ops, .int .i64 st.fail] 65 rfl rfl (by rfl) (by intro W; go_simp <;> first | with_reducible rfl | rfl | exact ⟨rfl, rfl⟩) ?_; intro w5 hw5 hM5 hs5 t5; have hS := hS.trans t5 (fun _ _ h => h.elim); refine ⟨hS, fun hS => ?_⟩; have HY := Lib.hid (CyI.start HN1.out HN2.out HSZ.out.1 HSZ.out.2.1 HSZ.out.2.2 t5 hM5); clear hw5 hM5 hs5 t5; (try simp only [Act.put, List.setIfInBounds_toArray, List.set_cons_zero, List.set_cons_succ]))
  refine walkT_take ?_
  (refine takeN_take (v := ?_) (some 4) rfl rfl (fun _ _ _ h => h) (by rfl) ?_ ?_; rotate_left; (focus (intro w' hw'; obtain ⟨k0, k1, k2, k4, k5⟩ := HDC.out w' hw'; go_simp; (try with_reducible rfl))); (try simp only [Act.put, List.setIfInBounds_toArray, List.set_cons_zero, List.set_cons_succ]))
  refine walkT_fin ?_
  obtain ⟨tw, htw⟩ : ∃ tw, w4.heap.size = tw := ⟨_, rfl⟩
  rw [htw] at HY ⊢
  have HD5 : RowKit.Hid (w5.cell? ⟨d, 3, none⟩ = some (.slice h.ac st.C.length h.cc)) := Lib.hid (cell_of_cells (HY.out.c.t.keeps HM.out.head (fun h => h)) 3)
  obtain ⟨w6, hw6⟩ : ∃ W, W = w5 := ⟨_, rfl⟩
  rw [← hw6] at HY HD5 ⊢
  clear hw6 htw
  have x3 := HD5.out
  obtain ⟨-, hr, -⟩ := HM.out.ch.row'
  have hcap := hr.hcap
  have hmax := hr.hmax
  have HR := Lib.hid hr
  obtain ⟨N, hN⟩ : ∃ N, st.C.length = N := ⟨_, rfl⟩
  rw [hN] at x3 hcap
  have HNN := Lib.hid hN
  clear hr hN
  go_wp2_with fail
  go_loopw [43] (fun s43 wr => ∃ (k : Nat) (E : List (Nat × Nat)) (T : Nat → DkTg) (ao : Nat → Option Addr) (co : Nat → Nat) (a : Option Addr) (cp : Nat), k ≤ st.C.length ∧ s43 = .int .i64 k ∧ CyI w wr h st cb mb nb ns tw k E T ao co a cp) (fun s43 _ => N - (RowKit.intOf s43).toNat)
  case atStart => exact ⟨0, _, _, _, _, _, _, Nat.zero_le _, rfl, HY.out⟩
  case round =>
    obtain ⟨k, E, T, ao, co, a, cp, hk, rfl, hy⟩ := hrel
    have HY := Lib.hid hy
    clear hy x3 HD5
    by_cases hlt : k < N
    case neg =>
      have HKE : RowKit.Hid (k = st.C.length) := Lib.hid (by have := HNN.out; omega)
      go_wp2_with fail
      go_ret
      have hy := HY.out
      rw [HKE.out] at hy
      obtain ⟨h', n', o'⟩ := hy.done HM.out
      exact ⟨tw, h', E, rfl, n', o'⟩
    case pos =>
      have hlI : (k : Int) < N := by omega
      have hkN : k < st.C.length := by have := HNN.out; omega
      have hr := HR.out.still HY.out.c.t
      obtain ⟨b, off, hac⟩ := hr.some (by omega)
      have hkL : k < (st.C.map dkl).length := by simpa using hkN
      rw [hac] at hr
      have e0 : (st.C.map dkl)[k] = dkl st.C[k] := by simp
      have p0 := RowS.cell hr k hkL 0 (.int .i64 st.C[k].k) (by rw [e0]; rfl)
      have p1 := RowS.cell hr k hkL 1 (.string st.C[k].n) (by rw [e0]; rfl)
      have p2 := RowS.cell hr k hkL 2 (.string st.C[k].tn) (by rw [e0]; rfl)
      have p3 := RowS.cell hr k hkL 3 (pvN st.C[k].f) (by rw [e0]; rfl)
      rw [Nat.add_zero] at p0
      have hsrc : ∀ g, st.C[k].f = some g → h.T g = .fb ∧ DkFile w g (st.F g) (h.ao g) (h.co g) h.T := fun g hg => by
        have hgood := HM.out.good (k + 1) (by omega)
        rw [List.take_succ_eq_append_getElem hkN, dkAll_snoc] at hgood
        rcases HCO.out _ (List.getElem_mem hkN) with h0 | h0
        · have hm : (⟨st.C[k].n, st.C[k].f⟩ : NmD) ∈ dkDo (dkAll st.S (st.C.take k)) st.C[k] := by
            unfold dkDo putN
            rw [if_pos h0]; exact List.mem_cons_self
          obtain ⟨_, _, g', e1, e2⟩ := hgood.ref _ hm
          simp only at e1
          rw [hg] at e1
          cases e1
          exact ⟨e2, HM.out.files g e2⟩
        · rw [h0] at hg; cases hg
      obtain ⟨c, hc⟩ : ∃ c, st.C[k] = c := ⟨_, rfl⟩
      have HCE := Lib.hid hc
      have HKN := Lib.hid hkN
      rw [hc] at p0 p1 p2 p3 hsrc
      obtain ⟨W4, hW4⟩ : ∃ W, wr.alloc (.cells (dka c) 88) = W := ⟨_, rfl⟩
      obtain ⟨B4, hB4⟩ : ∃ B, wr.heap.size = B := ⟨_, rfl⟩
      have g4 : W4.heap[B4]? = some (.cells (dka c) 88 (0, 0)) := hB4 ▸ hW4 ▸ heap_alloc_new ..
      have t4 : Touch wr W4 (fun _ => False) := hW4 ▸ (Touch.refl wr _).alloc _
      have s4 : W4.heap.size = B4 + 1 := by rw [← hW4, ← hB4]; simp
      have y4 := HY.out.still t4
      have HFL := Lib.hid (cfile_any w W4 h st.F cb mb E T ao co y4.c c.f hsrc)
      have hBT : T B4 = .out := by
        cases hT : T B4 with
        | out => rfl
        | _ => have := (HY.out.c.foot B4 (by rw [hT]; simp)).2; omega
      have hBS : B4 ≠ cb ∧ B4 ≠ mb ∧ B4 ≠ nb ∧ B4 ≠ ns ∧ B4 ≠ tw ∧ w.heap.size ≤ B4 ∧ (∀ z, a = some z → z.block ≠ B4) := by
        have e1 := heap_lt HY.out.c.head
        have e2 := HY.out.c.map.lt
        have e3 := HY.out.oN.lt
        have e4 := HY.out.oS.lt
        have e5 := heap_lt HY.out.hd
        have e6 := HY.out.c.t.size
        refine ⟨by omega, by omega, by omega, by omega, by omega, by omega, fun z hz => ?_⟩
        subst hz
        have := (HY.out.ow.own.lt z.block rfl).2
        omega
      have y3 : W4.cell? ⟨B4, 3, none⟩ = some (pvN c.f) := cell_of_cells g4 3
      have HBS := Lib.hid hBS
      have HBT := Lib.hid hBT
      have HG4 := Lib.hid g4
      have HS4 := Lib.hid s4
      have HY4 := Lib.hid y4
      have hwk : wrap64 ((k : Int) + 1) = (k : Int) + 1 := by unfold wrap64; omega
      have HWK := Lib.hid hwk
      have HW4 := Lib.hid hW4
      have HB4 := Lib.hid hB4
      have HKB : RowKit.Hid (k ≤ 100000) := Lib.hid (by have := HCL.out; omega)
      obtain ⟨ck, cn, cm, cf⟩ := c
      simp only at p0 p1 p2 p3 y3 HFL
      simp only [dka, pvN] at HW4 p3 y3 HFL
      obtain ⟨xf, hxf⟩ : ∃ x, cf.map (fun b => (⟨b, 0, none⟩ : Addr)) = x := ⟨_, rfl⟩
      rw [hxf] at HW4 p3 y3 HFL
      rw [hac]
      clear hr e0 hsrc hc g4 t4 s4 y4 hBT hBS hW4 hB4 hwk hkL
      go_upto_region 8 with (fail)
      rw [HW4.out, HB4.out]
      clear p0 p1 p2 p3 HW4
      go_wp2_with fail
      refine HFL.out.mono ?_
      rintro e w6 ⟨E6, rfl, hto, hse⟩
      obtain ⟨T6, ao6, co6, y6, eT⟩ := HY4.out.file hto
      obtain ⟨t6, D6, hD6⟩ : ∃ (t6 : Touch W4 w6 (fun x => x = mb)) (D : List (Nat × Nat)), E6 = E ++ D := by
        obtain ⟨_, _, _, _, t6, _, _, D, hD⟩ := hto
        exact ⟨t6, D, hD⟩
      have HIN : RowKit.Hid (st.C[k]'hkN |>.f |> fun o => o = none ∨ InE E6 o) := Lib.hid (by
        rw [HCE.out]
        cases cf with
        | none => exact .inl rfl
        | some g => exact .inr ⟨g, rfl, hse g rfl⟩)
      have g6 := t6.keeps HG4.out (fun e => HBS.out.2.1 e)
      obtain ⟨u, hu⟩ : ∃ u, (cf.bind (lookE E6)).map (fun b => (⟨b, 0, none⟩ : Addr)) = u := ⟨_, rfl⟩
      rw [hu]
      have g7 := heap_setCell_same w6 B4 3 _ _ (.pointer u) g6
      have f6 := free_of_cells g6 3
      have x6 := cell_of_cells g6 3
      obtain ⟨W7, hW7⟩ : ∃ W, w6.setCell ⟨B4, 3, none⟩ (.pointer u) = W := ⟨_, rfl⟩
      rw [hW7] at g7
      have t7 : Touch w6 W7 (fun x => x = B4) := hW7 ▸ (Touch.refl w6 _).into 3 _
      have hTB : T6 B4 = .out := eT B4 (by have := HS4.out; omega) HBT.out
      have y7 := y6.touch t7 HM.out.lt (fun x e => by
        have e : x = B4 := e
        have hb := HBS.out
        subst e
        exact ⟨hb.2.2.2.2.2.1, hb.1, hb.2.1, hb.2.2.1, hb.2.2.2.1, hb.2.2.2.2.1, hTB, hb.2.2.2.2.2.2⟩)
      obtain ⟨c2, hc2⟩ : ∃ c2 : DkCh, c2 = ⟨ck, cn, cm, cf.bind (lookE E6)⟩ := ⟨_, rfl⟩
      have g7 : W7.heap[B4]? = some (.cells (dka c2) 88 (0, 0)) := by rw [hc2]; unfold dka pvN; rw [hu]; exact g7
      have HEC : RowKit.Hid (c2 = mapC E6 (st.C[k]'hkN)) := Lib.hid (by rw [HCE.out, hc2]; rfl)
      have hz6 := t6.size
      have hz7 := t7.size
      have hd7 := HBS.out
      have HB7S : RowKit.Hid (∀ W, Touch W7 W (fun x => x = tw ∨ (Value.slice a k cp).ownBlock = some x) → W.heap[B4]? = some (.cells (dka c2) 88 (0, 0))) := Lib.hid (fun W t => t.keeps g7 (fun e => by
        rcases e with e | e
        · exact HBS.out.2.2.2.2.1 e
        · obtain ⟨z, hz, e2⟩ := bown_block e
          exact HBS.out.2.2.2.2.2.2 z hz e2))
      have HHD := Lib.hid (((Touch.refl W7 (fun _ => False)).drew).keeps y7.hd (fun h => h))
      have HCH := Lib.hid (y7.ow.still ((Touch.refl W7 (fun _ => False)).drew))
      have HDCH : RowKit.Hid (¬ (Value.slice a k cp).ownBlock = some tw) := Lib.hid (fun e => by
        obtain ⟨z, hz, e2⟩ := bown_block e
        exact (y7.off z hz).2.2.2.2.1 e2)
      have HDL : RowKit.Hid (tw < W7.heap.size) := Lib.hid (heap_lt y7.hd)
      have HY7 := Lib.hid y7
      have HLK : RowKit.Hid ((((st.C.take k).map (mapC E6)).map dkl).length + 1 = k + 1) := Lib.hid (by have := HKN.out; simp; omega)
      have HW7 := Lib.hid hW7
      clear hto hse eT t6 hD6 g6 g7 hW7 t7 hTB y7 y6 hc2 hz6 hz7 hd7 hu y3 HFL
      go_upto_region 9 with (fail)
      rw [HW7.out]
      clear f6 x6 HW7
      have hS := (Touch.refl W7 (fun x => x = tw ∨ (Value.slice a k cp).ownBlock = some x)).drew
      refine wp_region_tree (fun w' => Touch W7 w' (fun x => x = tw ∨ (Value.slice a k cp).ownBlock = some x)) (.take 0 (.take 1 (.take 2 (.take 3 (.take 5 (.two 4 6 (.one 6 (.one 7 (.take 8 (.take 9 (.one 10 .fin))))) (.one 4 (.one 7 (.take 8 (.take 9 (.one 10 .fin))))))))))) (by kernel_rfl) (by kernel_rfl) (by kernel_rfl) (by kernel_rfl) hS ?_
      refine walkT_take ?_
      (refine takeN_take (v := ?_) (some 52) rfl rfl (fun _ _ _ h => h) (by rfl) ?_ ?_; rotate_left; (focus (intro w' hw'; go_simp; (try with_reducible rfl))); (try simp only [Act.put, List.setIfInBounds_toArray, List.set_cons_zero, List.set_cons_succ]))
      refine walkT_take ?_
      (refine takeN_take (v := ?_) (some 53) rfl rfl (fun _ _ _ h => h) (by rfl) ?_ ?_; rotate_left; (focus (intro w' hw'; go_simp; (try with_reducible rfl))); (try simp only [Act.put, List.setIfInBounds_toArray, List.set_cons_zero, List.set_cons_succ]))
      refine walkT_take ?_
      (refine takeN_take (v := ?_) (some 54) rfl rfl (fun _ _ _ h => h) (by rfl) ?_ ?_; rotate_left; (focus (intro w' hw'; go_simp; (try with_reducible rfl))); (try simp only [Act.put, List.setIfInBounds_toArray, List.set_cons_zero, List.set_cons_succ]))
      refine walkT_take ?_
      (refine takeN_take (v := ?_) (some 55) rfl rfl (fun _ _ _ h => h) (by rfl) ?_ ?_; rotate_left; (focus (intro w' hw'; go_simp; (try with_reducible rfl))); (try simp only [Act.put, List.setIfInBounds_toArray, List.set_cons_zero, List.set_cons_succ]))
      refine walkT_take ?_
      (refine takeN_row (some 57) rfl rfl 88 (.tmp 6) rfl (B4) rfl _ _ _ _ (fun w' h => HB7S.out w' h) Try.underlying88 rfl infoChange (fun _ _ _ h => h) (by rfl) ?_; (try simp only [Act.put, List.setIfInBounds_toArray, List.set_cons_zero, List.set_cons_succ]))
      refine walkT_two ?_ ?_
      · (have cc := cell_of_cells HHD.out 3; refine runN_do (v := .slice a k cp) (w' := _) (some 56) rfl rfl (by rfl) (by go_simp; (try with_reducible rfl)) hS (fun hS => ?_); clear cc; (try simp only [Act.put, List.setIfInBounds_toArray, List.set_cons_zero, List.set_cons_succ]))
        refine walkT_one ?_
        (refine runN_new 58 (fun W => .slice (some ⟨W.heap.size, 0, none⟩) 1 1) (dka c2) 88 rfl rfl (by rfl) (by intro W; go_simp <;> first | with_reducible rfl | rfl | exact ⟨rfl, rfl⟩) ?_; intro w8 hw8 hM8 hs8 t8; have hS := hS.trans t8 (fun _ _ h => h.elim); refine ⟨hS, fun _ => ?_⟩; have HNW := Lib.hid (show RowS w8 _ 1 1 4 [dkl c2] from hw8 ▸ row_oneC _ _); have HHD := Lib.hid (t8.keeps HHD.out (fun h => h)); have HCH := Lib.hid (HCH.out.still t8); clear hw8 hM8 hs8 t8; (try simp only [Act.put, List.setIfInBounds_toArray, List.set_cons_zero, List.set_cons_succ]))
        refine walkT_one ?_
        (refine runN_appS 59 (.tmp 56) (.tmp 58) _ rfl rfl rfl (by rfl) 88 Try.underlying63 (.agg #[.int .i64 0, .string ByteArray.empty, .string ByteArray.empty, .pointer none]) 4 48 infoChangeB rfl (by decide) 0 _ _ rfl HCH.out _ 1 1 _ rfl HNW.out (one_dkl c2) (k + 1) (((st.C.take k).map (mapC E6)).map dkl ++ [dkl c2]) rfl HLK.out (by have := HKB.out; simp only [maxLen]; omega) (by have := HKB.out; omega) (Nat.zero_le _) ?_; intro a2 c2' w9 how9 hg9 hp9; have t9 := (Touch.refl _ (fun x => (Value.slice a k cp).ownBlock = some x)).grown hg9 (fun x hx _ => hx); have HPL := Lib.hid (fun b hb => (hp9 b hb).imp (fun h => h) (fun hh => Nat.le_trans hS.size hh)); have hS := hS.trans t9 (fun x _ hx => .inr hx); refine ⟨hS, fun _ => ?_⟩; have HHD := Lib.hid (t9.keeps HHD.out (fun e => HDCH.out e)); have HCH := Lib.hid how9; clear how9 hg9 hp9 t9 HNW; (try simp only [Act.put, List.setIfInBounds_toArray, List.set_cons_zero, List.set_cons_succ]))
        refine walkT_take ?_
        (refine takeN_take (v := ?_) (some 60) rfl rfl (fun _ _ _ h => h) (by rfl) ?_ ?_; rotate_left; (focus (intro w' hw'; go_simp; (try with_reducible rfl))); (try simp only [Act.put, List.setIfInBounds_toArray, List.set_cons_zero, List.set_cons_succ]))
        refine walkT_take ?_
        (refine takeN_take (v := ?_) (some 61) rfl rfl (fun _ _ _ h => h) (by rfl) ?_ ?_; rotate_left; (focus (intro w' hw'; go_simp; (try with_reducible rfl))); (try simp only [Act.put, List.setIfInBounds_toArray, List.set_cons_zero, List.set_cons_succ]))
        refine walkT_one ?_
        (have cc := cell_of_cells HHD.out 3; have ff := free_of_cells HHD.out 3; refine runN_skip0 none rfl rfl (by rfl) (w' := World.setCell w9 ⟨tw, 3, none⟩ (.slice a2 (k + 1) c2')) (by go_simp; (try with_reducible rfl)) ?_ ?_; (exact hS.setCell _ _ (fun _ => .inl rfl)); clear cc ff; intro hS; have t6 := (Touch.refl w9 (fun x => x = tw)).setCell ⟨tw, 3, none⟩ (.slice a2 (k + 1) c2') (fun _ => rfl); have HHD := Lib.hid (heap_setCell_same _ tw 3 _ _ (.slice a2 (k + 1) c2') HHD.out); have HCH := Lib.hid (HCH.out.touch t6 (fun x hx e => by have e : x = tw := e; rcases HPL.out x hx with h1 | h1; exact HDCH.out (e ▸ h1); (have := HDL.out; omega))); clear t6; (try simp only [Act.put, List.setIfInBounds_toArray, List.set_cons_zero, List.set_cons_succ]))
        refine walkT_fin ?_
        have HY9 := Lib.hid (HY7.out.push HM.out.lt hkN HIN.out hS HHD.out (HEC.out ▸ HCH.out) HPL.out)
        have HX : RowKit.Hid (∃ (k' : Nat) (E : List (Nat × Nat)) (T : Nat → DkTg) (ao : Nat → Option Addr) (co : Nat → Nat) (a : Option Addr) (cp : Nat), k' ≤ st.C.length ∧ Value.int .i64 ((k : Int) + 1) = .int .i64 k' ∧ CyI w _ h st cb mb nb ns tw k' E T ao co a cp) := Lib.hid ⟨k + 1, _, _, _, _, _, _, by have := HKN.out; omega, by go_num, HY9.out⟩
        go_wp2_with fail
        try rw [HWK.out]
        go_roundw
        · exact HX.out
        · simp only [RowKit.intOf]; omega
      · (refine runN_new 58 (fun W => .slice (some ⟨W.heap.size, 0, none⟩) 1 1) (dka c2) 88 rfl rfl (by rfl) (by intro W; go_simp <;> first | with_reducible rfl | rfl | exact ⟨rfl, rfl⟩) ?_; intro w8 hw8 hM8 hs8 t8; have hS := hS.trans t8 (fun _ _ h => h.elim); refine ⟨hS, fun _ => ?_⟩; have HNW := Lib.hid (show RowS w8 _ 1 1 4 [dkl c2] from hw8 ▸ row_oneC _ _); have HHD := Lib.hid (t8.keeps HHD.out (fun h => h)); have HCH := Lib.hid (HCH.out.still t8); clear hw8 hM8 hs8 t8; (try simp only [Act.put, List.setIfInBounds_toArray, List.set_cons_zero, List.set_cons_succ]))
        refine walkT_one ?_
        (have cc := cell_of_cells HHD.out 3; refine runN_do (v := .slice a k cp) (w' := _) (some 56) rfl rfl (by rfl) (by go_simp; (try with_reducible rfl)) hS (fun hS => ?_); clear cc; (try simp only [Act.put, List.setIfInBounds_toArray, List.set_cons_zero, List.set_cons_succ]))
        refine walkT_one ?_
        (refine runN_appS 59 (.tmp 56) (.tmp 58) _ rfl rfl rfl (by rfl) 88 Try.underlying63 (.agg #[.int .i64 0, .string ByteArray.empty, .string ByteArray.empty, .pointer none]) 4 48 infoChangeB rfl (by decide) 0 _ _ rfl HCH.out _ 1 1 _ rfl HNW.out (one_dkl c2) (k + 1) (((st.C.take k).map (mapC E6)).map dkl ++ [dkl c2]) rfl HLK.out (by have := HKB.out; simp only [maxLen]; omega) (by have := HKB.out; omega) (Nat.zero_le _) ?_; intro a2 c2' w9 how9 hg9 hp9; have t9 := (Touch.refl _ (fun x => (Value.slice a k cp).ownBlock = some x)).grown hg9 (fun x hx _ => hx); have HPL := Lib.hid (fun b hb => (hp9 b hb).imp (fun h => h) (fun hh => Nat.le_trans hS.size hh)); have hS := hS.trans t9 (fun x _ hx => .inr hx); refine ⟨hS, fun _ => ?_⟩; have HHD := Lib.hid (t9.keeps HHD.out (fun e => HDCH.out e)); have HCH := Lib.hid how9; clear how9 hg9 hp9 t9 HNW; (try simp only [Act.put, List.setIfInBounds_toArray, List.set_cons_zero, List.set_cons_succ]))
        refine walkT_take ?_
        (refine takeN_take (v := ?_) (some 60) rfl rfl (fun _ _ _ h => h) (by rfl) ?_ ?_; rotate_left; (focus (intro w' hw'; go_simp; (try with_reducible rfl))); (try simp only [Act.put, List.setIfInBounds_toArray, List.set_cons_zero, List.set_cons_succ]))
        refine walkT_take ?_
        (refine takeN_take (v := ?_) (some 61) rfl rfl (fun _ _ _ h => h) (by rfl) ?_ ?_; rotate_left; (focus (intro w' hw'; go_simp; (try with_reducible rfl))); (try simp only [Act.put, List.setIfInBounds_toArray, List.set_cons_zero, List.set_cons_succ]))
        refine walkT_one ?_
        (have cc := cell_of_cells HHD.out 3; have ff := free_of_cells HHD.out 3; refine runN_skip0 none rfl rfl (by rfl) (w' := World.setCell w9 ⟨tw, 3, none⟩ (.slice a2 (k + 1) c2')) (by go_simp; (try with_reducible rfl)) ?_ ?_; (exact hS.setCell _ _ (fun _ => .inl rfl)); clear cc ff; intro hS; have t6 := (Touch.refl w9 (fun x => x = tw)).setCell ⟨tw, 3, none⟩ (.slice a2 (k + 1) c2') (fun _ => rfl); have HHD := Lib.hid (heap_setCell_same _ tw 3 _ _ (.slice a2 (k + 1) c2') HHD.out); have HCH := Lib.hid (HCH.out.touch t6 (fun x hx e => by have e : x = tw := e; rcases HPL.out x hx with h1 | h1; exact HDCH.out (e ▸ h1); (have := HDL.out; omega))); clear t6; (try simp only [Act.put, List.setIfInBounds_toArray, List.set_cons_zero, List.set_cons_succ]))
        refine walkT_fin ?_
        have HY9 := Lib.hid (HY7.out.push HM.out.lt hkN HIN.out hS HHD.out (HEC.out ▸ HCH.out) HPL.out)
        have HX : RowKit.Hid (∃ (k' : Nat) (E : List (Nat × Nat)) (T : Nat → DkTg) (ao : Nat → Option Addr) (co : Nat → Nat) (a : Option Addr) (cp : Nat), k' ≤ st.C.length ∧ Value.int .i64 ((k : Int) + 1) = .int .i64 k' ∧ CyI w _ h st cb mb nb ns tw k' E T ao co a cp) := Lib.hid ⟨k + 1, _, _, _, _, _, _, by have := HKN.out; omega, by go_num, HY9.out⟩
        go_wp2_with fail
        try rw [HWK.out]
        go_roundw
        · exact HX.out
        · simp only [RowKit.intOf]; omega
end Go.Proofs.Ytmokcfmlolohaaa

end
