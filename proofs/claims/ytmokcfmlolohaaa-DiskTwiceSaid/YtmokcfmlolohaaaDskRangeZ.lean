/- Maps from names to files: ranged over. -/
import Derived.Test.YtmokcfmlolohaaaDskMapZ
set_option linter.unusedVariables false
set_option linter.unusedSimpArgs false
namespace Go.Proofs.Ytmokcfmlolohaaa
open Go.RowKit

theorem klN_self (k : ByteArray) : Lit.sameKey (klN k) (klN k) = true := by unfold klN; simp [Lit.sameKey]
theorem same_klN {a b : ByteArray} (h : Lit.sameKey (klN a) (klN b) = true) : klN a = klN b := by
  unfold klN at *
  simpa [Lit.sameKey] using h
/-- A range over a map of names under way: 'left': is the name still to come? -/
def RangesN (w : World) (mb r : Nat) (M : List NmD) (left : Lit → Bool) (cnt : Nat) : Prop :=
  (M.map NmD.n).Nodup ∧ ∃ D : DataW Unit, w.ranges Try.prog 9 readN mb r M.length D left cnt ∧ PN D M ∧ ∀ kl, left kl = true → Maps.has D kl = true
def seenN (M : List NmD) (left : Lit → Bool) : List NmD := M.filter (fun d => !left (klN d.n))
section
variable {w w' : World} {mb r cnt : Nat} {M : List NmD} {left : Lit → Bool}
theorem RangesN.touch {S : Nat → Prop} (h : RangesN w mb r M left cnt) (t : Touch w w' S) (h1 : ¬ S mb) (h2 : ¬ S r) : RangesN w' mb r M left cnt := by
  obtain ⟨hn, D, ⟨es, clock, since, seen, c0, e1, e2, e3, e4, e5, e6⟩, hp, hl⟩ := h
  exact ⟨hn, D, ⟨es, clock, since, seen, c0, t.keeps e1 h1, e2, e3, e4, t.keeps e5 h2, e6⟩, hp, hl⟩
theorem RangesN.still (h : RangesN w mb r M left cnt) (t : Touch w w' (fun _ => False)) : RangesN w' mb r M left cnt := h.touch t (fun h => h) (fun h => h)
theorem RangesN.left_eq (h : RangesN w mb r M left cnt) : w.rangeLeft mb r = cnt := by
  obtain ⟨_, D, h, _⟩ := h
  exact h.left_eq
theorem RangesN.lt (h : RangesN w mb r M left cnt) : r < w.heap.size := by
  obtain ⟨_, D, h, _⟩ := h
  exact h.lt
theorem seenN_none (M : List NmD) (h : ∀ kl, left kl = false) : seenN M left = M := by
  unfold seenN
  exact List.filter_eq_self.2 (fun f _ => by rw [h]; rfl)
theorem seenN_step {f : NmD} (hn : (M.map NmD.n).Nodup) (hf : f ∈ M) (hl : left (klN f.n) = true) :
    (seenN M (fun z => left z && !z.sameKey (klN f.n))).Perm (f :: seenN M left) := by
  obtain ⟨s, t, rfl⟩ := List.append_of_mem hf
  have hne : ∀ x ∈ s ++ t, x.n ≠ f.n := by
    intro x hx e
    have h1 := (List.perm_middle (a := f) (l₁ := s) (l₂ := t)).map NmD.n
    have h2 := h1.nodup_iff.1 hn
    rw [List.map_cons, List.nodup_cons] at h2
    exact h2.1 (List.mem_map.2 ⟨x, hx, e⟩)
  have hk : ∀ x ∈ s ++ t, (Lit.sameKey (klN x.n) (klN f.n)) = false := by
    intro x hx
    cases hs : Lit.sameKey (klN x.n) (klN f.n) with
    | false => rfl
    | true => exact absurd (klN_inj (same_klN hs)) (hne x hx)
  have hself : Lit.sameKey (klN f.n) (klN f.n) = true := klN_self _
  have e1 : ∀ L : List NmD, (∀ x ∈ L, x ∈ s ++ t) → seenN L (fun z => left z && !z.sameKey (klN f.n)) = seenN L left := by
    intro L hL
    unfold seenN
    refine List.filter_congr fun x hx => ?_
    simp [hk x (hL x hx)]
  unfold seenN at e1 ⊢
  rw [List.filter_append, List.filter_cons, if_pos (by simp [hself]), e1 s (fun x hx => List.mem_append_left _ hx), e1 t (fun x hx => List.mem_append_right _ hx), List.filter_append, List.filter_cons, if_neg (by simp [hl])]
  exact List.perm_middle
end
section
variable {w : World} {ops : Array Oper} {rest : List Oper} {o : Oper} {a : Act} {Q : Exit → Act → World → Prop}
theorem wp_rangeN (hg : o.guard = none) (m : Operand) (hop : o.op = Op.range 62 m) (mb : Nat) (M : List NmD) (hm : a.eval m = .map (some mb)) (h : OwnN w mb M)
    (hK : ∀ w' left cnt, RangesN w' mb w.heap.size M left cnt → seenN M left = [] → Touch w w' (fun _ => False) → wpList Try.prog ops Q rest (a.put o.dst (.pointer (some ⟨w.heap.size, 0, none⟩))) w') : wpList Try.prog ops Q (o :: rest) a w := by
  obtain ⟨hn, D, hD, hP⟩ := h
  refine wpList_range_own _ hg m _ hop 9 71 strKeyedN mapNm readN mb M.length D hm hD ?_
  intro w' r1 r2 r3
  refine hK w' _ _ ⟨hn, D, r1, hP, fun _ h => h⟩ ?_ ((Touch.refl w _).grown r2 (fun _ h _ => by cases h))
  unfold seenN
  refine List.filter_eq_nil_iff.2 fun f hf => ?_
  rw [hP.has, (hasN_iff _ _).2 (List.mem_map.2 ⟨f, hf, rfl⟩)]
  simp
set_option maxRecDepth 20000 in
theorem wp_nextN (hg : o.guard = none) (it : Operand) (hop : o.op = Op.next it false) (mb r : Nat) (M : List NmD) (left : Lit → Bool) (cnt : Nat) (hit : a.eval it = .pointer (some ⟨r, 0, none⟩)) (h : RangesN w mb r M left cnt)
    (hDone : seenN M left = M → wpList Try.prog ops Q rest (a.put o.dst (.tuple #[.bool false])) w)
    (hMore : ∀ (f : NmD) (left' : Lit → Bool) (w' : World) (cnt' : Nat), f ∈ M → (seenN M left').Perm (f :: seenN M left) → RangesN w' mb r M left' cnt' → cnt' < cnt → Touch w w' (fun k => k = r) →
      (Instr.entry (.pointer (some ⟨r, 0, none⟩))).run Try.prog w' = .ok (.tuple #[.string f.n, pvN f.f]) w' → wpList Try.prog ops Q rest (a.put o.dst (.tuple #[.bool true, .string f.n, pvN f.f])) w') :
    wpList Try.prog ops Q (o :: rest) a w := by
  obtain ⟨hn, D, hr, hP, hL⟩ := h
  refine wpList_next_ranges _ hg it hop 9 strKeyedN readN (fun v : Value => v) pvN (fun key kl _ => ⟨key, rfl⟩) (fun v y hv => by obtain ⟨f, rfl, _⟩ := readN_inv hv; exact ⟨f, rfl⟩) mb r M.length D left cnt hit hr (fun _ hl => hDone (seenN_none M hl)) ?_
  intro x c kl y w' cnt' hkey hlk hv hat hrg hlt hgr hsz hen
  obtain ⟨k, rfl, ek, -⟩ := WideMaps.string_of_keyOf Try.underlying9 hkey
  have ek : kl = klN k := ek
  subst ek
  have hhas : hasN M k = true := by rw [← hP.has]; exact hL _ hlk
  obtain ⟨f, hf, rfl⟩ := List.mem_map.1 ((hasN_iff _ _).1 hhas)
  have hc : c = f.f := by
    obtain ⟨c', e1, e2⟩ := readN_inv hv
    have e3 := hat (.lit (.bool true))
    rw [hP.at_ f hf] at e3
    rw [readN_mk] at hv
    injection hv with hv
    rw [← hv] at e3
    exact (encN_inj e3).symm
  subst hc
  exact hMore f _ w' cnt' hf (seenN_step hn hf hlk) ⟨hn, D, hrg, hP, fun kl h => hL kl (by simp only [Bool.and_eq_true] at h; exact h.1)⟩ hlt ((Touch.refl w (fun k => k = r)).grown hgr (fun k hk _ => by simp only [Option.some.injEq] at hk; exact hk.symm)) hen
end
end Go.Proofs.Ytmokcfmlolohaaa
