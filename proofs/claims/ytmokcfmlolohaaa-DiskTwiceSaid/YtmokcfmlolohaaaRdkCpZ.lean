/- A disk that was copied is alike too. -/
import Derived.Test.YtmokcfmlolohaaaIAZ
import Derived.Test.YtmokcfmlolohaaaICZ
set_option linter.unusedVariables false
set_option linter.unusedSimpArgs false
namespace Go.Proofs.Ytmokcfmlolohaaa
open Go.RowKit

def phE (E : List (Nat × Nat)) (g : Nat) : Nat := (lookE E g).getD g
theorem lookE_inj {E : List (Nat × Nat)} (hn : (E.map Prod.snd).Nodup) {a b c : Nat} (h1 : lookE E a = some c) (h2 : lookE E b = some c) : a = b := by
  have e1 := invE_mem hn (lookE_mem h1)
  have e2 := invE_mem hn (lookE_mem h2)
  simp only at e1 e2
  rw [e1] at e2
  exact Option.some.inj e2
theorem simN_cp {G : List Nat} {E : List (Nat × Nat)} {l : List RN} {M : List NmD} (h : SimN G l M) (hi : ∀ x ∈ M, InE E x.f) : SimN (G.map (phE E)) l (M.map (mapE E)) where
  s := h.s
  f := fun x hx => by rw [List.length_map]; exact h.f x hx
  p := by
    have e : l.map (asN (G.map (phE E))) = (l.map (asN G)).map (mapE E) := by
      rw [List.map_map]
      refine List.map_congr_left fun x hx => ?_
      obtain ⟨g, e1, e2⟩ := hi _ (h.p.mem_iff.1 (List.mem_map.2 ⟨x, hx, rfl⟩))
      have e1 : G[x.f]? = some g := e1
      obtain ⟨b, hb⟩ := Option.isSome_iff_exists.1 e2
      unfold Function.comp asN mapE
      simp only [List.getElem?_map, e1, Option.map_some, Option.bind_some, hb, NmD.mk.injEq, true_and]
      unfold phE
      rw [hb]; rfl
    rw [e]
    exact h.p.map _
section
variable {w0 w w' w2 : World} {d m tw : Nat} {h h' : DkH} {hR : RH} {st : DkS} {R : RS} {G : List Nat} {E : List (Nat × Nat)}
theorem sim_cp (s : Sim G st R) (hlt : ∀ g ∈ G, g < w.heap.size) (o : CpOk w h h' st E) : Sim (G.map (phE E)) (cpS st E) R where
  qe := s.qe
  oe := s.oe
  fe := s.fe
  nd := by
    refine List.Pairwise.map _ (fun _ _ h => h) (List.pairwise_map.1 ?_ |> fun h => h) |> id
    exact List.pairwise_map.2 (List.Pairwise.imp_of_mem (fun {a b} ha hb hab e => by
      unfold phE at e
      cases h1 : lookE E a with
      | some x =>
        cases h2 : lookE E b with
        | some y =>
          rw [h1, h2] at e
          have e : x = y := e
          subst e
          exact hab (lookE_inj o.ns h1 h2)
        | none =>
          rw [h1, h2] at e
          have e : x = b := e
          have := (o.new _ (lookE_mem h1)).1
          have := hlt b hb
          simp only at *; omega
      | none =>
        cases h2 : lookE E b with
        | some y =>
          rw [h1, h2] at e
          have e : a = y := e
          have := (o.new _ (lookE_mem h2)).1
          have := hlt a ha
          simp only at *; omega
        | none =>
          rw [h1, h2] at e
          exact hab e) s.nd)
  len := by rw [List.length_map]; exact s.len
  fil := fun i hi => by
    rw [List.length_map] at hi
    rw [List.getElem_map]
    rw [← s.fil i hi]
    show cpF st.F E _ = _
    have hg := hlt _ (List.getElem_mem hi)
    unfold phE
    cases h1 : lookE E G[i] with
    | some b => exact cpF_new o.ns (lookE_mem h1)
    | none => exact cpF_old (fun p hp e => by
        have := (o.new p hp).1
        rw [e] at this
        simp only [Option.getD_none] at this
        omega)
  cl := by show (st.C.map _).length = _; rw [List.length_map]; exact s.cl
  nm := fun j => by
    show SimN _ _ (dkAll (st.S.map (mapE E)) ((st.C.map (mapC E)).take j))
    rw [← List.map_take, dkAll_map]
    refine simN_cp (s.nm j) ?_
    by_cases hj : j ≤ st.C.length
    · exact o.iA j hj
    · have e : st.C.take j = st.C.take st.C.length := by rw [List.take_length, List.take_of_length_le (by omega)]
      rw [e]
      exact o.iA _ (Nat.le_refl _)
  now := s.now
  ce := s.ce
theorem Both.gl (b : Both w0 w d m h hR st R G) : ∀ g ∈ G, g < w.heap.size := fun g hg => by
  rcases b.tg g hg with h1 | h1
  · exact b.n.m.lt g (by rw [h1]; simp)
  · exact h1.2.1
theorem cp_tg (b : Both w0 w d m h hR st R G) (n : DkN w w' tw h' (cpS st E)) (o : CpOk w h h' st E) : ∀ g ∈ G.map (phE E), TgOk w' h'.T (cpS st E).F g := by
  intro x hx
  obtain ⟨g, hg, rfl⟩ := List.mem_map.1 hx
  have hlt := b.gl g hg
  unfold phE
  cases h1 : lookE E g with
  | some c => exact .inl (o.new _ (lookE_mem h1)).2
  | none =>
    refine .inr ⟨?_, Nat.lt_of_lt_of_le hlt n.t.size, ?_⟩
    · show h'.T g = .out
      cases hT : h'.T g with
      | out => rfl
      | _ => have := n.f g (by unfold footK; rw [hT]; simp); omega
    · show (cpF st.F E g).b.length ≤ _ ∧ (cpF st.F E g).s ≤ (cpF st.F E g).b.length
      rw [cpF_old (fun p hp e => by have := (o.new p hp).1; omega)]
      rcases b.tg g hg with h2 | h2
      · have f := b.n.m.files g h2
        exact ⟨f.len, f.sure⟩
      · exact h2.2.2
theorem cp_cx (cx : ∀ c ∈ st.C, c.k = 0 ∨ c.f = none) : ∀ c ∈ (cpS st E).C, c.k = 0 ∨ c.f = none := by
  intro c hc
  obtain ⟨z, hz, rfl⟩ := List.mem_map.1 hc
  rcases cx z hz with h1 | h1
  · exact .inl h1
  · exact .inr (by show z.f.bind _ = none; rw [h1]; rfl)
/-- The copy, beside the reference of the disk that was copied. -/
theorem cp_both (b : Both w0 w d m h hR st R G) (n : DkN w w' tw h' (cpS st E)) (o : CpOk w h h' st E) : Both w0 w' tw m h' hR (cpS st E) R (G.map (phE E)) where
  n := ⟨n.m, b.n.t.trans n.t (fun _ _ h => h), fun k hk => Nat.le_trans b.n.t.size (n.f k hk)⟩
  x := b.x.still n.t
  mw := b.mw
  ap := fun k hk hf => by have := b.lt k hk; have := n.f k hf; omega
  s := sim_cp b.s b.gl o
  tg := cp_tg b n o
  cx := cp_cx b.cx
/-- Both copies, made since w. -/
theorem cp_both2 {y : Nat} (b : Both w0 w d m h hR st R G) (n : DkN w w' tw h' (cpS st E)) (o : CpOk w h h' st E) (t : Touch w' w2 (fun _ => False)) (hy : y = w'.heap.size) (x : RM w2 y hR R) : Both w w2 tw y h' hR (cpS st E) R (G.map (phE E)) where
  n := n.still t
  x := x
  mw := by rw [hy]; exact n.t.size
  ap := fun k hk hf => by
    have h1 := n.m.lt k hf
    have h2 := n.f k hf
    rcases hk with rfl | hk
    · omega
    · have := b.lt k (.inr hk); omega
  s := sim_cp b.s b.gl o
  tg := fun g hg => (cp_tg b n o g hg).imp (fun h => h) (fun h => ⟨h.1, Nat.lt_of_lt_of_le h.2.1 t.size, h.2.2⟩)
  cx := cp_cx b.cx
end
end Go.Proofs.Ytmokcfmlolohaaa
