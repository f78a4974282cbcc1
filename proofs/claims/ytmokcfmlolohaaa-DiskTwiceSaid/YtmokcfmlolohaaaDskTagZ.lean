/- A disk's blocks: a change of names, a file that grows. -/
import Derived.Test.YtmokcfmlolohaaaDskDoZ
set_option linter.unusedVariables false
set_option linter.unusedSimpArgs false
namespace Go.Proofs.Ytmokcfmlolohaaa
open Go.RowKit

def tagPut (T : Nat → DkTg) (b : Option Nat) (t : DkTg) : Nat → DkTg := fun k => if b = some k then t else T k
theorem tagPut_keep {T : Nat → DkTg} {b : Option Nat} {t : DkTg} (hb : ∀ k, b = some k → T k = t ∨ T k = .out) {k : Nat} (hk : T k ≠ .out) : tagPut T b t k = T k := by
  unfold tagPut
  split
  · rename_i e
    rcases hb k e with h | h
    · exact h.symm
    · exact absurd h hk
  · rfl
theorem tagPut_at (T : Nat → DkTg) (b : Option Nat) (t : DkTg) {k : Nat} (e : b = some k) : tagPut T b t k = t := by unfold tagPut; rw [if_pos e]
theorem tagPut_foot {T : Nat → DkTg} {b : Option Nat} {t : DkTg} {k : Nat} (h : tagPut T b t k ≠ .out) : b = some k ∨ T k ≠ .out := by
  unfold tagPut at h
  split at h
  · exact .inl (by assumption)
  · exact .inr h
theorem tagPut_fb {T : Nat → DkTg} {b : Option Nat} {t : DkTg} (ht : t ≠ .fb) {k : Nat} (h : tagPut T b t k = .fb) : T k = .fb := by
  unfold tagPut at h
  split at h
  · exact absurd h ht
  · exact h
theorem DkGood.mono {T T' : Nat → DkTg} {M : List NmD} (g : DkGood T M) (h : ∀ k, T k = .fb → T' k = .fb) : DkGood T' M :=
  ⟨g.len, g.nd, fun x hx => by obtain ⟨h1, h2, b, e, hb⟩ := g.ref x hx; exact ⟨h1, h2, b, e, h b hb⟩⟩
theorem some_block {a : Option Addr} {k : Nat} (h : a.map (·.block) = some k) : ∃ x, a = some x ∧ x.block = k := by
  cases a with
  | none => cases h
  | some x => exact ⟨x, rfl, by simpa using h⟩
theorem own_of {a : Option Addr} {n c k : Nat} (h : a.map (·.block) = some k) : (Value.slice a n c).ownBlock = some k := by
  obtain ⟨x, rfl, rfl⟩ := some_block h
  rfl
/-- A change of names was kept. -/
theorem DkM.changed {w w' : World} {d : Nat} {h : DkH} {st : DkS} (m : DkM w d h st) (c : DkCh) {a2 : Option Addr} {c2 : Nat} (t : Touch w w' (fun k => k = h.mn ∨ k = d ∨ (Value.slice h.ac st.C.length h.cc).ownBlock = some k))
    (hd : w'.heap[d]? = some (.cells #[.int .i64 st.q, .map (some h.mn), .map (some h.ms), .slice a2 (st.C.length + 1) c2, .int .i64 st.ops, .int .i64 st.fail] 65 (0, 0)))
    (hn : OwnN w' h.mn (dkDo st.N c)) (hc : OwnS w' 0 88 4 (.slice a2 (st.C.length + 1) c2) ((st.C ++ [c]).map dkl))
    (hp : ∀ b, (Value.slice a2 (st.C.length + 1) c2).ownBlock = some b → (Value.slice h.ac st.C.length h.cc).ownBlock = some b ∨ w.heap.size ≤ b) (hg : DkGood h.T (dkDo st.N c)) (hs : szN c.n ∧ szN c.tn) (hk : c.k = 0 ∨ c.k = 1 ∨ c.k = 2) :
    DkStep w w' d h { st with C := st.C ++ [c] } := by
  have hbt : ∀ k, a2.map (·.block) = some k → h.T k = .ch ∨ h.T k = .out := by
    intro k hk
    rcases hp k (own_of hk) with h1 | h1
    · obtain ⟨x, hx, rfl⟩ := bown_block h1
      exact .inl (m.tc x hx)
    · cases hT : h.T k with
      | out => exact .inr rfl
      | _ => have := m.lt k (by rw [hT]; simp); omega
  have keep : ∀ k, h.T k ≠ .out → tagPut h.T (a2.map (·.block)) .ch k = h.T k := fun k hk => tagPut_keep hbt hk
  have fbk : ∀ k, h.T k = .fb → tagPut h.T (a2.map (·.block)) .ch k = .fb := fun k hk => by rw [keep k (by rw [hk]; simp), hk]
  have hS : ∀ k, h.T k ≠ .out → h.T k ≠ .head → h.T k ≠ .nm → h.T k ≠ .ch → ¬ (k = h.mn ∨ k = d ∨ (Value.slice h.ac st.C.length h.cc).ownBlock = some k) := by
    rintro k h0 h1 h2 h3 (rfl | rfl | e)
    · exact h2 m.tn
    · exact h1 m.td
    · obtain ⟨x, hx, rfl⟩ := bown_block e
      exact h3 (m.tc x hx)
  refine ⟨{ h with ac := a2, cc := c2, T := tagPut h.T (a2.map (·.block)) .ch }, ⟨?_, ?_, ?_, ?_, ?_, ?_, ?_, ?_, ?_, ?_, ?_, ?_, ?_, m.quota, m.fails⟩, ?_, fbk, ?_⟩
  · simp only [List.length_append, List.length_singleton]; exact hd
  · show OwnN w' h.mn (dkAll st.S (st.C ++ [c]))
    rw [dkAll_snoc]; exact hn
  · exact m.sm.touch t (hS _ (by rw [m.ts]; simp) (by rw [m.ts]; simp) (by rw [m.ts]; simp) (by rw [m.ts]; simp))
  · simp only [List.length_append, List.length_singleton]; exact hc
  · intro g hg'
    have hgb : h.T g = .fb := tagPut_fb (by simp) hg'
    have f := m.files g hgb
    have f2 := f.touch t (hS _ (by rw [hgb]; simp) (by rw [hgb]; simp) (by rw [hgb]; simp) (by rw [hgb]; simp)) (fun y hy => hS _ (by rw [f.arr y hy]; simp) (by rw [f.arr y hy]; simp) (by rw [f.arr y hy]; simp) (by rw [f.arr y hy]; simp))
    exact ⟨f2.head, f2.own, f2.len, f2.sure, fun y hy => by show tagPut _ _ _ _ = _; rw [keep _ (by rw [f.arr y hy]; simp), f.arr y hy]⟩
  · show tagPut _ _ _ _ = _; rw [keep _ (by rw [m.td]; simp), m.td]
  · show tagPut _ _ _ _ = _; rw [keep _ (by rw [m.tn]; simp), m.tn]
  · show tagPut _ _ _ _ = _; rw [keep _ (by rw [m.ts]; simp), m.ts]
  · intro x hx
    exact tagPut_at _ _ _ (by rw [show a2 = some x from hx]; rfl)
  · intro k hk
    rcases tagPut_foot hk with h1 | h1
    · exact (hc.own.lt k (own_of h1)).2
    · exact Nat.lt_of_lt_of_le (m.lt k h1) t.size
  · intro k hk
    simp only [List.length_append, List.length_singleton] at hk
    by_cases hlt : k ≤ st.C.length
    · show DkGood _ (dkAll st.S ((st.C ++ [c]).take k))
      rw [List.take_append_of_le_length hlt]
      exact (m.good k hlt).mono fbk
    · have e : (st.C ++ [c]).take k = st.C ++ [c] := List.take_of_length_le (by simp; omega)
      show DkGood _ (dkAll st.S ((st.C ++ [c]).take k))
      rw [e, dkAll_snoc]
      exact hg.mono fbk
  · intro x hx
    rcases List.mem_append.1 hx with hx | hx
    · exact m.chok x hx
    · rw [List.mem_singleton.1 hx]; exact hs
  · intro x hx
    rcases List.mem_append.1 hx with hx | hx
    · exact m.kinds x hx
    · rw [List.mem_singleton.1 hx]; exact hk
  · refine t.mono (fun k _ hk => ?_)
    unfold footK
    rcases hk with rfl | rfl | e
    · rw [m.tn]; simp
    · rw [m.td]; simp
    · obtain ⟨x, hx, rfl⟩ := bown_block e
      rw [m.tc x hx]; simp
  · intro k hk
    rcases tagPut_foot hk with h1 | h1
    · rcases hp k (own_of h1) with h2 | h2
      · obtain ⟨x, hx, rfl⟩ := bown_block h2
        exact .inl (by unfold footK; rw [m.tc x hx]; simp)
      · exact .inr h2
    · exact .inl h1
def fPut (F : Nat → DkFc) (g : Nat) (f : DkFc) : Nat → DkFc := fun k => if k = g then f else F k
/-- A file turned: its bytes lie where they lay, or in a new block. -/
theorem DkM.filed {w w' : World} {d : Nat} {h : DkH} {st : DkS} (m : DkM w d h st) {g : Nat} (hg : h.T g = .fb) (f : DkFc) {a2 : Option Addr} {c2 : Nat} (t : Touch w w' (fun k => k = g ∨ (h.ao g).map (·.block) = some k))
    (hd : w'.heap[g]? = some (.cells #[.slice a2 f.b.length c2, .int .i64 f.s] 74 (0, 0))) (ho : OwnB w' 0 5 (.slice a2 f.b.length c2) f.b) (hl : f.b.length ≤ 1048576) (hs : f.s ≤ f.b.length)
    (hp : ∀ b, a2.map (·.block) = some b → (h.ao g).map (·.block) = some b ∨ w.heap.size ≤ b) : DkStep w w' d h { st with F := fPut st.F g f } := by
  have fg := m.files g hg
  have hbt : ∀ k, a2.map (·.block) = some k → h.T k = .fa g ∨ h.T k = .out := by
    intro k hk
    rcases hp k hk with h1 | h1
    · obtain ⟨x, hx, rfl⟩ := some_block h1
      exact .inl (fg.arr x hx)
    · cases hT : h.T k with
      | out => exact .inr rfl
      | _ => have := m.lt k (by rw [hT]; simp); omega
  have keep : ∀ k, h.T k ≠ .out → tagPut h.T (a2.map (·.block)) (.fa g) k = h.T k := fun k hk => tagPut_keep hbt hk
  have fbk : ∀ k, h.T k = .fb → tagPut h.T (a2.map (·.block)) (.fa g) k = .fb := fun k hk => by rw [keep k (by rw [hk]; simp), hk]
  have hS : ∀ k, h.T k ≠ .out → k ≠ g → h.T k ≠ .fa g → ¬ (k = g ∨ (h.ao g).map (·.block) = some k) := by
    rintro k h0 h1 h2 (e | e)
    · exact h1 e
    · obtain ⟨x, hx, rfl⟩ := some_block e
      exact h2 (fg.arr x hx)
  have hS2 : ∀ k, h.T k ≠ .out → h.T k ≠ .fb → h.T k ≠ .fa g → ¬ (k = g ∨ (h.ao g).map (·.block) = some k) := fun k h0 h1 h2 => hS k h0 (fun e => h1 (e ▸ hg)) h2
  refine ⟨{ h with ao := fun k => if k = g then a2 else h.ao k, co := fun k => if k = g then c2 else h.co k, T := tagPut h.T (a2.map (·.block)) (.fa g) }, ⟨?_, ?_, ?_, ?_, ?_, ?_, ?_, ?_, ?_, ?_, ?_, m.chok, m.kinds, m.quota, m.fails⟩, ?_, fbk, ?_⟩
  · exact t.keeps m.head (hS2 _ (by rw [m.td]; simp) (by rw [m.td]; simp) (by rw [m.td]; simp))
  · exact m.nm.touch t (hS2 _ (by rw [m.tn]; simp) (by rw [m.tn]; simp) (by rw [m.tn]; simp))
  · exact m.sm.touch t (hS2 _ (by rw [m.ts]; simp) (by rw [m.ts]; simp) (by rw [m.ts]; simp))
  · exact m.ch.touch t (fun k hk => by obtain ⟨y, hy, rfl⟩ := bown_block hk; exact hS2 _ (by rw [m.tc y hy]; simp) (by rw [m.tc y hy]; simp) (by rw [m.tc y hy]; simp))
  · intro x hx
    have hxb : h.T x = .fb := tagPut_fb (by simp) hx
    by_cases e : x = g
    · subst e
      simp only [fPut, if_true]
      refine ⟨hd, ho, hl, hs, fun y hy => ?_⟩
      exact tagPut_at _ _ _ (by rw [hy]; rfl)
    · simp only [fPut, if_neg e]
      have fx := m.files x hxb
      have f2 := fx.touch t (hS _ (by rw [hxb]; simp) e (by rw [hxb]; simp)) (fun y hy => hS2 _ (by rw [fx.arr y hy]; simp) (by rw [fx.arr y hy]; simp) (by rw [fx.arr y hy]; simp [e]))
      exact ⟨f2.head, f2.own, f2.len, f2.sure, fun y hy => by show tagPut _ _ _ _ = _; rw [keep _ (by rw [fx.arr y hy]; simp), fx.arr y hy]⟩
  · show tagPut _ _ _ _ = _; rw [keep _ (by rw [m.td]; simp), m.td]
  · show tagPut _ _ _ _ = _; rw [keep _ (by rw [m.tn]; simp), m.tn]
  · show tagPut _ _ _ _ = _; rw [keep _ (by rw [m.ts]; simp), m.ts]
  · intro x hx
    show tagPut _ _ _ _ = _; rw [keep _ (by rw [m.tc x hx]; simp), m.tc x hx]
  · intro k hk
    rcases tagPut_foot hk with h1 | h1
    · exact (ho.own.lt k (own_of h1)).2
    · exact Nat.lt_of_lt_of_le (m.lt k h1) t.size
  · intro k hk
    exact (m.good k hk).mono fbk
  · refine t.mono (fun k _ hk => ?_)
    unfold footK
    rcases hk with rfl | e
    · rw [hg]; simp
    · obtain ⟨x, hx, rfl⟩ := some_block e
      rw [fg.arr x hx]; simp
  · intro k hk
    rcases tagPut_foot hk with h1 | h1
    · rcases hp k h1 with h2 | h2
      · obtain ⟨x, hx, rfl⟩ := some_block h2
        exact .inl (by unfold footK; rw [fg.arr x hx]; simp)
      · exact .inr h2
    · exact .inl h1
/-- A new file lies beside the disk. -/
theorem DkM.newfile {w w' : World} {d : Nat} {h : DkH} {st : DkS} (m : DkM w d h st) (hw : w' = w.alloc (.cells #[.slice none 0 0, .int .i64 0] 74)) :
    ∃ h', DkM w' d h' { st with F := fPut st.F w.heap.size ⟨[], 0⟩ } ∧ (∀ k, h.T k = .fb → h'.T k = .fb) ∧ h'.T w.heap.size = .fb ∧ (∀ k, footK h' k → footK h k ∨ w.heap.size ≤ k) ∧ Touch w w' (footK h) ∧ h'.T = tagPut h.T (some w.heap.size) .fb := by
  have t : Touch w w' (fun _ => False) := hw ▸ (Touch.refl w _).alloc _
  have hnew : w'.heap[w.heap.size]? = some (.cells #[.slice none 0 0, .int .i64 0] 74 (0, 0)) := hw ▸ heap_alloc_new ..
  have hout : h.T w.heap.size = .out := by
    cases hT : h.T w.heap.size with
    | out => rfl
    | _ => have := m.lt w.heap.size (by rw [hT]; simp); omega
  have hbt : ∀ k, some w.heap.size = some k → h.T k = .fb ∨ h.T k = .out := fun k hk => by cases hk; exact .inr hout
  have keep : ∀ k, h.T k ≠ .out → tagPut h.T (some w.heap.size) .fb k = h.T k := fun k hk => tagPut_keep hbt hk
  have fbk : ∀ k, h.T k = .fb → tagPut h.T (some w.heap.size) .fb k = .fb := fun k hk => by rw [keep k (by rw [hk]; simp), hk]
  refine ⟨{ h with ao := fun k => if k = w.heap.size then none else h.ao k, co := fun k => if k = w.heap.size then 0 else h.co k, T := tagPut h.T (some w.heap.size) .fb }, ⟨?_, ?_, ?_, ?_, ?_, ?_, ?_, ?_, ?_, ?_, ?_, m.chok, m.kinds, m.quota, m.fails⟩, fbk, tagPut_at _ _ _ rfl, ?_, t.mono (fun _ _ h => h.elim), rfl⟩
  · exact t.keeps m.head (fun h => h)
  · exact m.nm.still t
  · exact m.sm.still t
  · exact m.ch.still t
  · intro x hx
    by_cases e : x = w.heap.size
    · subst e
      simp only [fPut, if_true]
      exact ⟨hnew, OwnB.nil _ _ _, Nat.zero_le _, Nat.le_refl _, fun y hy => by cases hy⟩
    · have hxb : h.T x = .fb := by
        have hx : tagPut h.T (some w.heap.size) .fb x = .fb := hx
        unfold tagPut at hx
        rw [if_neg (by simp; exact fun h => e h.symm)] at hx
        exact hx
      simp only [fPut, if_neg e]
      have fx := m.files x hxb
      have f2 := fx.touch t (fun h => h) (fun _ _ h => h)
      exact ⟨f2.head, f2.own, f2.len, f2.sure, fun y hy => by show tagPut _ _ _ _ = _; rw [keep _ (by rw [fx.arr y hy]; simp), fx.arr y hy]⟩
  · show tagPut _ _ _ _ = _; rw [keep _ (by rw [m.td]; simp), m.td]
  · show tagPut _ _ _ _ = _; rw [keep _ (by rw [m.tn]; simp), m.tn]
  · show tagPut _ _ _ _ = _; rw [keep _ (by rw [m.ts]; simp), m.ts]
  · intro x hx
    show tagPut _ _ _ _ = _; rw [keep _ (by rw [m.tc x hx]; simp), m.tc x hx]
  · intro k hk
    rcases tagPut_foot hk with h1 | h1
    · cases h1; exact heap_lt hnew
    · exact Nat.lt_of_lt_of_le (m.lt k h1) t.size
  · intro k hk
    exact (m.good k hk).mono fbk
  · intro k hk
    rcases tagPut_foot hk with h1 | h1
    · cases h1; exact .inr (Nat.le_refl _)
    · exact .inl h1
end Go.Proofs.Ytmokcfmlolohaaa
