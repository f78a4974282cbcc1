/- Frames one behind the other: what a scan tells; rows of frames of the call's own. -/
import Derived.Test.YtibpnlhdpdfhiaaDoorFrmRowsZ
import Derived.Test.YtibpnlhdpdfhiaaDoorFrmFactZ
set_option linter.unusedVariables false
namespace Go.Proofs.YtibpnlhdpdfhiaaDoor
open Go.RowKit

def scanN : Nat → List Nat → List (Int × Int × List Nat) × Nat × Nat
  | 0, _ => ([], 0, 0)
  | n + 1, xs => if xs = [] then ([], 0, 0) else if tkE xs ≠ 0 then ([], 0, tkE xs) else
    (((tkK xs : Int), (tkV xs : Int), tkY xs) :: (scanN n (xs.drop (tkM xs))).1, tkM xs + (scanN n (xs.drop (tkM xs))).2.1, (scanN n (xs.drop (tkM xs))).2.2)
/-- What a scan of these bytes tells: the frames, where it ends, why. -/
def scanX (xs : List Nat) : List (Int × Int × List Nat) × Nat × Nat := scanN xs.length xs
theorem tk_len {xs : List Nat} (h : tkE xs = 0) : tkM xs = 16 + tkN xs ∧ 16 + tkN xs ≤ xs.length := by
  refine ⟨by unfold tkM; rw [if_pos h], ?_⟩
  unfold tkE at h
  by_cases h1 : hdE xs ≠ 0
  · rw [if_pos h1] at h; exact absurd h h1
  · rw [if_neg h1] at h
    by_cases h2 : xs.length < 16 + tkN xs
    · rw [if_pos h2] at h; omega
    · omega
theorem scanN_more : ∀ (n : Nat) (xs : List Nat), xs.length ≤ n → scanN n xs = scanX xs := by
  have key : ∀ (m : Nat) (xs : List Nat) (n k : Nat), xs.length ≤ m → xs.length ≤ n → xs.length ≤ k → scanN n xs = scanN k xs := by
    intro m
    induction m with
    | zero =>
      intro xs n k h1 h2 h3
      have : xs = [] := List.length_eq_zero_iff.1 (by omega)
      subst this
      cases n <;> cases k <;> simp [scanN]
    | succ m ih =>
      intro xs n k h1 h2 h3
      by_cases h0 : xs = []
      · subst h0; cases n <;> cases k <;> simp [scanN]
      · have hp : 0 < xs.length := List.length_pos_iff.2 h0
        cases n with
        | zero => omega
        | succ n =>
          cases k with
          | zero => omega
          | succ k =>
            unfold scanN
            by_cases he : tkE xs ≠ 0
            · simp [h0, he]
            · have he' : tkE xs = 0 := by omega
              have hl := tk_len he'
              have hd : (xs.drop (tkM xs)).length ≤ m := by simp; omega
              rw [ih (xs.drop (tkM xs)) n k hd (by simp; omega) (by simp; omega)]
  intro n xs h
  exact key xs.length xs n xs.length (Nat.le_refl _) h (Nat.le_refl _)
theorem scanX_nil : scanX [] = ([], 0, 0) := rfl
theorem scanX_bad {xs : List Nat} (h0 : xs ≠ []) (h : tkE xs ≠ 0) : scanX xs = ([], 0, tkE xs) := by
  have hp : 0 < xs.length := List.length_pos_iff.2 h0
  unfold scanX
  obtain ⟨n, hn⟩ : ∃ n, xs.length = n + 1 := ⟨xs.length - 1, by omega⟩
  rw [hn]; unfold scanN; rw [if_neg h0, if_pos h]
theorem scanX_cons {xs : List Nat} (h0 : xs ≠ []) (h : tkE xs = 0) :
    scanX xs = (((tkK xs : Int), (tkV xs : Int), tkY xs) :: (scanX (xs.drop (tkM xs))).1, tkM xs + (scanX (xs.drop (tkM xs))).2.1, (scanX (xs.drop (tkM xs))).2.2) := by
  have hp : 0 < xs.length := List.length_pos_iff.2 h0
  have hl := tk_len h
  obtain ⟨n, hn⟩ : ∃ n, xs.length = n + 1 := ⟨xs.length - 1, by omega⟩
  have e := scanN_more n (xs.drop (tkM xs)) (by simp; omega)
  rw [← e]
  unfold scanX
  rw [hn]
  conv => lhs; unfold scanN
  rw [if_neg h0, if_neg (fun h' => h' h)]

/-- A row of frames of the call's own. -/
structure OwnF (w : World) (base : Nat) (v : Value) (fs : List FrD) : Prop where
  own : w.ownsRow base 33 3 v fs.length (fs.flatMap FrD.cells)
  rows : ∀ f ∈ fs, RowB w f.a f.ys.length f.cap f.ys
  apart : ∀ f ∈ fs, ∀ x, f.a = some x → f.ys.length = 0 ∨ v.ownBlock ≠ some x.block
theorem OwnF.nil (w : World) (base : Nat) : OwnF w base (.slice none 0 0) [] := ⟨World.ownsRow_nil w _ _ _, by simp, by simp⟩
theorem OwnF.touch {w w' : World} {base : Nat} {v : Value} {fs : List FrD} {S : Nat → Prop} (h : OwnF w base v fs) (t : Touch w w' S) (h1 : ∀ k, v.ownBlock = some k → ¬ S k) (h2 : ∀ f ∈ fs, ∀ x, f.a = some x → f.ys.length = 0 ∨ ¬ S x.block) : OwnF w' base v fs :=
  ⟨ownsRow_touch h.own t h1, fun f hf => (h.rows f hf).touch t (h2 f hf), h.apart⟩
theorem OwnF.still {w w' : World} {base : Nat} {v : Value} {fs : List FrD} (h : OwnF w base v fs) (t : Touch w w' (fun _ => False)) : OwnF w' base v fs :=
  h.touch t (fun _ _ h => h) (fun _ _ _ _ => .inr (fun h => h))
theorem fcells_length (fs : List FrD) : (fs.flatMap FrD.cells).length = fs.length * 3 := by
  induction fs with
  | nil => rfl
  | cons f r ih => simp only [List.flatMap_cons, List.length_append, ih, List.length_cons, FrD.cells]; simp; omega
theorem fcells_get : ∀ (fs : List FrD) (i : Nat) (h : i < fs.length), (fs.flatMap FrD.cells)[i * 3]? = some (.int .i64 fs[i].k) ∧ (fs.flatMap FrD.cells)[i * 3 + 1]? = some (.int .i64 fs[i].v) ∧ (fs.flatMap FrD.cells)[i * 3 + 2]? = some (.slice fs[i].a fs[i].ys.length fs[i].cap)
  | [], i, h => by simp at h
  | f :: r, 0, h => by simp [FrD.cells]
  | f :: r, i + 1, h => by
    have ih := fcells_get r i (by simpa using h)
    have e : ∀ j, j < 3 → (i + 1) * 3 + j = i * 3 + j + 3 := fun j _ => by omega
    have hc : ∀ j, ((f :: r).flatMap FrD.cells)[i * 3 + j + 3]? = (r.flatMap FrD.cells)[i * 3 + j]? := by
      intro j
      simp only [List.flatMap_cons]
      rw [List.getElem?_append_right (by simp [FrD.cells])]
      congr 1
    refine ⟨?_, ?_, ?_⟩
    · have := hc 0; rw [← e 0 (by omega)] at this; simpa using this.trans ih.1
    · have := hc 1; rw [← e 1 (by omega)] at this; simpa using this.trans ih.2.1
    · have := hc 2; rw [← e 2 (by omega)] at this; simpa using this.trans ih.2.2
theorem OwnF.row {w : World} {base : Nat} {v : Value} {fs : List FrD} (h : OwnF w base v fs) : ∃ a cap, v = .slice a fs.length cap ∧ RowF w a fs.length cap fs ∧ (∀ x, a = some x → base ≤ x.block ∧ x.block < w.heap.size) := by
  rcases h.own.2 with ⟨rfl, hn⟩ | ⟨g, cap, cur, rfl, hb, hg, hnc, hcm, hcs, htake⟩
  · have : fs = [] := List.length_eq_zero_iff.1 hn
    subst this
    exact ⟨none, 0, rfl, RowF.nil _ _ _ (by omega), fun x hx => by cases hx⟩
  · have hlt : g < w.heap.size := (Array.getElem?_eq_some_iff.1 hg).1
    refine ⟨_, cap, rfl, ⟨rfl, hnc, by simpa [maxLen] using hcm, h.rows, .inr ⟨g, 0, rfl, hlt, fun i hi => ?_⟩⟩, fun x hx => by cases hx; exact ⟨hb, hlt⟩⟩
    have hc : ∀ j u, (fs.flatMap FrD.cells)[j]? = some u → w.cell? ⟨g, j, none⟩ = some u := by
      intro j u hu
      have := h.own.cells (g := g) rfl j u hu
      have ea : (⟨g, 0, none⟩ : Addr).add j = ⟨g, j, none⟩ := by simp only [Addr.add]; split <;> simp_all
      rwa [ea] at this
    obtain ⟨g0, g1, g2⟩ := fcells_get fs i hi
    simp only [Nat.zero_add]
    exact ⟨hc _ _ g0, hc _ _ g1, hc _ _ g2⟩
theorem OwnF.add {w w' : World} {base : Nat} {v v' : Value} {fs : List FrD} {f : FrD} (h : OwnF w base v fs) (hr : RowB w f.a f.ys.length f.cap f.ys) (hne : ∀ x, f.a = some x → f.ys.length = 0 ∨ v.ownBlock ≠ some x.block)
    (ho : w'.ownsRow base 33 3 v' (fs.length + 1) (fs.flatMap FrD.cells ++ f.cells)) (hg : w.grownBy w' v.ownBlock) (hp : ∀ k, v'.ownBlock = some k → v.ownBlock = some k ∨ w.heap.size ≤ k) : OwnF w' base v' (fs ++ [f]) := by
  have t : Touch w w' (fun k => v.ownBlock = some k) := (Touch.refl _ _).grown hg (fun k hk _ => hk)
  have rows : ∀ g ∈ fs ++ [f], RowB w g.a g.ys.length g.cap g.ys ∧ ∀ x, g.a = some x → g.ys.length = 0 ∨ v.ownBlock ≠ some x.block := by
    intro g hg
    rcases List.mem_append.1 hg with h1 | h1
    · exact ⟨h.rows g h1, h.apart g h1⟩
    · simp at h1; subst h1; exact ⟨hr, hne⟩
  refine ⟨?_, fun g hg => (rows g hg).1.touch t (fun x hx => (rows g hg).2 x hx), fun g hg x hx => ?_⟩
  · simpa using ho
  · rcases (rows g hg).2 x hx with h0 | h0
    · exact .inl h0
    · by_cases h1 : g.ys.length = 0
      · exact .inl h1
      · right
        intro e
        rcases hp _ e with h2 | h2
        · exact h0 h2
        · have := (rows g hg).1.lt x hx; omega
theorem infoFr : (Tryd.prog.info? 33).map (fun i => (i.zero, i.size, i.bytes)) = some (some (.agg #[.int .i64 0, .int .i64 0, .slice none 0 0]), 3, 40) := by kernel_rfl
end Go.Proofs.YtibpnlhdpdfhiaaDoor
