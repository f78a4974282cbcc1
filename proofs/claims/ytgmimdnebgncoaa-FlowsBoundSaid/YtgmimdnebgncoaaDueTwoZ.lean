/- Two queues side by side. -/
import Derived.Test.YtgmimdnebgncoaaGGZ
import Derived.Test.YtgmimdnebgncoaaDueArgsZ
set_option linter.unusedVariables false
set_option linter.unusedSimpArgs false
namespace Go.Proofs.Ytgmimdnebgncoaa
open Go.RowKit

structure Q2 (w w' : World) (bp : Nat) (hp : QH) (Lp : List QR) (bq : Nat) (hq : QH) (Lq : List QR) : Prop where
  p : QN w w' bp hp Lp
  q : QN w w' bq hq Lq
  ap : ∀ k, footQ bp hp k → ¬ footQ bq hq k
section
variable {w w1 w2 : World} {bp bq : Nat} {hp hq : QH} {Lp Lq L' A R : List QR} {v : Value}
theorem Q2.symm (h : Q2 w w1 bp hp Lp bq hq Lq) : Q2 w w1 bq hq Lq bp hp Lp := ⟨h.q, h.p, fun k a b => h.ap k b a⟩
theorem Q2.still (h : Q2 w w1 bp hp Lp bq hq Lq) (t : Touch w1 w2 (fun _ => False)) : Q2 w w2 bp hp Lp bq hq Lq := ⟨h.p.still t, h.q.still t, h.ap⟩
theorem Q2.touch {S : Nat → Prop} (h : Q2 w w1 bp hp Lp bq hq Lq) (t : Touch w1 w2 S) (h1 : ∀ k, footQ bp hp k → ¬ S k) (h2 : ∀ k, footQ bq hq k → ¬ S k) (h3 : ∀ k, k < w.heap.size → ¬ S k) : Q2 w w2 bp hp Lp bq hq Lq := ⟨h.p.touch t h1 h3, h.q.touch t h2 h3, h.ap⟩
theorem Q2.stepP (h : Q2 w w1 bp hp Lp bq hq Lq) (s : QLStep w1 w2 bp hp L') : ∃ hp', Q2 w w2 bp hp' L' bq hq Lq ∧ Touch w1 w2 (footQ bp hp) := by
  obtain ⟨hp', n, f, t⟩ := h.p.step s
  refine ⟨hp', ⟨n, h.q.touch t (fun k hk hf => h.ap k hf hk) (fun k hk hf => by have := h.p.f k hf; omega), fun k hk hf => ?_⟩, t⟩
  rcases f k hk with h1 | h1
  · exact h.ap k h1 hf
  · have := h.q.q.footlt k hf; omega
theorem Q2.stepQ (h : Q2 w w1 bp hp Lp bq hq Lq) (s : QLStep w1 w2 bq hq L') : ∃ hq', Q2 w w2 bp hp Lp bq hq' L' ∧ Touch w1 w2 (footQ bq hq) := by
  obtain ⟨hq', n, t⟩ := h.symm.stepP s
  exact ⟨hq', n.symm, t⟩
theorem Q2.dueP (h : Q2 w w1 bp hp Lp bq hq Lq) (s : DueIs w1 w2 bp hp A R v) :
    ∃ a c hp', v = .slice a A.length c ∧ OwnS w2 w1.heap.size 9 1 (.slice a A.length c) (kcells A) ∧ (∀ x, a = some x → ¬ footQ bp hp' x.block ∧ ¬ footQ bq hq x.block) ∧ Q2 w w2 bp hp' R bq hq Lq ∧ Touch w1 w2 (footQ bp hp) := by
  obtain ⟨a, c, h1, rfl, ho, q, t, f, d⟩ := s
  obtain ⟨hp', n, hx⟩ := h.stepP (L' := R) ⟨h1, q, t, f⟩
  obtain ⟨_, hr, hb⟩ := ho.row'
  refine ⟨a, c, h1, rfl, ho, fun x hx => ⟨d x.block (by subst hx; rfl), fun hf => ?_⟩, ?_, t⟩
  · have := h.q.q.footlt _ hf
    have := (hb x hx).1
    omega
  · refine ⟨⟨q, h.p.t.trans t (fun k hk hf => by have := h.p.f k hf; omega), fun k hk => ?_⟩, h.q.touch t (fun k hk hf => h.ap k hf hk) (fun k hk hf => by have := h.p.f k hf; omega), fun k hk hf => ?_⟩
    · rcases f k hk with h2 | h2
      · exact h.p.f k h2
      · exact Nat.le_trans h.p.t.size h2
    · rcases f k hk with h2 | h2
      · exact h.ap k h2 hf
      · have := h.q.q.footlt k hf; omega
theorem Q2.dueQ' (h : Q2 w w1 bp hp Lp bq hq Lq) (s : DueIs w1 w2 bq hq A R v) :
    ∃ a c hq', v = .slice a A.length c ∧ OwnS w2 w1.heap.size 9 1 (.slice a A.length c) (kcells A) ∧ (∀ x, a = some x → ¬ footQ bp hp x.block ∧ ¬ footQ bq hq' x.block) ∧ Q2 w w2 bp hp Lp bq hq' R ∧ Touch w1 w2 (footQ bq hq) := by
  obtain ⟨a, c, hq', e, ho, d, n, t⟩ := h.symm.dueP s
  exact ⟨a, c, hq', e, ho, fun x hx => ⟨(d x hx).2, (d x hx).1⟩, n.symm, t⟩
theorem Q2.new (n : QN w w1 bp hp Lp) (q : QL w2 bq hq []) (t : Touch w1 w2 (fun _ => False)) (f : ∀ k, footQ bq hq k → w1.heap.size ≤ k) : Q2 w w2 bp hp Lp bq hq [] :=
  ⟨n.still t, QN.new n.t q t f, fun k hk hf => by have := n.q.footlt k hk; have := f k hf; omega⟩
end
/-! ### sums of sets -/
theorem ins_length (r : QR) (l : List QR) : (insQ r l).length = l.length + 1 := by rw [(ins_perm r l).length_eq]; simp
theorem set_length (L : List QR) (k : ByteArray) (t : Int) : (setQ L k t).length ≤ L.length + 1 := by
  unfold setQ
  split
  · rw [ins_length]
    have : (delQ L k).length ≤ L.length := List.length_filter_le _ _
    omega
  · omega
theorem del_ins (r : QR) : ∀ (l : List QR), r.key ∉ l.map QR.key → delQ (insQ r l) r.key = l
  | [], _ => by simp [insQ, delQ]
  | x :: l, h => by
    simp only [List.map_cons, List.mem_cons, not_or] at h
    have hx : ¬ x.key = r.key := fun e => h.1 e.symm
    unfold insQ
    split
    · have ih := del_ins r l h.2
      unfold delQ at ih ⊢
      rw [List.filter_cons, if_pos (by simp [hx]), ih]
    · have h2 : delQ (x :: l) r.key = x :: l := del_none (by simp only [List.map_cons, List.mem_cons, not_or]; exact h)
      unfold delQ at h2 ⊢
      rw [List.filter_cons, if_neg (by simp), h2]
theorem due_all {L : List QR} {now : Int} (h : ∀ r ∈ L, r.time ≤ now) : dueQ L now = L ∧ restQ L now = [] := by
  have := due_split (now := now) (R := []) (by simp) L h
  rwa [List.append_nil] at this
def c0Q : CallQ := ⟨0, ByteArray.empty, 0⟩
def gc (l : List CallQ) (i : Nat) : CallQ := l.getD i c0Q
theorem gc_get (l : List CallQ) (i : Nat) (h : i < l.length) : gc l i = l[i] := by unfold gc; rw [List.getD_eq_getElem?_getD, List.getElem?_eq_getElem h]; rfl
theorem gc_mem (l : List CallQ) (i : Nat) (h : i < l.length) : gc l i ∈ l := by rw [gc_get l i h]; exact List.getElem_mem h
theorem call_cells {w : World} {b off n c : Nat} {l : List CallQ} (r : RowS w (some ⟨b, off, none⟩) n c 3 (l.map CallQ.cells)) (k : Nat) (hk : k < l.length) :
    w.cell? ⟨b, off + k * 3, none⟩ = some (.int .i64 (gc l k).do_) ∧ w.cell? ⟨b, off + k * 3 + 1, none⟩ = some (.string (gc l k).key) ∧ w.cell? ⟨b, off + k * 3 + 2, none⟩ = some (.int .i64 (gc l k).at_) := by
  have hk' : k < (l.map CallQ.cells).length := by simpa using hk
  have e : (l.map CallQ.cells)[k] = (gc l k).cells := by rw [List.getElem_map, gc_get l k hk]
  exact ⟨r.cell k hk' 0 _ (by rw [e]; rfl), r.cell k hk' 1 _ (by rw [e]; rfl), r.cell k hk' 2 _ (by rw [e]; rfl)⟩
end Go.Proofs.Ytgmimdnebgncoaa
