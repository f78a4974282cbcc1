/- A state: in memory; what a record makes of it. -/
import Derived.Test.YtdhimlkndpiacaaGreatGFZ
import Derived.Test.YtdhimlkndpiacaaGreatIntMapZ
import Derived.Test.YtdhimlkndpiacaaGreatGCZ
import Derived.Test.YtdhimlkndpiacaaGreatHBZ
import Derived.Test.YtdhimlkndpiacaaGreatHAZ
import Derived.Carry
set_option linter.unusedVariables false
set_option linter.unusedSimpArgs false
namespace Go.Proofs.YtdhimlkndpiacaaGreat
open Go.RowKit

/-- A state, said of rows. -/
structure StS where
  gen : Int
  bs : List BkD
  D : List DR
  F : List FlD
/-- Where it lies. -/
structure StH where
  dm : Nat
  fm : Nat
  ba : Option Addr
  bc : Nat
def stZ : StS := ⟨0, [], [], []⟩
def flOf (r : RecD) : FlD := ⟨r.t, r.fb, r.fg, r.fs⟩
def stPutE (F : List FlD) (t : TupD) : Int := if hasF F t then 0 else if 256 ≤ F.length then 9 else 0
def stDrE (D : List DR) (b : Int) : Int := if hasD D b then 0 else if 16 ≤ D.length then 9 else 0
/-- What Apply tells. -/
def stE (s : StS) (r : RecD) : Int :=
  if mayRB r = false then 1
  else if r.kind = 1 then stPutE s.F r.t
  else if r.kind = 2 then 0
  else if r.kind = 3 then (if gmay r.bs then 0 else 1)
  else if r.kind = 4 then stDrE s.D r.be
  else if r.kind = 5 then 0
  else 1
/-- What it makes of the state, if it tells no error. -/
def stDo (s : StS) (r : RecD) : StS :=
  if r.kind = 1 then { s with F := flOf r :: delF s.F r.t }
  else if r.kind = 2 then { s with F := delF s.F r.t }
  else if r.kind = 3 then { s with gen := r.gen, bs := r.bs }
  else if r.kind = 4 then { s with D := ⟨r.be, r.un⟩ :: delD s.D r.be }
  else if r.kind = 5 then { s with D := delD s.D r.be }
  else s
def stS (s : StS) (r : RecD) : StS := if stE s r = 0 then stDo s r else s
def mayFl (f : FlD) : Bool := mayTB f.t && idB f.fb && cntB f.fg && timB f.fs
def mayDr (d : DR) : Bool := idB d.b && timB d.u
structure StOk (s : StS) : Prop where
  gen : cntB s.gen = true
  bs : gmay s.bs = true
  fl : s.F.length ≤ 256
  dl : s.D.length ≤ 16
  fk : ∀ f ∈ s.F, mayFl f = true
  dk : ∀ d ∈ s.D, mayDr d = true
  fn : (s.F.map FlD.t).Nodup
  dn : (s.D.map DR.b).Nodup
structure StM (w : World) (b : Nat) (h : StH) (s : StS) : Prop where
  head : w.heap[b]? = some (.cells #[.int .i64 s.gen, .slice h.ba s.bs.length h.bc, .map (some h.dm), .map (some h.fm)] 63 (0, 0))
  dr : OwnZ w 3 2 h.dm s.D
  fl : OwnFl w h.fm s.F
  bk : RowK w h.ba s.bs.length h.bc s.bs
  bo : ∀ x, h.ba = some x → s.bs.length = 0 ∨ (x.block ≠ b ∧ x.block ≠ h.dm ∧ x.block ≠ h.fm)
  ne : b ≠ h.dm ∧ b ≠ h.fm ∧ h.dm ≠ h.fm
  ok : StOk s
/-- The blocks that a call may turn. -/
def footS (b : Nat) (h : StH) (k : Nat) : Prop := k = b ∨ k = h.dm ∨ k = h.fm
section
variable {w w' w2 : World} {b : Nat} {h h' : StH} {s s' : StS}
theorem StM.touch {S : Nat → Prop} (m : StM w b h s) (t : Touch w w' S) (hn : ∀ k, footS b h k → ¬ S k) (ha : ∀ x, h.ba = some x → s.bs.length = 0 ∨ ¬ S x.block) : StM w' b h s where
  head := t.keeps m.head (hn b (.inl rfl))
  dr := m.dr.touch t (hn _ (.inr (.inl rfl)))
  fl := m.fl.touch t (hn _ (.inr (.inr rfl)))
  bk := m.bk.touch t ha
  bo := m.bo
  ne := m.ne
  ok := m.ok
theorem StM.still (m : StM w b h s) (t : Touch w w' (fun _ => False)) : StM w' b h s := m.touch t (fun _ _ h => h) (fun _ _ => .inr (fun h => h))
theorem StM.cells (m : StM w b h s) : w.cell? ⟨b, 0, none⟩ = some (.int .i64 s.gen) ∧ w.cell? ⟨b, 1, none⟩ = some (.slice h.ba s.bs.length h.bc) ∧ w.cell? ⟨b, 2, none⟩ = some (.map (some h.dm)) ∧ w.cell? ⟨b, 3, none⟩ = some (.map (some h.fm)) :=
  ⟨cell_of_cells m.head 0, cell_of_cells m.head 1, cell_of_cells m.head 2, cell_of_cells m.head 3⟩
theorem StM.lt (m : StM w b h s) : ∀ k, footS b h k → k < w.heap.size := by
  rintro k (rfl | rfl | rfl)
  · exact heap_lt m.head
  · exact m.dr.lt
  · exact m.fl.lt
end
/-- A state that was made since w. -/
structure StN (w w1 : World) (b : Nat) (h : StH) (s : StS) : Prop where
  m : StM w1 b h s
  t : Touch w w1 (fun _ => False)
  f : ∀ k, footS b h k → w.heap.size ≤ k
/-- Behind a call. -/
def StTo (w w' : World) (b : Nat) (h : StH) (s' : StS) : Prop :=
  ∃ h', StM w' b h' s' ∧ h'.dm = h.dm ∧ h'.fm = h.fm ∧ Touch w w' (footS b h)
section
variable {w0 w w' : World} {b : Nat} {h : StH} {s s' : StS}
theorem StN.still (n : StN w0 w b h s) (t : Touch w w' (fun _ => False)) : StN w0 w' b h s := ⟨n.m.still t, n.t.trans t (fun _ _ h => h), n.f⟩
theorem StTo.touch (t : StTo w w' b h s') : Touch w w' (footS b h) := by
  obtain ⟨_, _, _, _, t⟩ := t
  exact t
theorem StN.step (n : StN w0 w b h s) (t : StTo w w' b h s') : ∃ h', StN w0 w' b h' s' ∧ h'.dm = h.dm ∧ h'.fm = h.fm := by
  obtain ⟨h', m', e1, e2, t'⟩ := t
  refine ⟨h', ⟨m', n.t.trans t' (fun k hk hf => by have := n.f k hf; omega), fun k hk => n.f k ?_⟩, e1, e2⟩
  unfold footS at hk ⊢
  rw [e1, e2] at hk
  exact hk
end
theorem stZ_ok : StOk stZ := ⟨by decide, by decide, by decide, by decide, (fun f hf => by cases hf), (fun f hf => by cases hf), List.nodup_nil, List.nodup_nil⟩
theorem idB_lt {b : Int} (h : idB b = true) : i64D b := by
  have := (idB_iff b).1 h
  unfold i64D; omega
theorem timB_lt {b : Int} (h : timB b = true) : i64D b := by
  have := (timB_iff b).1 h
  unfold i64D; omega
theorem may1 {r : RecD} (hk : r.kind = 1) (h : mayRB r = true) : mayFl (flOf r) = true := by
  unfold mayRB at h; rw [if_pos hk] at h; exact h
theorem may4 {r : RecD} (hk : r.kind = 4) (h : mayRB r = true) : mayDr ⟨r.be, r.un⟩ = true := by
  unfold mayRB at h; rw [if_neg (by omega), if_neg (by omega), if_neg (by omega), if_pos hk] at h; exact h
theorem may3 {r : RecD} (hk : r.kind = 3) (h : mayRB r = true) : cntB r.gen = true ∧ r.bs.length ≤ 16 := by
  unfold mayRB at h; rw [if_neg (by omega), if_neg (by omega), if_pos hk] at h
  simp only [Bool.and_eq_true, decide_eq_true_iff] at h
  exact ⟨h.1.1, h.1.2⟩
theorem may5 {r : RecD} (hk : r.kind = 5) (h : mayRB r = true) : idB r.be = true := by
  unfold mayRB at h; rw [if_neg (by omega), if_neg (by omega), if_neg (by omega), if_neg (by omega), if_pos hk] at h; exact h
theorem may2 {r : RecD} (hk : r.kind = 2) (h : mayRB r = true) : mayTB r.t = true := by
  unfold mayRB at h; rw [if_neg (by omega), if_pos hk] at h; exact h
/-- A state stays one. -/
theorem StOk.step {s : StS} (o : StOk s) (r : RecD) : StOk (stS s r) := by
  unfold stS
  by_cases h0 : stE s r = 0
  case neg => rw [if_neg h0]; exact o
  rw [if_pos h0]
  have hm : mayRB r = true := by
    cases e : mayRB r with
    | true => rfl
    | false => unfold stE at h0; rw [if_pos e] at h0; cases h0
  unfold stE at h0
  rw [if_neg (by rw [hm]; decide)] at h0
  unfold stDo
  by_cases h1 : r.kind = 1
  · rw [if_pos h1] at h0 ⊢
    refine ⟨o.gen, o.bs, ?_, o.dl, fun f hf => ?_, o.dk, ?_, o.dn⟩
    · show (flOf r :: delF s.F r.t).length ≤ 256
      have h2 := delF_len o.fn r.t
      have h3 := o.fl
      rw [List.length_cons]
      unfold stPutE at h0
      cases hh : hasF s.F r.t with
      | true => rw [hh] at h2; simp only [if_true] at h2; omega
      | false =>
        rw [hh] at h0 h2
        simp only [Bool.false_eq_true, if_false] at h0 h2
        split at h0
        · cases h0
        · omega
    · rcases List.mem_cons.1 hf with rfl | hf
      · exact may1 h1 hm
      · exact o.fk f (List.mem_filter.1 hf).1
    · show (((flOf r :: delF s.F r.t)).map FlD.t).Nodup
      rw [List.map_cons, List.nodup_cons]
      exact ⟨delF_not s.F r.t, delF_nd o.fn _⟩
  rw [if_neg h1] at h0 ⊢
  by_cases h2 : r.kind = 2
  · rw [if_pos h2]
    exact ⟨o.gen, o.bs, Nat.le_trans (List.length_filter_le _ _) o.fl, o.dl, fun f hf => o.fk f (List.mem_filter.1 hf).1, o.dk, delF_nd o.fn _, o.dn⟩
  rw [if_neg h2] at h0 ⊢
  by_cases h3 : r.kind = 3
  · rw [if_pos h3] at h0 ⊢
    refine ⟨(may3 h3 hm).1, ?_, o.fl, o.dl, o.fk, o.dk, o.fn, o.dn⟩
    show gmay r.bs = true
    cases hg : gmay r.bs with
    | true => rfl
    | false => rw [hg] at h0; cases h0
  rw [if_neg h3] at h0 ⊢
  by_cases h4 : r.kind = 4
  · rw [if_pos h4] at h0 ⊢
    refine ⟨o.gen, o.bs, o.fl, ?_, o.fk, fun f hf => ?_, o.fn, ?_⟩
    · show ((⟨r.be, r.un⟩ : DR) :: delD s.D r.be).length ≤ 16
      have h2 := delD_len o.dn r.be
      have h3 := o.dl
      rw [List.length_cons]
      unfold stDrE at h0
      cases hh : hasD s.D r.be with
      | true => rw [hh] at h2; simp only [if_true] at h2; omega
      | false =>
        rw [hh] at h0 h2
        simp only [Bool.false_eq_true, if_false] at h0 h2
        split at h0
        · cases h0
        · omega
    · rcases List.mem_cons.1 hf with rfl | hf
      · exact may4 h4 hm
      · exact o.dk f (List.mem_filter.1 hf).1
    · show ((((⟨r.be, r.un⟩ : DR) :: delD s.D r.be)).map DR.b).Nodup
      rw [List.map_cons, List.nodup_cons]
      exact ⟨delD_not s.D r.be, delD_nd o.dn _⟩
  rw [if_neg h4] at h0 ⊢
  by_cases h5 : r.kind = 5
  · rw [if_pos h5]
    exact ⟨o.gen, o.bs, o.fl, Nat.le_trans (List.length_filter_le _ _) o.dl, o.fk, fun f hf => o.dk f (List.mem_filter.1 hf).1, o.fn, delD_nd o.dn _⟩
  rw [if_neg h5]
  exact o
end Go.Proofs.YtdhimlkndpiacaaGreat
