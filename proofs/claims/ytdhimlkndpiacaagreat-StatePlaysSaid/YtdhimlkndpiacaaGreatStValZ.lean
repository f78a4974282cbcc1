/- Flows: the values of the map, collected in a row. -/
import Derived.Test.YtdhimlkndpiacaaGreatGHZ
import Derived.Test.YtdhimlkndpiacaaGreatGAZ
import Derived.Sort.MapsRangeIn
import Derived.RangeFuncNested
import Derived.RangeFuncBound
import Derived.RangeFuncLeaves
import Derived.Shelf.Abstract
import Derived.WalkKit
import Derived.OwnWalkIn
import Derived.TacticsInMore
import Derived.LoopNIn
import Derived.LoopIn
import Derived.CallsIn
set_option linter.unusedVariables false
set_option linter.unusedSimpArgs false
namespace Go.Proofs.YtdhimlkndpiacaaGreat
open Go.RowKit Go.Shelf Go.Maps

attribute [local go_sem] Oper.semAt_some

section
variable {F : Fence} {n : Nat} {w : World} {ops : Array Oper} {rest : List Oper} {o : Oper} {a : Act} {Q : Exit → Act → World → Prop}
theorem wpIn_rangeV (hg : o.guard = none) (m : Operand) (hop : o.op = Op.range 61 m) (mb : Nat) (M : List FlD) (hm : a.eval m = .map (some mb)) (h : OwnFl w mb M)
    (hK : ∀ w' left cnt, RangesF w' mb w.heap.size M left cnt → seenF M left = [] → w.grownBy w' none → cnt = M.length → wpListIn F n Tryz.prog ops Q rest (a.put o.dst (.pointer (some ⟨w.heap.size, 0, none⟩))) w') : wpListIn F n Tryz.prog ops Q (o :: rest) a w := by
  obtain ⟨hn, D, hD, hP⟩ := h
  refine wpListIn_range_own _ hg m _ hop 25 39 tupKeyed mapTF readF mb M.length D hm hD ?_
  intro w' r1 r2 r3
  refine hK w' _ _ ⟨hn, D, r1, hP, fun _ h => h⟩ ?_ r2 hP.size
  unfold seenF
  refine List.filter_eq_nil_iff.2 fun f hf => ?_
  rw [hP.has _ (hP.ok f hf), (hasF_iff _ _).2 (List.mem_map.2 ⟨f, hf, rfl⟩)]
  simp
set_option maxRecDepth 20000 in
theorem wpIn_nextV (hg : o.guard = none) (it : Operand) (hop : o.op = Op.next it false) (mb r : Nat) (M : List FlD) (left : Lit → Bool) (cnt : Nat) (hit : a.eval it = .pointer (some ⟨r, 0, none⟩)) (h : RangesF w mb r M left cnt)
    (hDone : seenF M left = M → wpListIn F n Tryz.prog ops Q rest (a.put o.dst (.tuple #[.bool false])) w)
    (hMore : ∀ (x : Value) (f : FlD) (left' : Lit → Bool) (w' : World) (cnt' : Nat), f ∈ M → (seenF M left').Perm (f :: seenF M left) → RangesF w' mb r M left' cnt' → cnt' < cnt → w.grownBy w' (some r) → w'.heap.size = w.heap.size →
      (Instr.entry (.pointer (some ⟨r, 0, none⟩))).run Tryz.prog w' = .ok (.tuple #[x, .agg (fca f)]) w' → wpListIn F n Tryz.prog ops Q rest (a.put o.dst (.tuple #[.bool true, x, .agg (fca f)])) w') :
    wpListIn F n Tryz.prog ops Q (o :: rest) a w := by
  obtain ⟨hn, D, hr, hP, hL⟩ := h
  refine wpListIn_next_ranges _ hg it hop 25 tupKeyed readF (fun v : Value => v) (fun f : FlD => .agg (fca f)) (fun key kl _ => ⟨key, rfl⟩) (fun v y hv => by obtain ⟨f, rfl, _⟩ := readF_inv hv; exact ⟨f, rfl⟩) mb r M.length D left cnt hit hr (fun _ hl => hDone (seen_none M hl)) ?_
  intro x c kl y w' cnt' hkey hlk hv hat hrg hlt hgr hsz hen
  obtain ⟨t, rfl, ot⟩ := keyT_inv hkey
  have ek : kl = klT t := by rw [keyT ot] at hkey; exact (Option.some.inj hkey).symm
  subst ek
  have hhas : hasF M t = true := by rw [← hP.has t ot]; exact hL _ hlk
  obtain ⟨f, hf, rfl⟩ := List.mem_map.1 ((hasF_iff _ _).1 hhas)
  have hc : c = f := by
    obtain ⟨c', e1, e2⟩ := readF_inv hv
    have e3 := hat (.lit (.bool true))
    rw [hP.at_ f hf] at e3
    rw [readF_mk] at hv
    injection hv with hv
    rw [← hv] at e3
    exact (encF_inj e3).symm
  subst hc
  exact hMore _ c _ w' cnt' hf (seen_step hn hP.ok hf hlk) ⟨hn, D, hrg, hP, fun kl h => hL kl (by simp only [Bool.and_eq_true] at h; exact h.1)⟩ hlt hgr hsz hen
end
theorem RangesF.walks {w w' : World} {mb r cnt : Nat} {M : List FlD} {left : Lit → Bool} (h : RangesF w mb r M left cnt) (hk : KeepsWalks w w') : RangesF w' mb r M left cnt := by
  obtain ⟨hn, D, hr, hp, hl⟩ := h
  exact ⟨hn, D, hr.of_walks hk, hp, hl⟩
theorem RangesF.iter {w : World} {mb r cnt : Nat} {M : List FlD} {left : Lit → Bool} (h : RangesF w mb r M left cnt) : ∃ o : Obj, w.heap[r]? = some o ∧ o.isWalk = true := by
  obtain ⟨hn, D, hr, hp, hl⟩ := h
  exact hr.iter_walk
theorem OwnFl.below {w w' : World} {mb : Nat} {M : List FlD} (h : OwnFl w mb M) (hb : Below w.heap.size w w') : OwnFl w' mb M := by
  have hlt := h.lt
  obtain ⟨hn, D, ⟨es, clock, he, r⟩, hP⟩ := h
  exact ⟨hn, D, ⟨es, clock, (hb.block mb hlt).trans he, r⟩, hP⟩
theorem fcell8 {w : World} {B : Nat} {f : FlD} {T : TypeId} (hb : w.heap[B]? = some (.cells (fca f) T (0, 0))) :
    w.cell? ⟨B, 0, none⟩ = some (.int .u32 f.t.src) ∧ w.cell? ⟨B, 1, none⟩ = some (.int .u32 f.t.dst) ∧ w.cell? ⟨B, 2, none⟩ = some (.int .i64 f.t.proto) ∧ w.cell? ⟨B, 3, none⟩ = some (.int .i64 f.t.sport) ∧ w.cell? ⟨B, 4, none⟩ = some (.int .i64 f.t.dport) ∧ w.cell? ⟨B, 5, none⟩ = some (.int .i64 f.fb) ∧ w.cell? ⟨B, 6, none⟩ = some (.int .i64 f.fg) ∧ w.cell? ⟨B, 7, none⟩ = some (.int .i64 f.fs) :=
  ⟨cell_of_cells hb 0, cell_of_cells hb 1, cell_of_cells hb 2, cell_of_cells hb 3, cell_of_cells hb 4, cell_of_cells hb 5, cell_of_cells hb 6, cell_of_cells hb 7⟩

set_option maxRecDepth 100000 in
set_option maxHeartbeats 2000000 in
/-- The iterator over the map's values, whatever the body. -/
theorem values1V (F : Fence) (n : Nat) (hF : F.fn 70) (hro : F.round = none) (hn : 1 ≤ n) (Bm mb : Nat) (M : List FlD) (w : World) (hBm : Bm < w.heap.size) (hm : w.cell? ⟨Bm, 0, none⟩ = some (.map (some mb))) (hown : OwnFl w mb M) :
    SeqStopsK F n Tryz.prog 70 #[.pointer (some ⟨Bm, 0, none⟩)] (fun f : FlD => #[.agg (fca f)]) KeepsWalks (fun xs => xs.Perm M) (fun _ => True) M.length w := by
  intro l J Jx W hW hJ hJx hY h0
  have hown' : OwnFl W mb M := hown.below hW
  have hm' : W.cell? ⟨Bm, 0, none⟩ = some (.map (some mb)) := (hW.cell (p := ⟨Bm, 0, none⟩) hBm).trans hm
  refine callsIn_of_wp Tryz.func70 rfl hF ?_ hro
  simp only [Tryz.ntmps70, List.size_toArray, List.length_cons, List.length_nil, Nat.reduceAdd, Nat.reduceSub, Array.replicate_succ, Array.replicate_zero, List.push_toArray, List.append_toArray, List.nil_append, List.cons_append]
  gi_wp2_with (first
    | (gi_at_range; refine wpIn_rangeV rfl _ rfl mb M rfl hown' ?_; intro w0 left0 cnt0 hrg0 hsn0 hg0 hcnt0)
    | gi_in)
  try go_frame
  gi_loopw [] (fun wr => ∃ (left : Lit → Bool) (cnt : Nat) (xs : List FlD), RangesF wr mb W.heap.size M left cnt ∧ xs.length + cnt ≤ M.length ∧ xs.Perm (seenF M left) ∧ J xs wr)
    (fun wr => wr.rangeLeft mb W.heap.size)
  case atStart =>
    exact ⟨left0, cnt0, [], hrg0, by simp [hcnt0], by rw [hsn0], hJ [] W w0 none h0 hg0 (fun r e => by cases e)⟩
  case round =>
    obtain ⟨left, cnt, xs, hrg, hcs, hP, hJs⟩ := hrel
    gi_wp2_with (first
      | (gi_at_next; refine wpIn_nextV rfl _ rfl mb W.heap.size M left cnt rfl hrg ?_ ?_)
      | gi_in)
    · intro hd
      rw [hd] at hP
      gi_wp2
      go_end0
      exact ⟨⟨_, rfl⟩, .inl ⟨xs, hP, hJs⟩⟩
    · intro xk f left' w2 cnt2 hf hp2 hrg2 hlt hg2 hs2 hen
      have hJ2 : J xs w2 := hJ xs wr w2 (some W.heap.size) hJs hg2 (fun r e => by cases e; exact ⟨Nat.le_refl _, hrg.iter⟩)
      obtain ⟨⟨a1, a2, a3, a4, a5⟩, fb, fg, fs⟩ := f
      simp only [fca] at hen
      obtain ⟨w3, hw3⟩ : ∃ w3, w2.alloc (.cells #[.int .u32 a1, .int .u32 a2, .int .i64 a3, .int .i64 a4, .int .i64 a5, .int .i64 fb, .int .i64 fg, .int .i64 fs] 39) = w3 := ⟨_, rfl⟩
      have hJ3 : J xs w3 := hJ xs w2 w3 none hJ2 (hw3 ▸ World.grownBy_alloc _ _ none) (fun r e => by cases e)
      have hrg3 : RangesF w3 mb W.heap.size M left' cnt2 := hrg2.walks (hw3 ▸ KeepsWalks.alloc _ _)
      have g3 : w3.heap[w2.heap.size]? = some (.cells (fca ⟨⟨a1, a2, a3, a4, a5⟩, fb, fg, fs⟩) 39 (0, 0)) := hw3 ▸ heap_alloc_new ..
      obtain ⟨c0, c1, c2, c3, c4, c5, c6, c7⟩ := fcell8 g3
      simp only at c0 c1 c2 c3 c4 c5 c6 c7
      obtain ⟨fn, tmps, assign, body, hy, hR⟩ := hY xs ⟨⟨a1, a2, a3, a4, a5⟩, fb, fg, fs⟩ w3 hJ3 (by omega)
      dsimp only [fca] at hy
      clear hs2 g3
      gi_wp2
      refine hR.mono ?_
      rintro e W3 (⟨rfl, hJ4, hk4⟩ | ⟨rfl, hJx4⟩)
      · gi_wp2
        have hrg4 := hrg3.walks hk4
        go_roundw
        case rel => exact ⟨_, cnt2, xs ++ [⟨⟨a1, a2, a3, a4, a5⟩, fb, fg, fs⟩], hrg4, by simp; omega, (List.perm_append_singleton _ _).trans ((hP.cons _).trans hp2.symm), hJ4⟩
        case measure => rw [hrg4.left_eq, hrg.left_eq]; exact hlt
      · gi_wp2
        refine bodyPost_ret (results_none rfl _ _ _) rfl ?_
        exact ⟨⟨_, rfl⟩, .inr ⟨_, trivial, hJx4⟩⟩
theorem valuesV (w : World) (mb : Nat) :
    Calls Tryz.prog 42 #[.map (some mb)] w fun e w' => e = .returned (.func (.func 70) #[] #[.pointer (some ⟨w.heap.size, 0, none⟩)]) ∧ w' = w.alloc (.cells #[.map (some mb)] 61) := by
  go_enter Tryz.func42, Tryz.ntmps42
  go_wp2_with fail
  go_ret
  exact ⟨rfl, rfl⟩
end Go.Proofs.YtdhimlkndpiacaaGreat
