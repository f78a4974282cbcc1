/- Flows: the values of the map, collected in a row: slices.Collect. -/
import Derived.Test.YtdhimlkndpiacaaGreatStValZ
set_option linter.unusedVariables false
set_option linter.unusedSimpArgs false
namespace Go.Proofs.YtdhimlkndpiacaaGreat
open Go.RowKit Go.Shelf Go.Maps

attribute [local go_sem] Oper.semAt_some

theorem own_slice {w : World} {base k n : Nat} {E : TypeId} {v : Value} {L : List Value} (h : w.ownsRow base E k v n L) : ∃ a n c, v = .slice a n c := by
  rcases h.2 with ⟨rfl, _⟩ | ⟨g, cap, cur, rfl, _⟩
  · exact ⟨_, _, _, rfl⟩
  · exact ⟨_, _, _, rfl⟩
theorem infoFlV : (Tryz.prog.info? 39).map (fun i => (i.zero, i.size, i.bytes)) = some (some (.agg (fca noF)), 8, 56) := by kernel_rfl
theorem fcl_ones (f : FlD) : ∀ u ∈ fcl f, u.oneCell' = true := by
  intro u hu
  unfold fcl at hu
  simp only [List.mem_cons, List.not_mem_nil, or_false] at hu
  rcases hu with rfl | rfl | rfl | rfl | rfl | rfl | rfl | rfl <;> rfl
theorem row_oneV (w : World) (f : FlD) : ∀ j u, (fcl f)[j]? = some u → (w.alloc (.cells (fca f) 39)).cell? ((⟨w.heap.size, 0, none⟩ : Addr).add j) = some u := by
  have h : RowS (w.alloc (.cells (fca f) 39)) (some ⟨w.heap.size, 0, none⟩) 1 1 8 [fcl f] := ((OwnS.lit w w.heap.size (Nat.le_refl _) 39 8 1 [fcl f] (fca f) rfl rfl (by simp [fcl]) (by omega)).row').2.1
  have h2 := h.news
  simpa using h2
set_option maxRecDepth 100000 in
set_option maxHeartbeats 4000000 in
theorem appendSeqV (w : World) (Bm mb : Nat) (M : List FlD) (hM : M.length ≤ 1000000) (hBm : Bm < w.heap.size) (hm : w.cell? ⟨Bm, 0, none⟩ = some (.map (some mb))) (hown : OwnFl w mb M) :
    CallsIn Fence.wide 5 Tryz.prog 69 #[.slice none 0 0, .func (.func 70) #[] #[.pointer (some ⟨Bm, 0, none⟩)]] w fun e w' => ∃ (v : Value) (xs : List FlD), e = .returned v ∧ xs.Perm M ∧ w'.ownsRow w.heap.size 39 8 v xs.length (xs.map fcl).flatten ∧ Below w.heap.size w w' := by
  obtain ⟨iF, hiF⟩ := Option.isSome_iff_exists.1 (show (Tryz.prog.info? 39).isSome = true by kernel_rfl)
  obtain ⟨z0, z1, z2⟩ : iF.zero = some (.agg (fca noF)) ∧ iF.size = 8 ∧ iF.bytes = 56 := by
    have h := infoFlV
    rw [hiF] at h
    simp only [Option.map_some, Option.some.injEq, Prod.mk.injEq] at h
    exact h
  refine callsIn_of_wp_marks Tryz.func69 rfl trivial ?_ rfl
  simp only [Tryz.ntmps69, List.size_toArray, List.length_cons, List.length_nil, Nat.reduceAdd, Nat.reduceSub, Array.replicate_succ, Array.replicate_zero, List.push_toArray, List.append_toArray, List.nil_append, List.cons_append]
  gi_wp2
  have bS := Boxed.new w 33 (.slice none 0 0)
  have hB0 : Below w.heap.size w (w.alloc (.cells #[.slice none 0 0] 33)) := (Below.refl _ w).alloc (Nat.le_refl _) _
  have hown0 := hown.below hB0
  have hm0 : (w.alloc (.cells #[.slice none 0 0] 33)).cell? ⟨Bm, 0, none⟩ = some (.map (some mb)) := (hB0.cell (p := ⟨Bm, 0, none⟩) hBm).trans hm
  have hsz : (w.alloc (.cells #[.slice none 0 0] 33)).heap.size = w.heap.size + 1 := by simp
  obtain ⟨W0, hW0⟩ : ∃ W0, w.alloc (.cells #[.slice none 0 0] 33) = W0 := ⟨_, rfl⟩
  rw [hW0] at bS hB0 hown0 hm0 hsz ⊢
  obtain ⟨Bs, hBs⟩ : ∃ Bs, w.heap.size = Bs := ⟨_, rfl⟩
  rw [hBs] at bS hsz hB0 ⊢
  have hne : (33 : TypeId) ≠ 39 := by decide
  clear hW0
  refine wpIn_rangeFunc_ownH rfl (by decide) (gf := 70) (lb := #[.pointer (some ⟨Bm, 0, none⟩)]) rfl trivial (enters_of Tryz.func70 (by kernel_rfl) rfl)
    (values1V Fence.wide (5 - 1) trivial rfl (by decide) Bm mb M W0 (by omega) hm0 hown0) walksK_t walksK_b (Below.refl _ _) (fun _ => rfl)
    (fun pre W => (∃ v, Boxed W Bs 33 v ∧ W.ownsRow Bs 39 8 v pre.length (pre.map fcl).flatten ∧ True) ∧ Below Bs w W)
    (fun _ _ _ => False)
    (OwnFrom.and (Own.from (holdsRow_own Bs Bs 33 39 8 (fun pre : List FlD => pre.length) (fun pre => (pre.map fcl).flatten) (fun _ _ => True)) _) (ownFrom_below (by omega) (by omega)))
    (fun _ _ _ _ _ hs _ _ => hs)
    ⟨⟨_, bS, World.ownsRow_nil _ _ _ _, trivial⟩, hB0⟩
    (fun x a' W => ∃ Bx, Bs < Bx ∧ W.heap[Bx]? = some (.cells (fca x) 39 (0, 0)) ∧ a' = { tmps := #[.slice none 0 0, .func (.func 70) #[] #[.pointer (some ⟨Bm, 0, none⟩)], .pointer (some ⟨Bs, 0, none⟩), undef, .slice none 0 0, .pointer (some ⟨Bx, 0, none⟩), .func (.func 70) #[] #[.pointer (some ⟨Bm, 0, none⟩)], .agg (fca x), undef, undef, undef, undef, undef], defers := [] })
    (fun x a' _ X Y row hs hg hr => by obtain ⟨Bx, h1, h2, h3⟩ := hs; exact ⟨Bx, h1, (grownBy_keeps_cells hg (fun r e => (hr r e).2) h2 rfl).trans h2, h3⟩)
    ?assign ?body ?done ?stop
  case assign =>
    rintro l pre x W K ⟨⟨v, bS1, hr1, -⟩, hB1⟩ hK
    obtain ⟨⟨a1, a2, a3, a4, a5⟩, fb, fg, fs⟩ := x
    simp only [fca] at hK ⊢
    gi_wp2
    refine hK _ _ ((KeepsOthers.alloc _ _).from _) (KeepsWalks.alloc _ _) ⟨⟨v, bS1.alloc _, hr1.alloc _, trivial⟩, hB1.alloc (by have := hB1.size; omega) _⟩ ⟨W.heap.size, bS1.lt, heap_alloc_new .., rfl⟩
  case body =>
    rintro l pre x a' W hl ⟨r, hr⟩ ⟨⟨v, bS1, hr1, -⟩, hB1⟩ ⟨Bx, hBx, gX, rfl⟩ hlt
    have cS := bS1.cell
    obtain ⟨c0, c1, c2, c3, c4, c5, c6, c7⟩ := fcell8 gX
    have hone := row_oneV W x
    have hones := fcl_ones x
    have hfl : ((pre ++ [x]).map fcl).flatten = (pre.map fcl).flatten ++ fcl x := by simp
    obtain ⟨L, hL⟩ : ∃ L, (pre.map fcl).flatten = L := ⟨_, rfl⟩
    obtain ⟨L2, hL2⟩ : ∃ L2, ((pre ++ [x]).map fcl).flatten = L2 := ⟨_, rfl⟩
    rw [hL] at hfl hr1
    rw [hL2] at hfl
    have HL2 := Lib.hid hL2
    clear hL hL2
    obtain ⟨N, hN⟩ : ∃ N, pre.length = N := ⟨_, rfl⟩
    rw [hN] at hr1 hlt
    have HN := Lib.hid hN
    clear hN
    obtain ⟨⟨a1, a2, a3, a4, a5⟩, fb, fg, fs⟩ := x
    simp only [fca, fcl] at c0 c1 c2 c3 c4 c5 c6 c7 hone hones hfl
    gi_wp2_with (gi_at_builtin; refine wpListIn_append_own _ rfl _ _ 33 rfl Bs 39 iF (.agg (fca noF)) 8 56 Tryz.underlying33 hiF z0 z1 z2 rfl (by decide) _ _ _ rfl (hr1.alloc _) ⟨W.heap.size, 0, none⟩ 1 1 [.int .u32 a1, .int .u32 a2, .int .i64 a3, .int .i64 a4, .int .i64 a5, .int .i64 fb, .int .i64 fg, .int .i64 fs] rfl rfl hone hones (by simp only [maxLen]; omega) (by omega) (by have := hB1.size; simp; omega) ?_; intro v' w3 hown' hg3 hn3; clear hn3; (obtain ⟨a9, n9, k9, hv9⟩ := own_slice hown'); subst hv9; have hv3 : Boxed w3 Bs 33 v := (bS1.alloc _).kept hg3 (bS1.not_row hne hr1); have cS3 := hv3.cell; have fS3 := hv3.frozen)
    have hg3 : World.grownBy _ w3 v.ownBlock := hg3
    have hko : KeepsOthers W w3 := (KeepsOthers.alloc W _).trans (KeepsOthers.of_grownBy hg3 (fun k o e hk => by
      rcases (hr1.alloc (.cells #[.int .u32 a1, .int .u32 a2, .int .i64 a3, .int .i64 a4, .int .i64 a5, .int .i64 fb, .int .i64 fg, .int .i64 fs] 39)).2 with ⟨hv, _⟩ | ⟨g, cap, cur, hv, _, hgb, _⟩
      · rw [hv] at e; cases e
      · rw [hv] at e
        have e2 : g = k := by simpa [Value.ownBlock] using e
        subst e2
        rw [hgb] at hk
        cases hk
        rfl))
    have hko2 : KeepsOthers W (w3.setCell ⟨Bs, 0, none⟩ (.slice a9 n9 k9)) := hko.trans (KeepsOthers.setCell _ _ _)
    have hb3 : Below Bs w w3 := (hB1.alloc (by have := hB1.size; omega) _).grown hg3 (by have := hB1.size; simp; omega) (fun k e => (hr1.lt k e).1)
    refine ⟨hko2.from _, hko2.walks, ⟨_, hv3.set _, ?_, trivial⟩, hb3.setCell (p := ⟨Bs, 0, none⟩) (Nat.le_refl _) _⟩
    rw [HL2.out, hfl, List.length_append, List.length_singleton, HN.out]
    exact hown'.kept (grownBy_setCell' w3 Bs _) (.inr (hv3.not_row hne hown').symm)
  case done =>
    rintro D xs W hD hp ⟨⟨v, bS1, hr1, -⟩, hB1⟩ hK
    obtain ⟨a0, n0, k0, rfl⟩ := own_slice hr1
    have cS := bS1.cell
    gi_wp2
    refine ⟨by simp, .inl ⟨_, _, rfl, run_takeDeferred hK, ?_⟩⟩
    refine ⟨_, results_tmp rfl _ _ _, .slice a0 n0 k0, xs, rfl, hp, ?_, ?_⟩
    · rw [hBs]; refine hr1.kept (grownBy_putObj' W D _) ?_
      rcases hr1.2 with ⟨hv, _⟩ | ⟨g, cap, cur, hv, _, hgb, _⟩ <;> rw [hv]
      · exact .inl rfl
      · refine .inr (fun e => ?_)
        have e2 : g = D := by simpa [Value.ownBlock] using e
        rw [e2, hK] at hgb
        cases hgb
    · rw [hBs]; exact hB1.grown (grownBy_putObj' W D _) (by have := hB1.size; omega) (fun k e => by cases e; omega)
  case stop =>
    rintro D c pre W _ _ h _
    exact h.elim
set_option maxRecDepth 20000 in
/-- slices.Collect(maps.Values(m)). -/
theorem collectV (w : World) (Bm mb : Nat) (M : List FlD) (hM : M.length ≤ 1000000) (hBm : Bm < w.heap.size) (hm : w.cell? ⟨Bm, 0, none⟩ = some (.map (some mb))) (hown : OwnFl w mb M) :
    Calls Tryz.prog 41 #[.func (.func 70) #[] #[.pointer (some ⟨Bm, 0, none⟩)]] w fun e w' => ∃ (a : Option Addr) (c : Nat) (xs : List FlD), e = .returned (.slice a xs.length c) ∧ xs.Perm M ∧ OwnS w' w.heap.size 39 8 (.slice a xs.length c) (xs.map fcl) ∧ Touch w w' (fun _ => False) := by
  have HA := Lib.hid ((callsIn_wide (n := 5)).1 (appendSeqV w Bm mb M hM hBm hm hown))
  clear hm hown
  go_enter Tryz.func41, Tryz.ntmps41
  go_wp2_with fail
  refine HA.out.mono ?_
  rintro e w' ⟨v, xs, rfl, hp, hr, hb⟩
  have ho : OwnS w' w.heap.size 39 8 v (xs.map fcl) := ⟨by rw [List.length_map]; exact hr, fun l hl => by
    obtain ⟨f, _, rfl⟩ := List.mem_map.1 hl
    rfl⟩
  obtain ⟨a, c, hv, -, -⟩ := ho.row
  rw [List.length_map] at hv
  subst hv
  have HR := Lib.hid (And.intro hp (And.intro ho (Touch.ofBelow (S := fun _ => False) hb (fun k hk hlt => by omega))))
  clear hp hr hb ho
  go_wp2_with fail
  go_ret
  exact ⟨a, c, xs, rfl, HR.out⟩
end Go.Proofs.YtdhimlkndpiacaaGreat
