/- 'append(v, make([]byte, n)...)': noughts appended to a row of bytes of the call's own. -/
import Derived.Test.YthjdebcjfpokoaaBytes
set_option linter.unusedVariables false
set_option linter.unusedSimpArgs false
namespace Go.Proofs.Ythjdebcjfpokoaa
open Go.RowKit

theorem zeroCells_one (n : Nat) : (Builtin.zeroCells #[Value.int .u8 0] n).toList = (List.replicate n 0).map cellB := by
  apply List.ext_getElem
  · simp [Builtin.zeroCells]
  · intro i h1 h2
    simp [Builtin.zeroCells, cellB, Nat.mod_one]

theorem run_appendZ {P : Program} (w : World) (t ti ty E : TypeId) (ht : P.underlying t = some (.slice E)) (hti : P.underlying ti = some (.int .i64)) (hin : (P.info? E).map (fun i => (i.zero, i.size, i.bytes)) = some (some (.int .u8 0), 1, 1))
    (base : Nat) (v : Value) (xs : List Nat) (hown : OwnB w base E v xs) (n : Nat) (hlen : xs.length + n ≤ 140737488355328) (hbase : base ≤ w.heap.size) :
    ∃ v' w', (Builtin.append_ #[t, ti] ty #[v, .int .i64 (n : Int)]).run P w = .ok v' w' ∧ OwnB w' base E v' (xs ++ List.replicate n 0) ∧ w.grownBy w' v.ownBlock := by
  obtain ⟨i, hi, hz0, hz1, hz2⟩ := info_parts hin
  have hsm : ∀ x ∈ xs ++ List.replicate n 0, x < 256 := fun x hx => by
    rcases List.mem_append.1 hx with h | h
    · exact hown.small x h
    · simp at h; omega
  have hlen' : (xs ++ List.replicate n 0).length = xs.length + n := by simp
  have hwr : IntKind.i64.wrap (n : Int) = n := IntWalk.i64_in _ (by omega)
  have hwr0 : IntKind.i64.wrap 0 = 0 := IntWalk.i64_in _ (by omega)
  have hn0 : ¬ (n : Int) < 0 := by omega
  have hn1 : ¬ (281474976710656 < (n : Int)) := by omega
  have hmap : (xs ++ List.replicate n 0).map cellB = xs.map cellB ++ (List.replicate n 0).map cellB := List.map_append
  have grown : ∀ (old : Nat), old < xs.length + n → ∀ (row : Option Nat),
      OwnB (w.drew.alloc (.cells ((xs.map cellB).toArray ++ Builtin.zeroCells #[Value.int .u8 0] n ++ Builtin.zeroCells #[Value.int .u8 0] (grownCap w (xs.length + n) old E - (xs.length + n))) E)) base E
        (.slice (some ⟨w.heap.size, 0, none⟩) (xs.length + n) (grownCap w (xs.length + n) old E)) (xs ++ List.replicate n 0) ∧
      w.grownBy (w.drew.alloc (.cells ((xs.map cellB).toArray ++ Builtin.zeroCells #[Value.int .u8 0] n ++ Builtin.zeroCells #[Value.int .u8 0] (grownCap w (xs.length + n) old E - (xs.length + n))) E)) row := by
    intro old ho row
    have hge := grownCap_ge w (xs.length + n) old E
    have hcm : grownCap w (xs.length + n) old E ≤ maxLen := grownCap_le_maxLen w (xs.length + n) old E (by simp only [maxLen]; omega)
    have hzl : ∀ m, (Builtin.zeroCells #[Value.int IntKind.u8 0] m).size = m := fun m => by simp [Builtin.zeroCells]
    refine ⟨⟨⟨by simp, .inr ⟨w.heap.size, _, _, by rw [hlen'], hbase, heap_alloc_new w.drew _, by rw [hlen']; exact hge, hcm, ?_, ?_⟩⟩, hsm, by rw [hlen']; omega⟩, ⟨rfl, rfl, rfl, by simp, fun k hk _ => heap_alloc_old w.drew _ hk⟩⟩
    · simp only [Array.size_append, List.size_toArray, List.length_map, hzl]; omega
    · rw [hmap]
      simp only [Array.toList_append, zeroCells_one]
      rw [List.append_assoc]
      have e : (xs ++ List.replicate n 0).length * 1 = (xs.map cellB ++ (List.replicate n 0).map cellB).length := by simp
      rw [e, ← List.append_assoc]
      exact List.take_left
  rcases hown.own.2 with ⟨rfl, hnx⟩ | ⟨g, cap, cur, rfl, hbg, hg, hnc, hcm, hcs, htake⟩
  · have hx : xs = [] := List.length_eq_zero_iff.1 hnx
    subst hx
    by_cases hm : n = 0
    · subst hm
      refine ⟨.slice none 0 0, w, ?_, by simpa using hown, ⟨rfl, rfl, rfl, Nat.le_refl _, fun _ _ _ => rfl⟩⟩
      simp [Builtin.append_, run_underlying ht, run_underlying hti, sizeOf, typeInfo, hi, hz1, hz2, asInt, asIntOf, hwr0, hwr]
    · have hgr := grown 0 (by simp; omega) (Value.ownBlock (.slice none 0 0))
      simp only [List.length_nil, Nat.zero_add] at hgr
      refine ⟨_, _, ?_, hgr.1, hgr.2⟩
      have h48' : ¬ (281474976710656 < Builtin.nextslicecap n 0) := by have := growslice_fits (need := n) (old := 0) (bytes := 1) (by omega) (by simp at hlen; omega); omega
      have h63' : ¬ (9223372036854775807 < (n : Int)) := by simp at hlen; omega
      simp [Builtin.append_, run_underlying ht, run_underlying hti, sizeOf, typeInfo, zeroValue, hi, hz0, hz1, hz2, asInt, asIntOf, hwr0, hwr, hn0, hn1, hm, h48', h63', Question.forced, newRow, grownCap, Builtin.firstCells, Value.cells]
  · by_cases hm : n = 0
    · subst hm
      have hroom : xs.length + 0 ≤ cap := hnc
      have hst : (storeCells ⟨g, 0 + xs.length * 1, none⟩ ([] : List Value) 0).run P w = .ok () w := by simp [storeCells]
      refine ⟨.slice (some ⟨g, 0, none⟩) xs.length cap, w, ?_, by simpa using hown, ⟨rfl, rfl, rfl, Nat.le_refl _, fun _ _ _ => rfl⟩⟩
      simp [Builtin.append_, run_underlying ht, run_underlying hti, sizeOf, typeInfo, hi, hz1, hz2, asInt, asIntOf, hwr0, hwr, hnc, Addr.add_lit, storeCells]
    · by_cases hroom : xs.length + n ≤ cap
      · have hst := run_storeCells_at P g (xs.length * 1) E ((List.replicate n 0).map cellB) 0 cur w hg (by simp; omega) (by intro u hu; obtain ⟨y, _, rfl⟩ := List.mem_map.1 hu; rfl)
        simp at hst
        refine ⟨.slice (some ⟨g, 0, none⟩) (xs.length + n) cap, w.setRow g (cur.toList.take (xs.length * 1) ++ (List.replicate n 0).map cellB ++ cur.toList.drop (xs.length * 1 + ((List.replicate n 0).map cellB).length)).toArray, ?_, ⟨⟨by simp, .inr ⟨g, cap, _, by rw [hlen'], hbg, setRow_heap w g cur _ E _ hg, by rw [hlen']; exact hroom, hcm, ?_, ?_⟩⟩, hsm, by rw [hlen']; omega⟩, ⟨rfl, rfl, rfl, by simp, fun k _ hk => setRow_other w g k _ (fun e => hk (by simp [Value.ownBlock, e]))⟩⟩
        · have hz1' := zeroCells_one n
          simp [Builtin.append_, run_underlying ht, run_underlying hti, sizeOf, typeInfo, zeroValue, hi, hz0, hz1, hz2, asInt, asIntOf, hwr0, hwr, hn0, hn1, hm, hroom, Addr.add_lit, Value.cells, hz1', hst]
        · simp only [List.size_toArray, List.length_append, List.length_take, List.length_drop, Array.length_toList, List.length_map, List.length_replicate]
          omega
        · rw [hmap, htake]
          have e : (xs ++ List.replicate n 0).length * 1 = (xs.map cellB ++ (List.replicate n 0).map cellB).length := by simp
          rw [e]
          exact List.take_left
      · have holds : ∀ j u, (xs.map cellB)[j]? = some u → w.cell? ((⟨g, 0, none⟩ : Addr).add j) = some u := hown.own.cells (g := g) rfl
        have hfo := run_firstCells_some (P := P) w.drew i.size xs.length ⟨g, 0, none⟩ xs.length cap (xs.map cellB) (by simp [hz1]) (by simpa using holds)
        rw [hz1] at hfo
        have hgr := grown cap (by omega) (Value.ownBlock (.slice (some ⟨g, 0, none⟩) xs.length cap))
        refine ⟨_, _, ?_, hgr.1, hgr.2⟩
        have h48' : ¬ (281474976710656 < Builtin.nextslicecap (xs.length + n) cap) := by have := growslice_fits (need := xs.length + n) (old := cap) (bytes := 1) (by omega) (by omega); omega
        have h63' : ¬ (9223372036854775807 < ((xs.length : Int) + (n : Int))) := by omega
        simp [Builtin.append_, run_underlying ht, run_underlying hti, sizeOf, typeInfo, zeroValue, hi, hz0, hz1, hz2, asInt, asIntOf, hwr, hn0, hn1, hm, hroom, h48', h63', Question.forced, newRow, grownCap, Value.cells, hfo]

/-- 'append(v, make([]byte, n)...)' for the walk: noughts behind; below B nothing has turned. -/
theorem wpList_appendZ {P : Program} {w : World} {ops : Array Oper} {rest : List Oper} {o : Oper} {a : Act} {Q : Exit → Act → World → Prop} (hgd : Region.wanted o (yielded ops a.tmps) = true) (s x : Operand) (t ti : TypeId)
    (ho : o.op = .call { callee := .builtin .append, args := #[s, x], argTypes := #[t, ti] })
    (E : TypeId) (ht : P.underlying t = some (.slice E)) (hti : P.underlying ti = some (.int .i64)) (hin : (P.info? E).map (fun i => (i.zero, i.size, i.bytes)) = some (some (.int .u8 0), 1, 1))
    (base : Nat) (v : Value) (xs : List Nat) (hs : a.eval s = v) (hown : OwnB w base E v xs) (n : Nat) (hx : a.eval x = .int .i64 (n : Int))
    (m : Nat) (zs : List Nat) (hz : xs ++ List.replicate n 0 = zs) (hm : zs.length = m) (hlen : m ≤ 140737488355328) (hbase : base ≤ w.heap.size)
    (B : Nat) (W : World) (hbel : Below B W w) (hB : B ≤ base)
    (h : ∀ a' cap' w', OwnB w' base E (.slice a' m cap') zs → RowB w' a' m cap' zs → w.grownBy w' v.ownBlock → Below B W w' → wpList P ops Q rest (a.put o.dst (.slice a' m cap')) w') : wpList P ops Q (o :: rest) a w := by
  refine BigFrame.wpList_want hgd fun K hK => ?_
  obtain ⟨v', w', hrun, h1, h2⟩ := run_appendZ (P := P) w t ti o.type E ht hti hin base v xs hown n (by have := congrArg List.length hz; simp at this; omega) hbase
  obtain ⟨a', cap', hv, hr', hp⟩ := h1.row
  rw [hz] at h1 hv hr'
  rw [hm] at hv hr'
  subst hv
  unfold Oper.wp execOp
  simp only [ho, resolve, invoke, builtin, Sem.run_bind, Sem.run_pure, Result.andThen_ok, List.map_toArray, List.map_cons, List.map_nil, hs, hx, hrun]
  exact hK _ _ (h a' cap' w' h1 hr' h2 (below_grown hbel h2 (by omega) hown hB))
end Go.Proofs.Ythjdebcjfpokoaa
