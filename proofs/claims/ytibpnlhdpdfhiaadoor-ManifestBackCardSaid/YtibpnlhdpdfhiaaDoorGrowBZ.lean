/- append to a row of bytes that has no room (a constant's bytes): the result is a new row of the call's own. -/
import Derived.Test.YtibpnlhdpdfhiaaDoorGAZ
import Derived.Deep.RegionLaw
set_option linter.unusedVariables false
namespace Go.Proofs.YtibpnlhdpdfhiaaDoor
open Go.RowKit

theorem run_growB {P : Program} (w : World) (t ty E : TypeId) (ht : P.underlying t = some (.slice E)) (hin : (P.info? E).map (fun i => (i.zero, i.size, i.bytes)) = some (some (.int .u8 0), 1, 1))
    (b : Addr) (n : Nat) (xs : List Nat) (hb : RowB w (some b) n n xs) (ad : Option Addr) (m c : Nat) (ys : List Nat) (hr : RowB w ad m c ys) (h0 : 0 < m) (hlen : n + m ≤ 140737488355328) :
    ∃ cap' w', (Builtin.append_ #[t, t] ty #[.slice (some b) n n, .slice ad m c]).run P w = .ok (.slice (some ⟨w.heap.size, 0, none⟩) (n + m) cap') w' ∧ OwnB w' w.heap.size E (.slice (some ⟨w.heap.size, 0, none⟩) (n + m) cap') (xs ++ ys) ∧ Touch w w' (fun _ => False) := by
  obtain ⟨i, hi, hz0, hz1, hz2⟩ := info_parts hin
  have hxl := hb.1
  have hyl := hr.1
  have hlen' : (xs ++ ys).length = n + m := by simp [hxl, hyl]
  have cellsOf : ∀ (a : Addr) (k c : Nat) (zs : List Nat), RowB w (some a) k c zs → ∀ j v, (zs.map cellB)[j]? = some v → w.cell? (a.add j) = some v := by
    intro a k c zs h j u hu
    simp only [List.getElem?_map, Option.map_eq_some_iff] at hu
    obtain ⟨y, hy, rfl⟩ := hu
    obtain ⟨hj, rfl⟩ := List.getElem?_eq_some_iff.1 hy
    obtain ⟨h1, h2, h3, h6, h4, h5⟩ := h
    rcases h5 with h5 | ⟨b', off, ha, hc⟩
    · omega
    · simp only [Option.some.injEq] at ha
      subst ha
      have ea : (⟨b', off, none⟩ : Addr).add j = ⟨b', off + j, none⟩ := by simp only [Addr.add]; split <;> simp_all
      rw [ea]; exact hc j hj
  cases ad with
  | none =>
    rcases hr.2.2.2.2.2 with h | ⟨b', off, ha, _⟩
    · omega
    · cases ha
  | some ad =>
    have r1 := run_append_grow (P := P) w t ty E i (.int .u8 0) ht hi hz0 b n n (xs.map cellB) (by simp [hxl, hz1]) (cellsOf b n n xs hb) ad m c (ys.map cellB) (by simp [hyl, hz1]) (cellsOf ad m c ys hr) (by omega) (by omega) (growslice_fits (by omega) (by rw [hz2]; omega))
    have hge := grownCap_ge w (n + m) n E
    have hcm : grownCap w (n + m) n E ≤ maxLen := grownCap_le_maxLen w (n + m) n E (by simp only [maxLen]; omega)
    refine ⟨_, _, r1, ⟨⟨by simp [hxl, hyl], .inr ⟨w.heap.size, _, _, by rw [hlen'], Nat.le_refl _, heap_alloc_new w.drew _, by rw [hlen']; exact hge, hcm, ?_, ?_⟩⟩, fun x hx => ?_, by rw [hlen']; omega⟩, ((Touch.refl _ _).drew.alloc _)⟩
    · have hz : ∀ j, (Builtin.zeroCells (Value.int IntKind.u8 0).cells j).size = j := fun j => by simp [Builtin.zeroCells, Value.cells]
      simp only [Array.size_append, List.size_toArray, List.length_map, hxl, hyl, hz]
      omega
    · rw [hlen']
      simp only [Array.toList_append]
      rw [List.map_append]
      have e : (n + m) * 1 = (xs.map cellB ++ ys.map cellB).length := by simp [hxl, hyl]
      rw [e]
      exact List.take_left
    · rcases List.mem_append.1 hx with h | h
      · exact hb.2.2.2.2.1 x h
      · exact hr.2.2.2.2.1 x h

theorem wpList_growB {P : Program} {w : World} {ops : Array Oper} {rest : List Oper} {o : Oper} {a : Act} {Q : Exit → Act → World → Prop} (hgd : Region.wanted o (yielded ops a.tmps) = true) (s x : Operand) (t : TypeId)
    (ho : o.op = .call { callee := .builtin .append, args := #[s, x], argTypes := #[t, t] })
    (E : TypeId) (ht : P.underlying t = some (.slice E)) (hin : (P.info? E).map (fun i => (i.zero, i.size, i.bytes)) = some (some (.int .u8 0), 1, 1))
    (b : Addr) (n : Nat) (xs : List Nat) (hs : a.eval s = .slice (some b) n n) (hb : RowB w (some b) n n xs) (ad : Option Addr) (m c : Nat) (ys : List Nat) (hx : a.eval x = .slice ad m c) (hr : RowB w ad m c ys) (h0 : 0 < m)
    (k : Nat) (zs : List Nat) (hz : xs ++ ys = zs) (hn : n + m = k) (hlen : k ≤ 140737488355328)
    (h : ∀ cap' w', OwnB w' w.heap.size E (.slice (some ⟨w.heap.size, 0, none⟩) k cap') zs → Touch w w' (fun _ => False) → wpList P ops Q rest (a.put o.dst (.slice (some ⟨w.heap.size, 0, none⟩) k cap')) w') : wpList P ops Q (o :: rest) a w := by
  refine BigFrame.wpList_want hgd fun K hK => ?_
  subst hz hn
  obtain ⟨cap', w', hrun, h1, h2⟩ := run_growB (P := P) w t o.type E ht hin b n xs hb ad m c ys hr h0 hlen
  unfold Oper.wp execOp
  simp only [ho, resolve, invoke, builtin, Sem.run_bind, Sem.run_pure, Result.andThen_ok, List.map_toArray, List.map_cons, List.map_nil, hs, hx, hrun]
  exact hK _ _ (h cap' w' h1 h2)
/-- append of bytes to a row of the call's own: what is known of both comes first. -/
theorem wp_appB {w : World} {ops : Array Oper} {rest : List Oper} {o : Oper} {a : Act} {Q : Exit → Act → World → Prop} {base : Nat} {v : Value} {xs : List Nat} {ad : Option Addr} {len cap : Nat} {ys : List Nat} {B : Nat} {W : World}
    (hown : OwnB w base 5 v xs) (hr : RowB w ad len cap ys) (hbel : Below B W w) (hB : B ≤ base) (hbase : base ≤ w.heap.size)
    (hgd : Region.wanted o (yielded ops a.tmps) = true) (s x : Operand) (ho : o.op = .call { callee := .builtin .append, args := #[s, x], argTypes := #[25, 25] })
    (hs : a.eval s = v) (hx : a.eval x = .slice ad len cap) (n : Nat) (zs : List Nat) (hz : xs ++ ys = zs) (hn : zs.length = n) (hlen : n ≤ 140737488355328)
    (h : ∀ a' cap' w', OwnB w' base 5 (.slice a' n cap') zs → RowB w' a' n cap' zs → w.grownBy w' v.ownBlock → Below B W w' → wpList Tryd.prog ops Q rest (a.put o.dst (.slice a' n cap')) w') : wpList Tryd.prog ops Q (o :: rest) a w :=
  wpList_appendB hgd s x 25 ho 5 Tryd.underlying25 infoB base v xs hs hown ad len cap ys hx hr n zs hz hn hlen hbase B W hbel hB (fun a' c' w' h1 h2 h3 h4 _ _ _ => h a' c' w' h1 h2 h3 h4)
end Go.Proofs.YtibpnlhdpdfhiaaDoor
