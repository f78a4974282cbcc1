/- One row more behind a row of the call's own: 'append(l, x)'. -/
import Derived.Test.YtmokcfmlolohaaaRowS
set_option linter.unusedVariables false
namespace Go.Proofs.Ytmokcfmlolohaaa
open Go.RowKit

theorem wp_add1 {P : Program} {w W : World} {ops : Array Oper} {rest : List Oper} {o : Oper} {a : Act} {Q : Exit → Act → World → Prop} {base k n c : Nat} {a0 : Option Addr} {E : TypeId} {L : List (List Value)} {row : List Value} {cs : Array Value}
    (ho : OwnS W base E k (.slice a0 n c) L) (hW : w.alloc (.cells cs E) = W) (hcs : cs.toList = row) (hkr : row.length = k) (h1 : ∀ u ∈ row, u.oneCell' = true) (hn : n ≤ 4000000) (t : TypeId) (ht : P.underlying t = some (.slice E)) (z : Value) (bytes : Nat)
    (hin : (P.info? E).map (fun i => (i.zero, i.size, i.bytes)) = some (some z, k, bytes)) (hzs : z.cells.size = k) (hk : 0 < k) (hbytes : bytes ≤ 10000) (hbase : base ≤ w.heap.size)
    (hgd : Region.wanted o (yielded ops a.tmps) = true) (s x : Operand) (ho2 : o.op = .call { callee := .builtin .append, args := #[s, x], argTypes := #[t, t] })
    (hs : a.eval s = .slice a0 n c) (hx : a.eval x = .slice (some ⟨w.heap.size, 0, none⟩) 1 1)
    (h : ∀ a' c' w', OwnS w' base E k (.slice a' (n + 1) c') (L ++ [row]) → Touch w w' (fun b => (Value.slice a0 n c).ownBlock = some b) → (∀ b, (Value.slice a' (n + 1) c').ownBlock = some b → (Value.slice a0 n c).ownBlock = some b ∨ w.heap.size ≤ b) → wpList P ops Q rest (a.put o.dst (.slice a' (n + 1) c')) w') : wpList P ops Q (o :: rest) a W := by
  subst hW
  obtain ⟨hl, _, _⟩ := ho.row'
  have hr : RowS (w.alloc (.cells cs E)) (some ⟨w.heap.size, 0, none⟩) 1 1 k [row] := ((OwnS.lit w w.heap.size (Nat.le_refl _) E k 1 [row] cs (by rw [hcs]; simp) rfl (by simpa using hkr) (by omega)).row').2.1
  have hnb : (n + 1) * bytes ≤ 140737488355328 := by
    have h3 : (n + 1) * bytes ≤ 4000001 * 10000 := Nat.mul_le_mul (by omega) hbytes
    exact Nat.le_trans h3 (by decide)
  have hsz : base ≤ (w.alloc (.cells cs E)).heap.size := by simp; omega
  refine wp_appS (W := w.alloc (.cells cs E)) (B := base) ho hr (by simpa using h1) t ht z bytes hin hzs hk (by simp only [maxLen]; omega) (by rw [hl]; exact hnb) ((Touch.refl _ (fun _ => False)).below (fun _ _ h => h.elim) hsz) (Nat.le_refl _) hsz hgd s x ho2 hs hx (n + 1) _ (by rw [hl]) rfl ?_
  intro a' c' w' h1 h2 _ h4
  refine h a' c' w' h1 (((Touch.refl w _).alloc _).grown h2 (fun k hk _ => hk)) (fun b hb => (h4 b hb).imp (fun h => h) (fun h => by simp at h; omega))
end Go.Proofs.Ytmokcfmlolohaaa
