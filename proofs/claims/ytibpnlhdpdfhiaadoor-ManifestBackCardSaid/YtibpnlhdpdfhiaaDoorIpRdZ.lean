/- Readers of few bytes, byte by byte; the bytes of a row by their places. -/
import Derived.Test.YtibpnlhdpdfhiaaDoorGBZ
import Derived.Test.YtibpnlhdpdfhiaaDoorGAZ
set_option linter.unusedVariables false
namespace Go.Proofs.YtibpnlhdpdfhiaaDoor
open Go.RowKit

/-- The byte at a place, 0 behind the end. -/
def gb (xs : List Nat) (i : Nat) : Nat := xs.getD i 0
theorem gb_lt (xs : List Nat) (h : ∀ x ∈ xs, x < 256) (i : Nat) : gb xs i < 256 := by
  unfold gb
  by_cases hi : i < xs.length
  · rw [List.getD_eq_getElem?_getD, List.getElem?_eq_getElem hi]; exact h _ (List.getElem_mem hi)
  · rw [List.getD_eq_getElem?_getD, List.getElem?_eq_none (by omega)]; simp
theorem gb_get (xs : List Nat) (i : Nat) (h : i < xs.length) : gb xs i = xs[i] := by
  unfold gb; rw [List.getD_eq_getElem?_getD, List.getElem?_eq_getElem h]; rfl
theorem take_gb (xs : List Nat) : ∀ k, k ≤ xs.length → xs.take k = (List.range k).map (gb xs)
  | 0, _ => by simp
  | k + 1, h => by
    rw [List.take_succ_eq_append_getElem (by omega), take_gb xs k (by omega), List.range_succ, List.map_append, ← gb_get xs k (by omega)]; rfl
theorem drop_gb (xs : List Nat) (j k : Nat) (h : j + k ≤ xs.length) : (xs.drop j).take k = (List.range k).map (fun i => gb xs (j + i)) := by
  rw [take_gb _ k (by simp; omega)]
  apply List.map_congr_left
  intro i hi
  simp at hi
  rw [gb_get _ _ (by simp; omega), gb_get _ _ (by omega), List.getElem_drop]
theorem RowB.gb {w : World} {b off len cap : Nat} {xs : List Nat} (h : RowB w (some ⟨b, off, none⟩) len cap xs) (i : Nat) (hi : i < len) : w.cell? ⟨b, off + i, none⟩ = some (.int .u8 (gb xs i : Nat)) := by
  obtain ⟨h1, h2, h3, h6, h4, h5⟩ := h
  rcases h5 with h5 | ⟨b', off', ha, hc⟩
  · omega
  · simp only [Option.some.injEq, Addr.mk.injEq] at ha
    obtain ⟨rfl, rfl, _⟩ := ha
    rw [hc i (by omega), gb_get _ _ (by omega)]
theorem RowB.some {w : World} {a : Option Addr} {len cap : Nat} {xs : List Nat} (h : RowB w a len cap xs) (h0 : 0 < len) : ∃ b off, a = .some ⟨b, off, none⟩ := by
  rcases h.2.2.2.2.2 with h5 | ⟨b, off, ha, _⟩
  · omega
  · exact ⟨b, off, ha⟩

theorem RowB.dropNe {w : World} {b off len cap : Nat} {xs : List Nat} (h : RowB w (.some ⟨b, off, none⟩) len cap xs) (k : Nat) (hk : k ≤ len) (hc : ¬ cap = k) : RowB w (.some ⟨b, off + k, none⟩) (len - k) (cap - k) (xs.drop k) := by
  have := h.drop k hk
  rw [if_neg hc] at this
  exact this
theorem RowB.dropEq {w : World} {b off len k : Nat} {xs : List Nat} (h : RowB w (.some ⟨b, off, none⟩) len k xs) (hk : k ≤ len) : RowB w (.some ⟨b, off, none⟩) (len - k) 0 (xs.drop k) := by
  have := h.drop k hk
  rw [if_pos rfl, Nat.sub_self] at this
  exact this
/-- The reader in block G has the bytes xs left, wherever they lie, below block U. -/
def RdE (w : World) (G U : Nat) (xs : List Nat) (err : Int) : Prop := ∃ a cap, RdB w G a xs.length cap xs err ∧ G < U ∧ U ≤ w.heap.size ∧ (∀ x, a = .some x → xs.length = 0 ∨ x.block < U)
theorem RdE.touch {w w' : World} {G U : Nat} {xs : List Nat} {err : Int} {S : Nat → Prop} (h : RdE w G U xs err) (t : Touch w w' S) (hS : ∀ k, S k → U ≤ k) : RdE w' G U xs err := by
  obtain ⟨a, c, h1, h2, h3, h4⟩ := h
  refine ⟨a, c, h1.touch t (fun h => by have := hS _ h; omega) (fun x hx => ?_), h2, Nat.le_trans h3 t.size, h4⟩
  rcases h4 x hx with h | h
  · exact .inl h
  · exact .inr (fun h => by have := hS _ h; omega)
theorem RdE.still {w w' : World} {G U : Nat} {xs : List Nat} {err : Int} (h : RdE w G U xs err) (t : Touch w w' (fun _ => False)) : RdE w' G U xs err := h.touch t (fun _ h => h.elim)
theorem RdE.drewN {w : World} {G U : Nat} {xs : List Nat} {err : Int} (h : RdE w G U xs err) (n : Nat) : RdE (w.drewN n) G U xs err := h.still ((Touch.refl _ _).drewN n)
theorem RdE.lt {w : World} {G U : Nat} {xs : List Nat} {err : Int} (h : RdE w G U xs err) : G < U ∧ U ≤ w.heap.size := by obtain ⟨_, _, _, h1, h2, _⟩ := h; exact ⟨h1, h2⟩
theorem TookB.rdE {G U : Nat} {a : Option Addr} {cap : Nat} {xs : List Nat} {err : Int} {n : Nat} {w w' : World} (h : TookB G a xs.length cap xs err n w w') (hG : G < U) (hU : U ≤ w.heap.size) (ha : ∀ x, a = .some x → xs.length = 0 ∨ x.block < U) : RdE w' G U (xs.drop n) err ∧ Touch w w' (fun k => k = G) := by
  obtain ⟨a', h1, _, t, h4⟩ := h
  refine ⟨⟨a', cap - n, ?_, hG, Nat.le_trans hU t.size, ?_⟩, t⟩
  · rw [List.length_drop]; exact h1
  · intro x hx
    obtain ⟨y, hy, hb⟩ := h4 x hx
    rcases ha y hy with h | h
    · left; simp; omega
    · right; rw [hb]; exact h
theorem e_U8 (G U x : Nat) (xs : List Nat) (err : Int) (w : World) (h : RdE w G U (x :: xs) err) :
    Calls Tryd.prog 100 #[.pointer (.some ⟨G, 0, none⟩)] w fun e w' => e = .returned (.int .i64 (x : Nat)) ∧ RdE w' G U xs err ∧ Touch w w' (fun k => k = G) := by
  obtain ⟨a, c, h1, h2, h3, h4⟩ := h
  refine (rU8_any G a _ c _ err w h1 (by simp)).mono ?_
  rintro e w' ⟨rfl, ht⟩
  exact ⟨by simp [beN], ht.rdE h2 h3 h4⟩
theorem e_U16 (G U x y : Nat) (xs : List Nat) (err : Int) (w : World) (h : RdE w G U (x :: y :: xs) err) :
    Calls Tryd.prog 78 #[.pointer (.some ⟨G, 0, none⟩)] w fun e w' => e = .returned (.int .i64 (x * 256 + y : Nat)) ∧ RdE w' G U xs err ∧ Touch w w' (fun k => k = G) := by
  obtain ⟨a, c, h1, h2, h3, h4⟩ := h
  refine (rU16_any G a _ c _ err w h1 (by simp)).mono ?_
  rintro e w' ⟨rfl, ht⟩
  exact ⟨by simp [beN], ht.rdE h2 h3 h4⟩
theorem e_U32 (G U x y z u : Nat) (xs : List Nat) (err : Int) (w : World) (h : RdE w G U (x :: y :: z :: u :: xs) err) :
    Calls Tryd.prog 77 #[.pointer (.some ⟨G, 0, none⟩)] w fun e w' => e = .returned (.int .u32 (beN [x, y, z, u] : Nat)) ∧ RdE w' G U xs err ∧ Touch w w' (fun k => k = G) := by
  obtain ⟨a, c, h1, h2, h3, h4⟩ := h
  refine (rU32_any G a _ c _ err w h1 (by simp)).mono ?_
  rintro e w' ⟨rfl, ht⟩
  exact ⟨rfl, ht.rdE h2 h3 h4⟩
/-- A new reader. -/
theorem NewRd.rdE {w w' : World} {v : Value} {len : Nat} {xs : List Nat} (h : NewRd w w' v len xs) : ∃ G, v = .pointer (.some ⟨G, 0, none⟩) ∧ RdE w' G w'.heap.size xs 0 ∧ Touch w w' (fun _ => False) ∧ w.heap.size ≤ G := by
  obtain ⟨G, a, c, hv, h1, t, hg, _⟩ := h
  have hl := h1.row.1
  subst hl
  exact ⟨G, hv, ⟨a, c, h1, h1.lt, Nat.le_refl _, h1.row.lt⟩, t, hg⟩
end Go.Proofs.YtibpnlhdpdfhiaaDoor
