/- Backends that drain: the set in memory, its short words. -/
import Derived.Test.YtdhimlkndpiacaaGreatHDZ
import Derived.Test.YtdhimlkndpiacaaGreatIntMapZ
import Derived.Test.YtdhimlkndpiacaaGreatHAZ
import Derived.Test.YtdhimlkndpiacaaGreatKBZ
import Derived.Carry
set_option linter.unusedVariables false
set_option linter.unusedSimpArgs false
namespace Go.Proofs.YtdhimlkndpiacaaGreat
open Go.RowKit

/-- The key of a number. -/
def nK (i : Nat) : ByteArray := strB [i / 256, i % 256]
theorem nK_inj {i j : Nat} (hi : i < 65536) (hj : j < 65536) (h : nK i = nK j) : i = j := by
  have := strB_inj [i / 256, i % 256] [j / 256, j % 256] (by simp; omega) (by simp; omega) h
  simp at this; omega
theorem nK_size (i : Nat) : (nK i).size ≤ 281474976710656 := by
  have : (nK i).size = 2 := rfl
  rw [this]; decide
def inN (b : Int) : Prop := 0 ≤ b ∧ b ≤ 65535
instance (b : Int) : Decidable (inN b) := inferInstanceAs (Decidable (_ ∧ _))
def qd (d : DR) : QR := ⟨nK d.b.toNat, d.u⟩
theorem perm_map {α β : Type} (f : α → β) : ∀ {L : List β} {M : List α}, L.Perm (M.map f) → ∃ M1 : List α, M1.Perm M ∧ L = M1.map f
  | [], M, h => ⟨[], by have := h.length_eq; simp at this; rw [List.eq_nil_of_length_eq_zero this.symm], rfl⟩
  | x :: L, M, h => by
    obtain ⟨d, hd, e⟩ := List.mem_map.1 (h.mem_iff.1 List.mem_cons_self)
    obtain ⟨s, t, rfl⟩ := List.append_of_mem hd
    have h2 : (x :: L).Perm (f d :: (s ++ t).map f) := h.trans (List.perm_middle.map f)
    rw [e] at h2
    obtain ⟨M1, p1, e1⟩ := perm_map f (h2.cons_inv)
    exact ⟨d :: M1, (p1.cons d).trans List.perm_middle.symm, by rw [List.map_cons, e1, e]⟩
theorem has_qd {M : List DR} (ok : ∀ d ∈ M, inN d.b) {b : Int} (hb : inN b) : hasQ (M.map qd) (nK b.toNat) = hasD M b := by
  rw [Bool.eq_iff_iff, has_iff, hasD_iff, List.map_map, List.mem_map, List.mem_map]
  constructor
  · rintro ⟨d, hd, e⟩
    have h1 := ok d hd
    have := nK_inj (by have := h1.1; have := h1.2; omega) (by have := hb.1; have := hb.2; omega) e
    exact ⟨d, hd, by have := h1.1; have := hb.1; omega⟩
  · rintro ⟨d, hd, e⟩
    exact ⟨d, hd, by simp only [Function.comp, qd, e]⟩
theorem del_qd {M : List DR} (ok : ∀ d ∈ M, inN d.b) {b : Int} (hb : inN b) : delQ (M.map qd) (nK b.toNat) = (delD M b).map qd := by
  unfold delQ delD
  rw [List.filter_map]
  congr 1
  apply List.filter_congr
  intro d hd
  have h1 := ok d hd
  by_cases e : d.b = b
  · simp [e, qd]
  · have : ¬ nK d.b.toNat = nK b.toNat := fun h => e (by
      have := nK_inj (by have := h1.1; have := h1.2; omega) (by have := hb.1; have := hb.2; omega) h
      have := h1.1; have := hb.1; omega)
    simp [e, qd, this]
/-- What Put tells. -/
def setDE (M : List DR) (b u : Int) : Int :=
  if ¬ inN b then 1 else if u < 0 ∨ 1099511627776 < u then 1 else if hasD M b then 0 else if 1024 ≤ M.length then 9 else 0
theorem setE_qd {M : List DR} (ok : ∀ d ∈ M, inN d.b) {b : Int} (hb : inN b) (u : Int) : setE (M.map qd) (nK b.toNat) u = setDE M b u := by
  unfold setE setDE
  rw [has_qd ok hb, List.length_map, if_neg (show ¬ ¬ inN b from fun h => h hb)]
theorem set_qd {M : List DR} (ok : ∀ d ∈ M, inN d.b) {b : Int} (hb : inN b) {u : Int} (he : setDE M b u = 0) : ∃ M1 : List DR, M1.Perm (⟨b, u⟩ :: delD M b) ∧ setQ (M.map qd) (nK b.toNat) u = M1.map qd := by
  apply perm_map
  unfold setQ
  rw [if_pos (by rw [setE_qd ok hb]; exact he), del_qd ok hb]
  exact ins_perm _ _
/-- Where a set lies. -/
structure DH where
  mb : Nat
  bq : Nat
  hq : QH
def footD (s : Nat) (h : DH) (k : Nat) : Prop := k = s ∨ k = h.mb ∨ footQ h.bq h.hq k
section
variable {w w' : World} {s : Nat} {h : DH} {M : List DR}
end
theorem zero64 (w : World) : (zeroValue 2).run Tryz.prog w = .ok (.int .i64 0) w := by kernel_rfl
theorem mapIT : Tryz.prog.underlying 60 = some (.map 3 2) := Tryz.underlying60
def putD (M : List DR) (b u : Int) : List DR := if setDE M b u = 0 then ⟨b, u⟩ :: delD M b else M
end Go.Proofs.YtdhimlkndpiacaaGreat
