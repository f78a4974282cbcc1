/- What is known of an argument that came in, and how it is opened by its type. -/
import Derived.Test.YtmokcfmlolohaaaBase
import Derived.ProofKit
import Derived.OpenShut
import Derived.ShutString
import Derived.ChangeOld
import Derived.SizedLaws
set_option linter.unusedVariables false
namespace Go.Proofs.Ytmokcfmlolohaaa
open Go.ChangeShapes Go.WideShapes Go.ChangeAt Go.RowKit
open Go.ChangeMaps (open_string shut_string)

/-- An argument that came in: its value fits its type, it reads as d through the places p, and each part of it is within the reach. -/
structure ArgIn {H : Type} (enc : TypeId × Value → H) (P : Program) (W : World) (base : Nat) (T : TypeId) (v : Value) (d : DataW H) (p : List MemPlace) : Prop where
  ok : Value.okWide P W .any base T v
  trod : DataW.Trod enc P W 0 (fun _ => true) true T v d p
  sized : ∀ n ∈ d.weights P T, n ≤ reachBytes

section
variable {H : Type} {enc : TypeId × Value → H} {P : Program} {W : World} {base : Nat} {T : TypeId} {v : Value} {d : DataW H} {p : List MemPlace}

theorem ArgIn.int {k : IntKind} (h : ArgIn enc P W base T v d p) (ht : P.underlying T = some (.int k)) : ∃ x : Int, v = .int k x ∧ (Lit.int k x).wf = true ∧ d = .lit (.int k x) := by
  obtain ⟨x, h1, h2, h3, wx⟩ := open_int ht h.ok h.trod
  exact ⟨x, h1, wx, h2⟩

theorem ArgIn.u16 (h : ArgIn enc P W base T v d p) (ht : P.underlying T = some (.int .u16)) : ∃ x : Int, v = .int .u16 x ∧ 0 ≤ x ∧ x ≤ 65535 ∧ d = .lit (.int .u16 x) := by
  obtain ⟨x, h1, wx, h2⟩ := h.int ht
  have := bounds_u16 wx
  exact ⟨x, h1, this.1, this.2, h2⟩
theorem ArgIn.u32 (h : ArgIn enc P W base T v d p) (ht : P.underlying T = some (.int .u32)) : ∃ x : Int, v = .int .u32 x ∧ 0 ≤ x ∧ x ≤ 4294967295 ∧ d = .lit (.int .u32 x) := by
  obtain ⟨x, h1, wx, h2⟩ := h.int ht
  have := bounds_u32 wx
  exact ⟨x, h1, this.1, this.2, h2⟩
theorem ArgIn.i64 (h : ArgIn enc P W base T v d p) (ht : P.underlying T = some (.int .i64)) : ∃ x : Int, v = .int .i64 x ∧ -9223372036854775808 ≤ x ∧ x ≤ 9223372036854775807 ∧ d = .lit (.int .i64 x) := by
  obtain ⟨x, h1, wx, h2⟩ := h.int ht
  have := bounds_i64 wx
  exact ⟨x, h1, this.1, this.2, h2⟩

theorem reach_num : reachBytes = 140737488351232 := by decide

/-- A slice of bytes: a row of bytes, within the reach; how many values it is. -/
theorem ArgIn.bytes {E : TypeId} (h : ArgIn enc P W base T v d p) (ht : P.underlying T = some (.slice E)) (he : P.underlying E = some (.int .u8)) (hc : P.cellsOf E = 1) (hb : P.bytesOf E = 1) :
    ∃ (a : Option Addr) (len cap : Nat) (xs : List Nat), v = .slice a len cap ∧ RowB W a len cap xs ∧ cap ≤ 140737488351232 ∧ (d = .nil ∨ ∃ y z, d = .slice y z ∧ y.length = len ∧ z.length = cap - len) := by
  obtain ⟨a, len, cap, rfl⟩ := okWide_slice ht h.ok
  obtain ⟨fuel, hf⟩ := h.trod
  rcases open_ints ht he hc hf with ⟨hcs, hd⟩ | ⟨x, l, c, zs, hcs, _, hl, hm, hz, hd, hcell, hwz⟩
  · simp [Value.cells] at hcs
    obtain ⟨rfl, rfl, rfl⟩ := hcs
    simp only [Prod.mk.injEq] at hd
    exact ⟨_, _, _, [], rfl, RowB.nil _ _ _ (by omega), by omega, .inl hd.1⟩
  · simp [Value.cells] at hcs
    obtain ⟨rfl, rfl, rfl⟩ := hcs
    simp only [Prod.mk.injEq] at hd
    obtain ⟨hd, _⟩ := hd
    simp only [if_true] at hz
    have hs := h.sized ((lits (H := H) .u8 (zs.take len)).length + (lits (H := H) .u8 (zs.drop len)).length * 1) (by
      rw [hd]; simp [DataW.weights, ht, hb])
    rw [reach_num] at hs
    simp [lits] at hs
    refine ⟨_, _, _, (zs.take len).map Int.toNat, rfl, ⟨by simp; omega, hl, by omega, by omega, ?_, ?_⟩, by omega, .inr ⟨_, _, hd, by simp [lits]; omega, by simp [lits]; omega⟩⟩
    · intro n hn
      obtain ⟨z, hz1, rfl⟩ := List.mem_map.1 hn
      have := bounds_u8 (hwz z (List.mem_of_mem_take hz1))
      omega
    · by_cases h0 : len = 0
      · exact .inl h0
      · right
        obtain ⟨b, off, spot⟩ := x
        have hc0 := hcell 0 (by omega)
        have hspot : spot = none := by simpa [Addr.add] using World.cell?_spot hc0
        subst hspot
        refine ⟨b, off, rfl, fun i hi => ?_⟩
        simp at hi
        have := hcell i (by omega)
        have ea : (⟨b, off, none⟩ : Addr).add i = ⟨b, off + i, none⟩ := by simp only [Addr.add]; split <;> simp_all
        rw [ea] at this
        rw [List.getElem_map, List.getElem_take]
        have hb := bounds_u8 (hwz zs[i] (List.getElem_mem (by omega)))
        have e : zs.getD i 0 = zs[i] := by rw [List.getD_eq_getElem?_getD, List.getElem?_eq_getElem (by omega)]; rfl
        rw [e] at this
        rw [Int.toNat_of_nonneg hb.1]
        simpa using this

theorem four {α : Type} {cs : Array α} (h : cs.size = 4) : ∃ a b c d, cs = #[a, b, c, d] := by
  obtain ⟨l⟩ := cs
  match l, h with
  | [a, b, c, d], _ => exact ⟨a, b, c, d, rfl⟩

/-- An array of four bytes by value. -/
theorem ArgIn.bytes4 {E : TypeId} (h : ArgIn enc P W base T v d p) (ht : P.underlying T = some (.array 4 E)) (he : P.underlying E = some (.int .u8)) (hc : P.cellsOf E = 1) (hC : P.cellsOf T = 4) :
    ∃ y0 y1 y2 y3 : Nat, v = .agg #[.int .u8 (y0 : Nat), .int .u8 (y1 : Nat), .int .u8 (y2 : Nat), .int .u8 (y3 : Nat)] ∧ y0 < 256 ∧ y1 < 256 ∧ y2 < 256 ∧ y3 < 256 := by
  have hok := h.ok
  unfold Value.okWide at hok
  rw [ht] at hok
  obtain ⟨cs, rfl, hsz, _⟩ := hok
  rw [hC] at hsz
  obtain ⟨a, b, c, d', rfl⟩ := four hsz
  obtain ⟨fuel, hf⟩ := h.trod
  obtain ⟨xs, m, _, _, _, hl, hx⟩ := DataW.trod_array ht hf
  have one : ∀ (i : Nat) (hi : i < 4) (u : Value), [u] = (([a, b, c, d'] : List Value).drop (i * 1)).take 1 → ∃ y : Nat, u = .int .u8 (y : Nat) ∧ y < 256 := by
    intro i hi u hu
    have h1 := hx i hi
    rw [hc] at h1
    rw [List.getElem?_eq_getElem (by omega)] at h1
    have h2 : DataW.trod enc P W 0 (fun _ => true) true m E [u] = some xs[i] := by rw [hu]; exact h1
    obtain ⟨n, h3, h4, hw⟩ := DataW.trod_int he h2
    simp at h3
    have hb := bounds_u8 hw
    refine ⟨n.toNat, ?_, by omega⟩
    rw [h3, Int.toNat_of_nonneg hb.1]
  obtain ⟨y0, rfl, k0⟩ := one 0 (by omega) a rfl
  obtain ⟨y1, rfl, k1⟩ := one 1 (by omega) b rfl
  obtain ⟨y2, rfl, k2⟩ := one 2 (by omega) c rfl
  obtain ⟨y3, rfl, k3⟩ := one 3 (by omega) d' rfl
  exact ⟨y0, y1, y2, y3, rfl, k0, k1, k2, k3⟩
end
end Go.Proofs.Ytmokcfmlolohaaa
