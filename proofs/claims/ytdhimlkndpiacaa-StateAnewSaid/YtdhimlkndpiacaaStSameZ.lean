/- state.Same: are two views alike? -/
import Derived.Test.YtdhimlkndpiacaaStEqZ
set_option linter.unusedVariables false
set_option linter.unusedSimpArgs false
namespace Go.Proofs.Ytdhimlkndpiacaa
open Go.RowKit

def same14 (x y : StS) : Bool := decide (x.gen = y.gen) && (sameK x.bs y.bs && (sameDr x.D y.D && sameFr x.F y.F))
theorem sameK_refl14 (bs : List BkD) : sameK bs bs = true := decide_eq_true rfl
theorem same14_refl (x : StS) : same14 x x = true := by
  unfold same14; rw [sameK_refl14, sameDr_refl, sameFr_refl, decide_eq_true rfl]; rfl
/-- A view that lies somewhere. -/
structure VwAt (w : World) (x : StS) (a1 : Option Addr) (c1 : Nat) (a2 : Option Addr) (c2 : Nat) (a3 : Option Addr) (c3 : Nat) : Prop where
  b : RowK w a1 x.bs.length c1 x.bs
  d : RowS w a2 x.D.length c2 2 (x.D.map dcl)
  f : RowS w a3 x.F.length c3 8 (x.F.map fcl)
def vcs (x : StS) (a1 : Option Addr) (c1 : Nat) (a2 : Option Addr) (c2 : Nat) (a3 : Option Addr) (c3 : Nat) : Array Value := #[.int .i64 x.gen, .slice a1 x.bs.length c1, .slice a2 x.D.length c2, .slice a3 x.F.length c3]
theorem VwAt.still {w w' : World} {x : StS} {a1 : Option Addr} {c1 : Nat} {a2 : Option Addr} {c2 : Nat} {a3 : Option Addr} {c3 : Nat} (h : VwAt w x a1 c1 a2 c2 a3 c3) (t : Touch w w' (fun _ => False)) : VwAt w' x a1 c1 a2 c2 a3 c3 :=
  ⟨h.b.still t, h.d.still t, h.f.still t⟩
theorem gsame_any (a : Option Addr) (len cap : Nat) (bs : List BkD) (a2 : Option Addr) (len2 cap2 : Nat) (cs : List BkD) (w : World) (hr : RowK w a len cap bs) (hr2 : RowK w a2 len2 cap2 cs) :
    Calls Try.prog 35 #[.slice a len cap, .slice a2 len2 cap2] w fun e w' => e = .returned (.bool (sameK bs cs)) ∧ Touch w w' (fun _ => False) := by
  have HE := Lib.hid (sameK_any a len cap bs a2 len2 cap2 cs w hr hr2)
  clear hr hr2
  go_enter Try.func35, Try.ntmps35
  go_wp2_with fail
  (with_reducible refine HE.out.mono ?_)
  rintro e w2 ⟨rfl, n, rfl⟩
  go_wp2_with fail
  go_ret
  exact ⟨rfl, (Touch.refl w _).drewN n⟩
set_option maxRecDepth 20000 in
set_option maxHeartbeats 8000000 in
theorem same14_any (w : World) (x y : StS) (a1 : Option Addr) (c1 : Nat) (a2 : Option Addr) (c2 : Nat) (a3 : Option Addr) (c3 : Nat) (b1 : Option Addr) (d1 : Nat) (b2 : Option Addr) (d2 : Nat) (b3 : Option Addr) (d3 : Nat) (hx : VwAt w x a1 c1 a2 c2 a3 c3) (hy : VwAt w y b1 d1 b2 d2 b3 d3) :
    Calls Try.prog 17 #[.agg (vcs x a1 c1 a2 c2 a3 c3), .agg (vcs y b1 d1 b2 d2 b3 d3)] w fun e w' => e = .returned (.bool (same14 x y)) ∧ Touch w w' (fun _ => False) := by
  obtain ⟨W1, hW1⟩ : ∃ W, w.alloc (.cells (vcs x a1 c1 a2 c2 a3 c3) 36) = W := ⟨_, rfl⟩
  have t1 : Touch w W1 (fun _ => False) := hW1 ▸ (Touch.refl w _).alloc _
  have g1 : W1.heap[w.heap.size]? = some (.cells (vcs x a1 c1 a2 c2 a3 c3) 36 (0, 0)) := hW1 ▸ heap_alloc_new ..
  obtain ⟨W2, hW2⟩ : ∃ W, W1.alloc (.cells (vcs y b1 d1 b2 d2 b3 d3) 36) = W := ⟨_, rfl⟩
  have t2 : Touch W1 W2 (fun _ => False) := hW2 ▸ (Touch.refl W1 _).alloc _
  have g2 : W2.heap[W1.heap.size]? = some (.cells (vcs y b1 d1 b2 d2 b3 d3) 36 (0, 0)) := hW2 ▸ heap_alloc_new ..
  obtain ⟨K1, hK1⟩ : ∃ K, w.heap.size = K := ⟨_, rfl⟩
  have s1 : W1.heap.size = w.heap.size + 1 := by rw [← hW1]; simp
  rw [s1] at g2
  obtain ⟨K2, hK2⟩ : ∃ K, w.heap.size + 1 = K := ⟨_, rfl⟩
  rw [hK1] at g1
  rw [hK2] at g2
  have hx2 := (hx.still t1).still t2
  have hy2 := (hy.still t1).still t2
  have HC : RowKit.Hid (∀ W, Touch W2 W (fun _ => False) → (W.cell? ⟨K1, 0, none⟩ = some (.int .i64 x.gen) ∧ W.cell? ⟨K1, 1, none⟩ = some (.slice a1 x.bs.length c1) ∧ W.cell? ⟨K1, 2, none⟩ = some (.slice a2 x.D.length c2) ∧ W.cell? ⟨K1, 3, none⟩ = some (.slice a3 x.F.length c3)) ∧ W.cell? ⟨K2, 0, none⟩ = some (.int .i64 y.gen) ∧ W.cell? ⟨K2, 1, none⟩ = some (.slice b1 y.bs.length d1) ∧ W.cell? ⟨K2, 2, none⟩ = some (.slice b2 y.D.length d2) ∧ W.cell? ⟨K2, 3, none⟩ = some (.slice b3 y.F.length d3)) := Lib.hid (fun W t => by
    have h1 := t.keeps (t2.keeps g1 (fun h => h)) (fun h => h)
    have h2 := t.keeps g2 (fun h => h)
    exact ⟨⟨cell_of_cells h1 0, cell_of_cells h1 1, cell_of_cells h1 2, cell_of_cells h1 3⟩, cell_of_cells h2 0, cell_of_cells h2 1, cell_of_cells h2 2, cell_of_cells h2 3⟩)
  obtain ⟨B1, hB1⟩ : ∃ B, sameK x.bs y.bs = B := ⟨_, rfl⟩
  obtain ⟨B2, hB2⟩ : ∃ B, sameDr x.D y.D = B := ⟨_, rfl⟩
  obtain ⟨B3, hB3⟩ : ∃ B, sameFr x.F y.F = B := ⟨_, rfl⟩
  have HS1 : RowKit.Hid (∀ W, Touch W2 W (fun _ => False) → Calls Try.prog 35 #[.slice a1 x.bs.length c1, .slice b1 y.bs.length d1] W fun e w' => e = .returned (.bool B1) ∧ Touch W w' (fun _ => False)) := Lib.hid (fun W t => by rw [← hB1]; exact gsame_any _ _ _ _ _ _ _ _ W (hx2.still t).b (hy2.still t).b)
  have HS2 : RowKit.Hid (∀ W, Touch W2 W (fun _ => False) → Calls Try.prog 36 #[.slice a2 x.D.length c2, .slice b2 y.D.length d2] W fun e w' => e = .returned (.bool B2) ∧ Touch W w' (fun _ => False)) := Lib.hid (fun W t => by rw [← hB2]; exact sameDr_any _ _ _ _ _ _ _ _ W (hx2.still t).d (hy2.still t).d)
  have HS3 : RowKit.Hid (∀ W, Touch W2 W (fun _ => False) → Calls Try.prog 37 #[.slice a3 x.F.length c3, .slice b3 y.F.length d3] W fun e w' => e = .returned (.bool B3) ∧ Touch W w' (fun _ => False)) := Lib.hid (fun W t => by rw [← hB3]; exact sameFr_any _ _ _ _ _ _ _ _ W (hx2.still t).f (hy2.still t).f)
  have hR : same14 x y = (decide (x.gen = y.gen) && (B1 && (B2 && B3))) := by unfold same14; rw [hB1, hB2, hB3]
  have HR := Lib.hid hR
  have HT := Lib.hid (t1.trans t2 (fun _ _ h => h))
  have HT0 := Lib.hid (Touch.refl W2 (fun _ => False))
  have HW1 := Lib.hid (And.intro hW1 hK1)
  have HW2 := Lib.hid (And.intro hW2 hK2)
  simp only [vcs] at HW1 HW2 ⊢
  clear hR hB1 hB2 hB3 hx2 hy2 hx hy t1 t2 g1 g2 hW1 hW2 hK1 hK2 s1
  go_enter Try.func17, Try.ntmps17
  go_upto_region 1 with (fail)
  rw [HW1.out.1, HW2.out.1, HW2.out.2, HW1.out.2]
  obtain ⟨⟨y0, y1, y2, y3⟩, z0, z1, z2, z3⟩ := HC.out _ HT0.out
  by_cases hg : x.gen = y.gen
  case neg =>
    rw [decide_eq_false hg] at HR
    go_wp2_with fail
    go_ret
    exact ⟨by rw [HR.out]; rfl, (HT.out.trans HT0.out (fun _ _ h => h))⟩
  case pos =>
  rw [decide_eq_true hg] at HR
  rw [hg] at HC y0
  clear hg
  cases B1
  case false =>
    go_wp2_with (first | (go_at_call 35; (with_reducible refine (HS1.out _ HT0.out).mono ?_); rintro e w1 ⟨rfl, t1⟩; have HT1 := Lib.hid (HT0.out.trans t1 (fun _ _ h => h)); clear t1; (try clear y0 y1 y2 y3 z0 z1 z2 z3); obtain ⟨⟨y0, y1, y2, y3⟩, z0, z1, z2, z3⟩ := HC.out _ HT1.out))
    go_ret
    exact ⟨by rw [HR.out]; rfl, (HT.out.trans HT1.out (fun _ _ h => h))⟩
  case true =>
  cases B2
  case false =>
    go_wp2_with (first | (go_at_call 35; (with_reducible refine (HS1.out _ HT0.out).mono ?_); rintro e w1 ⟨rfl, t1⟩; have HT1 := Lib.hid (HT0.out.trans t1 (fun _ _ h => h)); clear t1; (try clear y0 y1 y2 y3 z0 z1 z2 z3); obtain ⟨⟨y0, y1, y2, y3⟩, z0, z1, z2, z3⟩ := HC.out _ HT1.out) | (go_at_call 36; (with_reducible refine (HS2.out _ HT1.out).mono ?_); rintro e w2 ⟨rfl, t2⟩; have HT2 := Lib.hid (HT1.out.trans t2 (fun _ _ h => h)); clear t2; (try clear y0 y1 y2 y3 z0 z1 z2 z3); obtain ⟨⟨y0, y1, y2, y3⟩, z0, z1, z2, z3⟩ := HC.out _ HT2.out))
    go_ret
    exact ⟨by rw [HR.out]; rfl, (HT.out.trans HT2.out (fun _ _ h => h))⟩
  case true =>
    go_wp2_with (first | (go_at_call 35; (with_reducible refine (HS1.out _ HT0.out).mono ?_); rintro e w1 ⟨rfl, t1⟩; have HT1 := Lib.hid (HT0.out.trans t1 (fun _ _ h => h)); clear t1; (try clear y0 y1 y2 y3 z0 z1 z2 z3); obtain ⟨⟨y0, y1, y2, y3⟩, z0, z1, z2, z3⟩ := HC.out _ HT1.out) | (go_at_call 36; (with_reducible refine (HS2.out _ HT1.out).mono ?_); rintro e w2 ⟨rfl, t2⟩; have HT2 := Lib.hid (HT1.out.trans t2 (fun _ _ h => h)); clear t2; (try clear y0 y1 y2 y3 z0 z1 z2 z3); obtain ⟨⟨y0, y1, y2, y3⟩, z0, z1, z2, z3⟩ := HC.out _ HT2.out) | (go_at_call 37; (with_reducible refine (HS3.out _ HT2.out).mono ?_); rintro e w3 ⟨rfl, t3⟩; have HT3 := Lib.hid (HT2.out.trans t3 (fun _ _ h => h)); clear t3; (try clear y0 y1 y2 y3 z0 z1 z2 z3); obtain ⟨⟨y0, y1, y2, y3⟩, z0, z1, z2, z3⟩ := HC.out _ HT3.out))
    go_ret
    exact ⟨by rw [HR.out]; rfl, (HT.out.trans HT3.out (fun _ _ h => h))⟩
end Go.Proofs.Ytdhimlkndpiacaa
