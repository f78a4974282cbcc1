/- What Unwrap answers. -/
import Derived.Test.YthjdebcjfpokoaaEncMath
set_option linter.unusedVariables false
namespace Go.Proofs.Ythjdebcjfpokoaa
open Go.RowKit

def whyU (xs : List Nat) : Nat := if whyF xs ≠ 0 then whyF xs else if (hdr xs).proto ≠ 4 then 8 else whyF (tellY xs)
def tellU (xs : List Nat) : List Nat := if whyU xs = 0 then (tellY xs).take (hdr (tellY xs)).len else []
def srcU (xs : List Nat) : Nat := if whyU xs = 0 then (hdr xs).src else 0
def dstU (xs : List Nat) : Nat := if whyU xs = 0 then (hdr xs).dst else 0
/-- Four results. -/
theorem ret_tmp4 {fn : Func} {t u v x : Tmp} (h : fn.results = #[.tmp t, .tmp u, .tmp v, .tmp x]) (tmps : Array Value) (P : Program) (w : World) :
    (results fn tmps).run P w = .ok (.tuple #[tmps.getD t undef, tmps.getD u undef, tmps.getD v undef, tmps.getD x undef]) w := by
  simp [results, h]
/-- What Unwrap hands back. -/
def UnwrapIs (w w' : World) (xs : List Nat) (e : Ending) : Prop :=
  ∃ a n c, e = .returned (.tuple #[.slice a n c, .int .u32 (srcU xs : Nat), .int .u32 (dstU xs : Nat), .int .i64 (whyU xs : Nat)]) ∧ RowB w' a n c (tellU xs) ∧ Touch w w' (fun _ => False)
theorem unwrapIs_nil {w w' : World} {xs : List Nat} {y : Nat} (hy : whyU xs = y) (h0 : y ≠ 0) (t : Touch w w' (fun _ => False)) :
    UnwrapIs w w' xs (.returned (.tuple #[.slice none 0 0, .int .u32 0, .int .u32 0, .int .i64 (y : Nat)])) := by
  unfold UnwrapIs tellU srcU dstU
  rw [if_neg (by omega), if_neg (by omega), if_neg (by omega), hy]
  exact ⟨none, 0, 0, rfl, RowB.nil _ _ _ (by omega), t⟩
theorem unwrapIs_ok {w w' : World} {xs : List Nat} {a : Option Addr} {n c : Nat} (h0 : whyU xs = 0) (hr : RowB w' a n c ((tellY xs).take (hdr (tellY xs)).len)) (t : Touch w w' (fun _ => False)) :
    UnwrapIs w w' xs (.returned (.tuple #[.slice a n c, .int .u32 ((hdr xs).src : Nat), .int .u32 ((hdr xs).dst : Nat), .int .i64 0])) := by
  unfold UnwrapIs tellU srcU dstU
  rw [if_pos h0, if_pos h0, if_pos h0, h0]
  exact ⟨a, n, c, rfl, hr, t⟩

set_option maxRecDepth 20000 in
set_option maxHeartbeats 8000000 in
theorem unwrap_any (a : Option Addr) (len cap : Nat) (xs : List Nat) (w : World) (hr : RowB w a len cap xs) :
    Calls Try.prog 32 #[.slice a len cap] w fun e w' => UnwrapIs w w' xs e := by
  have H := parse_is a len cap xs w hr
  have HN := Lib.hid (fun (w' : World) (y : Nat) (h1 : whyU xs = y) (h2 : y ≠ 0) (t : Touch w w' (fun _ => False)) => unwrapIs_nil h1 h2 t)
  have HOK := Lib.hid (fun (w' : World) (a : Option Addr) (n c : Nat) (h0 : whyU xs = 0) (hr : RowB w' a n c ((tellY xs).take (hdr (tellY xs)).len)) (t : Touch w w' (fun _ => False)) => unwrapIs_ok (xs := xs) h0 hr t)
  have hW : whyU xs = if whyF xs ≠ 0 then whyF xs else if (hdr xs).proto ≠ 4 then 8 else whyF (tellY xs) := rfl
  have hH : whyF xs = 0 → tellH xs = hdr xs := fun h => by unfold tellH; rw [if_pos h]
  generalize whyU xs = yu at *
  generalize tellH xs = h at *
  generalize hdr xs = h' at *
  generalize tellY xs = Y at *
  generalize whyF xs = y at *
  have H := Lib.hid H
  clear hr
  by_cases hy : y = 0
  case neg =>
    rw [if_pos hy] at hW
    have HW := Lib.hid hW
    have hbn : ((y : Int) != 0) = true := bne_iff_ne.2 (by omega)
    clear hW
    go_enter Try.func32, Try.ntmps32
    go_wp2_with fail
    (with_reducible refine H.out.mono ?_)
    rintro e w2 ⟨a2, c2, rfl, hr2, t2, -⟩
    simp only [hv]
    go_wp2_with fail
    (refine bodyPost_ret (ret_tmp4 rfl _ _ _) rfl ?_)
    exact HN.out _ y HW.out hy (t2.alloc _)
  case pos =>
    have hbn : ((y : Int) != 0) = false := by simp [hy]
    obtain rfl := hH hy
    rw [if_neg (by omega)] at hW
    by_cases hp : h.proto = 4
    case neg =>
      have hpn : ((h.proto : Int) != 4) = true := bne_iff_ne.2 (by omega)
      rw [if_pos hp] at hW
      have HW := Lib.hid hW
      clear hW hH
      go_enter Try.func32, Try.ntmps32
      go_wp2_with fail
      (with_reducible refine H.out.mono ?_)
      rintro e w2 ⟨a2, c2, rfl, hr2, t2, -⟩
      simp only [hv]
      go_wp2_with fail
      (refine bodyPost_ret (ret_tmp4 rfl _ _ _) rfl ?_)
      exact HN.out _ 8 HW.out (by omega) (t2.alloc _)
    case pos =>
      have hpn : ((h.proto : Int) != 4) = false := by rw [bne_eq_false_iff_eq]; omega
      rw [if_neg (by omega)] at hW
      clear hp
      have HW := Lib.hid hW
      have HL := Lib.hid (fun (h0 : whyF Y = 0) => why_take Y h0)
      have hH2 : whyF Y = 0 → tellH Y = hdr Y := fun h => by unfold tellH; rw [if_pos h]
      have HP := Lib.hid (fun (A : Option Addr) (n C : Nat) (W : World) (hr : RowB W A n C Y) => parse_is A n C Y W hr)
      generalize tellH Y = k at *
      generalize hdr Y = k' at *
      generalize tellY Y = Z at *
      generalize whyF Y = z at *
      clear hW hH
      by_cases hz : z = 0
      case neg =>
        have hzn : ((z : Int) != 0) = true := bne_iff_ne.2 (by omega)
        clear hH2 HL
        go_enter Try.func32, Try.ntmps32
        go_wp2_with fail
        (with_reducible refine H.out.mono ?_)
        rintro e w2 ⟨a2, c2, rfl, hr2, t2, -⟩
        have HR2 := Lib.hid (hr2.touch ((Touch.refl _ (fun _ => False)).alloc (.cells (hcs h) 24)) (fun _ _ => .inr (fun h => h)))
        have HT := Lib.hid (t2.alloc (.cells (hcs h) 24))
        clear hr2 t2
        simp only [hv, hcs] at HR2 HT ⊢
        go_wp2_with fail
        (with_reducible refine (HP.out _ _ _ _ HR2.out).mono ?_)
        rintro e w3 ⟨a3, c3, rfl, hr3, t3, -⟩
        have HT := Lib.hid (HT.out.trans t3 (fun _ _ h => h))
        simp only [hv]
        go_wp2_with fail
        (refine bodyPost_ret (ret_tmp4 rfl _ _ _) rfl ?_)
        exact HN.out _ z HW.out hz (HT.out.alloc _)
      case pos =>
        have hzn : ((z : Int) != 0) = false := by simp [hz]
        obtain rfl := hH2 hz
        obtain ⟨-, k2, k3, k4⟩ := HL.out hz
        clear hH2 HL HN
        have HW0 := Lib.hid (HW.out.trans hz)
        go_enter Try.func32, Try.ntmps32
        go_wp2_with fail
        (with_reducible refine H.out.mono ?_)
        rintro e w2 ⟨a2, c2, rfl, hr2, t2, -⟩
        obtain ⟨W3, hW3⟩ : ∃ W, w2.alloc (.cells (hcs h) 24) = W := ⟨_, rfl⟩
        have t3 : Touch w2 W3 (fun _ => False) := hW3 ▸ (Touch.refl _ _).alloc _
        have HH : RowKit.Hid (W3.heap[w2.heap.size]? = some (.cells (hcs h) 24 (0, 0))) := Lib.hid (hW3 ▸ heap_alloc_new w2 _)
        have HT := Lib.hid (t2.trans t3 (fun _ _ h => h))
        have HR2 := Lib.hid (hr2.touch t3 (fun _ _ => .inr (fun h => h)))
        have hcap := hr2.2.1
        obtain ⟨A, C, hsl, hPt⟩ := slice_h a2 Y.length c2 (k.len : Int) k.len rfl (by omega)
        have HPt : RowKit.Hid (∀ W, RowB W a2 Y.length c2 Y → RowB W A k.len C (Y.take k.len)) := Lib.hid (fun W hw => by
          have := hPt.row W Y hw (by omega)
          simpa using this)
        obtain ⟨g0, g1, g2, g3, g4, g5, g6, g7, g8, g9, g10⟩ := hcells_of HH.out
        have HK4 := Lib.hid k4
        have i1 : (k.len : Int) ≤ (c2 : Int) := by omega
        clear hr2 t2 t3 hPt k4 hcap
        simp only [hv, hcs] at hW3 ⊢
        go_wp2_with fail
        (with_reducible refine (HP.out _ _ _ _ HR2.out).mono ?_)
        rintro e w4 ⟨a4, c4, rfl, hr4, t4, -⟩
        obtain ⟨W5, hW5⟩ : ∃ W, w4.alloc (.cells (hcs k) 24) = W := ⟨_, rfl⟩
        have t5 : Touch w4 W5 (fun _ => False) := hW5 ▸ (Touch.refl _ _).alloc _
        have HG : RowKit.Hid (W5.heap[w4.heap.size]? = some (.cells (hcs k) 24 (0, 0))) := Lib.hid (hW5 ▸ heap_alloc_new w4 _)
        have t45 := t4.trans t5 (fun _ _ h => h)
        have HT := Lib.hid (HT.out.trans t45 (fun _ _ h => h))
        have HR2 := Lib.hid (HR2.out.touch t45 (fun _ _ => .inr (fun h => h)))
        have HH := Lib.hid (t45.keeps HH.out (fun h => h))
        obtain ⟨g0, g1, g2, g3, g4, g5, g6, g7, g8, g9, g10⟩ := hcells_of HH.out
        obtain ⟨q0, q1, q2, q3, q4, q5, q6, q7, q8, q9, q10⟩ := hcells_of HG.out
        clear hr4 t4 t5 t45 HP
        simp only [hv, hcs] at hW5 ⊢
        go_wp2_with fail
        go_quiet (fail)
        go_wp2_with fail
        (refine bodyPost_ret (ret_tmp4 rfl _ _ _) rfl ?_)
        exact HOK.out _ _ _ _ HW0.out ((HPt.out _ HR2.out).drewN nq) (HT.out.drewN nq)
end Go.Proofs.Ythjdebcjfpokoaa
