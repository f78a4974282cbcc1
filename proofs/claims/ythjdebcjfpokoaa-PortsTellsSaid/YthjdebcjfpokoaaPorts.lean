/- Is there a TCP header, a UDP header? -/
import Derived.Test.YthjdebcjfpokoaaIpIs
set_option linter.unusedVariables false
namespace Go.Proofs.Ythjdebcjfpokoaa
open Go.RowKit

def tcpB (ys : List Nat) : Bool := if ys.length < 20 then false else if gb ys 12 / 16 < 5 then false else decide (4 * (gb ys 12 / 16) ≤ ys.length)
def udpB (ys : List Nat) : Bool := if ys.length < 8 then false else if gb ys 4 * 256 + gb ys 5 < 8 then false else decide (gb ys 4 * 256 + gb ys 5 ≤ ys.length)

set_option maxHeartbeats 2000000 in
theorem isTCP_any (a : Option Addr) (len cap : Nat) (ys : List Nat) (w : World) (hr : RowB w a len cap ys) :
    Calls Try.prog 59 #[.slice a len cap] w fun e w' => e = .returned (.bool (tcpB ys)) ∧ w' = w := by
  have hx := hr.1
  by_cases hl : len < 20
  · have hl' : (len : Int) < 20 := by omega
    have e : tcpB ys = false := by unfold tcpB; rw [if_pos (by omega)]
    rw [e]
    clear hr e
    go_enter Try.func59, Try.ntmps59
    go_wp2
    go_ret
    exact ⟨rfl, rfl⟩
  · obtain ⟨b, off, rfl⟩ := hr.some (by omega)
    have hl' : ¬ (len : Int) < 20 := by omega
    have c12 := hr.gb 12 (by omega)
    have b12 := gb_lt ys hr.2.2.2.2.1 12
    have i12 : (12 : Int) < len := by omega
    by_cases h5 : gb ys 12 / 16 < 5
    · have h5' : ¬ ((5 : Int) ≤ (gb ys 12 : Int) / 16) := by omega
      have e : tcpB ys = false := by unfold tcpB; rw [if_neg (by omega), if_pos h5]
      rw [e]
      clear hr e
      go_enter Try.func59, Try.ntmps59
      go_wp2
      go_ret
      exact ⟨rfl, rfl⟩
    · have h5' : (5 : Int) ≤ (gb ys 12 : Int) / 16 := by omega
      have e : tcpB ys = decide (4 * ((gb ys 12 : Int) / 16) ≤ (len : Int)) := by
        unfold tcpB; rw [if_neg (by omega), if_neg h5, hx]
        rw [decide_eq_decide]; omega
      rw [e]
      clear hr e
      go_enter Try.func59, Try.ntmps59
      go_wp2
      go_ret
      exact ⟨rfl, rfl⟩

set_option maxHeartbeats 2000000 in
theorem isUDP_any (a : Option Addr) (len cap : Nat) (ys : List Nat) (w : World) (hr : RowB w a len cap ys) (hlen : len < 65536) :
    Calls Try.prog 60 #[.slice a len cap] w fun e w' => e = .returned (.bool (udpB ys)) ∧ Touch w w' (fun _ => False) := by
  have hx := hr.1
  by_cases hl : len < 8
  · have hl' : (len : Int) < 8 := by omega
    have e : udpB ys = false := by unfold udpB; rw [if_pos (by omega)]
    rw [e]
    clear hr e
    go_enter Try.func60, Try.ntmps60
    go_wp2
    go_ret
    exact ⟨rfl, Touch.refl _ _⟩
  · have hl' : ¬ (len : Int) < 8 := by omega
    have hcap := hr.2.1
    have b4 := gb_lt ys hr.2.2.2.2.1 4
    have b5 := gb_lt ys hr.2.2.2.2.1 5
    obtain ⟨A, C, hsl, hP⟩ := slice_l a len cap 4 4 rfl (by omega) hcap
    have hr4 := hP.row _ _ hr (Nat.le_refl _)
    have e4 : (ys.take len).drop 4 = gb ys 4 :: gb ys 5 :: (ys.drop 6) := by
      rw [← hx, List.take_length, List.drop_eq_getElem_cons (by omega), List.drop_eq_getElem_cons (by omega), gb_get _ _ (by omega), gb_get _ _ (by omega)]
    rw [e4] at hr4
    have H := Lib.hid (newreader_any A (len - 4) C _ w hr4 (by omega))
    have HX := Lib.hid hx
    clear hr hr4 hx e4 hP
    go_enter Try.func60, Try.ntmps60
    go_wp2_with fail
    refine H.out.mono ?_
    rintro e w2 ⟨v, rfl, hnew⟩
    obtain ⟨G, rfl, hrd2, t2, hG⟩ := hnew.rdE
    clear hnew H hsl
    go_wp2_with fail
    refine (e_U16 G _ _ _ _ _ _ hrd2).mono ?_
    rintro e w3 ⟨rfl, hrd3, t3⟩
    have T : Touch w w3 (fun _ => False) := t2.trans t3 (fun k hk h => by subst h; omega)
    clear hrd2 hrd3 t2 t3
    by_cases h5 : gb ys 4 * 256 + gb ys 5 < 8
    · have h5' : ¬ ((8 : Int) ≤ (gb ys 4 : Int) * 256 + gb ys 5) := by omega
      have e : udpB ys = false := by unfold udpB; rw [if_neg (by have := HX.out; omega), if_pos h5]
      have E := Lib.hid e
      clear e
      go_wp2
      go_ret
      exact ⟨by rw [E.out]; rfl, T⟩
    · have h5' : (8 : Int) ≤ (gb ys 4 : Int) * 256 + gb ys 5 := by omega
      have e : udpB ys = decide ((gb ys 4 : Int) * 256 + gb ys 5 ≤ (len : Int)) := by
        unfold udpB; rw [if_neg (by have := HX.out; omega), if_neg h5, HX.out]
        rw [decide_eq_decide]; omega
      have E := Lib.hid e
      clear e
      go_wp2
      go_ret
      exact ⟨by rw [E.out]; rfl, T⟩

/-- Why nobody speaks, or 0. -/
def refF (f o p : Nat) (ys : List Nat) : Nat :=
  if wholeB f o = false then 6 else if p ≠ 6 ∧ p ≠ 17 then 8 else if p = 6 ∧ tcpB ys = false then 9 else if p = 17 ∧ udpB ys = false then 9 else 0

set_option maxHeartbeats 4000000 in
theorem refuse_any (a b c d f o g p j k m : Nat) (s : Option Addr) (len cap : Nat) (ys : List Nat) (w : World) (hr : RowB w s len cap ys) (hlen : len < 65536) :
    Calls Try.prog 48 #[.agg #[.int .i64 a, .int .i64 b, .int .i64 c, .int .i64 d, .int .i64 f, .int .i64 o, .int .i64 g, .int .i64 p, .int .i64 j, .int .u32 k, .int .u32 m], .slice s len cap] w fun e w' => e = .returned (.int .i64 (refF f o p ys : Nat)) ∧ Touch w w' (fun _ => False) := by
  obtain ⟨W1, hW1⟩ : ∃ W, w.alloc (.cells #[.int .i64 a, .int .i64 b, .int .i64 c, .int .i64 d, .int .i64 f, .int .i64 o, .int .i64 g, .int .i64 p, .int .i64 j, .int .u32 k, .int .u32 m] 24) = W := ⟨_, rfl⟩
  have t1 : Touch w W1 (fun _ => False) := hW1 ▸ (Touch.refl _ _).alloc _
  have hb : W1.heap[w.heap.size]? = some _ := hW1 ▸ heap_alloc_new w _
  have hr1 := hr.touch t1 (fun _ _ => .inr (fun h => h))
  have c0 := cell_of_cells hb 0
  have c1 := cell_of_cells hb 1
  have c2 := cell_of_cells hb 2
  have c3 := cell_of_cells hb 3
  have c4 := cell_of_cells hb 4
  have c5 := cell_of_cells hb 5
  have c6 := cell_of_cells hb 6
  have c7 := cell_of_cells hb 7
  have c8 := cell_of_cells hb 8
  have c9 := cell_of_cells hb 9
  have c10 := cell_of_cells hb 10
  simp at c0 c1 c2 c3 c4 c5 c6 c7 c8 c9 c10
  have HB := Lib.hid hb
  have HR := Lib.hid hr1
  have T1 := Lib.hid t1
  have HTy : RowKit.Hid ((Try.prog.info? 24).map (·.size) = some 11) := Lib.hid (by kernel_rfl)
  clear hb hr hr1 t1
  generalize hW : wholeB f o = W
  have HR0 : RowKit.Hid (refF f o p ys = if W = false then 6 else if p ≠ 6 ∧ p ≠ 17 then 8 else if p = 6 ∧ tcpB ys = false then 9 else if p = 17 ∧ udpB ys = false then 9 else 0) := Lib.hid (by rw [← hW]; rfl)
  have HW := Lib.hid hW
  clear hW
  go_enter Try.func48, Try.ntmps48
  go_wp2_with (first
    | (go_at_call 59; (with_reducible refine (isTCP_any _ _ _ _ _ HR.out).mono ?_); rintro e w' ⟨rfl, rfl⟩)
    | (go_at_call 60; (with_reducible refine (isUDP_any _ _ _ _ _ HR.out hlen).mono ?_); rintro e w' ⟨rfl, t9⟩; have T1 := Lib.hid (T1.out.trans t9 (fun _ _ h => h)); clear t9)
    | (go_at_call 19; (with_reducible refine (whole_any' _ _ _ _ _ _ _ _ _ _ _ _).mono ?_); rintro e w' ⟨rfl, t9⟩; rw [HW.out]; have T1 := Lib.hid (T1.out.trans t9 (fun _ _ h => h)); have HR := Lib.hid (HR.out.touch t9 (fun _ _ => .inr (fun h => h))); have HB := Lib.hid (t9.keeps HB.out (fun h => h)); have c7 := cell_of_cells HB.out 7; simp at c7; clear t9))
  all_goals (go_ret; refine ⟨?_, T1.out⟩; rw [HR0.out]; clear HR0 HW T1 HB HR c0 c1 c2 c3 c4 c5 c6 c7 c8 c9 c10; (repeat' split); all_goals first | rfl | (exfalso; simp_all; done) | (exfalso; simp_all; omega))
end Go.Proofs.Ythjdebcjfpokoaa
