import Derived.Test.YtpjdcgjoepjmcaaGreatKDZ
import Derived.Test.YtpjdcgjoepjmcaaGreatIpRBuildZ
import Derived.Test.YtpjdcgjoepjmcaaGreatGAZ
import Derived.Test.YtpjdcgjoepjmcaaGreatIpBuildZ
import Derived.Test.YtpjdcgjoepjmcaaGreatKCZ
set_option linter.unusedVariables false
section
namespace Go.Proofs.YtpjdcgjoepjmcaaGreat
open Go.RowKit
def outH (h : Hdr) (self dd : Int) : HArg := ⟨0, h.tos, (h.len : Int) + 20, h.id, ((h.flags - h.flags % 2 : Nat) : Int), 0, 64, 4, 0, self, dd⟩
def whyW (xs : List Nat) (mtu : Int) : Nat := if whyF xs ≠ 0 then whyF xs else if (hdr xs).ttl ≤ 1 then 7 else if mtu < ((hdr xs).len : Int) + 20 ∨ 2000 < (hdr xs).len + 20 then 11 else 0
def wrapF (xs : List Nat) (self dd : Int) : List Nat := builtF (outH (hdr xs) self dd) ++ olderF (xs.take (hdr xs).len) (hdr xs)
def tellW (xs : List Nat) (self dd mtu : Int) : List Nat := if whyW xs mtu = 0 then wrapF xs self dd else []
def WrapIs (w w' : World) (zs : List Nat) (why : Nat) (e : Ending) : Prop :=
 ∃ a n c, e = .returned (.tuple #[.slice a n c, .int .i64 (why : Nat)]) ∧ RowB w' a n c zs ∧ Touch w w' (fun _ => False)
def WrapN (w w' : World) (zs : List Nat) (why : Nat) (e : Ending) : Prop :=
 ∃ a n c, e = .returned (.tuple #[.slice a n c, .int .i64 (why : Nat)]) ∧ RowB w' a n c zs ∧ Touch w w' (fun _ => False) ∧ ∀ x, a = some x → w.heap.size ≤ x.block
theorem wrapIs_nil {w w' : World} {xs : List Nat} {self dd mtu : Int} {y : Nat} (hy : whyW xs mtu = y) (h0 : y ≠ 0) (t : Touch w w' (fun _ => False)) :
 WrapIs w w' (tellW xs self dd mtu) (whyW xs mtu) (.returned (.tuple #[.slice none 0 0, .int .i64 (y : Nat)])) := by
 unfold tellW
 rw [if_neg (by omega), hy]
 exact ⟨none, 0, 0, rfl, RowB.nil _ _ _ (by omega), t⟩
theorem wrapN_nil {w w' : World} {xs : List Nat} {self dd mtu : Int} {y : Nat} (hy : whyW xs mtu = y) (h0 : y ≠ 0) (t : Touch w w' (fun _ => False)) :
 WrapN w w' (tellW xs self dd mtu) (whyW xs mtu) (.returned (.tuple #[.slice none 0 0, .int .i64 (y : Nat)])) := by
 unfold tellW
 rw [if_neg (by omega), hy]
 exact ⟨none, 0, 0, rfl, RowB.nil _ _ _ (by omega), t, fun x hx => by cases hx⟩
theorem andNot1 : ∀ f : Nat, f < 8 → bits BinOp.andNot IntKind.i64 (f : Int) 1 = ((f - f % 2 : Nat) : Int) := by decide
theorem outH_ok (h : Hdr) (h1 : h.tos < 256 ∧ h.len < 65536 ∧ h.id < 65536 ∧ h.flags < 8) (self dd : Int) (s1 : 0 ≤ self ∧ self ≤ 4294967295) (s2 : 0 ≤ dd ∧ dd ≤ 4294967295) : (outH h self dd).Ok := by
 obtain ⟨a, b, c, d⟩ := h1
 refine ⟨?_, ?_, ?_, ?_, ?_, ?_, ?_, ?_, ?_, s1, s2⟩ <;> (simp only [outH, isI64]; omega)
set_option maxRecDepth 20000 in
set_option maxHeartbeats 8000000 in
theorem wrap_new (a : Option Addr) (len cap : Nat) (xs : List Nat) (self dd mtu : Int) (w : World) (hr : RowB w a len cap xs) (s1 : 0 ≤ self ∧ self ≤ 4294967295) (s2 : 0 ≤ dd ∧ dd ≤ 4294967295) :
 Calls Tryz.prog 49 #[.slice a len cap, .int .u32 self, .int .u32 dd, .int .i64 mtu] w fun e w' => WrapN w w' (tellW xs self dd mtu) (whyW xs mtu) e := by
 by_cases hy : whyF xs = 0
 case neg =>
  have H := Lib.hid (parse_bad a len cap xs w hr hy)
  have hW : whyW xs mtu = whyF xs := by unfold whyW; rw [if_pos hy]
  have HW := Lib.hid hW
  have hbn : ((whyF xs : Int) != 0) = true := bne_iff_ne.2 (by omega)
  clear hr hW
  go_enter Tryz.func49, Tryz.ntmps49
  go_wp2_with fail
  (with_reducible refine H.out.mono ?_)
  rintro e w2 ⟨rfl, t2⟩
  simp only [hv, hdr0]
  go_wp2_with fail
  go_ret2
  exact wrapN_nil HW.out hy (t2.alloc _)
 case pos =>
  have H := Lib.hid (parse_ok a len cap xs w hr hy)
  obtain ⟨k1, k2, k3, k4⟩ := why_take xs hy
  have hlt := hdr_lt xs hr.2.2.2.2.1
  have hx := hr.1
  have HR := Lib.hid hr
  have hW : whyW xs mtu = if (hdr xs).ttl ≤ 1 then 7 else if mtu < ((hdr xs).len : Int) + 20 ∨ 2000 < (hdr xs).len + 20 then 11 else 0 := by unfold whyW; rw [if_neg (by omega)]
  unfold Parsed at H
  have hF : whyW xs mtu = 0 → tellW xs self dd mtu = builtF (outH (hdr xs) self dd) ++ olderF (xs.take (hdr xs).len) (hdr xs) := fun h => by unfold tellW; rw [if_pos h]; rfl
  have HF := Lib.hid hF
  have HNIL := Lib.hid (fun (w' : World) (y : Nat) (h1 : whyW xs mtu = y) (h2 : y ≠ 0) (t : Touch w w' (fun _ => False)) => wrapN_nil (self := self) (dd := dd) h1 h2 t)
  have HOK := Lib.hid (fun h1 => outH_ok (hdr xs) h1 self dd s1 s2)
  generalize (xs.take (hdr xs).len).drop (4 * (hdr xs).ihl) = Y at *
  generalize hdr xs = h at *
  generalize whyW xs mtu = yw at *
  generalize tellW xs self dd mtu = ZZ at *
  obtain ⟨l1, l2, l3, l4, l5, l6, l7, l8⟩ := hlt
  have HK4 := Lib.hid k4
  clear hr k1 k4 hF
  by_cases ht : h.ttl ≤ 1
  ·have ht' : (h.ttl : Int) ≤ 1 := by omega
   rw [if_pos ht] at hW
   have HW := Lib.hid hW
   clear hW
   go_enter Tryz.func49, Tryz.ntmps49
   go_wp2_with fail
   (with_reducible refine H.out.mono ?_)
   rintro e w2 ⟨a2, c2, rfl, hf2⟩
   simp only [hv]
   go_wp2_with fail
   go_ret2
   exact HNIL.out _ 7 HW.out (by omega) (hf2.2.alloc _)
  ·have ht' : ¬ (h.ttl : Int) ≤ 1 := by omega
   rw [if_neg ht] at hW
   obtain ⟨M, hM⟩ : ∃ M, (if (2000 : Int) < mtu then (2000 : Int) else mtu) = M := ⟨_, rfl⟩
   have hM2 : M < (h.len : Int) + 20 ↔ (mtu < (h.len : Int) + 20 ∨ 2000 < h.len + 20) := by rw [← hM]; split <;> omega
   by_cases hm : M < (h.len : Int) + 20
   ·rw [if_pos (hM2.1 hm)] at hW
    have HW := Lib.hid hW
    clear hW hM2
    go_enter Tryz.func49, Tryz.ntmps49
    go_wp2_with fail
    (with_reducible refine H.out.mono ?_)
    rintro e w2 ⟨a2, c2, rfl, hf2⟩
    simp only [hv]
    go_wp2_with fail
    go_ret2
    exact HNIL.out _ 11 HW.out (by omega) (hf2.2.alloc _)
   ·rw [if_neg (fun h => hm (hM2.2 h))] at hW
    have HW := Lib.hid hW
    have HF := Lib.hid (HF.out hW)
    have hm20 : h.len + 20 ≤ 2000 := by
     have := mt hM2.2 hm
     omega
    clear hW hM2 HNIL
    have HB := Lib.hid (fun W => build_any (outH h self dd) (HOK.out ⟨l2, l3, l4, l5⟩) W)
    have HBL := Lib.hid (builtF_length (outH h self dd))
    generalize builtF (outH h self dd) = F at *
    have han := andNot1 h.flags l5
    obtain ⟨fl, hfl⟩ : ∃ fl, h.flags - h.flags % 2 = fl := ⟨_, rfl⟩
    rw [hfl] at han
    simp only [acs, outH, hfl] at HB
    have HOLD := Lib.hid (fun (A : Option Addr) (C : Nat) (W : World) (hr : RowB W A h.len C (xs.take h.len)) => older_any A h.len C (xs.take h.len) h W hr k2 (by omega) ⟨by omega, l6⟩ l7 l8)
    have HOL := Lib.hid ((olderF_length (xs.take h.len) h).trans HK4.out)
    generalize olderF (xs.take h.len) h = O at *
    have hcap := HR.out.2.1
    obtain ⟨A, C, hsl, hP⟩ := slice_h a len cap (h.len : Int) h.len rfl (by omega)
    have HP : RowKit.Hid (∀ W, RowB W a len cap xs → RowB W A h.len C (xs.take h.len)) := Lib.hid (fun W hw => by
     have := hP.row W xs hw (by omega)
     simpa using this)
    clear hfl hP HOK
    simp only [hcs] at HOLD
    go_enter Tryz.func49, Tryz.ntmps49
    go_wp2_with fail
    (with_reducible refine H.out.mono ?_)
    rintro e w2 ⟨a2, c2, rfl, hf2⟩
    obtain ⟨W3, hW3⟩ : ∃ W, w2.alloc (.cells (hcs h) 76) = W := ⟨_, rfl⟩
    have t3 : Touch w W3 (fun _ => False) := hW3 ▸ hf2.2.alloc _
    have HH : RowKit.Hid (W3.heap[w2.heap.size]? = some (.cells (hcs h) 76 (0, 0))) := Lib.hid (hW3 ▸ heap_alloc_new w2 _)
    have HT := Lib.hid t3
    have HSW := Lib.hid t3.size
    obtain ⟨g0, g1, g2, g3, g4, g5, g6, g7, g8, g9, g10⟩ := hcells_of HH.out
    clear t3 hf2 H
    simp only [hv, hcs] at hW3 ⊢
    go_upto_region 9 with (go_at_call 82; (with_reducible refine (HB.out _).mono ?_); rintro e w48 ⟨a48, c48, rfl, hf48⟩; have t48 := hf48.2; have HT := Lib.hid (HT.out.trans t48 (fun _ _ h => h)); have HO := Lib.hid hf48.1; have HH := Lib.hid (t48.keeps HH.out (fun h => h)); have HS48 := Lib.hid t48.size; obtain ⟨g0, g1, g2, g3, g4, g5, g6, g7, g8, g9, g10⟩ := hcells_of HH.out; clear hf48 t48)
    have t0 := (Touch.refl w48 (fun _ => False)).drew
    have HT := Lib.hid (HT.out.trans t0 (fun _ _ h => h))
    have HH := Lib.hid (t0.keeps HH.out (fun h => h))
    have HO := Lib.hid (HO.out.drew ⟨1, rfl⟩)
    clear t0 hW3
    go_wp2_with fail
    go_region_law (first
     | (have _u := HR55; refine step_appendB rfl _ _ 38 rfl 5 Tryz.underlying38 infoB W3.heap.size (.slice a48 20 c48) _ rfl HO.out _ _ _ O rfl HR55.out (20 + h.len) (F ++ O) rfl (by rw [List.length_append, HBL.out, HOL.out]) (by omega) HS55.out ?_; intro a56 d56 w56 hown hrow hg hpl; have HT := Lib.hid (HT.out.grown hg (fun x hx hlt => by have h1 := (HO.out.own.lt x hx).1; have h2 := HSW.out; omega)); have HR56 := Lib.hid hrow; have HN56 : RowKit.Hid (∀ x, a56 = some x → w.heap.size ≤ x.block) := Lib.hid (fun x hx => by subst hx; have h1 := (hown.own.lt x.block rfl).1; have h2 := HSW.out; omega); clear hown hrow hg hpl)
     | (go_simp; go_at_call 83; (with_reducible refine (HOLD.out _ _ _ (HP.out _ (HR.out.touch HT.out (fun _ _ => .inr (fun h => h))))).mono ?_); rintro e w55 ⟨a55, d55, rfl, hf55⟩; have hq := ref_row (n := 0) hf55 HOL.out; have t55 := hf55.2; have HO := Lib.hid (HO.out.touch t55 (fun _ _ h => h)); have HT := Lib.hid (HT.out.trans t55 (fun _ _ h => h)); have HH := Lib.hid (t55.keeps HH.out (fun h => h)); have HR55 := Lib.hid hq.1; have HS55 : RowKit.Hid (W3.heap.size ≤ w55.heap.size) := Lib.hid (Nat.le_trans HS48.out t55.size); obtain ⟨g0, g1, g2, g3, g4, g5, g6, g7, g8, g9, g10⟩ := hcells_of HH.out; clear hf55 t55 hq))
    all_goals (go_wp2_with fail; go_ret2; rw [HF.out, HW.out]; exact ⟨_, _, _, rfl, HR56.out, HT.out, HN56.out⟩)
end Go.Proofs.YtpjdcgjoepjmcaaGreat
end
section
namespace Go.Proofs.YtpjdcgjoepjmcaaGreat
open Go.ChangeShapes Go.WideShapes Go.ChangeAt Go.RowKit
end Go.Proofs.YtpjdcgjoepjmcaaGreat
end
section
namespace Go.Proofs.YtpjdcgjoepjmcaaGreat
open Go.RowKit
def tcpB (ys : List Nat) : Bool := if ys.length < 20 then false else if gb ys 12 / 16 < 5 then false else decide (4 * (gb ys 12 / 16) ≤ ys.length)
def udpB (ys : List Nat) : Bool := if ys.length < 8 then false else if gb ys 4 * 256 + gb ys 5 < 8 then false else decide (gb ys 4 * 256 + gb ys 5 ≤ ys.length)
set_option maxRecDepth 20000 in
set_option maxHeartbeats 2000000 in
theorem isTCP_any (a : Option Addr) (len cap : Nat) (ys : List Nat) (w : World) (hr : RowB w a len cap ys) :
 Calls Tryz.prog 109 #[.slice a len cap] w fun e w' => e = .returned (.bool (tcpB ys)) ∧ w' = w := by
 have hx := hr.1
 by_cases hl : len < 20
 ·have hl' : (len : Int) < 20 := by omega
  have e : tcpB ys = false := by unfold tcpB; rw [if_pos (by omega)]
  rw [e]
  clear hr e
  go_enter Tryz.func109, Tryz.ntmps109
  go_wp2
  go_ret
  exact ⟨rfl, rfl⟩
 ·obtain ⟨b, off, rfl⟩ := hr.some (by omega)
  have hl' : ¬ (len : Int) < 20 := by omega
  have c12 := hr.gb 12 (by omega)
  have b12 := gb_lt ys hr.2.2.2.2.1 12
  have i12 : (12 : Int) < len := by omega
  by_cases h5 : gb ys 12 / 16 < 5
  ·have h5' : ¬ ((5 : Int) ≤ (gb ys 12 : Int) / 16) := by omega
   have e : tcpB ys = false := by unfold tcpB; rw [if_neg (by omega), if_pos h5]
   rw [e]
   clear hr e
   go_enter Tryz.func109, Tryz.ntmps109
   go_wp2
   go_ret
   exact ⟨rfl, rfl⟩
  ·have h5' : (5 : Int) ≤ (gb ys 12 : Int) / 16 := by omega
   have e : tcpB ys = decide (4 * ((gb ys 12 : Int) / 16) ≤ (len : Int)) := by
    unfold tcpB; rw [if_neg (by omega), if_neg h5, hx]
    rw [decide_eq_decide]; omega
   rw [e]
   clear hr e
   go_enter Tryz.func109, Tryz.ntmps109
   go_wp2
   go_ret
   exact ⟨rfl, rfl⟩
set_option maxRecDepth 20000 in
set_option maxHeartbeats 2000000 in
theorem isUDP_any (a : Option Addr) (len cap : Nat) (ys : List Nat) (w : World) (hr : RowB w a len cap ys) (hlen : len < 65536) :
 Calls Tryz.prog 110 #[.slice a len cap] w fun e w' => e = .returned (.bool (udpB ys)) ∧ Touch w w' (fun _ => False) := by
 have hx := hr.1
 by_cases hl : len < 8
 ·have hl' : (len : Int) < 8 := by omega
  have e : udpB ys = false := by unfold udpB; rw [if_pos (by omega)]
  rw [e]
  clear hr e
  go_enter Tryz.func110, Tryz.ntmps110
  go_wp2
  go_ret
  exact ⟨rfl, Touch.refl _ _⟩
 ·have hl' : ¬ (len : Int) < 8 := by omega
  have hcap := hr.2.1
  have b4 := gb_lt ys hr.2.2.2.2.1 4
  have b5 := gb_lt ys hr.2.2.2.2.1 5
  obtain ⟨A, C, hsl, hP⟩ := slice_l a len cap 4 4 rfl (by omega) hcap
  have hr4 := hP.row _ _ hr (Nat.le_refl _)
  have e4 : (ys.take len).drop 4 = gb ys 4 :: gb ys 5 :: (ys.drop 6) := by
   rw [← hx, List.take_length, List.drop_eq_getElem_cons (by omega), List.drop_eq_getElem_cons (by omega), gb_get _ _ (by omega), gb_get _ _ (by omega)]
  rw [e4] at hr4
  have H := Lib.hid (newreader_any A (len - 4) C _ w hr4 (by omega))
  have HX := Lib.hid hx
  clear hr hr4 hx e4 hP
  go_enter Tryz.func110, Tryz.ntmps110
  go_wp2_with fail
  refine H.out.mono ?_
  rintro e w2 ⟨v, rfl, hnew⟩
  obtain ⟨G, rfl, hrd2, t2, hG⟩ := hnew.rdE
  clear hnew H hsl
  go_wp2_with fail
  refine (e_U16 G _ _ _ _ _ _ hrd2).mono ?_
  rintro e w3 ⟨rfl, hrd3, t3⟩
  have T : Touch w w3 (fun _ => False) := t2.trans t3 (fun k hk h => by subst h; omega)
  clear hrd2 hrd3 t2 t3
  by_cases h5 : gb ys 4 * 256 + gb ys 5 < 8
  ·have h5' : ¬ ((8 : Int) ≤ (gb ys 4 : Int) * 256 + gb ys 5) := by omega
   have e : udpB ys = false := by unfold udpB; rw [if_neg (by have := HX.out; omega), if_pos h5]
   have E := Lib.hid e
   clear e
   go_wp2
   go_ret
   exact ⟨by rw [E.out]; rfl, T⟩
  ·have h5' : (8 : Int) ≤ (gb ys 4 : Int) * 256 + gb ys 5 := by omega
   have e : udpB ys = decide ((gb ys 4 : Int) * 256 + gb ys 5 ≤ (len : Int)) := by
    unfold udpB; rw [if_neg (by have := HX.out; omega), if_neg h5, HX.out]
    rw [decide_eq_decide]; omega
   have E := Lib.hid e
   clear e
   go_wp2
   go_ret
   exact ⟨by rw [E.out]; rfl, T⟩
def refF (f o p : Nat) (ys : List Nat) : Nat :=
 if wholeB f o = false then 6 else if p ≠ 6 ∧ p ≠ 17 then 8 else if p = 6 ∧ tcpB ys = false then 9 else if p = 17 ∧ udpB ys = false then 9 else 0
set_option maxRecDepth 20000 in
set_option maxHeartbeats 4000000 in
theorem refuse_any (a b c d f o g p j k m : Nat) (s : Option Addr) (len cap : Nat) (ys : List Nat) (w : World) (hr : RowB w s len cap ys) (hlen : len < 65536) :
 Calls Tryz.prog 78 #[.agg #[.int .i64 a, .int .i64 b, .int .i64 c, .int .i64 d, .int .i64 f, .int .i64 o, .int .i64 g, .int .i64 p, .int .i64 j, .int .u32 k, .int .u32 m], .slice s len cap] w fun e w' => e = .returned (.int .i64 (refF f o p ys : Nat)) ∧ Touch w w' (fun _ => False) := by
 obtain ⟨W1, hW1⟩ : ∃ W, w.alloc (.cells #[.int .i64 a, .int .i64 b, .int .i64 c, .int .i64 d, .int .i64 f, .int .i64 o, .int .i64 g, .int .i64 p, .int .i64 j, .int .u32 k, .int .u32 m] 76) = W := ⟨_, rfl⟩
 have t1 : Touch w W1 (fun _ => False) := hW1 ▸ (Touch.refl _ _).alloc _
 have hb : W1.heap[w.heap.size]? = some _ := hW1 ▸ heap_alloc_new w _
 have hr1 := hr.touch t1 (fun _ _ => .inr (fun h => h))
 have c0 := cell_of_cells hb 0
 have c1 := cell_of_cells hb 1
 have c2 := cell_of_cells hb 2
 have c3 := cell_of_cells hb 3
 have c4 := cell_of_cells hb 4
 have c5 := cell_of_cells hb 5
 have c6 := cell_of_cells hb 6
 have c7 := cell_of_cells hb 7
 have c8 := cell_of_cells hb 8
 have c9 := cell_of_cells hb 9
 have c10 := cell_of_cells hb 10
 simp at c0 c1 c2 c3 c4 c5 c6 c7 c8 c9 c10
 have HB := Lib.hid hb
 have HR := Lib.hid hr1
 have T1 := Lib.hid t1
 have HTy : RowKit.Hid ((Tryz.prog.info? 76).map (·.size) = some 11) := Lib.hid (by kernel_rfl)
 clear hb hr hr1 t1
 generalize hW : wholeB f o = W
 have HR0 : RowKit.Hid (refF f o p ys = if W = false then 6 else if p ≠ 6 ∧ p ≠ 17 then 8 else if p = 6 ∧ tcpB ys = false then 9 else if p = 17 ∧ udpB ys = false then 9 else 0) := Lib.hid (by rw [← hW]; rfl)
 have HW := Lib.hid hW
 clear hW
 go_enter Tryz.func78, Tryz.ntmps78
 go_wp2_with (first
  | (go_at_call 109; (with_reducible refine (isTCP_any _ _ _ _ _ HR.out).mono ?_); rintro e w' ⟨rfl, rfl⟩)
  | (go_at_call 110; (with_reducible refine (isUDP_any _ _ _ _ _ HR.out hlen).mono ?_); rintro e w' ⟨rfl, t9⟩; have T1 := Lib.hid (T1.out.trans t9 (fun _ _ h => h)); clear t9)
  | (go_at_call 108; (with_reducible refine (whole_any' _ _ _ _ _ _ _ _ _ _ _ _).mono ?_); rintro e w' ⟨rfl, t9⟩; rw [HW.out]; have T1 := Lib.hid (T1.out.trans t9 (fun _ _ h => h)); have HR := Lib.hid (HR.out.touch t9 (fun _ _ => .inr (fun h => h))); have HB := Lib.hid (t9.keeps HB.out (fun h => h)); have c7 := cell_of_cells HB.out 7; simp at c7; clear t9))
 all_goals (go_ret; refine ⟨?_, T1.out⟩; rw [HR0.out]; clear HR0 HW T1 HB HR c0 c1 c2 c3 c4 c5 c6 c7 c8 c9 c10; (repeat' split); all_goals first | rfl | (exfalso; simp_all; done) | (exfalso; simp_all; omega))
end Go.Proofs.YtpjdcgjoepjmcaaGreat
end
