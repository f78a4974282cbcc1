/- What Wrap answers. -/
import Derived.Test.YthjdebcjfpokoaaEncMath
import Derived.Test.YthjdebcjfpokoaaIpRBuild
set_option linter.unusedVariables false
namespace Go.Proofs.Ythjdebcjfpokoaa
open Go.RowKit

/-- The outer header. -/
def outH (h : Hdr) (self dd : Int) : HArg := ⟨0, h.tos, (h.len : Int) + 20, h.id, ((h.flags - h.flags % 2 : Nat) : Int), 0, 64, 4, 0, self, dd⟩
def whyW (xs : List Nat) (mtu : Int) : Nat := if whyF xs ≠ 0 then whyF xs else if (hdr xs).ttl ≤ 1 then 7 else if mtu < ((hdr xs).len : Int) + 20 ∨ 2000 < (hdr xs).len + 20 then 11 else 0
def wrapF (xs : List Nat) (self dd : Int) : List Nat := builtF (outH (hdr xs) self dd) ++ olderF (xs.take (hdr xs).len) (hdr xs)
def tellW (xs : List Nat) (self dd mtu : Int) : List Nat := if whyW xs mtu = 0 then wrapF xs self dd else []
/-- What Wrap hands back. -/
def WrapIs (w w' : World) (zs : List Nat) (why : Nat) (e : Ending) : Prop :=
  ∃ a n c, e = .returned (.tuple #[.slice a n c, .int .i64 (why : Nat)]) ∧ RowB w' a n c zs ∧ Touch w w' (fun _ => False)
theorem wrapIs_nil {w w' : World} {xs : List Nat} {self dd mtu : Int} {y : Nat} (hy : whyW xs mtu = y) (h0 : y ≠ 0) (t : Touch w w' (fun _ => False)) :
    WrapIs w w' (tellW xs self dd mtu) (whyW xs mtu) (.returned (.tuple #[.slice none 0 0, .int .i64 (y : Nat)])) := by
  unfold tellW
  rw [if_neg (by omega), hy]
  exact ⟨none, 0, 0, rfl, RowB.nil _ _ _ (by omega), t⟩
theorem andNot1 : ∀ f : Nat, f < 8 → bits BinOp.andNot IntKind.i64 (f : Int) 1 = ((f - f % 2 : Nat) : Int) := by decide
theorem outH_ok (h : Hdr) (h1 : h.tos < 256 ∧ h.len < 65536 ∧ h.id < 65536 ∧ h.flags < 8) (self dd : Int) (s1 : 0 ≤ self ∧ self ≤ 4294967295) (s2 : 0 ≤ dd ∧ dd ≤ 4294967295) : (outH h self dd).Ok := by
  obtain ⟨a, b, c, d⟩ := h1
  refine ⟨?_, ?_, ?_, ?_, ?_, ?_, ?_, ?_, ?_, s1, s2⟩ <;> (simp only [outH, isI64]; omega)

set_option maxRecDepth 20000 in
set_option maxHeartbeats 8000000 in
theorem wrap_any (a : Option Addr) (len cap : Nat) (xs : List Nat) (self dd mtu : Int) (w : World) (hr : RowB w a len cap xs) (s1 : 0 ≤ self ∧ self ≤ 4294967295) (s2 : 0 ≤ dd ∧ dd ≤ 4294967295) :
    Calls Try.prog 30 #[.slice a len cap, .int .u32 self, .int .u32 dd, .int .i64 mtu] w fun e w' => WrapIs w w' (tellW xs self dd mtu) (whyW xs mtu) e := by
  by_cases hy : whyF xs = 0
  case neg =>
    have H := Lib.hid (parse_bad a len cap xs w hr hy)
    have hW : whyW xs mtu = whyF xs := by unfold whyW; rw [if_pos hy]
    have HW := Lib.hid hW
    have hbn : ((whyF xs : Int) != 0) = true := bne_iff_ne.2 (by omega)
    clear hr hW
    go_enter Try.func30, Try.ntmps30
    go_wp2_with fail
    (with_reducible refine H.out.mono ?_)
    rintro e w2 ⟨rfl, t2⟩
    simp only [hv, hdr0]
    go_wp2_with fail
    go_ret2
    exact wrapIs_nil HW.out hy (t2.alloc _)
  case pos =>
    have H := Lib.hid (parse_ok a len cap xs w hr hy)
    obtain ⟨k1, k2, k3, k4⟩ := why_take xs hy
    have hlt := hdr_lt xs hr.2.2.2.2.1
    have hx := hr.1
    have HR := Lib.hid hr
    have hW : whyW xs mtu = if (hdr xs).ttl ≤ 1 then 7 else if mtu < ((hdr xs).len : Int) + 20 ∨ 2000 < (hdr xs).len + 20 then 11 else 0 := by unfold whyW; rw [if_neg (by omega)]
    unfold Parsed at H
    have hF : whyW xs mtu = 0 → tellW xs self dd mtu = builtF (outH (hdr xs) self dd) ++ olderF (xs.take (hdr xs).len) (hdr xs) := fun h => by unfold tellW; rw [if_pos h]; rfl
    have HF := Lib.hid hF
    have HNIL := Lib.hid (fun (w' : World) (y : Nat) (h1 : whyW xs mtu = y) (h2 : y ≠ 0) (t : Touch w w' (fun _ => False)) => wrapIs_nil (self := self) (dd := dd) h1 h2 t)
    have HOK := Lib.hid (fun h1 => outH_ok (hdr xs) h1 self dd s1 s2)
    generalize (xs.take (hdr xs).len).drop (4 * (hdr xs).ihl) = Y at *
    generalize hdr xs = h at *
    generalize whyW xs mtu = yw at *
    generalize tellW xs self dd mtu = ZZ at *
    obtain ⟨l1, l2, l3, l4, l5, l6, l7, l8⟩ := hlt
    have HK4 := Lib.hid k4
    clear hr k1 k4 hF
    by_cases ht : h.ttl ≤ 1
    · have ht' : (h.ttl : Int) ≤ 1 := by omega
      rw [if_pos ht] at hW
      have HW := Lib.hid hW
      clear hW
      go_enter Try.func30, Try.ntmps30
      go_wp2_with fail
      (with_reducible refine H.out.mono ?_)
      rintro e w2 ⟨a2, c2, rfl, hf2⟩
      simp only [hv]
      go_wp2_with fail
      go_ret2
      exact HNIL.out _ 7 HW.out (by omega) (hf2.2.alloc _)
    · have ht' : ¬ (h.ttl : Int) ≤ 1 := by omega
      rw [if_neg ht] at hW
      obtain ⟨M, hM⟩ : ∃ M, (if (2000 : Int) < mtu then (2000 : Int) else mtu) = M := ⟨_, rfl⟩
      have hM2 : M < (h.len : Int) + 20 ↔ (mtu < (h.len : Int) + 20 ∨ 2000 < h.len + 20) := by rw [← hM]; split <;> omega
      by_cases hm : M < (h.len : Int) + 20
      · rw [if_pos (hM2.1 hm)] at hW
        have HW := Lib.hid hW
        clear hW hM2
        go_enter Try.func30, Try.ntmps30
        go_wp2_with fail
        (with_reducible refine H.out.mono ?_)
        rintro e w2 ⟨a2, c2, rfl, hf2⟩
        simp only [hv]
        go_wp2_with fail
        go_ret2
        exact HNIL.out _ 11 HW.out (by omega) (hf2.2.alloc _)
      · rw [if_neg (fun h => hm (hM2.2 h))] at hW
        have HW := Lib.hid hW
        have HF := Lib.hid (HF.out hW)
        have hm20 : h.len + 20 ≤ 2000 := by
          have := mt hM2.2 hm
          omega
        clear hW hM2 HNIL
        have HB := Lib.hid (fun W => build_any (outH h self dd) (HOK.out ⟨l2, l3, l4, l5⟩) W)
        have HBL := Lib.hid (builtF_length (outH h self dd))
        generalize builtF (outH h self dd) = F at *
        have han := andNot1 h.flags l5
        obtain ⟨fl, hfl⟩ : ∃ fl, h.flags - h.flags % 2 = fl := ⟨_, rfl⟩
        rw [hfl] at han
        simp only [acs, outH, hfl] at HB
        have HOLD := Lib.hid (fun (A : Option Addr) (C : Nat) (W : World) (hr : RowB W A h.len C (xs.take h.len)) => older_any A h.len C (xs.take h.len) h W hr k2 (by omega) ⟨by omega, l6⟩ l7 l8)
        have HOL := Lib.hid ((olderF_length (xs.take h.len) h).trans HK4.out)
        generalize olderF (xs.take h.len) h = O at *
        have hcap := HR.out.2.1
        obtain ⟨A, C, hsl, hP⟩ := slice_h a len cap (h.len : Int) h.len rfl (by omega)
        have HP : RowKit.Hid (∀ W, RowB W a len cap xs → RowB W A h.len C (xs.take h.len)) := Lib.hid (fun W hw => by
          have := hP.row W xs hw (by omega)
          simpa using this)
        clear hfl hP HOK
        simp only [hcs] at HOLD
        go_enter Try.func30, Try.ntmps30
        go_wp2_with fail
        (with_reducible refine H.out.mono ?_)
        rintro e w2 ⟨a2, c2, rfl, hf2⟩
        obtain ⟨W3, hW3⟩ : ∃ W, w2.alloc (.cells (hcs h) 24) = W := ⟨_, rfl⟩
        have t3 : Touch w W3 (fun _ => False) := hW3 ▸ hf2.2.alloc _
        have HH : RowKit.Hid (W3.heap[w2.heap.size]? = some (.cells (hcs h) 24 (0, 0))) := Lib.hid (hW3 ▸ heap_alloc_new w2 _)
        have HT := Lib.hid t3
        have HSW := Lib.hid t3.size
        obtain ⟨g0, g1, g2, g3, g4, g5, g6, g7, g8, g9, g10⟩ := hcells_of HH.out
        clear t3 hf2 H
        simp only [hv, hcs] at hW3 ⊢
        go_upto_region 9 with (go_at_call 17; (with_reducible refine (HB.out _).mono ?_); rintro e w48 ⟨a48, c48, rfl, hf48⟩; have t48 := hf48.2; have HT := Lib.hid (HT.out.trans t48 (fun _ _ h => h)); have HO := Lib.hid hf48.1; have HH := Lib.hid (t48.keeps HH.out (fun h => h)); have HS48 := Lib.hid t48.size; obtain ⟨g0, g1, g2, g3, g4, g5, g6, g7, g8, g9, g10⟩ := hcells_of HH.out; clear hf48 t48)
        have t0 := (Touch.refl w48 (fun _ => False)).drew
        have HT := Lib.hid (HT.out.trans t0 (fun _ _ h => h))
        have HH := Lib.hid (t0.keeps HH.out (fun h => h))
        have HO := Lib.hid (HO.out.drew ⟨1, rfl⟩)
        clear t0 hW3
        go_wp2_with fail
        go_region_law (first
          | (have _u := HR55; refine step_appendB rfl _ _ 25 rfl 5 Try.underlying25 infoB W3.heap.size (.slice a48 20 c48) _ rfl HO.out _ _ _ O rfl HR55.out (20 + h.len) (F ++ O) rfl (by rw [List.length_append, HBL.out, HOL.out]) (by omega) HS55.out ?_; intro a56 d56 w56 hown hrow hg hpl; have HT := Lib.hid (HT.out.grown hg (fun x hx hlt => by have h1 := (HO.out.own.lt x hx).1; have h2 := HSW.out; omega)); have HR56 := Lib.hid hrow; clear hown hrow hg hpl)
          | (go_simp; go_at_call 51; (with_reducible refine (HOLD.out _ _ _ (HP.out _ (HR.out.touch HT.out (fun _ _ => .inr (fun h => h))))).mono ?_); rintro e w55 ⟨a55, d55, rfl, hf55⟩; have hq := ref_row (n := 0) hf55 HOL.out; have t55 := hf55.2; have HO := Lib.hid (HO.out.touch t55 (fun _ _ h => h)); have HT := Lib.hid (HT.out.trans t55 (fun _ _ h => h)); have HH := Lib.hid (t55.keeps HH.out (fun h => h)); have HR55 := Lib.hid hq.1; have HS55 : RowKit.Hid (W3.heap.size ≤ w55.heap.size) := Lib.hid (Nat.le_trans HS48.out t55.size); obtain ⟨g0, g1, g2, g3, g4, g5, g6, g7, g8, g9, g10⟩ := hcells_of HH.out; clear hf55 t55 hq))
        all_goals (go_wp2_with fail; go_ret2; rw [HF.out, HW.out]; exact ⟨_, _, _, rfl, HR56.out, HT.out⟩)
end Go.Proofs.Ythjdebcjfpokoaa
