import Derived.Test.YtpjdcgjoepjmcaaGreatKOZ
import Derived.Test.YtpjdcgjoepjmcaaGreatKLZ
import Derived.Deep.DeepCutAuto
set_option linter.unusedVariables false
set_option linter.unusedSimpArgs false
section
namespace Go.Proofs.YtpjdcgjoepjmcaaGreat
open Go.RowKit
def bk2 : BkD := ⟨2, 2, 1⟩
end Go.Proofs.YtpjdcgjoepjmcaaGreat
end
section
namespace Go.Proofs.YtpjdcgjoepjmcaaGreat
open Go.RowKit
structure HomeF (M : List FlD) (k : TupD) (hm : Int) : Prop where
 has : hasF M k = true
 get : getF M k = ⟨k, hm, 1, 0⟩
theorem findF_id {bs : List BkD} {id : Int} {b : BkD} (h : findF bs id = some b) : b.id = id ∧ b ∈ bs := by
 unfold findF at h
 exact ⟨by simpa using List.find?_some h, List.mem_of_find?_eq_some h⟩
def bksH : List BkD := [⟨1, 1, 1⟩, ⟨2, 2, 2⟩, ⟨3, 3, 1⟩]
theorem bkV_inj {c b : BkD} (h : bkV' c = bkV' b) : c = b := by
 unfold bkV' at h
 injection h with h
 have h5 : [Value.int .i64 c.id, .int .u32 c.addr, .int .i64 c.weight] = [Value.int .i64 b.id, .int .u32 b.addr, .int .i64 b.weight] := congrArg Array.toList h
 simp only [List.cons.injEq, Value.int.injEq, true_and, and_true] at h5
 cases c; cases b
 simp only at h5
 obtain ⟨rfl, rfl, rfl⟩ := h5
 rfl
end Go.Proofs.YtpjdcgjoepjmcaaGreat
end
section
namespace Go.Proofs.YtpjdcgjoepjmcaaGreat
open Go.RowKit
def goneV23 (g : Nat) : Value := .func (.func 43) #[] #[.pointer (some ⟨g, 0, none⟩)]
set_option maxRecDepth 20000 in
theorem gone23_any (a : Option Addr) (len cap : Nat) (w : World) :
 Calls Tryz.prog 15 #[.slice a len cap] w fun e w' => e = .returned (goneV23 w.heap.size) ∧ w' = w.alloc (.cells #[.slice a len cap] 40) := by
 go_enter Tryz.func15, Tryz.ntmps15
 go_wp2_with fail
 go_ret
 exact ⟨rfl, rfl⟩
set_option maxRecDepth 20000 in
set_option maxHeartbeats 1000000 in
theorem gone123_any (g : Nat) (a : Option Addr) (len cap : Nat) (xs : List Int) (id : Int) (w : World) (hg : w.cell? ⟨g, 0, none⟩ = some (.slice a len cap)) (hr : RowI w a len cap xs) :
 Calls Tryz.prog 43 #[.int .i64 id, .pointer (some ⟨g, 0, none⟩)] w fun e w' => e = .returned (.bool (outB xs id)) ∧ w = w' := by
 have hl := hr.1
 have hcap := hr.2.2.1
 have hcap1 := hr.2.1
 have HR := Lib.hid hr
 have HL := Lib.hid hl
 clear hr hl
 go_enter Tryz.func43, Tryz.ntmps43
 go_wp2_with fail
 go_loopw [8] (fun i wr => ∃ k : Nat, k ≤ len ∧ i = .int .i64 k ∧ wr = w ∧ outB (xs.take k) id = false) (fun i _ => len - (intOf i).toNat)
 case atStart => exact ⟨0, Nat.zero_le _, rfl, rfl, outB_nil _⟩
 case round =>
  obtain ⟨k, hk, rfl, rfl, hf⟩ := hrel
  have HF := Lib.hid hf
  clear hf
  by_cases hlt : k < len
  case neg =>
   obtain rfl : len = k := by omega
   have hlt' : ¬ (len : Int) < len := by omega
   have HE : RowKit.Hid (outB xs id = false) := Lib.hid (by have := HF.out; rwa [← HL.out, List.take_length] at this)
   go_wp2
   go_ret
   exact ⟨by rw [HE.out]; rfl, rfl⟩
  case pos =>
  obtain ⟨b, off, rfl, hc⟩ := HR.out.some (by omega)
  have hk1 : k < xs.length := by rw [HL.out]; exact hlt
  have c0 := hc k hk1
  have HS : RowKit.Hid (xs.take (k + 1) = xs.take k ++ [xs[k]]) := Lib.hid (List.take_succ_eq_append_getElem hk1)
  have HM : RowKit.Hid (xs[k] ∈ xs) := Lib.hid (List.getElem_mem hk1)
  generalize xs[k] = x at *
  have hlI : (k : Int) < len := by omega
  clear hc
  by_cases hx : x = id
  ·subst hx
   have HE : RowKit.Hid (outB xs x = true) := Lib.hid (outB_mem HM.out)
   go_wp2
   go_ret
   exact ⟨by rw [HE.out]; rfl, rfl⟩
  ·have hb : (x == id) = false := beq_eq_false_iff_ne.2 hx
   go_wp2
   exact ⟨⟨k + 1, hlt, by go_num, trivial, by rw [HS.out, outB_snoc, HF.out, hb]; rfl⟩, by simp [intOf]; omega⟩
theorem has_gone23 (g : Nat) (a : Option Addr) (len cap : Nat) (xs : List Int) (id : Int) (w : World) (hg : w.cell? ⟨g, 0, none⟩ = some (.slice a len cap)) (hr : RowI w a len cap xs) :
 Calls Tryz.prog 41 #[goneV23 g, .int .i64 id] w fun e w' => e = .returned (.bool (outB xs id)) ∧ w = w' := by
 have HG := Lib.hid (gone123_any g a len cap xs id w hg hr)
 have hnn : ∀ W : World, (binOp BinOp.neq 105 (.func (.func 43) #[] #[.pointer (some ⟨g, 0, none⟩)]) Value.nilFunc).run Tryz.prog W = .ok (.bool true) W := fun W => by kernel_rfl
 unfold goneV23
 clear hg hr
 generalize outB xs id = x at *
 go_enter Tryz.func41, Tryz.ntmps41
 go_wp2_with (go_at_call 43; (with_reducible refine HG.out.mono ?_); rintro e w9 ⟨rfl, rfl⟩)
 go_ret
 exact ⟨rfl, rfl⟩
theorem says_gone23 (g : Nat) (a : Option Addr) (len cap : Nat) (xs : List Int) (id : Int) (w : World) (hg : w.cell? ⟨g, 0, none⟩ = some (.slice a len cap)) (hr : RowI w a len cap xs) :
 Calls Tryz.prog 75 #[.func (.func 41) #[goneV23 g] #[], .int .i64 id] w fun e w' => e = .returned (.bool (outB xs id)) ∧ Touch w w' (fun _ => False) := by
 have t1 := (Touch.refl w (fun _ => False)).alloc (.cells #[.bool false] 4)
 have HG := Lib.hid (has_gone23 g a len cap xs id (w.alloc (.cells #[.bool false] 4)) ((t1.cell (block_lt_of_cell hg) (fun h => h)).trans hg) (hr.still t1))
 have hnf : ∀ W : World, (binOp BinOp.neq 45 (.func (.func 41) #[goneV23 g] #[]) Value.nilFunc).run Tryz.prog W = .ok (.bool true) W := fun W => by kernel_rfl
 clear hg hr
 generalize outB xs id = x at *
 go_enter_defers Tryz.func75, Tryz.ntmps75
 go_wp2_with (go_at_call 41; (with_reducible refine HG.out.mono ?_); rintro e w9 ⟨rfl, rfl⟩)
 refine leaves_cons (f := 103) (args := #[.pointer (some ⟨w.heap.size, 0, none⟩)]) (by simp) (by simp [go_sem]) ?_
 refine (catch_idle ⟨w.heap.size, 0, none⟩ _).mono ?_
 rintro e u' w'' ⟨rfl, rfl, rfl⟩
 simp [Leaves, settle, results, Tryz.results75, go_sem]
 exact (Touch.refl w _).alloc _
set_option maxRecDepth 20000 in
set_option maxHeartbeats 4000000 in
theorem set_bad (n : Nat) (C : Nat) (ab : Option Addr) (lb cb : Nat) (at_ : Option Addr) (lt ct m : Nat) (a : Option Addr) (len cap : Nat) (bs : List BkD) (fv : Value) (w : World) (hp : Prm n)
 (hc : w.heap[C]? = some (.cells (chC n ab lb cb at_ lt ct m) 100 (0, 0))) (hr : RowK w a len cap bs) (hg : gmay bs = false) :
 Calls Tryz.prog 14 #[.pointer (some ⟨C, 0, none⟩), .slice a len cap, fv] w fun e w' => e = .returned (.int .i64 1) ∧ Touch w w' (fun _ => False) := by
 have h3 := hp.lo
 have h251 := hp.hi
 have HM := Lib.hid (fun W => mayS_any n W h3 h251)
 rw [prm_may hp] at HM
 have HGM := Lib.hid (gmay_any a len cap bs w hr)
 rw [hg] at HGM
 have c0 : w.cell? ⟨C, 0, none⟩ = some (.int .i64 (n : Nat)) := cell_of_cells hc 0
 clear hr hg hp hc
 go_enter Tryz.func14, Tryz.ntmps14
 go_wp2_with (first
  | (go_at_call 36; (with_reducible refine (HM.out _).mono ?_); rintro e w9 ⟨rfl, rfl⟩)
  | (go_at_call 39; (with_reducible refine HGM.out.mono ?_); rintro e w9 ⟨rfl, t9⟩))
 go_ret
 exact ⟨rfl, t9⟩
end Go.Proofs.YtpjdcgjoepjmcaaGreat
end
