/- Tuples: what Read takes and tells. -/
import Derived.Test.YtgmimdnebgncoaaTupNumZ
import Derived.Test.YtgmimdnebgncoaaGAZ
import Derived.Deep.RegionHeld3
set_option linter.unusedVariables false
set_option linter.unusedSimpArgs false
namespace Go.Proofs.Ytgmimdnebgncoaa
open Go.RowKit

theorem infoTup : (Try.prog.info? 24).map (·.size) = some 5 := by kernel_rfl
def TReadIs (w : World) (G : Nat) (D : Nat → Prop) (xs : List Nat) (err : Int) (e : Ending) (w' : World) : Prop :=
  e = .returned (.tuple #[.agg (tcs (rtF xs)), .bool (rtB xs)]) ∧ RdD w' G D (nxtX 13 xs) (nxtE 13 xs err) ∧ Touch w w' (fun k => k = G)
set_option maxRecDepth 20000 in
set_option maxHeartbeats 8000000 in
theorem tRead_any (G : Nat) (D : Nat → Prop) (xs : List Nat) (err : Int) (w : World) (h : RdD w G D xs err) :
    Calls Try.prog 30 #[.pointer (some ⟨G, 0, none⟩)] w (TReadIs w G D xs err) := by
  obtain ⟨W1, hW1⟩ : ∃ W, w.alloc (.cells #[.int .u32 0, .int .u32 0, .int .i64 0, .int .i64 0, .int .i64 0] 24) = W := ⟨_, rfl⟩
  have t1 : Touch w W1 (fun _ => False) := hW1 ▸ (Touch.refl _ _).alloc _
  have HSZ : RowKit.Hid (w.heap.size < W1.heap.size) := Lib.hid (by rw [← hW1]; simp)
  have HZ : RowKit.Hid (W1.heap[w.heap.size]? = some (.cells (tcs noT) 24 (0, 0))) := Lib.hid (hW1 ▸ heap_alloc_new w _)
  have HR := Lib.hid (h.above.still t1)
  have HT : RowKit.Hid (Touch w W1 (fun k => k = G)) := Lib.hid (t1.mono (fun _ _ h => h.elim))
  have HLT : RowKit.Hid (G < w.heap.size) := Lib.hid h.lt
  have HIT := Lib.hid infoTup
  have HM : RowKit.Hid (∀ W, Calls Try.prog 36 #[.agg (tcs (tupV xs))] W fun e w' => e = .returned (.bool (mayTB (tupV xs))) ∧ Touch W w' (fun _ => False)) := Lib.hid (fun W => mayT_any _ W)
  have HRB : RowKit.Hid (rtB xs = (decide (13 ≤ xs.length) && mayTB (tupV xs))) := Lib.hid rfl
  have HRF : RowKit.Hid (rtF xs = if rtB xs = true then tupV xs else noT) := Lib.hid rfl
  have HTV : RowKit.Hid (tcs (tupV xs) = #[.int .u32 (valN 4 xs : Nat), .int .u32 (valN 4 (nxtX 4 xs) : Nat), .int .i64 (valN 1 (nxtX 8 xs) : Nat), .int .i64 (valN 2 (nxtX 9 xs) : Nat), .int .i64 (valN 2 (nxtX 11 xs) : Nat)]) := Lib.hid rfl
  generalize mayTB (tupV xs) = M at *
  generalize tupV xs = tv at *
  clear h t1
  go_enter Try.func30, Try.ntmps30
  go_wp2_with (first
    | (go_at_call 43; (with_reducible refine (d_rLeft G _ xs err _ HR.out).mono ?_); rintro e w2 ⟨rfl, h2⟩; obtain rfl := h2.symm)
    | (go_at_call 44; ((refine (num32_any G _ xs err W1.heap.size _ _ (HR.out.still ((Touch.refl _ _).alloc _)) (heap_alloc_new W1 _) (by have := HLT.out; have := HSZ.out; omega)).mono ?_); rintro e w3 ⟨g3, c3, rfl, hg3, hl3, hc3, hr3, ht3⟩; have t3 := ((Touch.refl W1 (fun k => k = G)).alloc _).trans ht3 (fun _ _ h => h); have HZ := Lib.hid (t3.keeps HZ.out (fun h => by have := HLT.out; omega)); have HR3 := Lib.hid hr3; have HT := Lib.hid (HT.out.trans t3 (fun _ _ h => h)); have HC3 := Lib.hid (And.intro (hc3 0 _ rfl) (hc3 1 _ rfl)); have HL3 := Lib.hid hl3; have HG3 : RowKit.Hid (g3 ≠ G) := Lib.hid (by have := HLT.out; have := HSZ.out; simp at hg3; omega); clear hg3 hl3 hc3 hr3 ht3 t3))
    | (go_at_call 46; (refine (num64_any G _ _ _ w3.heap.size _ _ (HR3.out.still ((Touch.refl _ _).alloc _)) (heap_alloc_new w3 _) (by have := HT.out.size; have := HLT.out; omega)).mono ?_); rintro e w5 ⟨g5, c5, rfl, hg5, hl5, hc5, hr5, ht5⟩; have t5 := ((Touch.refl w3 (fun k => k = G)).alloc _).trans ht5 (fun _ _ h => h); have HZ := Lib.hid (t5.keeps HZ.out (fun h => by have := HLT.out; omega)); have HR5 := Lib.hid hr5; have HT := Lib.hid (HT.out.trans t5 (fun _ _ h => h)); have q0 := (t5.cell (p := ⟨g3, 0, none⟩) HL3.out (fun h => HG3.out h)).trans HC3.out.1; have q1 := (t5.cell (p := ⟨g3, 1, none⟩) HL3.out (fun h => HG3.out h)).trans HC3.out.2; have q2 := hc5 0 _ rfl; have q3 := hc5 1 _ rfl; have q4 := hc5 2 _ rfl; simp only [nxtX_nxtX, nxtE_nxtE, Nat.reduceAdd] at q2 q3 q4 HR5; clear hg5 hl5 hc5 hr5 ht5 t5))
  try simp only [List.length_cons, List.length_nil, Nat.zero_add, Nat.reduceAdd]
  go_region_held3 (fun w' => w'.cell? ⟨g3, 0, none⟩ = some (.int .u32 (valN 4 xs : Nat)) ∧ w'.cell? ⟨g3, 1, none⟩ = some (.int .u32 (valN 4 (nxtX 4 xs) : Nat)) ∧ w'.cell? ⟨g5, 0, none⟩ = some (.int .i64 (valN 1 (nxtX 8 xs) : Nat)) ∧ w'.cell? ⟨g5, 1, none⟩ = some (.int .i64 (valN 2 (nxtX 9 xs) : Nat)) ∧ w'.cell? ⟨g5, 2, none⟩ = some (.int .i64 (valN 2 (nxtX 11 xs) : Nat)))
    (go_keep) (fail)
  rename_i hHeld
  clear hHeld
  obtain ⟨W6, hW6⟩ : ∃ W, (w5.alloc (.cells #[.int .u32 (valN 4 xs : Nat), .int .u32 (valN 4 (nxtX 4 xs) : Nat), .int .i64 (valN 1 (nxtX 8 xs) : Nat), .int .i64 (valN 2 (nxtX 9 xs) : Nat), .int .i64 (valN 2 (nxtX 11 xs) : Nat)] 24)).drew = W := ⟨_, rfl⟩
  have t6 : Touch w5 W6 (fun _ => False) := hW6 ▸ ((Touch.refl _ _).alloc _).drew
  have HB6 : RowKit.Hid (W6.heap[w5.heap.size]? = some (.cells (tcs tv) 24 (0, 0))) := Lib.hid (by rw [HTV.out, ← hW6]; exact heap_alloc_new w5 _)
  have HZ6 := Lib.hid (t6.keeps HZ.out (fun h => h))
  have HT6 := Lib.hid (HT.out.trans t6 (fun _ _ h => h.elim))
  have HR6 := Lib.hid (HR5.out.still t6)
  rw [hW6]
  clear t6 q0 q1 q2 q3 q4 HZ HT HR5 HTV hW6
  have hbad : rtB xs = false → RowKit.Hid (tcs (rtF xs) = tcs noT) := fun h => Lib.hid (by rw [HRF.out, h]; rfl)
  have hgood : rtB xs = true → RowKit.Hid (tcs (rtF xs) = tcs tv) := fun h => Lib.hid (by rw [HRF.out, h]; rfl)
  have HXB := Lib.hid hbad
  have HXG := Lib.hid hgood
  clear hbad hgood
  by_cases hw : 13 ≤ xs.length
  · have i1 : (13 : Int) ≤ xs.length := by omega
    have hrb : rtB xs = M := by rw [HRB.out, decide_eq_true hw, Bool.true_and]
    cases M with
    | true =>
      have HQ := Lib.hid ((HXG.out hrb).out)
      have HRB2 := Lib.hid hrb
      clear HRB hrb HRF hw HXB HXG
      go_wp2_with (first
        | (refine load_rowG rfl 24 (.tmp 7) rfl w5.heap.size rfl _ _ _ _ HB6.out Try.underlying24 rfl HIT.out ?_)
        | (go_at_call 36; (with_reducible refine (HM.out _).mono ?_); rintro e w7 ⟨rfl, t7⟩; have HB6 := Lib.hid (t7.keeps HB6.out (fun h => h)); have HZ6 := Lib.hid (t7.keeps HZ6.out (fun h => h)); have HT6 := Lib.hid (HT6.out.trans t7 (fun _ _ h => h.elim)); have HR6 := Lib.hid (HR6.out.still t7); clear t7)
        | (refine store_row rfl 24 (.tmp 2) (.tmp 41) rfl w.heap.size _ rfl rfl _ _ HZ6.out HIT.out rfl rfl ?_))
      refine ret_row1 rfl rfl w.heap.size 24 (tcs tv) (0, 0) _ rfl (setRow_heap _ _ _ _ _ _ HZ6.out) Try.underlying24 rfl infoTup _ rfl ?_
      unfold TReadIs
      rw [HQ.out, HRB2.out]
      exact ⟨rfl, (HR6.out.touch ((Touch.refl _ (fun k => w.heap.size ≤ k)).setRow w.heap.size _ (fun _ => Nat.le_refl _)) (fun _ _ h => .inr h)).mono (fun _ h => .inl h), HT6.out.setRow _ _ (fun h => absurd h (Nat.lt_irrefl _))⟩
    | false =>
      have HQ := Lib.hid ((HXB.out hrb).out)
      have HRB2 := Lib.hid hrb
      clear HRB hrb HRF hw HXB HXG
      go_wp2_with (first
        | (refine load_rowG rfl 24 (.tmp 7) rfl w5.heap.size rfl _ _ _ _ HB6.out Try.underlying24 rfl HIT.out ?_)
        | (go_at_call 36; (with_reducible refine (HM.out _).mono ?_); rintro e w7 ⟨rfl, t7⟩; have HB6 := Lib.hid (t7.keeps HB6.out (fun h => h)); have HZ6 := Lib.hid (t7.keeps HZ6.out (fun h => h)); have HT6 := Lib.hid (HT6.out.trans t7 (fun _ _ h => h.elim)); have HR6 := Lib.hid (HR6.out.still t7); clear t7)
        | (refine store_row rfl 24 (.tmp 2) (.tmp 40) rfl w.heap.size _ rfl rfl _ _ HZ6.out HIT.out rfl rfl ?_))
      refine ret_row1 rfl rfl w.heap.size 24 (tcs noT) (0, 0) _ rfl (setRow_heap _ _ _ _ _ _ HZ6.out) Try.underlying24 rfl infoTup _ rfl ?_
      unfold TReadIs
      rw [HQ.out, HRB2.out]
      exact ⟨rfl, (HR6.out.touch ((Touch.refl _ (fun k => w.heap.size ≤ k)).setRow w.heap.size _ (fun _ => Nat.le_refl _)) (fun _ _ h => .inr h)).mono (fun _ h => .inl h), HT6.out.setRow _ _ (fun h => absurd h (Nat.lt_irrefl _))⟩
  · have i1 : ¬ (13 : Int) ≤ xs.length := by omega
    have hrb : rtB xs = false := by rw [HRB.out, decide_eq_false hw, Bool.false_and]
    have HQ := Lib.hid ((HXB.out hrb).out)
    have HRB2 := Lib.hid hrb
    clear HRB hrb HRF hw HXB HXG
    go_wp2_with (first
      | (refine store_row rfl 24 (.tmp 2) (.tmp 40) rfl w.heap.size _ rfl rfl _ _ HZ6.out HIT.out rfl rfl ?_))
    refine ret_row1 rfl rfl w.heap.size 24 (tcs noT) (0, 0) _ rfl (setRow_heap _ _ _ _ _ _ HZ6.out) Try.underlying24 rfl infoTup _ rfl ?_
    unfold TReadIs
    rw [HQ.out, HRB2.out]
    exact ⟨rfl, (HR6.out.touch ((Touch.refl _ (fun k => w.heap.size ≤ k)).setRow w.heap.size _ (fun _ => Nat.le_refl _)) (fun _ _ h => .inr h)).mono (fun _ h => .inl h), HT6.out.setRow _ _ (fun h => absurd h (Nat.lt_irrefl _))⟩
end Go.Proofs.Ytgmimdnebgncoaa
