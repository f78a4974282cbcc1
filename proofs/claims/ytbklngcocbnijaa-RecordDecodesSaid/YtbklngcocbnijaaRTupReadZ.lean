/- Tuples: what the reference's ReadTuple takes and tells. -/
import Derived.Test.YtbklngcocbnijaaRecRfZ
import Derived.Test.YtbklngcocbnijaaTupReadZ
import Derived.Deep.DeepCutAuto
set_option linter.unusedVariables false
set_option linter.unusedSimpArgs false
namespace Go.Proofs.Ytbklngcocbnijaa
open Go.RowKit

def RTReadIs (w : World) (M : Nat) (D : Nat → Prop) (xs : List Nat) (e : Ending) (w' : World) : Prop :=
  e = .returned (.tuple #[.agg (tcs (rtF xs)), .bool (rtB xs)]) ∧ RfD w' M D (nxtX 13 xs) (nxtE 13 xs 0) ∧ Touch w w' (fun k => k = M)
theorem nxtE_iff (n : Nat) (xs : List Nat) : nxtE n xs 0 = if n ≤ xs.length then 0 else 2 := rfl
set_option maxRecDepth 20000 in
set_option maxHeartbeats 8000000 in
theorem rtRead_any (M : Nat) (D : Nat → Prop) (xs : List Nat) (w : World) (h : RfD w M D xs 0) :
    Calls Try.prog 62 #[.pointer (some ⟨M, 0, none⟩)] w (RTReadIs w M D xs) := by
  obtain ⟨W1, hW1⟩ : ∃ W, w.alloc (.cells #[.int .u32 0, .int .u32 0, .int .i64 0, .int .i64 0, .int .i64 0] 24) = W := ⟨_, rfl⟩
  have t1 : Touch w W1 (fun _ => False) := hW1 ▸ (Touch.refl _ _).alloc _
  have HSZ : RowKit.Hid (w.heap.size < W1.heap.size) := Lib.hid (by rw [← hW1]; simp)
  have HZ : RowKit.Hid (W1.heap[w.heap.size]? = some (.cells (tcs noT) 24 (0, 0))) := Lib.hid (hW1 ▸ heap_alloc_new w _)
  have HR := Lib.hid (h.above.still t1)
  have HT : RowKit.Hid (Touch w W1 (fun k => k = M)) := Lib.hid (t1.mono (fun _ _ h => h.elim))
  have HLT : RowKit.Hid (M < w.heap.size) := Lib.hid h.lt
  have HIT := Lib.hid infoTup
  have HM : RowKit.Hid (∀ W, Calls Try.prog 44 #[.agg (tcs (tupV xs))] W fun e w' => e = .returned (.bool (mayTB (tupV xs))) ∧ Touch W w' (fun _ => False)) := Lib.hid (fun W => rmayT_any _ W)
  have HRB : RowKit.Hid (rtB xs = (decide (13 ≤ xs.length) && mayTB (tupV xs))) := Lib.hid rfl
  have HRF : RowKit.Hid (rtF xs = if rtB xs = true then tupV xs else noT) := Lib.hid rfl
  have HTV : RowKit.Hid (tcs (tupV xs) = #[.int .u32 (valN 4 xs : Nat), .int .u32 (valN 4 (nxtX 4 xs) : Nat), .int .i64 (valN 1 (nxtX 8 xs) : Nat), .int .i64 (valN 2 (nxtX 9 xs) : Nat), .int .i64 (valN 2 (nxtX 11 xs) : Nat)]) := Lib.hid rfl
  generalize mayTB (tupV xs) = B at *
  generalize tupV xs = tv at *
  clear h t1
  go_enter Try.func62, Try.ntmps62
  go_upto_region 2 with (first
    | (go_at_call 64; (with_reducible refine (d_fU32 M _ _ _ _ HR.out).mono ?_); rintro e w6 ⟨rfl, h1, t2⟩; (try simp only [nxtX_nxtX, nxtE_nxtE, Nat.reduceAdd] at h1); have HZ := Lib.hid (t2.keeps HZ.out (fun h => by have := HLT.out; omega)); have HR := Lib.hid h1; have HT := Lib.hid (HT.out.trans t2 (fun _ _ h => h)); clear h1 t2)
    | (go_at_call 66; (with_reducible refine (d_fU8 M _ _ _ _ HR.out).mono ?_); rintro e w6 ⟨rfl, h1, t2⟩; (try simp only [nxtX_nxtX, nxtE_nxtE, Nat.reduceAdd] at h1); have HZ := Lib.hid (t2.keeps HZ.out (fun h => by have := HLT.out; omega)); have HR := Lib.hid h1; have HT := Lib.hid (HT.out.trans t2 (fun _ _ h => h)); clear h1 t2)
    | (go_at_call 63; (with_reducible refine (d_fU16 M _ _ _ _ HR.out).mono ?_); rintro e w6 ⟨rfl, h1, t2⟩; (try simp only [nxtX_nxtX, nxtE_nxtE, Nat.reduceAdd] at h1); have HZ := Lib.hid (t2.keeps HZ.out (fun h => by have := HLT.out; omega)); have HR := Lib.hid h1; have HT := Lib.hid (HT.out.trans t2 (fun _ _ h => h)); clear h1 t2))
  obtain ⟨W6, hW6⟩ : ∃ W, w6.alloc (.cells #[.int .u32 (valN 4 xs : Nat), .int .u32 (valN 4 (nxtX 4 xs) : Nat), .int .i64 (valN 1 (nxtX 8 xs) : Nat), .int .i64 (valN 2 (nxtX 9 xs) : Nat), .int .i64 (valN 2 (nxtX 11 xs) : Nat)] 24) = W := ⟨_, rfl⟩
  have t6 : Touch w6 W6 (fun _ => False) := hW6 ▸ (Touch.refl _ _).alloc _
  have HB6 : RowKit.Hid (W6.heap[w6.heap.size]? = some (.cells (tcs tv) 24 (0, 0))) := Lib.hid (by rw [HTV.out, ← hW6]; exact heap_alloc_new w6 _)
  have HZ6 := Lib.hid (t6.keeps HZ.out (fun h => h))
  have HT6 := Lib.hid (HT.out.trans t6 (fun _ _ h => h.elim))
  have HR6 := Lib.hid (HR.out.still t6)
  rw [hW6]
  have he6 := HR6.out.err
  rw [nxtE_iff] at he6
  clear t6 HZ HT HR HTV hW6
  have hbad : rtB xs = false → RowKit.Hid (tcs (rtF xs) = tcs noT) := fun h => Lib.hid (by rw [HRF.out, h]; rfl)
  have hgood : rtB xs = true → RowKit.Hid (tcs (rtF xs) = tcs tv) := fun h => Lib.hid (by rw [HRF.out, h]; rfl)
  have HXB := Lib.hid hbad
  have HXG := Lib.hid hgood
  clear hbad hgood
  by_cases hw : 13 ≤ xs.length
  · rw [if_pos hw] at he6
    have hrb : rtB xs = B := by rw [HRB.out, decide_eq_true hw, Bool.true_and]
    cases B with
    | true =>
      have HQ := Lib.hid ((HXG.out hrb).out)
      have HRB2 := Lib.hid hrb
      clear HRB hrb HRF hw HXB HXG
      go_wp2_with (first
        | (refine load_rowG rfl 24 (.tmp 4) rfl w6.heap.size rfl _ _ _ _ HB6.out Try.underlying24 rfl HIT.out ?_)
        | (go_at_call 44; (with_reducible refine (HM.out _).mono ?_); rintro e w7 ⟨rfl, t7⟩; have HB6 := Lib.hid (t7.keeps HB6.out (fun h => h)); have HZ6 := Lib.hid (t7.keeps HZ6.out (fun h => h)); have HT6 := Lib.hid (HT6.out.trans t7 (fun _ _ h => h.elim)); have HR6 := Lib.hid (HR6.out.still t7); clear t7)
        | (refine store_row rfl 24 (.tmp 2) (.tmp 27) rfl w.heap.size _ rfl rfl _ _ HZ6.out HIT.out rfl rfl ?_))
      refine ret_row1 rfl rfl w.heap.size 24 (tcs tv) (0, 0) _ rfl (setRow_heap _ _ _ _ _ _ HZ6.out) Try.underlying24 rfl infoTup _ rfl ?_
      unfold RTReadIs
      rw [HQ.out, HRB2.out]
      exact ⟨rfl, (HR6.out.touch ((Touch.refl _ (fun k => w.heap.size ≤ k)).setRow w.heap.size _ (fun _ => Nat.le_refl _)) (fun _ _ h => .inr h)).mono (fun _ h => .inl h), HT6.out.setRow _ _ (fun h => absurd h (Nat.lt_irrefl _))⟩
    | false =>
      have HQ := Lib.hid ((HXB.out hrb).out)
      have HRB2 := Lib.hid hrb
      clear HRB hrb HRF hw HXB HXG
      go_wp2_with (first
        | (refine load_rowG rfl 24 (.tmp 4) rfl w6.heap.size rfl _ _ _ _ HB6.out Try.underlying24 rfl HIT.out ?_)
        | (go_at_call 44; (with_reducible refine (HM.out _).mono ?_); rintro e w7 ⟨rfl, t7⟩; have HB6 := Lib.hid (t7.keeps HB6.out (fun h => h)); have HZ6 := Lib.hid (t7.keeps HZ6.out (fun h => h)); have HT6 := Lib.hid (HT6.out.trans t7 (fun _ _ h => h.elim)); have HR6 := Lib.hid (HR6.out.still t7); clear t7)
        | (refine store_row rfl 24 (.tmp 2) (.tmp 26) rfl w.heap.size _ rfl rfl _ _ HZ6.out HIT.out rfl rfl ?_))
      refine ret_row1 rfl rfl w.heap.size 24 (tcs noT) (0, 0) _ rfl (setRow_heap _ _ _ _ _ _ HZ6.out) Try.underlying24 rfl infoTup _ rfl ?_
      unfold RTReadIs
      rw [HQ.out, HRB2.out]
      exact ⟨rfl, (HR6.out.touch ((Touch.refl _ (fun k => w.heap.size ≤ k)).setRow w.heap.size _ (fun _ => Nat.le_refl _)) (fun _ _ h => .inr h)).mono (fun _ h => .inl h), HT6.out.setRow _ _ (fun h => absurd h (Nat.lt_irrefl _))⟩
  · rw [if_neg hw] at he6
    have hrb : rtB xs = false := by rw [HRB.out, decide_eq_false hw, Bool.false_and]
    have HQ := Lib.hid ((HXB.out hrb).out)
    have HRB2 := Lib.hid hrb
    clear HRB hrb HRF hw HXB HXG
    go_wp2_with (first
      | (refine store_row rfl 24 (.tmp 2) (.tmp 26) rfl w.heap.size _ rfl rfl _ _ HZ6.out HIT.out rfl rfl ?_))
    refine ret_row1 rfl rfl w.heap.size 24 (tcs noT) (0, 0) _ rfl (setRow_heap _ _ _ _ _ _ HZ6.out) Try.underlying24 rfl infoTup _ rfl ?_
    unfold RTReadIs
    rw [HQ.out, HRB2.out]
    exact ⟨rfl, (HR6.out.touch ((Touch.refl _ (fun k => w.heap.size ≤ k)).setRow w.heap.size _ (fun _ => Nat.le_refl _)) (fun _ _ h => .inr h)).mono (fun _ h => .inl h), HT6.out.setRow _ _ (fun h => absurd h (Nat.lt_irrefl _))⟩
end Go.Proofs.Ytbklngcocbnijaa
