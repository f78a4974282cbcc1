/- The reference's Weight of a set of backends. -/
import Derived.Test.YtgpchkobjgglhaaGreatDoorGnRsZ
import Derived.Test.YtgpchkobjgglhaaGreatDoorGCZ
import Derived.Deep.DeepCutAuto
set_option linter.unusedVariables false
set_option linter.unusedSimpArgs false
namespace Go.Proofs.YtgpchkobjgglhaaGreatDoor
open Go.RowKit

set_option maxRecDepth 20000 in
set_option maxHeartbeats 2000000 in
theorem rweight_any (a : Option Addr) (len cap : Nat) (bs : List BkD) (w : World) (hr : RowK w a len cap bs) (hlen : len ≤ 1000) :
    Calls Tryz.prog 19 #[.slice a len cap] w fun e w' => e = .returned (.int .i64 (weightF bs)) ∧ Touch w w' (fun _ => False) := by
  have hl := hr.len
  have hcap := hr.hmax
  have hcap1 := hr.hcap
  have HR := Lib.hid hr
  have HL := Lib.hid hl
  clear hr hl
  go_enter Tryz.func19, Tryz.ntmps19
  go_wp2_with fail
  go_loopw [3, 8] (fun s i wr => ∃ k : Nat, k ≤ len ∧ i = .int .i64 k ∧ s = .int .i64 (weightF (bs.take k)) ∧ Touch w wr (fun _ => False)) (fun _ i _ => len - (RowKit.intOf i).toNat)
  case atStart => exact ⟨0, Nat.zero_le _, rfl, rfl, Touch.refl _ _⟩
  case round =>
    obtain ⟨k, hk, rfl, rfl, ht⟩ := hrel
    have HT := Lib.hid ht
    clear ht
    by_cases hlt : k < len
    case neg =>
      obtain rfl : len = k := by omega
      have hlt' : ¬ (len : Int) < len := by omega
      have HE : RowKit.Hid (weightF (bs.take len) = weightF bs) := Lib.hid (by rw [← HL.out, List.take_length])
      go_wp2
      go_ret
      exact ⟨by rw [HE.out]; rfl, HT.out⟩
    case pos =>
    have hr := HR.out.still HT.out
    obtain ⟨b, off, rfl⟩ := hr.some (by omega)
    have hk1 : k < bs.length := by rw [HL.out]; exact hlt
    obtain ⟨c0, c1, c2⟩ := hr.cells k hk1
    have HS : RowKit.Hid (weightF (bs.take (k + 1)) = weightF (bs.take k) + wOf bs[k]) := Lib.hid (by rw [List.take_succ_eq_append_getElem hk1, weightF_snoc])
    have hwb := weightF_le (bs.take k)
    rw [List.length_take] at hwb
    generalize bs[k] = f at *
    obtain ⟨x, hx⟩ : ∃ x, weightF (bs.take k) = x := ⟨_, rfl⟩
    rw [hx] at HS hwb ⊢
    have hx0 : 0 ≤ x := hwb.1
    have hx1 : x ≤ 10000 := by omega
    clear hx hwb
    obtain ⟨W2, hW2⟩ : ∃ W, wr.alloc (.cells #[.int .i64 f.id, .int .u32 f.addr, .int .i64 f.weight] 27) = W := ⟨_, rfl⟩
    obtain ⟨KB, hKB⟩ : ∃ b, wr.heap.size = b := ⟨_, rfl⟩
    have t1 : Touch wr W2 (fun _ => False) := hW2 ▸ (Touch.refl wr _).alloc _
    have g2 : W2.heap[KB]? = some (.cells #[.int .i64 f.id, .int .u32 f.addr, .int .i64 f.weight] 27 (0, 0)) := hKB ▸ hW2 ▸ heap_alloc_new ..
    have HT2 := Lib.hid (HT.out.trans t1 (fun _ _ h => h))
    have HG2 := Lib.hid g2
    have HW2 := Lib.hid (And.intro hW2 hKB)
    have hlI : (k : Int) < len := by omega
    clear hr t1 g2 hW2 hKB
    go_upto_region 5 with (fail)
    rw [HW2.out.1, HW2.out.2]
    have x2 : W2.cell? ⟨KB, 2, none⟩ = some (.int .i64 f.weight) := cell_of_cells HG2.out 2
    clear c0 c1 c2
    by_cases h1 : (1 : Int) ≤ f.weight
    case neg =>
      have HS' : RowKit.Hid (weightF (bs.take (k + 1)) = x) := Lib.hid (by rw [HS.out]; unfold wOf; rw [if_neg (by omega)]; omega)
      clear HS
      go_wp2_with fail
      exact ⟨⟨k + 1, hlt, by go_num, by rw [HS'.out], HT2.out⟩, by simp [RowKit.intOf]; omega⟩
    case pos =>
    by_cases h2 : f.weight ≤ (10 : Int)
    case neg =>
      have HS' : RowKit.Hid (weightF (bs.take (k + 1)) = x) := Lib.hid (by rw [HS.out]; unfold wOf; rw [if_neg (by omega)]; omega)
      clear HS
      go_wp2_with fail
      exact ⟨⟨k + 1, hlt, by go_num, by rw [HS'.out], HT2.out⟩, by simp [RowKit.intOf]; omega⟩
    case pos =>
      have HS' : RowKit.Hid (weightF (bs.take (k + 1)) = x + f.weight) := Lib.hid (by rw [HS.out]; unfold wOf; rw [if_pos ⟨h1, h2⟩])
      clear HS
      go_wp2_with fail
      exact ⟨⟨k + 1, hlt, by go_num, by rw [HS'.out], HT2.out⟩, by simp [RowKit.intOf]; omega⟩
end Go.Proofs.YtgpchkobjgglhaaGreatDoor
