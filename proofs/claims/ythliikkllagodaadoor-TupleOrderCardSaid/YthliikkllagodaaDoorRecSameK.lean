/- Rows of backends: are two the same? -/
import Derived.Test.YthliikkllagodaaDoorRecClone
import Derived.BigQuiet
import Derived.StillTailTactics
set_option linter.unusedVariables false
set_option linter.unusedSimpArgs false
namespace Go.Proofs.YthliikkllagodaaDoor
open Go.RowKit

def BkD.val (b : BkD) : Int × Int × Int := (b.id, b.addr, b.weight)
def sameK (bs cs : List BkD) : Bool := decide (bs.map BkD.val = cs.map BkD.val)
theorem sameK_len {bs cs : List BkD} (h : bs.length ≠ cs.length) : sameK bs cs = false := by
  unfold sameK; exact decide_eq_false (fun e => h (by have := congrArg List.length e; simpa using this))
theorem sameK_at {bs cs : List BkD} (i : Nat) (h1 : i < bs.length) (h2 : i < cs.length) (h : bs[i].val ≠ cs[i].val) : sameK bs cs = false := by
  unfold sameK
  refine decide_eq_false (fun e => h ?_)
  have := congrArg (fun l : List (Int × Int × Int) => l[i]?) e
  simpa [h1, h2] using this
theorem sameK_all {bs cs : List BkD} (hl : bs.length = cs.length) (h : (bs.map BkD.val).take bs.length = (cs.map BkD.val).take bs.length) : sameK bs cs = true := by
  unfold sameK; apply decide_eq_true
  rw [List.take_of_length_le (by simp), List.take_of_length_le (by simp; omega)] at h; exact h
theorem RowK.cells {w : World} {b off len cap : Nat} {bs : List BkD} (h : RowK w (some ⟨b, off, none⟩) len cap bs) (i : Nat) (hi : i < bs.length) :
    w.cell? ⟨b, off + i * 3, none⟩ = some (.int .i64 bs[i].id) ∧ w.cell? ⟨b, off + i * 3 + 1, none⟩ = some (.int .u32 bs[i].addr) ∧ w.cell? ⟨b, off + i * 3 + 2, none⟩ = some (.int .i64 bs[i].weight) := by
  have hi' : i < (bs.map BkD.cells).length := by simpa using hi
  have e : (bs.map BkD.cells)[i] = bs[i].cells := by simp
  exact ⟨h.cell i hi' 0 _ (by rw [e]; rfl), h.cell i hi' 1 _ (by rw [e]; rfl), h.cell i hi' 2 _ (by rw [e]; rfl)⟩
theorem RowK.some {w : World} {a : Option Addr} {len cap : Nat} {bs : List BkD} (h : RowK w a len cap bs) (h0 : 0 < len) : ∃ b off, a = .some ⟨b, off, Option.none⟩ := RowS.some h h0

set_option maxRecDepth 20000 in
set_option maxHeartbeats 8000000 in
theorem rsameK_any (a : Option Addr) (len cap : Nat) (bs : List BkD) (a2 : Option Addr) (len2 cap2 : Nat) (cs : List BkD) (w : World) (hr : RowK w a len cap bs) (hr2 : RowK w a2 len2 cap2 cs) :
    Calls Tryd.prog 51 #[.slice a len cap, .slice a2 len2 cap2] w fun e w' => e = .returned (.bool (sameK bs cs)) ∧ ∃ n, w' = w.drewN n := by
  have hl1 := hr.len
  have hl2 := hr2.len
  by_cases hn : len = len2
  case neg =>
    have hb : ((len : Int) != (len2 : Int)) = true := bne_iff_ne.2 (by omega)
    rw [sameK_len (by omega)]
    clear hr hr2 hl1 hl2 hn
    go_enter Tryd.func51, Tryd.ntmps51
    go_wp2
    go_ret
    exact ⟨rfl, 0, rfl⟩
  case pos =>
  obtain rfl := hn
  have hb : ((len : Int) != (len : Int)) = false := bne_eq_false_iff_eq.2 rfl
  have hcap := hr.hmax
  have hcap1 := hr.hcap
  have HR := Lib.hid hr
  have HR2 := Lib.hid hr2
  have HL1 := Lib.hid hl1
  have HL2 := Lib.hid hl2
  clear hr hr2 hl1 hl2
  go_enter Tryd.func51, Tryd.ntmps51
  go_wp2_with fail
  go_loopw [13] (fun i wr => ∃ k n : Nat, k ≤ len ∧ i = .int .i64 k ∧ wr = w.drewN n ∧ (bs.map BkD.val).take k = (cs.map BkD.val).take k) (fun i _ => len - (intOf i).toNat)
  case atStart => exact ⟨0, 0, Nat.zero_le _, rfl, rfl, by simp⟩
  case round =>
    obtain ⟨k, n, hk, rfl, hwr, he⟩ := hrel
    have HWR := Lib.hid hwr
    have HE := Lib.hid he
    have t : Touch w wr (fun _ => False) := hwr ▸ (Touch.refl w (fun _ => False)).drewN n
    clear he hwr
    by_cases hlt : k < len
    case neg =>
      obtain rfl : len = k := by omega
      have hlt' : ¬ (len : Int) < len := by omega
      have HEND : RowKit.Hid (sameK bs cs = true) := Lib.hid (sameK_all (by rw [HL1.out, HL2.out]) (by simpa [HL1.out] using HE.out))
      go_wp2
      go_ret
      exact ⟨by rw [HEND.out]; rfl, n, HWR.out⟩
    case pos =>
    have hr := HR.out.still t
    have hr2 := HR2.out.still t
    obtain ⟨b, off, rfl⟩ := hr.some (by omega)
    obtain ⟨b2, off2, rfl⟩ := hr2.some (by omega)
    have hk1 : k < bs.length := by rw [HL1.out]; exact hlt
    have hk2 : k < cs.length := by rw [HL2.out]; exact hlt
    obtain ⟨c0, c1, c2⟩ := hr.cells k hk1
    obtain ⟨d0, d1, d2⟩ := hr2.cells k hk2
    have HF : RowKit.Hid ((bs.map BkD.val).take (k + 1) = (bs.map BkD.val).take k ++ [bs[k].val]) := Lib.hid (by rw [List.take_succ_eq_append_getElem (by simpa using hk1)]; simp)
    have HG : RowKit.Hid ((cs.map BkD.val).take (k + 1) = (cs.map BkD.val).take k ++ [cs[k].val]) := Lib.hid (by rw [List.take_succ_eq_append_getElem (by simpa using hk2)]; simp)
    have HAT := Lib.hid (sameK_at k hk1 hk2)
    generalize bs[k] = f at *
    generalize cs[k] = g at *
    have i1 : (k : Int) < len := by omega
    clear hr hr2 t
    go_wp2_with fail
    go_still_tail 8, (by kernel_rfl)
    change wpList _ _ _ _ _ wr.drew
    go_wp2
    all_goals first
      | (have hv : f.val = g.val := by simp only [BkD.val, Prod.mk.injEq]; omega
         refine ⟨⟨k + 1, n + 1, hlt, by go_num, ?_, ?_⟩, by simp [intOf]; omega⟩
         · rw [HWR.out]; rfl
         · rw [HF.out, HG.out, HE.out, hv])
      | (have hv : f.val ≠ g.val := fun h => by simp only [BkD.val, Prod.mk.injEq] at h; omega
         go_ret
         exact ⟨by rw [HAT.out hv]; rfl, n + 1, by rw [HWR.out]; rfl⟩)

set_option maxRecDepth 20000 in
set_option maxHeartbeats 8000000 in
theorem sameK_any (a : Option Addr) (len cap : Nat) (bs : List BkD) (a2 : Option Addr) (len2 cap2 : Nat) (cs : List BkD) (w : World) (hr : RowK w a len cap bs) (hr2 : RowK w a2 len2 cap2 cs) :
    Calls Tryd.prog 96 #[.slice a len cap, .slice a2 len2 cap2] w fun e w' => e = .returned (.bool (sameK bs cs)) ∧ ∃ n, w' = w.drewN n := by
  have hl1 := hr.len
  have hl2 := hr2.len
  by_cases hn : len = len2
  case neg =>
    have hb : ((len : Int) != (len2 : Int)) = true := bne_iff_ne.2 (by omega)
    rw [sameK_len (by omega)]
    clear hr hr2 hl1 hl2 hn
    go_enter Tryd.func96, Tryd.ntmps96
    go_wp2
    go_ret
    exact ⟨rfl, 0, rfl⟩
  case pos =>
  obtain rfl := hn
  have hb : ((len : Int) != (len : Int)) = false := bne_eq_false_iff_eq.2 rfl
  have hcap := hr.hmax
  have hcap1 := hr.hcap
  have HR := Lib.hid hr
  have HR2 := Lib.hid hr2
  have HL1 := Lib.hid hl1
  have HL2 := Lib.hid hl2
  clear hr hr2 hl1 hl2
  go_enter Tryd.func96, Tryd.ntmps96
  go_wp2_with fail
  go_loopw [13] (fun i wr => ∃ k n : Nat, k ≤ len ∧ i = .int .i64 k ∧ wr = w.drewN n ∧ (bs.map BkD.val).take k = (cs.map BkD.val).take k) (fun i _ => len - (intOf i).toNat)
  case atStart => exact ⟨0, 0, Nat.zero_le _, rfl, rfl, by simp⟩
  case round =>
    obtain ⟨k, n, hk, rfl, hwr, he⟩ := hrel
    have HWR := Lib.hid hwr
    have HE := Lib.hid he
    have t : Touch w wr (fun _ => False) := hwr ▸ (Touch.refl w (fun _ => False)).drewN n
    clear he hwr
    by_cases hlt : k < len
    case neg =>
      obtain rfl : len = k := by omega
      have hlt' : ¬ (len : Int) < len := by omega
      have HEND : RowKit.Hid (sameK bs cs = true) := Lib.hid (sameK_all (by rw [HL1.out, HL2.out]) (by simpa [HL1.out] using HE.out))
      go_wp2
      go_ret
      exact ⟨by rw [HEND.out]; rfl, n, HWR.out⟩
    case pos =>
    have hr := HR.out.still t
    have hr2 := HR2.out.still t
    obtain ⟨b, off, rfl⟩ := hr.some (by omega)
    obtain ⟨b2, off2, rfl⟩ := hr2.some (by omega)
    have hk1 : k < bs.length := by rw [HL1.out]; exact hlt
    have hk2 : k < cs.length := by rw [HL2.out]; exact hlt
    obtain ⟨c0, c1, c2⟩ := hr.cells k hk1
    obtain ⟨d0, d1, d2⟩ := hr2.cells k hk2
    have HF : RowKit.Hid ((bs.map BkD.val).take (k + 1) = (bs.map BkD.val).take k ++ [bs[k].val]) := Lib.hid (by rw [List.take_succ_eq_append_getElem (by simpa using hk1)]; simp)
    have HG : RowKit.Hid ((cs.map BkD.val).take (k + 1) = (cs.map BkD.val).take k ++ [cs[k].val]) := Lib.hid (by rw [List.take_succ_eq_append_getElem (by simpa using hk2)]; simp)
    have HAT := Lib.hid (sameK_at k hk1 hk2)
    generalize bs[k] = f at *
    generalize cs[k] = g at *
    have i1 : (k : Int) < len := by omega
    clear hr hr2 t
    go_wp2_with fail
    go_still_tail 8, (by kernel_rfl)
    change wpList _ _ _ _ _ wr.drew
    go_wp2
    all_goals first
      | (have hv : f.val = g.val := by simp only [BkD.val, Prod.mk.injEq]; omega
         refine ⟨⟨k + 1, n + 1, hlt, by go_num, ?_, ?_⟩, by simp [intOf]; omega⟩
         · rw [HWR.out]; rfl
         · rw [HF.out, HG.out, HE.out, hv])
      | (have hv : f.val ≠ g.val := fun h => by simp only [BkD.val, Prod.mk.injEq] at h; omega
         go_ret
         exact ⟨by rw [HAT.out hv]; rfl, n + 1, by rw [HWR.out]; rfl⟩)
end Go.Proofs.YthliikkllagodaaDoor
