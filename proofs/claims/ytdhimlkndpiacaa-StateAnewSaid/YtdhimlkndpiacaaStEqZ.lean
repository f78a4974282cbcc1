/- slices.Equal at drains, at flows. -/
import Derived.Test.YtdhimlkndpiacaaStAwakeZ
import Derived.Test.YtdhimlkndpiacaaGCZ
import Derived.BigQuiet
import Derived.StillTailTactics
set_option linter.unusedVariables false
set_option linter.unusedSimpArgs false
namespace Go.Proofs.Ytdhimlkndpiacaa
open Go.RowKit

def DR.valE (x : DR) : List Int := [x.b, x.u]
def sameDr (bs cs : List DR) : Bool := decide (bs.map DR.valE = cs.map DR.valE)
theorem sameDr_len {bs cs : List DR} (h : bs.length ≠ cs.length) : sameDr bs cs = false := by
  unfold sameDr; exact decide_eq_false (fun e => h (by have := congrArg List.length e; simpa using this))
theorem sameDr_at {bs cs : List DR} (i : Nat) (h1 : i < bs.length) (h2 : i < cs.length) (h : bs[i].valE ≠ cs[i].valE) : sameDr bs cs = false := by
  unfold sameDr
  refine decide_eq_false (fun e => h ?_)
  have := congrArg (fun l : List (List Int) => l[i]?) e
  simpa [h1, h2] using this
theorem sameDr_all {bs cs : List DR} (hl : bs.length = cs.length) (h : (bs.map DR.valE).take bs.length = (cs.map DR.valE).take bs.length) : sameDr bs cs = true := by
  unfold sameDr; apply decide_eq_true
  rw [List.take_of_length_le (by simp), List.take_of_length_le (by simp; omega)] at h; exact h
theorem sameDr_refl (bs : List DR) : sameDr bs bs = true := decide_eq_true rfl
theorem sameDr_cells {w : World} {b off len cap : Nat} {bs : List DR} (h : RowS w (some ⟨b, off, none⟩) len cap 2 (bs.map dcl)) (i : Nat) (hi : i < bs.length) :
    w.cell? ⟨b, off + i * 2, none⟩ = some (.int .i64 bs[i].b) ∧ w.cell? ⟨b, off + i * 2 + 1, none⟩ = some (.int .i64 bs[i].u) := by
  have hi' : i < (bs.map dcl).length := by simpa using hi
  have e : (bs.map dcl)[i] = dcl bs[i] := by simp
  exact ⟨h.cell i hi' 0 _ (by rw [e]; rfl), h.cell i hi' 1 _ (by rw [e]; rfl)⟩
set_option maxRecDepth 20000 in
set_option maxHeartbeats 8000000 in
theorem sameDr_any (a : Option Addr) (len cap : Nat) (bs : List DR) (a2 : Option Addr) (len2 cap2 : Nat) (cs : List DR) (w : World) (hr : RowS w a len cap 2 (bs.map dcl)) (hr2 : RowS w a2 len2 cap2 2 (cs.map dcl)) :
    Calls Try.prog 36 #[.slice a len cap, .slice a2 len2 cap2] w fun e w' => e = .returned (.bool (sameDr bs cs)) ∧ Touch w w' (fun _ => False) := by
  have hl1 : bs.length = len := by have := hr.hlen; simpa using this
  have hl2 : cs.length = len2 := by have := hr2.hlen; simpa using this
  by_cases hn : len = len2
  case neg =>
    have hb : ((len : Int) != (len2 : Int)) = true := bne_iff_ne.2 (by omega)
    rw [sameDr_len (by omega)]
    clear hr hr2 hl1 hl2 hn
    go_enter Try.func36, Try.ntmps36
    go_wp2
    go_ret
    exact ⟨rfl, Touch.refl _ _⟩
  case pos =>
  obtain rfl := hn
  have hb : ((len : Int) != (len : Int)) = false := bne_eq_false_iff_eq.2 rfl
  have hcap := hr.hmax
  have hcap1 := hr.hcap
  have HR := Lib.hid hr
  have HR2 := Lib.hid hr2
  have HL1 := Lib.hid hl1
  have HL2 := Lib.hid hl2
  clear hr hr2 hl1 hl2
  go_enter Try.func36, Try.ntmps36
  go_wp2_with fail
  go_loopw [13] (fun i wr => ∃ k n : Nat, k ≤ len ∧ i = .int .i64 k ∧ wr = w.drewN n ∧ (bs.map DR.valE).take k = (cs.map DR.valE).take k) (fun i _ => len - (intOf i).toNat)
  case atStart => exact ⟨0, 0, Nat.zero_le _, rfl, rfl, by simp⟩
  case round =>
    obtain ⟨k, n, hk, rfl, hwr, he⟩ := hrel
    have HWR := Lib.hid hwr
    have HE := Lib.hid he
    have t : Touch w wr (fun _ => False) := hwr ▸ (Touch.refl w (fun _ => False)).drewN n
    clear he hwr
    by_cases hlt : k < len
    case neg =>
      obtain rfl : len = k := by omega
      have hlt' : ¬ (len : Int) < len := by omega
      have HEND : RowKit.Hid (sameDr bs cs = true) := Lib.hid (sameDr_all (by rw [HL1.out, HL2.out]) (by simpa [HL1.out] using HE.out))
      have HT := Lib.hid t
      clear t
      go_wp2
      go_ret
      exact ⟨by rw [HEND.out]; rfl, HT.out⟩
    case pos =>
    have hr := HR.out.still t
    have hr2 := HR2.out.still t
    obtain ⟨b, off, rfl⟩ := hr.some (by omega)
    obtain ⟨b2, off2, rfl⟩ := hr2.some (by omega)
    have hk1 : k < bs.length := by rw [HL1.out]; exact hlt
    have hk2 : k < cs.length := by rw [HL2.out]; exact hlt
    obtain ⟨c0, c1⟩ := sameDr_cells hr k hk1
    obtain ⟨d0, d1⟩ := sameDr_cells hr2 k hk2
    have HF : RowKit.Hid ((bs.map DR.valE).take (k + 1) = (bs.map DR.valE).take k ++ [bs[k].valE]) := Lib.hid (by rw [List.take_succ_eq_append_getElem (by simpa using hk1)]; simp)
    have HG : RowKit.Hid ((cs.map DR.valE).take (k + 1) = (cs.map DR.valE).take k ++ [cs[k].valE]) := Lib.hid (by rw [List.take_succ_eq_append_getElem (by simpa using hk2)]; simp)
    have HAT := Lib.hid (sameDr_at k hk1 hk2)
    generalize bs[k] = f at *
    generalize cs[k] = g at *
    have i1 : (k : Int) < len := by omega
    have HT := Lib.hid t
    clear hr hr2 t
    go_wp2_with fail
    go_still_tail 8, (by kernel_rfl)
    change wpList _ _ _ _ _ wr.drew
    go_wp2
    all_goals first
      | (have hv : f.valE = g.valE := by simp only [DR.valE, List.cons.injEq, and_true]; omega
         refine ⟨⟨k + 1, n + 1, hlt, by go_num, ?_, ?_⟩, by simp [intOf]; omega⟩
         · rw [HWR.out]; rfl
         · rw [HF.out, HG.out, HE.out, hv])
      | (have hv : f.valE ≠ g.valE := fun h => by simp only [DR.valE, List.cons.injEq, and_true] at h; omega
         go_ret
         exact ⟨by rw [HAT.out hv]; rfl, HT.out.drewN 1⟩)

def FlD.valE (x : FlD) : List Int := [x.t.src, x.t.dst, x.t.proto, x.t.sport, x.t.dport, x.fb, x.fg, x.fs]
def sameFr (bs cs : List FlD) : Bool := decide (bs.map FlD.valE = cs.map FlD.valE)
theorem sameFr_len {bs cs : List FlD} (h : bs.length ≠ cs.length) : sameFr bs cs = false := by
  unfold sameFr; exact decide_eq_false (fun e => h (by have := congrArg List.length e; simpa using this))
theorem sameFr_at {bs cs : List FlD} (i : Nat) (h1 : i < bs.length) (h2 : i < cs.length) (h : bs[i].valE ≠ cs[i].valE) : sameFr bs cs = false := by
  unfold sameFr
  refine decide_eq_false (fun e => h ?_)
  have := congrArg (fun l : List (List Int) => l[i]?) e
  simpa [h1, h2] using this
theorem sameFr_all {bs cs : List FlD} (hl : bs.length = cs.length) (h : (bs.map FlD.valE).take bs.length = (cs.map FlD.valE).take bs.length) : sameFr bs cs = true := by
  unfold sameFr; apply decide_eq_true
  rw [List.take_of_length_le (by simp), List.take_of_length_le (by simp; omega)] at h; exact h
theorem sameFr_refl (bs : List FlD) : sameFr bs bs = true := decide_eq_true rfl
theorem sameFr_cells {w : World} {b off len cap : Nat} {bs : List FlD} (h : RowS w (some ⟨b, off, none⟩) len cap 8 (bs.map fcl)) (i : Nat) (hi : i < bs.length) :
    w.cell? ⟨b, off + i * 8, none⟩ = some (.int .u32 bs[i].t.src) ∧ w.cell? ⟨b, off + i * 8 + 1, none⟩ = some (.int .u32 bs[i].t.dst) ∧ w.cell? ⟨b, off + i * 8 + 2, none⟩ = some (.int .i64 bs[i].t.proto) ∧ w.cell? ⟨b, off + i * 8 + 3, none⟩ = some (.int .i64 bs[i].t.sport) ∧ w.cell? ⟨b, off + i * 8 + 4, none⟩ = some (.int .i64 bs[i].t.dport) ∧ w.cell? ⟨b, off + i * 8 + 5, none⟩ = some (.int .i64 bs[i].fb) ∧ w.cell? ⟨b, off + i * 8 + 6, none⟩ = some (.int .i64 bs[i].fg) ∧ w.cell? ⟨b, off + i * 8 + 7, none⟩ = some (.int .i64 bs[i].fs) := by
  have hi' : i < (bs.map fcl).length := by simpa using hi
  have e : (bs.map fcl)[i] = fcl bs[i] := by simp
  exact ⟨h.cell i hi' 0 _ (by rw [e]; rfl), h.cell i hi' 1 _ (by rw [e]; rfl), h.cell i hi' 2 _ (by rw [e]; rfl), h.cell i hi' 3 _ (by rw [e]; rfl), h.cell i hi' 4 _ (by rw [e]; rfl), h.cell i hi' 5 _ (by rw [e]; rfl), h.cell i hi' 6 _ (by rw [e]; rfl), h.cell i hi' 7 _ (by rw [e]; rfl)⟩
set_option maxRecDepth 20000 in
set_option maxHeartbeats 8000000 in
theorem sameFr_any (a : Option Addr) (len cap : Nat) (bs : List FlD) (a2 : Option Addr) (len2 cap2 : Nat) (cs : List FlD) (w : World) (hr : RowS w a len cap 8 (bs.map fcl)) (hr2 : RowS w a2 len2 cap2 8 (cs.map fcl)) :
    Calls Try.prog 37 #[.slice a len cap, .slice a2 len2 cap2] w fun e w' => e = .returned (.bool (sameFr bs cs)) ∧ Touch w w' (fun _ => False) := by
  have hl1 : bs.length = len := by have := hr.hlen; simpa using this
  have hl2 : cs.length = len2 := by have := hr2.hlen; simpa using this
  by_cases hn : len = len2
  case neg =>
    have hb : ((len : Int) != (len2 : Int)) = true := bne_iff_ne.2 (by omega)
    rw [sameFr_len (by omega)]
    clear hr hr2 hl1 hl2 hn
    go_enter Try.func37, Try.ntmps37
    go_wp2
    go_ret
    exact ⟨rfl, Touch.refl _ _⟩
  case pos =>
  obtain rfl := hn
  have hb : ((len : Int) != (len : Int)) = false := bne_eq_false_iff_eq.2 rfl
  have hcap := hr.hmax
  have hcap1 := hr.hcap
  have HR := Lib.hid hr
  have HR2 := Lib.hid hr2
  have HL1 := Lib.hid hl1
  have HL2 := Lib.hid hl2
  clear hr hr2 hl1 hl2
  go_enter Try.func37, Try.ntmps37
  go_wp2_with fail
  go_loopw [13] (fun i wr => ∃ k n : Nat, k ≤ len ∧ i = .int .i64 k ∧ wr = w.drewN n ∧ (bs.map FlD.valE).take k = (cs.map FlD.valE).take k) (fun i _ => len - (intOf i).toNat)
  case atStart => exact ⟨0, 0, Nat.zero_le _, rfl, rfl, by simp⟩
  case round =>
    obtain ⟨k, n, hk, rfl, hwr, he⟩ := hrel
    have HWR := Lib.hid hwr
    have HE := Lib.hid he
    have t : Touch w wr (fun _ => False) := hwr ▸ (Touch.refl w (fun _ => False)).drewN n
    clear he hwr
    by_cases hlt : k < len
    case neg =>
      obtain rfl : len = k := by omega
      have hlt' : ¬ (len : Int) < len := by omega
      have HEND : RowKit.Hid (sameFr bs cs = true) := Lib.hid (sameFr_all (by rw [HL1.out, HL2.out]) (by simpa [HL1.out] using HE.out))
      have HT := Lib.hid t
      clear t
      go_wp2
      go_ret
      exact ⟨by rw [HEND.out]; rfl, HT.out⟩
    case pos =>
    have hr := HR.out.still t
    have hr2 := HR2.out.still t
    obtain ⟨b, off, rfl⟩ := hr.some (by omega)
    obtain ⟨b2, off2, rfl⟩ := hr2.some (by omega)
    have hk1 : k < bs.length := by rw [HL1.out]; exact hlt
    have hk2 : k < cs.length := by rw [HL2.out]; exact hlt
    obtain ⟨c0, c1, c2, c3, c4, c5, c6, c7⟩ := sameFr_cells hr k hk1
    obtain ⟨d0, d1, d2, d3, d4, d5, d6, d7⟩ := sameFr_cells hr2 k hk2
    have HF : RowKit.Hid ((bs.map FlD.valE).take (k + 1) = (bs.map FlD.valE).take k ++ [bs[k].valE]) := Lib.hid (by rw [List.take_succ_eq_append_getElem (by simpa using hk1)]; simp)
    have HG : RowKit.Hid ((cs.map FlD.valE).take (k + 1) = (cs.map FlD.valE).take k ++ [cs[k].valE]) := Lib.hid (by rw [List.take_succ_eq_append_getElem (by simpa using hk2)]; simp)
    have HAT := Lib.hid (sameFr_at k hk1 hk2)
    generalize bs[k] = f at *
    generalize cs[k] = g at *
    have i1 : (k : Int) < len := by omega
    have HT := Lib.hid t
    clear hr hr2 t
    go_wp2_with fail
    go_still_tail 8, (by kernel_rfl)
    change wpList _ _ _ _ _ wr.drew
    go_wp2
    all_goals first
      | (have hv : f.valE = g.valE := by simp only [FlD.valE, List.cons.injEq, and_true]; omega
         refine ⟨⟨k + 1, n + 1, hlt, by go_num, ?_, ?_⟩, by simp [intOf]; omega⟩
         · rw [HWR.out]; rfl
         · rw [HF.out, HG.out, HE.out, hv])
      | (have hv : f.valE ≠ g.valE := fun h => by simp only [FlD.valE, List.cons.injEq, and_true] at h; omega
         go_ret
         exact ⟨by rw [HAT.out hv]; rfl, HT.out.drewN 1⟩)
end Go.Proofs.Ytdhimlkndpiacaa
