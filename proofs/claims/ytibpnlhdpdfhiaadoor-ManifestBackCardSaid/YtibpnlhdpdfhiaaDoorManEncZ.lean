/- Encode of package manifest. -/
import Derived.Test.YtibpnlhdpdfhiaaDoorManZ
import Derived.Test.YtibpnlhdpdfhiaaDoorFrmPutZ
import Derived.Test.YtibpnlhdpdfhiaaDoorCalmZ
set_option linter.unusedVariables false
set_option linter.unusedSimpArgs false
namespace Go.Proofs.YtibpnlhdpdfhiaaDoor
open Go.RowKit

/-- What stands in a manifest's frame. -/
def segsM : List Int → List Nat
  | [] => []
  | z :: zs => beB 4 (u64N z) ++ segsM zs
def bodyM (n : Int) (zs : List Int) : List Nat := beB 4 (u64N n) ++ beB 2 (u64N zs.length) ++ segsM zs
def encM (v n : Int) (zs : List Int) : List Nat := if mayM v n zs = true then frmF 100 v (bodyM n zs) else []
def encE (v n : Int) (zs : List Int) : Nat := if mayM v n zs = true then 0 else 1
theorem segsM_length : ∀ zs, (segsM zs).length = 4 * zs.length
  | [] => rfl
  | z :: zs => by simp [segsM, beB_length, segsM_length zs]; omega
theorem bodyM_length (n : Int) (zs : List Int) : (bodyM n zs).length = 6 + 4 * zs.length := by simp [bodyM, beB_length, segsM_length]; omega
theorem segsM_append : ∀ a b, segsM (a ++ b) = segsM a ++ segsM b
  | [], b => rfl
  | z :: a, b => by simp [segsM, segsM_append a b]
theorem segsM_small : ∀ zs, ∀ x ∈ segsM zs, x < 256
  | [], x, h => by simp [segsM] at h
  | z :: zs, x, h => by
    rcases List.mem_append.1 (show x ∈ beB 4 (u64N z) ++ segsM zs from h) with h | h
    · exact beB_small _ _ x h
    · exact segsM_small zs x h
theorem bodyM_small (n : Int) (zs : List Int) : ∀ x ∈ bodyM n zs, x < 256 := by
  intro x h
  simp only [bodyM, List.mem_append] at h
  rcases h with (h | h) | h
  · exact beB_small _ _ x h
  · exact beB_small _ _ x h
  · exact segsM_small zs x h
theorem upM_mem (n : Int) : ∀ (zs : List Int) (last : Int), upM n last zs = true → ∀ z ∈ zs, last < z ∧ z < n
  | [], _, _, z, h => by simp at h
  | y :: zs, last, hu, z, h => by
    simp only [upM, Bool.and_eq_true, decide_eq_true_eq] at hu
    rcases List.mem_cons.1 h with rfl | h
    · exact hu.1
    · have := upM_mem n zs y hu.2 z h; omega
/-- What Encode hands back. -/
def EncMIs (w w' : World) (v n : Int) (zs : List Int) (e : Ending) : Prop :=
  ∃ a' cap', e = .returned (.tuple #[.slice a' (encM v n zs).length cap', .int .i64 (encE v n zs : Nat)]) ∧ FreshB w w' (.slice a' (encM v n zs).length cap') (encM v n zs)
theorem EncMIs.none {w w' : World} {v n : Int} {zs : List Int} (h : mayM v n zs = false) (t : Touch w w' (fun _ => False)) : EncMIs w w' v n zs (.returned (.tuple #[.slice Option.none 0 0, .int .i64 1])) := by
  have e1 : encM v n zs = [] := by unfold encM; rw [h]; rfl
  have e2 : encE v n zs = 1 := by unfold encE; rw [h]; rfl
  refine ⟨Option.none, 0, ?_, ?_⟩
  · rw [e1, e2]; rfl
  · rw [e1]; exact ⟨OwnB.nil _ _ _, t⟩
theorem infoMan : (Tryd.prog.info? 24).map (·.size) = some 3 := by kernel_rfl
theorem loadM {w : World} {B : Nat} {v n : Int} {a : Option Addr} {len c : Nat} (hb : w.heap[B]? = some (.cells (mcs v n a len c) 24 (0, 0))) :
    (Instr.loadAt 24 (.pointer (some ⟨B, 0, none⟩))).run Tryd.prog w = .ok (.agg #[.int .i64 v, .int .i64 n, .slice a len c]) w :=
  load_at (cs := mcs v n a len c) hb Tryd.underlying24 rfl infoMan
theorem touch_under {w w' : World} (h : Below w.heap.size w w') : Touch w w' (fun _ => False) := Touch.ofBelow h (fun k h1 h2 => by omega)
set_option maxRecDepth 20000 in
theorem enter_wbytes (u : Value) (w : World) : (callFunc 39 #[u]).run Tryd.prog w = .ok (.enter 39 #[u]) w := by kernel_rfl
set_option maxRecDepth 20000 in
theorem enter_put (u : Value) (w : World) : (callFunc 38 #[u]).run Tryd.prog w = .ok (.enter 38 #[u]) w := by kernel_rfl
/-- Where the loop over the segments is. -/
def EncAt (w9 : World) (base G : Nat) (n : Int) (zs : List Int) (i : Value) (wr : World) : Prop :=
  ∃ k : Nat, k ≤ zs.length ∧ i = .int .i64 k ∧ WrE wr base G (beB 4 (u64N n) ++ beB 2 (u64N zs.length) ++ segsM (zs.take k)) ∧ Below base w9 wr

set_option maxRecDepth 20000 in
set_option maxHeartbeats 8000000 in
theorem menc_any (v n : Int) (a : Option Addr) (len cap : Nat) (zs : List Int) (w : World) (hr : RowI w a len cap zs) :
    Calls Tryd.prog 11 #[.agg #[.int .i64 v, .int .i64 n, .slice a len cap]] w fun e w' => EncMIs w w' v n zs e := by
  have hl := hr.1
  have hcap := hr.2.2.1
  have hcap1 := hr.2.1
  obtain ⟨W1, hW1⟩ : ∃ W, w.alloc (.cells (mcs v n a len cap) 24) = W := ⟨_, rfl⟩
  have t1 : Touch w W1 (fun _ => False) := hW1 ▸ (Touch.refl _ _).alloc _
  have HB1 : RowKit.Hid (W1.heap[w.heap.size]? = some (.cells (mcs v n a len cap) 24 (0, 0))) := Lib.hid (hW1 ▸ heap_alloc_new w _)
  have HSZ : RowKit.Hid (w.heap.size < W1.heap.size) := Lib.hid (by rw [← hW1]; simp)
  have HT1 := Lib.hid t1
  have HR := Lib.hid (hr.keep t1)
  have HL := Lib.hid hl
  have HMA := Lib.hid (mmay_any v n a len cap zs W1 (hr.keep t1))
  have HLD := Lib.hid (loadM HB1.out)
  simp only [mcs] at hW1
  have HW1 := Lib.hid hW1
  clear hr hl t1 hW1
  cases hm : mayM v n zs with
  | false =>
    have HM := Lib.hid hm
    rw [hm] at HMA
    clear hm
    go_enter Tryd.func11, Tryd.ntmps11
    go_upto_region 1 with (fail)
    rw [HW1.out]
    obtain ⟨c0, c1, c2⟩ := mcells_of HB1.out
    go_wp2_with (go_at_call 13; (with_reducible refine HMA.out.mono ?_); rintro e w9 ⟨rfl, t9⟩; have HT9 := Lib.hid t9; clear t9)
    go_ret2
    exact EncMIs.none HM.out (HT1.out.trans HT9.out (fun _ _ h => h))
  | true =>
    have HM := Lib.hid hm
    rw [hm] at HMA
    obtain ⟨⟨hv0, hv1⟩, ⟨hn0, hn1⟩, ⟨hs0, hs1⟩, hu⟩ := (mayM_iff v n zs).1 hm
    have HU := Lib.hid (upM_mem n zs 0 hu)
    rw [HL.out] at hs0 hs1
    clear hm hu
    go_enter Tryd.func11, Tryd.ntmps11
    go_upto_region 1 with (fail)
    rw [HW1.out]
    obtain ⟨c0, c1, c2⟩ := mcells_of HB1.out
    go_wp2_with (first
      | (go_at_call 13; (with_reducible refine HMA.out.mono ?_); rintro e w9 ⟨rfl, t9⟩; have HT9 := Lib.hid t9; have HW := Lib.hid (WrE.fresh w9); have HB := Lib.hid ((Below.refl w9.heap.size w9).alloc (Nat.le_refl _) (.cells #[.slice none 0 0] 62)); have HS9 : RowKit.Hid (w.heap.size < w9.heap.size) := Lib.hid (Nat.lt_of_lt_of_le HSZ.out t9.size); have HB9 := Lib.hid ((t9.block _ HSZ.out (fun h => h)).trans HB1.out); have HR9 := Lib.hid (HR.out.keep t9); clear c0 c1 c2 t9; obtain ⟨c0, c1, c2⟩ := mcells_of ((HB.out.block _ HS9.out).trans HB9.out))
      | (go_at_call 36; (with_reducible refine (e_wU32 _ _ _ _ _ HW.out (by omega) (by simp)).mono ?_); rintro e w8 ⟨rfl, hw8, hb8⟩; have HWa := Lib.hid hw8; clear hw8; have HB := Lib.hid (HB.out.trans hb8); clear c0 c1 c2 hb8; obtain ⟨c0, c1, c2⟩ := mcells_of ((HB.out.block _ HS9.out).trans HB9.out))
      | (go_at_call 37; (with_reducible refine (e_wU16 _ _ _ _ _ HWa.out (by omega) (by simp [beB_length])).mono ?_); rintro e w7 ⟨rfl, hw7, hb7⟩; have HWb := Lib.hid hw7; clear hw7; have HB := Lib.hid (HB.out.trans hb7); clear c0 c1 c2 hb7; obtain ⟨c0, c1, c2⟩ := mcells_of ((HB.out.block _ HS9.out).trans HB9.out)))
    clear c0 c1 c2
    go_loopw [21] (fun i wr => EncAt w9 w9.heap.size w9.heap.size n zs i wr) (fun i _ => len - (intOf i).toNat)
    case atStart => exact ⟨0, Nat.zero_le _, rfl, by simpa [segsM, HL.out] using HWb.out, HB.out⟩
    case round =>
      obtain ⟨k, hk, rfl, hw, hb⟩ := hrel
      rw [HL.out] at hk
      have HWW := Lib.hid hw
      have HBB := Lib.hid hb
      have HGB := Lib.hid ((hb.block _ HS9.out).trans HB9.out)
      have HRR := Lib.hid (HR9.out.old hb)
      clear hw hb
      by_cases hlt : k < len
      case neg =>
        obtain rfl : len = k := by omega
        have hlt' : ¬ (len : Int) < len := by omega
        have hbd : beB 4 (u64N n) ++ beB 2 (u64N zs.length) ++ segsM (zs.take len) = bodyM n zs := by rw [← HL.out, List.take_length]; rfl
        rw [hbd] at HWW
        have HLN : RowKit.Hid ((bodyM n zs).length = 6 + 4 * len) := Lib.hid (by rw [bodyM_length, HL.out])
        have HLB : RowKit.Hid (6 + 4 * len ≤ 4096) := Lib.hid (by omega)
        have HCB : RowKit.Hid (∀ W, Touch wr W (fun _ => False) → W.cell? ⟨w.heap.size, 0, none⟩ = some (.int .i64 v)) := Lib.hid (fun W t => (mcells_of (t.keeps HGB.out (fun h => h))).1)
        have HEE : RowKit.Hid (encE v n zs = 0) := Lib.hid (by unfold encE; rw [HM.out]; rfl)
        have HEF : RowKit.Hid (encM v n zs = putF 100 v (bodyM n zs)) := Lib.hid (by
          have e : putE 100 v (bodyM n zs).length = 0 := by unfold putE; rw [if_neg (by omega), if_neg (by rw [HLN.out]; omega)]
          unfold encM putF; rw [HM.out, e]; rfl)
        have HPE : RowKit.Hid (putE 100 v (bodyM n zs).length = 0) := Lib.hid (by unfold putE; rw [if_neg (by omega), if_neg (by rw [HLN.out]; omega)])
        have HTX : RowKit.Hid (Touch w wr (fun _ => False)) := Lib.hid ((HT1.out.trans HT9.out (fun _ _ h => h)).trans (touch_under HBB.out) (fun _ _ h => h))
        generalize bodyM n zs = Y at *
        clear hbd
        go_wp2_with fail
        have hS := (Touch.refl wr (fun _ => False)).drew
        refine wp_region_sched (fun w' => Touch wr w' (fun _ => False)) [(0, true), (1, true), (2, false), (3, true), (4, false), (5, true), (6, true), (7, true), (8, true)] (by kernel_rfl) (by kernel_rfl) rfl (by kernel_rfl) hS ?_
        (refine walkS_take (v := ?_) (some 29) rfl rfl (fun _ _ _ h => h) (by rfl) ?_ ?_; rotate_left; (focus (intro w' hw'; have c0 := HCB.out w' hw'; go_simp; (try with_reducible rfl))); (try simp only [Act.put, List.setIfInBounds_toArray, List.set_cons_zero, List.set_cons_succ]))
        (refine walkS_take (v := ?_) (some 30) rfl rfl (fun _ _ _ h => h) (by rfl) ?_ ?_; rotate_left; (focus (intro w' hw'; have c0 := HCB.out w' hw'; go_simp; (try with_reducible rfl))); (try simp only [Act.put, List.setIfInBounds_toArray, List.set_cons_zero, List.set_cons_succ]))
        (refine walkS_call 31 _ _ _ _ (e_wBytes _ _ _ _ (HWW.out.still hS) (by have := HLN.out; omega) _ HLN.out) rfl rfl rfl (by rfl) rfl (enter_wbytes _ _) ?_; rintro e w2 ⟨a9, p9, rfl, hf9⟩; have hr9 := (hf9.row').2; have hS9 := hS.trans hf9.2 (fun _ _ h => h); have hZ9 := hS9.size; clear hS; refine ⟨_, rfl, hS9, fun hS => ?_⟩; (try simp only [Act.put, List.setIfInBounds_toArray, List.set_cons_zero, List.set_cons_succ]))
        (refine walkS_take (v := ?_) (some 32) rfl rfl (fun _ _ _ h => h) (by rfl) ?_ ?_; rotate_left; (focus (intro w' hw'; have c0 := HCB.out w' hw'; go_simp; (try with_reducible rfl))); (try simp only [Act.put, List.setIfInBounds_toArray, List.set_cons_zero, List.set_cons_succ]))
        (refine walkS_call 33 _ _ _ _ (put_good 100 v _ _ _ _ w2 hr9 (by omega) (by omega) (by omega) (by omega) (by have := HLB.out; omega)) rfl rfl rfl (by rfl) rfl (enter_put _ _) ?_; clear hS; rintro e w3 ⟨a10, p10, rfl, hf10⟩; have hS9 := hS9.trans hf10.2 (fun _ _ h => h); refine ⟨_, rfl, hS9, fun hS => ?_⟩; (try simp only [Act.put, List.setIfInBounds_toArray, List.set_cons_zero, List.set_cons_succ]))
        (refine walkS_take (v := ?_) (some 34) rfl rfl (fun _ _ _ h => h) (by rfl) ?_ ?_; rotate_left; (focus (intro w' hw'; have c0 := HCB.out w' hw'; go_simp; (try with_reducible rfl))); (try simp only [Act.put, List.setIfInBounds_toArray, List.set_cons_zero, List.set_cons_succ]))
        (refine walkS_take (v := ?_) (some 35) rfl rfl (fun _ _ _ h => h) (by rfl) ?_ ?_; rotate_left; (focus (intro w' hw'; have c0 := HCB.out w' hw'; go_simp; (try with_reducible rfl))); (try simp only [Act.put, List.setIfInBounds_toArray, List.set_cons_zero, List.set_cons_succ]))
        (refine walkS_take (v := ?_) (some 2) rfl rfl (fun _ _ _ h => h) (by rfl) ?_ ?_; rotate_left; (focus (intro w' hw'; have c0 := HCB.out w' hw'; go_simp; (try with_reducible rfl))); (try simp only [Act.put, List.setIfInBounds_toArray, List.set_cons_zero, List.set_cons_succ]))
        (refine walkS_take (v := ?_) (some 3) rfl rfl (fun _ _ _ h => h) (by rfl) ?_ ?_; rotate_left; (focus (intro w' hw'; have c0 := HCB.out w' hw'; go_simp; (try with_reducible rfl))); (try simp only [Act.put, List.setIfInBounds_toArray, List.set_cons_zero, List.set_cons_succ]))
        refine walkS_done ?_
        go_wp2_with fail
        go_ret2
        refine ⟨a10, p10, ?_, ?_⟩
        · rw [HEE.out, HEF.out, HPE.out]; rfl
        · rw [HEF.out]
          exact ⟨hf10.1.base (fun k hk => by have := (hf10.1.own.lt k hk).1; have := HTX.out.size; omega), HTX.out.trans hS9 (fun _ _ h => h)⟩
      case pos =>
        obtain ⟨b, off, rfl, hc⟩ := HRR.out.place (by omega)
        have hk1 : k < zs.length := by rw [HL.out]; exact hlt
        have d0 := hc k hk1
        have hz := HU.out zs[k] (List.getElem_mem hk1)
        have HS : RowKit.Hid (segsM (zs.take (k + 1)) = segsM (zs.take k) ++ beB 4 (u64N zs[k])) := Lib.hid (by rw [List.take_succ_eq_append_getElem hk1, segsM_append]; simp [segsM])
        have HLS : RowKit.Hid ((segsM (zs.take k)).length ≤ 256) := Lib.hid (by rw [segsM_length, List.length_take]; omega)
        generalize zs[k] = z at *
        obtain ⟨hz0, hz1⟩ := hz
        have hlI : (k : Int) < len := by omega
        clear hc
        go_wp2_with (go_at_call 36; (with_reducible refine (e_wU32 _ _ _ _ _ HWW.out (by omega) (by have := HLS.out; simp [beB_length]; omega)).mono ?_); rintro e w6 ⟨rfl, hw6, hb6⟩; have HWc := Lib.hid hw6; have HBB := Lib.hid (HBB.out.trans hb6); clear hw6 hb6)
        exact ⟨⟨k + 1, by rw [HL.out]; exact hlt, by go_num, by rw [HS.out, ← List.append_assoc]; exact HWc.out, HBB.out⟩, by simp [intOf]; omega⟩
end Go.Proofs.YtibpnlhdpdfhiaaDoor
