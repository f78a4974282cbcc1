/- Records: what Encode of package record answers. -/
import Derived.Test.YtbklngcocbnijaaRecWalkZ
import Derived.Laws.EntriesVeiled
set_option linter.unusedVariables false
set_option linter.unusedSimpArgs false
namespace Go.Proofs.Ytbklngcocbnijaa
open Go.RowKit

def f3 (k v : Int) (a : Option Addr) (len cap : Nat) : Array Value := #[.int .i64 k, .int .i64 v, .slice a len cap]
/-- What Encode tells: its error; the frame's kind, format and body. -/
def encE (r : RecD) (v : Int) : Int := if verB v = true then (if mayRB r = true then 0 else 1) else 10
def encK (r : RecD) (v : Int) : Int := if encE r v = 0 then r.kind else 0
def encV (r : RecD) (v : Int) : Int := if encE r v = 0 then v else 0
def encB (r : RecD) (v : Int) : List Nat := if encE r v = 0 then bodyF r v else []
def EncIs (w : World) (r : RecD) (v : Int) (e : Ending) (w' : World) : Prop :=
  ∃ (a' : Option Addr) (c' : Nat), e = .returned (.tuple #[.agg (f3 (encK r v) (encV r v) a' (encB r v).length c'), .int .i64 (encE r v)]) ∧ FreshB w w' (.slice a' (encB r v).length c') (encB r v)
theorem infoFr : (Try.prog.info? 39).map (·.size) = some 3 := by kernel_rfl
theorem infoCl : (Try.prog.info? 76).map (·.size) = some 6 := by kernel_rfl
theorem less_of {r : RecD} (h : mayRB r = true) : RecLess r := by
  refine ⟨fun hk => ?_, fun hk => ?_, fun hk => ?_, fun hk => ?_⟩
  · unfold mayRB at h; rw [if_pos hk] at h
    simp only [Bool.and_eq_true, cntB_iff] at h; omega
  · unfold mayRB at h; rw [if_neg (by omega), if_neg (by omega), if_pos hk] at h
    simp only [Bool.and_eq_true, cntB_iff] at h; omega
  · unfold mayRB at h; rw [if_neg (by omega), if_neg (by omega), if_neg (by omega), if_neg (by omega), if_neg (by omega), if_pos hk] at h
    rw [cntB_iff] at h; omega
  · unfold mayRB at h; rw [if_neg (by omega), if_neg (by omega), if_pos hk] at h
    simp only [Bool.and_eq_true, decide_eq_true_eq] at h; omega
theorem kind_of {r : RecD} (h : mayRB r = true) : r.kind = 1 ∨ r.kind = 2 ∨ r.kind = 3 ∨ r.kind = 4 ∨ r.kind = 5 ∨ r.kind = 6 := by
  unfold mayRB at h
  by_cases h1 : r.kind = 1; · exact .inl h1
  by_cases h2 : r.kind = 2; · exact .inr (.inl h2)
  by_cases h3 : r.kind = 3; · exact .inr (.inr (.inl h3))
  by_cases h4 : r.kind = 4; · exact .inr (.inr (.inr (.inl h4)))
  by_cases h5 : r.kind = 5; · exact .inr (.inr (.inr (.inr (.inl h5))))
  by_cases h6 : r.kind = 6; · exact .inr (.inr (.inr (.inr (.inr h6))))
  rw [if_neg h1, if_neg h2, if_neg h3, if_neg h4, if_neg h5, if_neg h6] at h; cases h
theorem wwalk_any (base G R : Nat) (D : Nat → Prop) (xs : List Nat) (r : RecD) (a : Option Addr) (cap : Nat) (v : Int) (hv : verB v = true) (hm : mayRB r = true) (w : World) (h : WrD w base G D xs) (hr : w.heap[R]? = some (.cells (rcs r a cap) 29 (0, 0))) (hR : R < base)
    (hrow : RowK w a r.bs.length cap r.bs) (ha : ∀ x, a = some x → r.bs.length = 0 ∨ x.block < base) (ok : RecOk r) (hlen : xs.length ≤ 700000) :
    Calls Try.prog 53 #[.agg (wcs G), .pointer (some ⟨R, 0, none⟩), .int .i64 v] w (PutD w base G D xs (bodyF r v)) := by
  have less := less_of hm
  rcases kind_of hm with hk | hk | hk | hk | hk | hk
  · exact wwalk_k1 base G R D xs r a cap v hv hk w h hr hR hrow ha ok less hlen
  · exact wwalk_k2 base G R D xs r a cap v hv hk w h hr hR hrow ha ok less hlen
  · exact wwalk_k3 base G R D xs r a cap v hv hk w h hr hR hrow ha ok less hlen
  · exact wwalk_k4 base G R D xs r a cap v hv hk w h hr hR hrow ha ok less hlen
  · exact wwalk_k5 base G R D xs r a cap v hv hk w h hr hR hrow ha ok less hlen
  · exact wwalk_k6 base G R D xs r a cap v hv hk w h hr hR hrow ha ok less hlen
theorem bodyF_le (r : RecD) (v : Int) (h : mayRB r = true) : (bodyF r v).length ≤ 1000 := by
  have less := less_of h
  have hb := bksF_le v r.bs
  unfold bodyF flowF
  by_cases h3 : r.kind = 3
  · have := less.bs h3
    rw [if_neg (by omega), if_neg (by omega), if_pos h3]
    simp only [List.length_append, beB_length]; omega
  · rw [if_neg h3]
    repeat' split
    all_goals simp [beB_length, tbF_length]

set_option maxRecDepth 20000 in
set_option maxHeartbeats 1000000 in
theorem wcalls_any (G : Nat) (w : World) :
    Calls Try.prog 52 #[.pointer (some ⟨G, 0, none⟩)] w fun e w' => e = .returned (.agg (wcs G)) ∧ Touch w w' (fun _ => False) := by
  go_enter Try.func52, Try.ntmps52
  go_wp2
  refine ret_row rfl rfl w.heap.size 76 (wcs G) (0, 0) _ rfl (heap_alloc_new w _) Try.underlying76 rfl infoCl ?_
  exact ⟨rfl, (Touch.refl _ _).alloc _⟩

set_option maxRecDepth 20000 in
set_option maxHeartbeats 4000000 in
theorem enc_bad (r : RecD) (a : Option Addr) (cap : Nat) (v : Int) (w : World) (hr : RowK w a r.bs.length cap r.bs) (he : encE r v ≠ 0) :
    Calls Try.prog 24 #[.agg (rcs r a cap), .int .i64 v] w (EncIs w r v) := by
  obtain ⟨W1, hW1⟩ : ∃ W, w.alloc (.cells (rcs r a cap) 29) = W := ⟨_, rfl⟩
  obtain ⟨W2, hW2⟩ : ∃ W, W1.alloc (.cells #[.int .i64 0, .int .i64 0, .slice none 0 0] 39) = W := ⟨_, rfl⟩
  have t1 : Touch w W1 (fun _ => False) := hW1 ▸ (Touch.refl _ _).alloc _
  have t2 : Touch W1 W2 (fun _ => False) := hW2 ▸ (Touch.refl _ _).alloc _
  have HB := Lib.hid (t2.keeps (hW1 ▸ heap_alloc_new w _ : W1.heap[w.heap.size]? = some (.cells (rcs r a cap) 29 (0, 0))) (fun h => h))
  have HF : RowKit.Hid (W2.heap[W1.heap.size]? = some (.cells (f3 0 0 none 0 0) 39 (0, 0))) := Lib.hid (hW2 ▸ heap_alloc_new W1 _)
  have HT := Lib.hid (t1.trans t2 (fun _ _ h => h))
  have HR := Lib.hid ((hr.still t1).still t2)
  have HIR := Lib.hid infoRec
  have HIF := Lib.hid infoFr
  have HSZ : RowKit.Hid (w.heap.size < W1.heap.size) := Lib.hid (by rw [← hW1]; simp)
  have HM : RowKit.Hid (Calls Try.prog 18 #[.agg (rcs r a cap)] W2 fun e w' => e = .returned (.bool (mayRB r)) ∧ Touch W2 w' (fun _ => False)) := Lib.hid (mayR_any r a cap W2 HR.out)
  have HE : RowKit.Hid (encE r v = if verB v = true then (if mayRB r = true then 0 else 1) else 10) := Lib.hid rfl
  have HNE := Lib.hid he
  have hX : EncIs w r v = fun e w' => ∃ (a' : Option Addr) (c' : Nat), e = .returned (.tuple #[.agg (f3 0 0 a' 0 c'), .int .i64 (encE r v)]) ∧ FreshB w w' (.slice a' 0 c') [] := by
    funext e w'
    unfold EncIs encK encV encB
    rw [if_neg he, if_neg he, if_neg he]; rfl
  have HX := Lib.hid hX
  clear hX hr he t1 t2
  generalize EncIs w r v = X at *
  cases hv : verB v with
  | false =>
    have hq : encE r v = 10 := by rw [HE.out, hv]; rfl
    have HQ := Lib.hid hq
    have HV : RowKit.Hid (∀ w, Calls Try.prog 50 #[.int .i64 v] w fun e w' => e = .returned (.bool false) ∧ w = w') := Lib.hid (fun w => (isVersion_any v w).mono fun e w' h => ⟨hv ▸ h.1, h.2.symm⟩)
    generalize encE r v = E at *
    clear hq hv HE HM
    simp only [rcs] at hW1
    simp only [rcs]
    go_enter Try.func24, Try.ntmps24
    go_wp2_with (first
      | (go_at_call 50; (with_reducible refine (HV.out _).mono ?_); rintro e w' ⟨rfl, rfl⟩)
      | (refine store_row rfl 39 (.tmp 4) (.tmp 10) rfl W1.heap.size _ rfl rfl _ _ HF.out HIF.out rfl rfl ?_))
    refine ret_row1 rfl rfl W1.heap.size 39 (f3 0 0 none 0 0) (0, 0) _ rfl (setRow_heap _ _ _ _ _ _ HF.out) Try.underlying39 rfl infoFr _ rfl ?_
    rw [HX.out, HQ.out]
    exact ⟨none, 0, rfl, fresh_nil (HT.out.setRow _ _ (fun h => absurd h (by have := HSZ.out; omega)))⟩
  | true =>
    have hq : mayRB r = false ∧ encE r v = 1 := by
      have h1 := HE.out
      rw [hv, if_pos rfl] at h1
      cases hm : mayRB r with
      | true => rw [hm, if_pos rfl] at h1; exact absurd h1 HNE.out
      | false => rw [hm] at h1; exact ⟨rfl, h1⟩
    have HQ := Lib.hid hq.2
    have HM : RowKit.Hid (Calls Try.prog 18 #[.agg (rcs r a cap)] W2 fun e w' => e = .returned (.bool false) ∧ Touch W2 w' (fun _ => False)) := Lib.hid (hq.1 ▸ HM.out)
    have HV : RowKit.Hid (∀ w, Calls Try.prog 50 #[.int .i64 v] w fun e w' => e = .returned (.bool true) ∧ w = w') := Lib.hid (fun w => (isVersion_any v w).mono fun e w' h => ⟨hv ▸ h.1, h.2.symm⟩)
    generalize encE r v = E at *
    clear hq hv HE
    simp only [rcs] at hW1
    simp only [rcs]
    go_enter Try.func24, Try.ntmps24
    go_wp2_with (first
      | (go_at_call 50; (with_reducible refine (HV.out _).mono ?_); rintro e w' ⟨rfl, rfl⟩)
      | (refine wpList_load_row rfl 29 (.tmp 2) rfl w.heap.size rfl _ _ _ _ HB.out Try.underlying29 rfl HIR.out ?_)
      | (go_at_call 18; (refine HM.out.mono ?_); rintro e w3 ⟨rfl, t3⟩; have HF := Lib.hid (t3.keeps HF.out (fun h => h)); have HT := Lib.hid (HT.out.trans t3 (fun _ _ h => h)); clear t3)
      | (refine store_row rfl 39 (.tmp 4) (.tmp 14) rfl W1.heap.size _ rfl rfl _ _ HF.out HIF.out rfl rfl ?_))
    refine ret_row1 rfl rfl W1.heap.size 39 (f3 0 0 none 0 0) (0, 0) _ rfl (setRow_heap _ _ _ _ _ _ HF.out) Try.underlying39 rfl infoFr _ rfl ?_
    rw [HX.out, HQ.out]
    exact ⟨none, 0, rfl, fresh_nil (HT.out.setRow _ _ (fun h => absurd h (by have := HSZ.out; omega)))⟩

set_option maxRecDepth 20000 in
set_option maxHeartbeats 8000000 in
theorem enc_good (r : RecD) (a : Option Addr) (cap : Nat) (v : Int) (w : World) (hr : RowK w a r.bs.length cap r.bs) (ok : RecOk r) (hv : verB v = true) (hm : mayRB r = true) :
    Calls Try.prog 24 #[.agg (rcs r a cap), .int .i64 v] w (EncIs w r v) := by
  have hl := bodyF_le r v hm
  have he : encE r v = 0 := by unfold encE; rw [if_pos hv, if_pos hm]
  have hX : EncIs w r v = fun e w' => ∃ (a' : Option Addr) (c' : Nat), e = .returned (.tuple #[.agg (f3 r.kind v a' (bodyF r v).length c'), .int .i64 0]) ∧ FreshB w w' (.slice a' (bodyF r v).length c') (bodyF r v) := by
    funext e w'
    unfold EncIs encK encV encB
    rw [if_pos he, if_pos he, if_pos he, he]
  obtain ⟨W1, hW1⟩ : ∃ W, w.alloc (.cells (rcs r a cap) 29) = W := ⟨_, rfl⟩
  obtain ⟨W2, hW2⟩ : ∃ W, W1.alloc (.cells #[.int .i64 0, .int .i64 0, .slice none 0 0] 39) = W := ⟨_, rfl⟩
  have t1 : Touch w W1 (fun _ => False) := hW1 ▸ (Touch.refl _ _).alloc _
  have t2 : Touch W1 W2 (fun _ => False) := hW2 ▸ (Touch.refl _ _).alloc _
  have HB := Lib.hid (t2.keeps (hW1 ▸ heap_alloc_new w _ : W1.heap[w.heap.size]? = some (.cells (rcs r a cap) 29 (0, 0))) (fun h => h))
  have HF : RowKit.Hid (W2.heap[W1.heap.size]? = some (.cells (f3 0 0 none 0 0) 39 (0, 0))) := Lib.hid (hW2 ▸ heap_alloc_new W1 _)
  have HT := Lib.hid (t1.trans t2 (fun _ _ h => h))
  have HR := Lib.hid ((hr.still t1).still t2)
  have HRL : RowKit.Hid (∀ x, a = some x → r.bs.length = 0 ∨ x.block < w.heap.size) := Lib.hid (RowS.lt hr)
  have HIR := Lib.hid infoRec
  have HIF := Lib.hid infoFr
  have HSZ : RowKit.Hid (w.heap.size < W1.heap.size) := Lib.hid (by rw [← hW1]; simp)
  have HSZ2 : RowKit.Hid (W1.heap.size < W2.heap.size) := Lib.hid (by rw [← hW2]; simp)
  have HM : RowKit.Hid (Calls Try.prog 18 #[.agg (rcs r a cap)] W2 fun e w' => e = .returned (.bool true) ∧ Touch W2 w' (fun _ => False)) := Lib.hid (hm ▸ mayR_any r a cap W2 HR.out)
  have HV : RowKit.Hid (∀ w, Calls Try.prog 50 #[.int .i64 v] w fun e w' => e = .returned (.bool true) ∧ w = w') := Lib.hid (fun w => (isVersion_any v w).mono fun e w' h => ⟨hv ▸ h.1, h.2.symm⟩)
  have HMB := Lib.hid hm
  have HVB := Lib.hid hv
  have HX := Lib.hid hX
  have HOK := Lib.hid ok
  have HL := Lib.hid hl
  generalize EncIs w r v = X at *
  clear hX hr ok he hv hm hl t1 t2
  simp only [rcs] at hW1
  simp only [rcs]
  go_enter Try.func24, Try.ntmps24
  go_wp2_with (first
    | (go_at_call 50; (with_reducible refine (HV.out _).mono ?_); rintro e w' ⟨rfl, rfl⟩)
    | (refine wpList_load_row rfl 29 (.tmp 2) rfl w.heap.size rfl _ _ _ _ HB.out Try.underlying29 rfl HIR.out ?_)
    | (go_at_call 18; (refine HM.out.mono ?_); rintro e w3 ⟨rfl, t3⟩; have t4 := (Touch.refl w3 (fun _ => False)).alloc (.cells #[.slice none 0 0] 70); have HWE : RowKit.Hid (WrE (w3.alloc (.cells #[.slice none 0 0] 70)) w3.heap.size w3.heap.size []) := Lib.hid ⟨by simp, _, ⟨⟨_, heap_alloc_new w3 _⟩, Nat.le_refl _, OwnB.nil _ _ _, by simp [Value.ownBlock]⟩⟩; have HF := Lib.hid ((t3.trans t4 (fun _ _ h => h)).keeps HF.out (fun h => h)); have HB := Lib.hid ((t3.trans t4 (fun _ _ h => h)).keeps HB.out (fun h => h)); have HR := Lib.hid ((HR.out.still t3).still t4); have HT := Lib.hid ((HT.out.trans t3 (fun _ _ h => h)).trans t4 (fun _ _ h => h)); have HSW := Lib.hid t3.size; clear t3 t4)
    | (go_at_call 52; (refine (wcalls_any w3.heap.size _).mono ?_); rintro e w4 ⟨rfl, t4⟩; have HWE := Lib.hid (HWE.out.still t4); have HF := Lib.hid (t4.keeps HF.out (fun h => h)); have HB := Lib.hid (t4.keeps HB.out (fun h => h)); have HR := Lib.hid (HR.out.still t4); have HT := Lib.hid (HT.out.trans t4 (fun _ _ h => h)); clear t4)
    | (go_at_call 53; (refine (wwalk_any w3.heap.size w3.heap.size w.heap.size (fun _ => False) [] r a cap v HVB.out HMB.out _ HWE.out.toD HB.out (by have := HSW.out; have := HSZ.out; have := HSZ2.out; omega) HR.out (fun x hx => (HRL.out x hx).imp id (fun h => by have := HSW.out; have := HSZ.out; have := HSZ2.out; omega)) HOK.out (by simp)).mono ?_); rintro e w5 ⟨rfl, h1, h2⟩; have HWE := Lib.hid h1.toE; have HF := Lib.hid (h2.keeps HF.out (fun h => absurd h.1 (by have := HSW.out; have := HSZ2.out; omega))); have HB := Lib.hid (h2.keeps HB.out (fun h => absurd h.1 (by have := HSW.out; have := HSZ.out; have := HSZ2.out; omega))); have HT := Lib.hid (HT.out.trans h2 (fun k hk h => by (have := h.1; have := HSW.out; have := HSZ.out; have := HSZ2.out; omega))); clear h1 h2))
  have td := (Touch.refl w5 (fun _ => False)).drew
  have HWE := Lib.hid (HWE.out.still td)
  have HF := Lib.hid (td.keeps HF.out (fun h => h))
  have HB := Lib.hid (td.keeps HB.out (fun h => h))
  have HT := Lib.hid (HT.out.trans td (fun _ _ h => h))
  have hwl : (bodyF r v).length ≤ 140737488355328 := by have := HL.out; omega
  have HBY := Lib.hid (e_wBytes _ _ _ _ HWE.out (by simpa using hwl) (bodyF r v).length rfl)
  simp only [List.nil_append] at HBY
  clear td hwl HR
  have k0 : w5.drew.cell? ⟨w.heap.size, 0, none⟩ = some (.int .i64 r.kind) := cell_of_cells HB.out 0
  have g0 : w5.drew.cell? ⟨W1.heap.size, 0, none⟩ = some (.int .i64 0) := cell_of_cells HF.out 0
  have g1 : w5.drew.cell? ⟨W1.heap.size, 1, none⟩ = some (.int .i64 0) := cell_of_cells HF.out 1
  have g2 : w5.drew.cell? ⟨W1.heap.size, 2, none⟩ = some (.slice none 0 0) := cell_of_cells HF.out 2
  have gf := free_of_cells HF.out
  have HLT := Lib.hid (heap_lt HF.out)
  go_region_with (((go_at_call 54; refine HBY.out.mono ?_; rintro e w6 ⟨a6, c6, rfl, hf6⟩; have t6 := hf6.2; have HF := Lib.hid (t6.keeps HF.out (fun h => h)); have HB := Lib.hid (t6.keeps HB.out (fun h => h)); have HFR := Lib.hid hf6; clear k0 g0 g1 g2 gf hf6 t6; have k0 := cell_of_cells HB.out 0; simp [rcs] at k0; have g0 := cell_of_cells HF.out 0; have g1 := cell_of_cells HF.out 1; have g2 := cell_of_cells HF.out 2; simp [f3] at g0 g1 g2; have gf := free_of_cells HF.out)))
  all_goals (
    have hs := heap_setCell_same _ W1.heap.size 2 _ _ (.slice a6 (bodyF r v).length c6) (heap_setCell_same _ W1.heap.size 1 _ _ (.int .i64 v) (heap_setCell_same w6 W1.heap.size 0 _ _ (.int .i64 r.kind) HF.out))
    have HS : RowKit.Hid ((((w6.setCell ⟨W1.heap.size, 0, none⟩ (.int .i64 r.kind)).setCell ⟨W1.heap.size, 1, none⟩ (.int .i64 v)).setCell ⟨W1.heap.size, 2, none⟩ (.slice a6 (bodyF r v).length c6)).heap[W1.heap.size]? = some (.cells (f3 r.kind v a6 (bodyF r v).length c6) 39 (0, 0))) := Lib.hid hs
    have tS : Touch w6 (((w6.setCell ⟨W1.heap.size, 0, none⟩ (.int .i64 r.kind)).setCell ⟨W1.heap.size, 1, none⟩ (.int .i64 v)).setCell ⟨W1.heap.size, 2, none⟩ (.slice a6 (bodyF r v).length c6)) (fun k => k = W1.heap.size) := (((Touch.refl w6 (fun k => k = W1.heap.size)).into 0 _).into 1 _).into 2 _
    have HFP := Lib.hid (HFR.out.past HT.out tS (fun k hk => by have := HLT.out; have := HSZ.out; omega))
    clear hs tS k0 g0 g1 g2 gf
    go_wp2_with fail
    refine ret_row1 rfl rfl W1.heap.size 39 (f3 r.kind v a6 (bodyF r v).length c6) (0, 0) _ rfl HS.out Try.underlying39 rfl infoFr _ rfl ?_
    rw [HX.out]
    exact ⟨a6, c6, rfl, HFP.out⟩)
theorem enc_any (r : RecD) (a : Option Addr) (cap : Nat) (v : Int) (w : World) (hr : RowK w a r.bs.length cap r.bs) (ok : RecOk r) :
    Calls Try.prog 24 #[.agg (rcs r a cap), .int .i64 v] w (EncIs w r v) := by
  by_cases he : encE r v = 0
  · have h : verB v = true ∧ mayRB r = true := by
      unfold encE at he
      by_cases hv : verB v = true
      · rw [if_pos hv] at he
        by_cases hm : mayRB r = true
        · exact ⟨hv, hm⟩
        · rw [if_neg hm] at he; omega
      · rw [if_neg hv] at he; omega
    exact enc_good r a cap v w hr ok h.1 h.2
  · exact enc_bad r a cap v w hr he
end Go.Proofs.Ytbklngcocbnijaa
