/- Manifests: what Decode of package manifest answers. -/
import Derived.Test.YtibpnlhdpdfhiaaDoorManBodyZ
import Derived.Test.YtibpnlhdpdfhiaaDoorFrmScanZ
import Derived.Test.YtibpnlhdpdfhiaaDoorGAZ
set_option linter.unusedVariables false
set_option linter.unusedSimpArgs false
namespace Go.Proofs.YtibpnlhdpdfhiaaDoor
open Go.RowKit

def dmE (xs : List Nat) : Nat :=
  if tkE xs ≠ 0 then tkE xs else if tkM xs ≠ xs.length ∨ tkK xs ≠ 100 then 3 else if manV (tkV xs) = false then 10
  else if wholeM (tkY xs) = true ∧ mayM (tkV xs) (valN 4 (tkY xs) : Nat) (readM (tkY xs)) = true then 0 else 3
def dmV (xs : List Nat) : Int := if dmE xs = 0 then tkV xs else 0
def dmN (xs : List Nat) : Int := if dmE xs = 0 then (valN 4 (tkY xs) : Nat) else 0
def dmZ (xs : List Nat) : List Int := if dmE xs = 0 then readM (tkY xs) else []
/-- What Decode hands back. -/
def DecMIs (w w' : World) (xs : List Nat) (e : Ending) : Prop :=
  ∃ a' c', e = .returned (.tuple #[.agg (mcs (dmV xs) (dmN xs) a' (dmZ xs).length c'), .int .i64 (dmE xs : Nat)]) ∧ RowI w' a' (dmZ xs).length c' (dmZ xs) ∧ (∀ x, a' = some x → w.heap.size ≤ x.block) ∧ Touch w w' (fun _ => False)
theorem RowI.none (w : World) : RowI w Option.none 0 0 [] := ⟨rfl, Nat.le_refl _, by decide, (fun z hz => by simp at hz), .inl rfl⟩
theorem RowI.touch' {w w' : World} {a : Option Addr} {len cap : Nat} {zs : List Int} {S : Nat → Prop} (h : RowI w a len cap zs) (t : Touch w w' S) (h1 : ∀ x, a = some x → ¬ S x.block) : RowI w' a len cap zs := by
  obtain ⟨g1, g2, g3, g4, g5⟩ := h
  refine ⟨g1, g2, g3, g4, ?_⟩
  rcases g5 with g5 | ⟨b, off, ha, hlt, hc⟩
  · exact .inl g5
  · refine .inr ⟨b, off, ha, Nat.lt_of_lt_of_le hlt t.size, fun i hi => ?_⟩
    exact (t.cell (p := ⟨b, off + i, Option.none⟩) hlt (h1 ⟨b, off, Option.none⟩ ha)).trans (hc i hi)
theorem DecMIs.bad {w w' : World} {xs : List Nat} {n : Nat} (hn : dmE xs = n) (h0 : n ≠ 0) (t : Touch w w' (fun _ => False)) : DecMIs w w' xs (.returned (.tuple #[.agg #[.int .i64 0, .int .i64 0, .slice none 0 0], .int .i64 (n : Nat)])) := by
  have hn' : ¬ dmE xs = 0 := by omega
  have e1 : dmV xs = 0 := by unfold dmV; rw [if_neg hn']
  have e2 : dmN xs = 0 := by unfold dmN; rw [if_neg hn']
  have e3 : dmZ xs = [] := by unfold dmZ; rw [if_neg hn']
  refine ⟨none, 0, ?_, ?_, fun x hx => by (cases hx), t⟩
  · rw [e1, e2, e3, hn]; rfl
  · rw [e3]; exact RowI.none _
theorem dm_take {xs : List Nat} (h : tkE xs ≠ 0) : dmE xs = tkE xs := by unfold dmE; rw [if_pos h]
theorem dm_form {xs : List Nat} (h : tkE xs = 0) (h2 : tkM xs ≠ xs.length ∨ tkK xs ≠ 100) : dmE xs = 3 := by unfold dmE; rw [if_neg (by simpa using h), if_pos h2]
theorem dm_ver {xs : List Nat} (h : tkE xs = 0) (h2 : tkM xs = xs.length) (h3 : tkK xs = 100) (h4 : manV (tkV xs) = false) : dmE xs = 10 := by
  unfold dmE; rw [if_neg (by simpa using h), if_neg (by omega), if_pos h4]
theorem dm_bad {xs : List Nat} (h : tkE xs = 0) (h2 : tkM xs = xs.length) (h3 : tkK xs = 100) (h4 : manV (tkV xs) = true) (h5 : ¬ (wholeM (tkY xs) = true ∧ mayM (tkV xs) (valN 4 (tkY xs) : Nat) (readM (tkY xs)) = true)) : dmE xs = 3 := by
  unfold dmE; rw [if_neg (by simpa using h), if_neg (by omega), if_neg (by rw [h4]; decide), if_neg h5]
theorem dm_good {xs : List Nat} (h : tkE xs = 0) (h2 : tkM xs = xs.length) (h3 : tkK xs = 100) (h4 : manV (tkV xs) = true) (h5 : wholeM (tkY xs) = true ∧ mayM (tkV xs) (valN 4 (tkY xs) : Nat) (readM (tkY xs)) = true) : dmE xs = 0 := by
  unfold dmE; rw [if_neg (by simpa using h), if_neg (by omega), if_neg (by rw [h4]; decide), if_pos h5]
theorem readM_length (xs : List Nat) : (readM xs).length = cntM xs := segsV_length _ _
theorem DecMIs.good {w w' : World} {xs : List Nat} {V : Int} {N : Nat} {Z : List Int} {L : Nat} {a' : Option Addr} {c' : Nat} (hn : dmE xs = 0) (hV : (tkV xs : Int) = V) (hN : valN 4 (tkY xs) = N) (hZ : readM (tkY xs) = Z) (hL : Z.length = L) (hr : RowI w' a' L c' Z) (ha : ∀ x, a' = some x → w.heap.size ≤ x.block) (t : Touch w w' (fun _ => False)) :
    DecMIs w w' xs (.returned (.tuple #[.agg #[.int .i64 V, .int .i64 (N : Nat), .slice a' L c'], .int .i64 0])) := by
  have e1 : dmV xs = V := by unfold dmV; rw [if_pos hn, hV]
  have e2 : dmN xs = N := by unfold dmN; rw [if_pos hn, hN]
  have e3 : dmZ xs = Z := by unfold dmZ; rw [if_pos hn, hZ]
  refine ⟨a', c', ?_, ?_, ha, t⟩
  · rw [e1, e2, e3, hn, hL]; rfl
  · rw [e3, hL]; exact hr

set_option maxRecDepth 20000 in
set_option maxHeartbeats 8000000 in
theorem mdec_any (a : Option Addr) (len cap : Nat) (xs : List Nat) (w : World) (hr : RowB w a len cap xs) (hlen : len ≤ 140737488355328) :
    Calls Tryd.prog 19 #[.slice a len cap] w fun e w' => DecMIs w w' xs e := by
  have hxl := hr.1
  have hcap := hr.2.2.1
  have hcap1 := hr.2.1
  have hsm := hr.2.2.2.2.1
  obtain ⟨W1, hW1⟩ : ∃ W, w.alloc (.cells (mcs 0 0 none 0 0) 24) = W := ⟨_, rfl⟩
  have t1 : Touch w W1 (fun _ => False) := hW1 ▸ (Touch.refl _ _).alloc _
  have hz1 : W1.heap[w.heap.size]? = some (.cells (mcs 0 0 none 0 0) 24 (0, 0)) := hW1 ▸ heap_alloc_new w _
  have HTK := Lib.hid (take_any a len cap xs W1 (hr.touch t1 (fun _ _ => .inr (fun h => h))) hlen)
  have HZ := Lib.hid hz1
  have HT1 := Lib.hid t1
  have HIM := Lib.hid infoManB
  have HIF := Lib.hid infoF
  have HXL := Lib.hid hxl
  have HSM := Lib.hid hsm
  simp only [mcs] at hW1
  have HW1 := Lib.hid hW1
  clear hr t1 hz1 hW1 hsm hxl
  go_enter Tryd.func19, Tryd.ntmps19
  go_upto_region 1 with (fail)
  rw [HW1.out]
  go_upto_region 2 with (go_at_call 46; (with_reducible refine HTK.out.mono ?_); rintro e w2 ⟨a2, c2, rfl, hf2⟩; simp only [fcs]; have HZ := Lib.hid (hf2.2.keeps HZ.out (fun h => h)); have HRB := Lib.hid hf2.row'.2; have HT2 := Lib.hid hf2.2; clear hf2)
  obtain ⟨W3, hW3⟩ : ∃ W, w2.alloc (.cells (fcs (tkK xs : Nat) (tkV xs : Nat) a2 (tkY xs).length c2) 33) = W := ⟨_, rfl⟩
  have t3 : Touch w2 W3 (fun _ => False) := hW3 ▸ (Touch.refl _ _).alloc _
  have hf3 : W3.heap[w2.heap.size]? = some (.cells (fcs (tkK xs : Nat) (tkV xs : Nat) a2 (tkY xs).length c2) 33 (0, 0)) := hW3 ▸ heap_alloc_new w2 _
  have HZ := Lib.hid (t3.keeps HZ.out (fun h => h))
  have HRB := Lib.hid (HRB.out.touch t3 (fun _ _ => .inr (fun h => h)))
  have HT3 := Lib.hid ((HT1.out.trans HT2.out (fun _ _ h => h)).trans t3 (fun _ _ h => h))
  have HSZ : RowKit.Hid (w.heap.size < w2.heap.size ∧ w2.heap.size < W3.heap.size) := Lib.hid ⟨by have h1 : w.heap.size < W1.heap.size := (by rw [← HW1.out]; simp); exact Nat.lt_of_lt_of_le h1 HT2.out.size, by rw [← hW3]; simp⟩
  have HF3 : RowKit.Hid (W3.heap[w2.heap.size]? = some (.cells #[.int .i64 (tkK xs : Nat), .int .i64 (tkV xs : Nat), .slice a2 (tkY xs).length c2] 33 (0, 0))) := Lib.hid hf3
  have HC3 : RowKit.Hid (W3.cell? ⟨w2.heap.size, 0, none⟩ = some (.int .i64 (tkK xs : Nat)) ∧ W3.cell? ⟨w2.heap.size, 1, none⟩ = some (.int .i64 (tkV xs : Nat)) ∧ W3.cell? ⟨w2.heap.size, 2, none⟩ = some (.slice a2 (tkY xs).length c2)) := Lib.hid ⟨cell_of_cells hf3 0, cell_of_cells hf3 1, cell_of_cells hf3 2⟩
  simp only [fcs] at hW3
  rw [hW3]
  clear t3 hf3 hW3 HW1 HTK
  obtain ⟨c0, c1, c3⟩ := HC3.out
  by_cases he : tkE xs = 0
  case neg =>
    have hb : ((tkE xs : Int) != 0) = true := bne_iff_ne.2 (by omega)
    have HD := Lib.hid (dm_take he)
    have HE := Lib.hid he
    clear he
    generalize tkE xs = E at *
    go_wp2_with ((refine store_row rfl 24 (.tmp 2) (.tmp 18) rfl w.heap.size (mcs 0 0 none 0 0) rfl rfl _ _ HZ.out HIM.out rfl rfl ?_))
    refine ret_row1 rfl rfl w.heap.size _ _ _ _ rfl (setRow_heap _ _ _ _ _ _ HZ.out) Tryd.underlying24 rfl HIM.out _ rfl ?_
    exact DecMIs.bad HD.out HE.out (HT3.out.setRow _ _ (fun h => absurd h (Nat.lt_irrefl _)))
  case pos =>
  have hb : ((tkE xs : Int) != 0) = false := bne_eq_false_iff_eq.2 (by omega)
  have hml := tk_len he
  have HE := Lib.hid he
  have hmle : tkM xs ≤ len := by rw [hml.1, ← HXL.out]; exact hml.2
  have HFM := Lib.hid (dm_form he)
  by_cases hm : tkM xs = len
  case neg =>
    have HD := Lib.hid (HFM.out (.inl (by rw [HXL.out]; exact hm)))
    have hlt : (tkM xs : Int) < len := by omega
    clear HFM he hml
    go_wp2_with ((refine store_row rfl 24 (.tmp 2) (.tmp 30) rfl w.heap.size (mcs 0 0 none 0 0) rfl rfl _ _ HZ.out HIM.out rfl rfl ?_))
    refine ret_row1 rfl rfl w.heap.size _ _ _ _ rfl (setRow_heap _ _ _ _ _ _ HZ.out) Tryd.underlying24 rfl HIM.out _ rfl ?_
    exact DecMIs.bad HD.out (by decide) (HT3.out.setRow _ _ (fun h => absurd h (Nat.lt_irrefl _)))
  case pos =>
  have hlt : ¬ (tkM xs : Int) < len := by omega
  by_cases hk : tkK xs = 100
  case neg =>
    have HD := Lib.hid (HFM.out (.inr hk))
    have hb2 : ((tkK xs : Int) != 100) = true := bne_iff_ne.2 (by omega)
    clear HFM he hml
    go_wp2_with ((refine store_row rfl 24 (.tmp 2) (.tmp 30) rfl w.heap.size (mcs 0 0 none 0 0) rfl rfl _ _ HZ.out HIM.out rfl rfl ?_))
    refine ret_row1 rfl rfl w.heap.size _ _ _ _ rfl (setRow_heap _ _ _ _ _ _ HZ.out) Tryd.underlying24 rfl HIM.out _ rfl ?_
    exact DecMIs.bad HD.out (by decide) (HT3.out.setRow _ _ (fun h => absurd h (Nat.lt_irrefl _)))
  case pos =>
  have hb2 : ((tkK xs : Int) != 100) = false := bne_eq_false_iff_eq.2 (by omega)
  have HMX : RowKit.Hid (tkM xs = xs.length) := Lib.hid (by rw [HXL.out]; exact hm)
  have HK := Lib.hid hk
  cases hv : manV (tkV xs) with
  | false =>
    have HD := Lib.hid (dm_ver HE.out HMX.out HK.out hv)
    have HV : RowKit.Hid (∀ W, Calls Tryd.prog 42 #[.int .i64 (tkV xs : Nat)] W fun e w' => e = .returned (.bool false) ∧ W = w') := Lib.hid (fun W => by have := manV_any (tkV xs) W; rwa [hv] at this)
    clear HFM he hml hm hk hv hmle
    go_wp2_with (first | (refine store_row rfl 24 (.tmp 2) (.tmp 36) rfl w.heap.size (mcs 0 0 none 0 0) rfl rfl _ _ HZ.out HIM.out rfl rfl ?_) | (go_at_call 42; (with_reducible refine (HV.out _).mono ?_); rintro e w9 ⟨rfl, rfl⟩))
    refine ret_row1 rfl rfl w.heap.size _ _ _ _ rfl (setRow_heap _ _ _ _ _ _ HZ.out) Tryd.underlying24 rfl HIM.out _ rfl ?_
    exact DecMIs.bad HD.out (by decide) (HT3.out.setRow _ _ (fun h => absurd h (Nat.lt_irrefl _)))
  | true =>
    have HGD := Lib.hid (dm_good HE.out HMX.out HK.out hv)
    have HBD := Lib.hid (dm_bad HE.out HMX.out HK.out hv)
    have HV : RowKit.Hid (∀ W, Calls Tryd.prog 42 #[.int .i64 (tkV xs : Nat)] W fun e w' => e = .returned (.bool true) ∧ W = w') := Lib.hid (fun W => by have := manV_any (tkV xs) W; rwa [hv] at this)
    have hy : (tkY xs).length ≤ 140737488355328 := by
      have e9 : tkY xs = (xs.take (16 + tkN xs)).drop 16 := by unfold tkY; rw [if_pos HE.out]
      have h9 := Nat.min_le_right (16 + tkN xs) xs.length
      rw [e9, List.length_drop, List.length_take, HXL.out]
      rw [HXL.out] at h9
      omega
    have HBY := Lib.hid (body_any (tkK xs : Nat) (tkV xs : Nat) a2 _ c2 (tkY xs) W3 HRB.out hy)
    have HRL := Lib.hid (readM_length (tkY xs))
    have HVE : RowKit.Hid (((tkV xs : Nat) : Int) = ((tkV xs : Nat) : Int)) := Lib.hid rfl
    clear HFM he hml hm hk hv hmle hy
    go_upto_region 9 with (first
      | (go_at_call 42; (with_reducible refine (HV.out _).mono ?_); rintro e w9 ⟨rfl, rfl⟩)
      | (refine wpList_load_row rfl 33 (.tmp 4) rfl w2.heap.size rfl _ _ _ _ HF3.out Tryd.underlying33 rfl HIF.out ?_)
      | (go_at_call 47; (with_reducible refine HBY.out.mono ?_); rintro e w5 ⟨a5, c5, rfl, hi5, hb5, t5⟩; simp only [mcs]; have HRI := Lib.hid hi5; have HAB := Lib.hid hb5; have HT5 := Lib.hid t5; have HZ := Lib.hid (t5.keeps HZ.out (fun h => h)); clear hi5 hb5 t5 c0 c1 c3))
    obtain ⟨W6, hW6⟩ : ∃ W, w5.alloc (.cells (mcs (tkV xs : Nat) (valN 4 (tkY xs) : Nat) a5 (cntM (tkY xs)) c5) 24) = W := ⟨_, rfl⟩
    have t6 : Touch w5 W6 (fun _ => False) := hW6 ▸ (Touch.refl _ _).alloc _
    have hm6 : W6.heap[w5.heap.size]? = some (.cells (mcs (tkV xs : Nat) (valN 4 (tkY xs) : Nat) a5 (cntM (tkY xs)) c5) 24 (0, 0)) := hW6 ▸ heap_alloc_new w5 _
    have HM6 : RowKit.Hid (W6.heap[w5.heap.size]? = some (.cells #[.int .i64 (tkV xs : Nat), .int .i64 (valN 4 (tkY xs) : Nat), .slice a5 (cntM (tkY xs)) c5] 24 (0, 0))) := Lib.hid hm6
    have HZ := Lib.hid (t6.keeps HZ.out (fun h => h))
    have HRI := Lib.hid (HRI.out.keep t6)
    have HT6 := Lib.hid ((HT3.out.trans HT5.out (fun _ _ h => h)).trans t6 (fun _ _ h => h))
    simp only [mcs] at hW6
    rw [hW6]
    have HMA := Lib.hid (mmay_any (tkV xs : Nat) (valN 4 (tkY xs) : Nat) a5 (cntM (tkY xs)) c5 (readM (tkY xs)) W6 HRI.out)
    have HAB2 : RowKit.Hid (∀ x, a5 = some x → w.heap.size < x.block) := Lib.hid (fun x hx => by have h1 := HAB.out x hx; have h2 := HSZ.out; omega)
    clear t6 hm6 hW6 HBY HV HF3 HC3 HAB
    have HIM6 : RowKit.Hid ((Tryd.prog.info? 24).map (·.size) = some 3) := Lib.hid infoManB
    cases hw : wholeM (tkY xs) with
    | false =>
      have HD := Lib.hid (HBD.out (fun h => by rw [hw] at h; cases h.1))
      clear HGD HBD hw
      go_wp2_with ((refine store_row rfl 24 (.tmp 2) (.tmp 49) rfl w.heap.size (mcs 0 0 none 0 0) rfl rfl _ _ HZ.out HIM.out rfl rfl ?_))
      refine ret_row1 rfl rfl w.heap.size _ _ _ _ rfl (setRow_heap _ _ _ _ _ _ HZ.out) Tryd.underlying24 rfl HIM.out _ rfl ?_
      exact DecMIs.bad HD.out (by decide) (HT6.out.setRow _ _ (fun h => absurd h (Nat.lt_irrefl _)))
    | true =>
      cases hm : mayM (tkV xs : Nat) (valN 4 (tkY xs) : Nat) (readM (tkY xs)) with
      | false =>
        have HD := Lib.hid (HBD.out (fun h => by rw [hm] at h; cases h.2))
        rw [hm] at HMA
        clear HGD HBD hw hm
        go_wp2_with (first | (refine store_row rfl 24 (.tmp 2) (.tmp 49) rfl w.heap.size (mcs 0 0 none 0 0) rfl rfl _ _ HZ.out HIM.out rfl rfl ?_) | (refine load_rowG rfl 24 (.tmp 7) rfl w5.heap.size rfl _ _ _ _ HM6.out Tryd.underlying24 rfl HIM6.out ?_) | (go_at_call 13; (with_reducible refine HMA.out.mono ?_); rintro e w7 ⟨rfl, t7⟩; have HZ := Lib.hid (t7.keeps HZ.out (fun h => h)); have HM6 := Lib.hid (t7.keeps HM6.out (fun h => h)); have HRI := Lib.hid (HRI.out.keep t7); have HT7 := Lib.hid (HT6.out.trans t7 (fun _ _ h => h)); clear t7))
        refine ret_row1 rfl rfl w.heap.size _ _ _ _ rfl (setRow_heap _ _ _ _ _ _ HZ.out) Tryd.underlying24 rfl HIM.out _ rfl ?_
        exact DecMIs.bad HD.out (by decide) (HT7.out.setRow _ _ (fun h => absurd h (Nat.lt_irrefl _)))
      | true =>
        have HD := Lib.hid (HGD.out ⟨hw, hm⟩)
        rw [hm] at HMA
        clear HGD HBD hw hm
        generalize hV : ((tkV xs : Nat) : Int) = V at *
        generalize hN : valN 4 (tkY xs) = N at *
        generalize hZ9 : readM (tkY xs) = Z at *
        generalize cntM (tkY xs) = L at *
        have HVV := Lib.hid hV
        have HNN := Lib.hid hN
        have HZZ := Lib.hid hZ9
        clear hV hN hZ9
        go_wp2_with (first | (refine store_row rfl 24 (.tmp 2) (.tmp 50) rfl w.heap.size (mcs V N a5 L c5) rfl rfl _ _ HZ.out HIM.out rfl rfl ?_) | (refine load_rowG rfl 24 (.tmp 7) rfl w5.heap.size rfl _ _ _ _ HM6.out Tryd.underlying24 rfl HIM6.out ?_) | (go_at_call 13; (with_reducible refine HMA.out.mono ?_); rintro e w7 ⟨rfl, t7⟩; have HZ := Lib.hid (t7.keeps HZ.out (fun h => h)); have HM6 := Lib.hid (t7.keeps HM6.out (fun h => h)); have HRI := Lib.hid (HRI.out.keep t7); have HT7 := Lib.hid (HT6.out.trans t7 (fun _ _ h => h)); clear t7) | (refine wpList_load_row rfl 24 (.tmp 7) rfl w5.heap.size rfl _ _ _ _ HM6.out Tryd.underlying24 rfl HIM6.out ?_))
        refine ret_row1 rfl rfl w.heap.size _ _ _ _ rfl (setRow_heap _ _ _ _ _ _ HZ.out) Tryd.underlying24 rfl HIM.out _ rfl ?_
        refine DecMIs.good HD.out HVV.out HNN.out HZZ.out HRL.out ?_ (fun x hx => Nat.le_of_lt (HAB2.out x hx)) (HT7.out.setRow _ _ (fun h => absurd h (Nat.lt_irrefl _)))
        exact HRI.out.touch' ((Touch.refl _ (fun k => k = w.heap.size)).setRow w.heap.size (mcs V N a5 L c5) (fun _ => rfl)) (fun x hx e => by have h9 := HAB2.out x hx; have e : x.block = w.heap.size := e; omega)
end Go.Proofs.YtibpnlhdpdfhiaaDoor
