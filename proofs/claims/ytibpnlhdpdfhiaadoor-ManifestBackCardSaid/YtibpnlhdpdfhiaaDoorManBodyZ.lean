/- What package manifest reads of a frame's body. -/
import Derived.Test.YtibpnlhdpdfhiaaDoorManZ
import Derived.Test.YtibpnlhdpdfhiaaDoorCalmTZ
import Derived.Test.YtibpnlhdpdfhiaaDoorRecRdZ
set_option linter.unusedVariables false
set_option linter.unusedSimpArgs false
namespace Go.Proofs.YtibpnlhdpdfhiaaDoor
open Go.RowKit

def segsV : Nat → List Nat → List Int
  | 0, _ => []
  | k + 1, xs => (valN 4 xs : Int) :: segsV k (nxtX 4 xs)
theorem segsV_length : ∀ n xs, (segsV n xs).length = n
  | 0, _ => rfl
  | n + 1, xs => by simp [segsV, segsV_length n]
theorem segsV_snoc : ∀ n xs, segsV (n + 1) xs = segsV n xs ++ [(valN 4 (nxtX (4 * n) xs) : Int)]
  | 0, xs => by simp [segsV, nxtX_zero]
  | n + 1, xs => by
    have h := segsV_snoc n (nxtX 4 xs)
    show (valN 4 xs : Int) :: segsV (n + 1) (nxtX 4 xs) = _
    rw [h, nxtX_nxtX]
    have e : 4 + 4 * n = 4 * (n + 1) := by omega
    rw [e]; rfl
theorem valN4 (xs : List Nat) (h : ∀ x ∈ xs, x < 256) : valN 4 xs < 4294967296 := by
  have := valN_lt 4 xs h
  have e : (256 : Nat) ^ 4 = 4294967296 := by decide
  omega
theorem valN2 (xs : List Nat) (h : ∀ x ∈ xs, x < 256) : valN 2 xs < 65536 := by
  have := valN_lt 2 xs h
  have e : (256 : Nat) ^ 2 = 65536 := by decide
  omega
theorem nxtX_small (n : Nat) (xs : List Nat) (h : ∀ x ∈ xs, x < 256) : ∀ x ∈ nxtX n xs, x < 256 := by
  intro x hx; unfold nxtX at hx; split at hx
  · exact h x (List.mem_of_mem_drop hx)
  · cases hx
theorem segsV_bound : ∀ n xs, (∀ x ∈ xs, x < 256) → ∀ z ∈ segsV n xs, 0 ≤ z ∧ z ≤ 4294967295
  | 0, _, _, z, h => by cases h
  | n + 1, xs, hx, z, h => by
    rcases List.mem_cons.1 (show z ∈ (valN 4 xs : Int) :: segsV n (nxtX 4 xs) from h) with rfl | h
    · have := valN4 xs hx; omega
    · exact segsV_bound n _ (nxtX_small 4 xs hx) z h
/-- How many segments the bytes say; the segments; was it all. -/
def cntM (xs : List Nat) : Nat := valN 2 (nxtX 4 xs)
def readM (xs : List Nat) : List Int := segsV (cntM xs) (nxtX 6 xs)
def endM (xs : List Nat) : Int := endOf (nxtX (6 + 4 * cntM xs) xs).length (nxtE (6 + 4 * cntM xs) xs 0)
def wholeM (xs : List Nat) : Bool := endM xs == 0
theorem infoInt : (Tryd.prog.info? 3).map (fun i => (i.zero, i.size, i.bytes)) = some (some (.int .i64 0), 1, 8) := by kernel_rfl
theorem infoManB : (Tryd.prog.info? 24).map (·.size) = some 3 := by kernel_rfl
set_option maxRecDepth 20000 in
theorem enter_dU32 (u : Value) (w : World) : (callFunc 77 #[u]).run Tryd.prog w = .ok (.enter 77 #[u]) w := by kernel_rfl
set_option maxRecDepth 20000 in
theorem enter_dEnd (u : Value) (w : World) : (callFunc 79 #[u]).run Tryd.prog w = .ok (.enter 79 #[u]) w := by kernel_rfl
def oneI (z : Int) : List Value := [.int .i64 z]
theorem row_oneI (w : World) (z : Int) : RowS (w.alloc (.cells #[.int .i64 z] 3)) (some ⟨w.heap.size, 0, none⟩) 1 1 1 [oneI z] :=
  ((OwnS.lit w w.heap.size (Nat.le_refl _) 3 1 1 [oneI z] #[.int .i64 z] rfl rfl (by simp [oneI]) (by omega)).row').2.1
/-- A row of numbers of the call's own, as it is read. -/
theorem ownS_rowI {w : World} {base : Nat} {a : Option Addr} {n c : Nat} {zs : List Int} (h : OwnS w base 3 1 (.slice a n c) (zs.map oneI)) (hz : ∀ z ∈ zs, -9223372036854775808 ≤ z ∧ z ≤ 9223372036854775807) : RowI w a n c zs := by
  obtain ⟨h1, h2, h3⟩ := h.row'
  rw [List.length_map] at h1
  refine ⟨h1, h2.hcap, h2.hmax, hz, ?_⟩
  by_cases h0 : n = 0
  · exact .inl h0
  · obtain ⟨b, off, rfl⟩ := h2.some (by omega)
    exact .inr ⟨b, off, rfl, (h3 _ rfl).2, fun i hi => by
      have := h2.cell i (by rw [List.length_map]; exact hi) 0 (.int .i64 zs[i]) (by simp [oneI])
      rw [Nat.mul_one, Nat.add_zero] at this
      exact this⟩
/-- Where the reading of the segments is. -/
structure BodyAt (w W2 w4 : World) (G M : Nat) (v : Int) (xs : List Nat) (i : Value) (wr : World) (k : Nat) (a' : Option Addr) (c' : Nat) : Prop where
  le : k ≤ cntM xs
  ix : i = .int .i64 k
  hm : wr.heap[M]? = some (.cells (mcs v (valN 4 xs : Nat) a' k c') 24 (0, 0))
  hz : wr.heap[w.heap.size + 1]? = some (.cells (mcs 0 0 none 0 0) 24 (0, 0))
  rd : RdD wr G (fun k => k < W2.heap.size ∨ w4.heap.size ≤ k) (nxtX (6 + 4 * k) xs) (nxtE (6 + 4 * k) xs 0)
  ow : OwnS wr (M + 1) 3 1 (.slice a' k c') ((segsV k (nxtX 6 xs)).map oneI)
  tt : Touch w wr (fun _ => False)
def BodyIs (w w' : World) (v : Int) (xs : List Nat) (e : Ending) : Prop :=
  ∃ a' c', e = .returned (.tuple #[.agg (mcs v (valN 4 xs : Nat) a' (cntM xs) c'), .bool (wholeM xs)]) ∧ RowI w' a' (cntM xs) c' (readM xs) ∧ (∀ x, a' = some x → w.heap.size ≤ x.block) ∧ Touch w w' (fun _ => False)

set_option maxRecDepth 20000 in
set_option maxHeartbeats 8000000 in
theorem body_any (k v : Int) (a : Option Addr) (len cap : Nat) (xs : List Nat) (w : World) (hr : RowB w a len cap xs) (hlen : len ≤ 140737488355328) :
    Calls Tryd.prog 47 #[.agg #[.int .i64 k, .int .i64 v, .slice a len cap]] w fun e w' => BodyIs w w' v xs e := by
  have hsm := hr.2.2.2.2.1
  have hxl := hr.1
  subst hxl
  obtain ⟨W1, hW1⟩ : ∃ W, w.alloc (.cells #[.int .i64 k, .int .i64 v, .slice a xs.length cap] 33) = W := ⟨_, rfl⟩
  have t1 : Touch w W1 (fun _ => False) := hW1 ▸ (Touch.refl _ _).alloc _
  have hs1 : W1.heap.size = w.heap.size + 1 := by rw [← hW1]; simp
  have hf1 : W1.heap[w.heap.size]? = some (.cells #[.int .i64 k, .int .i64 v, .slice a xs.length cap] 33 (0, 0)) := hW1 ▸ heap_alloc_new w _
  obtain ⟨W2, hW2⟩ : ∃ W, W1.alloc (.cells (mcs 0 0 none 0 0) 24) = W := ⟨_, rfl⟩
  have t2 : Touch W1 W2 (fun _ => False) := hW2 ▸ (Touch.refl _ _).alloc _
  have hs2 : W2.heap.size = w.heap.size + 2 := by rw [← hW2]; simp [hs1]
  have hz2 : W2.heap[w.heap.size + 1]? = some (.cells (mcs 0 0 none 0 0) 24 (0, 0)) := by rw [← hs1]; exact hW2 ▸ heap_alloc_new W1 _
  have HF2 := Lib.hid (t2.keeps hf1 (fun h => h))
  have HZ2 := Lib.hid hz2
  have HT2 := Lib.hid (t1.trans t2 (fun _ _ h => h))
  have HS2 := Lib.hid hs2
  have HNR := Lib.hid (newreader_any a _ cap xs W2 (hr.touch HT2.out (fun _ _ => .inr (fun h => h))) hlen)
  have hv4 := valN4 xs hsm
  have hc2 : cntM xs < 65536 := valN2 _ (nxtX_small 4 xs hsm)
  have HXS := Lib.hid hsm
  have HIM := Lib.hid infoManB
  obtain ⟨c0, c1, c2⟩ : W2.cell? ⟨w.heap.size, 0, none⟩ = some (.int .i64 k) ∧ W2.cell? ⟨w.heap.size, 1, none⟩ = some (.int .i64 v) ∧ W2.cell? ⟨w.heap.size, 2, none⟩ = some (.slice a xs.length cap) := ⟨cell_of_cells HF2.out 0, cell_of_cells HF2.out 1, cell_of_cells HF2.out 2⟩
  simp only [mcs] at hW2
  have HW1 := Lib.hid hW1
  have HW2 := Lib.hid hW2
  clear hr t1 t2 hs1 hs2 hf1 hz2 hW1 hW2 hsm
  go_enter Tryd.func47, Tryd.ntmps47
  go_upto_region 1 with (fail)
  rw [HW1.out, HW2.out]
  go_wp2_with (go_at_call 76; go_loud ((with_reducible refine HNR.out.mono ?_); rintro e w4 ⟨u, rfl, G, aG, cG, rfl, hrd, t4, hg4, hA4⟩; have HRD : RowKit.Hid (RdD w4 G (fun k => k < W2.heap.size ∨ w4.heap.size ≤ k) xs 0) := Lib.hid (RdD.above (D := fun k => k < W2.heap.size) ⟨by omega, aG, cG, hrd, fun x hx => (hA4 x hx).imp id (fun h => by omega)⟩); have HGG := Lib.hid hg4; have HGL : RowKit.Hid (G < w4.heap.size) := Lib.hid HRD.out.lt; have HF4 := Lib.hid (t4.keeps HF2.out (fun h => h)); have HZ4 := Lib.hid (t4.keeps HZ2.out (fun h => h)); have HT4 := Lib.hid (HT2.out.trans t4 (fun _ _ h => h)); have HZS := Lib.hid t4.size; clear hrd t4 hg4 hA4 c0 c1 c2))
  have HCB : RowKit.Hid (∀ W, Touch w4 W (fun k => k = G) → W.cell? ⟨w.heap.size, 1, none⟩ = some (.int .i64 v)) := Lib.hid (fun W t => cell_of_cells (t.keeps HF4.out (fun e => by have := HGG.out; have := HS2.out; have e : w.heap.size = G := e; omega)) 1)
  have HWV : RowKit.Hid (IntKind.i64.wrap (valN 4 xs : Nat) = (valN 4 xs : Nat)) := Lib.hid (by rw [IntKind.wrap_i64]; omega)
  go_cut [5] (fun s5 wx => ∃ M, s5 = .pointer (some ⟨M, 0, none⟩) ∧ w4.heap.size ≤ M ∧ M < wx.heap.size ∧ wx.heap[M]? = some (.cells (mcs v (valN 4 xs : Nat) none 0 0) 24 (0, 0)) ∧ RdD wx G (fun k => k < W2.heap.size ∨ w4.heap.size ≤ k) (nxtX 4 xs) (nxtE 4 xs 0) ∧ Touch w4 wx (fun k => k = G))
  case first =>
    go_wp2_with fail
    have HDR : RowKit.Hid (w4.heap.size ≤ w4.drew.heap.size) := Lib.hid ((Touch.refl w4 (fun _ => False)).drew).size
    have HRD := Lib.hid (HRD.out.still ((Touch.refl w4 (fun _ => False)).drew))
    have hS := (Touch.refl w4 (fun k => k = G)).drew
    refine wp_region_tree (fun w' => Touch w4 w' (fun k => k = G)) (.take 0 (.take 1 (.take 2 (.two 3 6 (.take 4 (.take 5 (.one 6 (.one 7 .fin)))) (.one 3 (.take 4 (.take 5 (.one 7 .fin)))))))) (by kernel_rfl) (by kernel_rfl) (by kernel_rfl) (by kernel_rfl) hS ?_
    refine walkT_take ?_
    (refine takeN_take (v := ?_) (some 9) rfl rfl (fun _ _ _ h => h) (by rfl) ?_ ?_; rotate_left; (focus (intro w' hw'; have c1 := HCB.out w' hw'; have hwv := HWV.out; go_simp; (try with_reducible rfl))); (try simp only [Act.put, List.setIfInBounds_toArray, List.set_cons_zero, List.set_cons_succ]))
    refine walkT_take ?_
    (refine takeN_take (v := ?_) (some 10) rfl rfl (fun _ _ _ h => h) (by rfl) ?_ ?_; rotate_left; (focus (intro w' hw'; have c1 := HCB.out w' hw'; have hwv := HWV.out; go_simp; (try with_reducible rfl))); (try simp only [Act.put, List.setIfInBounds_toArray, List.set_cons_zero, List.set_cons_succ]))
    refine walkT_take ?_
    (refine takeN_take (v := ?_) (some 11) rfl rfl (fun _ _ _ h => h) (by rfl) ?_ ?_; rotate_left; (focus (intro w' hw'; have c1 := HCB.out w' hw'; have hwv := HWV.out; go_simp; (try with_reducible rfl))); (try simp only [Act.put, List.setIfInBounds_toArray, List.set_cons_zero, List.set_cons_succ]))
    refine walkT_two ?_ ?_
    · (refine runN_call 12 _ _ _ _ (d_rU32 G _ xs 0 _ HRD.out) rfl rfl rfl (by rfl) rfl (enter_dU32 _ _) ?_; rintro e w5 ⟨rfl, hrd, ht⟩; have hS := hS.trans ht (fun _ _ h => h); refine ⟨_, rfl, hS, fun _ => ?_⟩; have HRD := Lib.hid hrd; (try have HM := Lib.hid (ht.keeps HM.out (fun e => by have := HGL.out; have hz : w4.heap.size ≤ w4.drew.heap.size := HDR.out; have e : w4.drew.heap.size = G := e; omega))); clear hrd ht; (try simp only [Act.put, List.setIfInBounds_toArray, List.set_cons_zero, List.set_cons_succ]))
      refine walkT_take ?_
      (refine takeN_take (v := ?_) (some 13) rfl rfl (fun _ _ _ h => h) (by rfl) ?_ ?_; rotate_left; (focus (intro w' hw'; have c1 := HCB.out w' hw'; have hwv := HWV.out; go_simp; (try with_reducible rfl))); (try simp only [Act.put, List.setIfInBounds_toArray, List.set_cons_zero, List.set_cons_succ]))
      refine walkT_take ?_
      (refine takeN_take (v := ?_) (some 14) rfl rfl (fun _ _ _ h => h) (by rfl) ?_ ?_; rotate_left; (focus (intro w' hw'; have c1 := HCB.out w' hw'; have hwv := HWV.out; go_simp; (try with_reducible rfl))); (try simp only [Act.put, List.setIfInBounds_toArray, List.set_cons_zero, List.set_cons_succ]))
      refine walkT_one ?_
      (have hZ := hS.size; refine runN_new 5 (fun W => .pointer (some ⟨W.heap.size, 0, none⟩)) #[.int .i64 0, .int .i64 0, .slice none 0 0] 24 rfl rfl (by rfl) (by intro W; go_simp <;> first | with_reducible rfl | rfl | exact ⟨rfl, rfl⟩) ?_; intro w7 hw7 hM7 hs7 t7; have hS := hS.trans (t7.mono (fun _ _ h => h.elim)) (fun _ _ h => h); refine ⟨hS, fun _ => ?_⟩; clear hw7; have HM := Lib.hid hM7; have HRD := Lib.hid (HRD.out.still t7); clear hM7; (try simp only [Act.put, List.setIfInBounds_toArray, List.set_cons_zero, List.set_cons_succ]))
      refine walkT_one ?_
      (refine runN_store rfl rfl (by rfl) 24 _ _ rfl _ #[.int .i64 v, .int .i64 (valN 4 xs : Nat), .slice none 0 0] rfl rfl _ _ HM.out HIM.out rfl rfl ?_; intro w6 hM6 ht; refine ⟨hS.trans ht (fun k hk h => by have e : k = _ := h; omega), fun hS => ?_⟩; have HRD := Lib.hid (HRD.out.touch ht (fun k hk h => .inr (by have e : k = _ := h; omega))); (try simp only [Act.put, List.setIfInBounds_toArray, List.set_cons_zero, List.set_cons_succ]))
      refine walkT_fin ?_
      go_wp2_with fail
      go_meet
      exact ⟨_, rfl, hZ, heap_lt hM6, hM6, HRD.out, hS⟩
    · (have hZ := hS.size; refine runN_new 5 (fun W => .pointer (some ⟨W.heap.size, 0, none⟩)) #[.int .i64 0, .int .i64 0, .slice none 0 0] 24 rfl rfl (by rfl) (by intro W; go_simp <;> first | with_reducible rfl | rfl | exact ⟨rfl, rfl⟩) ?_; intro w7 hw7 hM7 hs7 t7; have hS := hS.trans (t7.mono (fun _ _ h => h.elim)) (fun _ _ h => h); refine ⟨hS, fun _ => ?_⟩; clear hw7; have HM := Lib.hid hM7; have HRD := Lib.hid (HRD.out.still t7); clear hM7; (try simp only [Act.put, List.setIfInBounds_toArray, List.set_cons_zero, List.set_cons_succ]))
      refine walkT_one ?_
      (refine runN_call 12 _ _ _ _ (d_rU32 G _ xs 0 _ HRD.out) rfl rfl rfl (by rfl) rfl (enter_dU32 _ _) ?_; rintro e w5 ⟨rfl, hrd, ht⟩; have hS := hS.trans ht (fun _ _ h => h); refine ⟨_, rfl, hS, fun _ => ?_⟩; have HRD := Lib.hid hrd; (try have HM := Lib.hid (ht.keeps HM.out (fun e => by have := HGL.out; have hz : w4.heap.size ≤ w4.drew.heap.size := HDR.out; have e : w4.drew.heap.size = G := e; omega))); clear hrd ht; (try simp only [Act.put, List.setIfInBounds_toArray, List.set_cons_zero, List.set_cons_succ]))
      refine walkT_take ?_
      (refine takeN_take (v := ?_) (some 13) rfl rfl (fun _ _ _ h => h) (by rfl) ?_ ?_; rotate_left; (focus (intro w' hw'; have c1 := HCB.out w' hw'; have hwv := HWV.out; go_simp; (try with_reducible rfl))); (try simp only [Act.put, List.setIfInBounds_toArray, List.set_cons_zero, List.set_cons_succ]))
      refine walkT_take ?_
      (refine takeN_take (v := ?_) (some 14) rfl rfl (fun _ _ _ h => h) (by rfl) ?_ ?_; rotate_left; (focus (intro w' hw'; have c1 := HCB.out w' hw'; have hwv := HWV.out; go_simp; (try with_reducible rfl))); (try simp only [Act.put, List.setIfInBounds_toArray, List.set_cons_zero, List.set_cons_succ]))
      refine walkT_one ?_
      (refine runN_store rfl rfl (by rfl) 24 _ _ rfl _ #[.int .i64 v, .int .i64 (valN 4 xs : Nat), .slice none 0 0] rfl rfl _ _ HM.out HIM.out rfl rfl ?_; intro w6 hM6 ht; refine ⟨hS.trans ht (fun k hk h => by have e : k = _ := h; omega), fun hS => ?_⟩; have HRD := Lib.hid (HRD.out.touch ht (fun k hk h => .inr (by have e : k = _ := h; omega))); (try simp only [Act.put, List.setIfInBounds_toArray, List.set_cons_zero, List.set_cons_succ]))
      refine walkT_fin ?_
      go_wp2_with fail
      go_meet
      exact ⟨_, rfl, hZ, heap_lt hM6, hM6, HRD.out, hS⟩

  case rest =>
    obtain ⟨M, rfl, hM0, hM1, hm, hrd, ht⟩ := hcut
    have HM0 := Lib.hid hM0
    have HM := Lib.hid hm
    have HRD := Lib.hid hrd
    have HX4 := Lib.hid ht
    have HZ := Lib.hid (ht.keeps HZ4.out (fun e => by have := HGG.out; have := HS2.out; have e : w.heap.size + 1 = G := e; omega))
    have HTT := Lib.hid (HT4.out.trans ht (fun k hk e => by have := HGG.out; have := HS2.out; have e : k = G := e; omega))
    have HMG : RowKit.Hid (M ≠ G ∧ w.heap.size + 1 ≠ G ∧ M ≠ w.heap.size + 1 ∧ w.heap.size ≤ G ∧ w.heap.size + 2 ≤ M ∧ G < M) := Lib.hid (by have := HGL.out; have := HGG.out; have := HS2.out; have := HZS.out; omega)
    clear hM0 hM1 hm hrd ht
    go_wp2_with (go_at_call 78; (with_reducible refine (d_rU16 G _ _ _ _ HRD.out).mono ?_); rintro e w5 ⟨rfl, hrd, ht⟩; have HRD := Lib.hid hrd; have HM := Lib.hid (ht.keeps HM.out (fun e => HMG.out.1 e)); have HZ := Lib.hid (ht.keeps HZ.out (fun e => HMG.out.2.1 e)); have HTT := Lib.hid (HTT.out.trans ht (fun k hk e => by have := HMG.out; have e : k = G := e; omega)); clear hrd ht)
    have hcn : valN 2 (nxtX 4 xs) = cntM xs := rfl
    rw [hcn]
    rw [nxtX_nxtX, nxtE_nxtE] at HRD
    clear hcn
    go_loopw [17] (fun i wr => ∃ k a' c', BodyAt w W2 w4 G M v xs i wr k a' c') (fun i _ => cntM xs - (intOf i).toNat)
    case atStart => exact ⟨0, none, 0, ⟨Nat.zero_le _, rfl, HM.out, HZ.out, HRD.out, OwnS.nil _ _ _ _, HTT.out⟩⟩
    case round =>
      obtain ⟨q, a1, c1, hk, rfl, hm, hz, hrd, how, ht⟩ := hrel
      have HM := Lib.hid hm
      have HZ := Lib.hid hz
      have HRD := Lib.hid hrd
      have HOW := Lib.hid how
      have HTT := Lib.hid ht
      clear hm hz hrd how ht
      by_cases hlt : q < cntM xs
      case neg =>
        obtain rfl : q = cntM xs := by omega
        have hlt' : ¬ (cntM xs : Int) < cntM xs := by omega
        go_wp2_with fail
        have HRD := Lib.hid (HRD.out.still ((Touch.refl wr (fun _ => False)).drew))
        have HZ := Lib.hid (((Touch.refl wr (fun _ => False)).drew).keeps HZ.out (fun h => h))
        have HLM : RowKit.Hid (∀ W, Touch wr W (fun k => k = w.heap.size + 1) → W.heap[M]? = _) := Lib.hid (fun W t => t.keeps HM.out (fun e => HMG.out.2.2.1 e))
        have hS := (Touch.refl wr (fun k => k = w.heap.size + 1)).drew
        refine wp_region_tree (fun w' => Touch wr w' (fun k => k = w.heap.size + 1)) (.take 0 (.take 1 (.one 2 (.take 3 (.one 4 (.take 5 .fin)))))) (by kernel_rfl) (by kernel_rfl) (by kernel_rfl) (by kernel_rfl) hS ?_
        refine walkT_take ?_
        (refine takeN_row (some 28) rfl rfl 24 (.tmp 5) rfl (M) rfl _ _ _ _ (fun w' h => HLM.out w' h) Tryd.underlying24 rfl HIM.out (fun _ _ _ h => h) (by rfl) ?_; (try simp only [Act.put, List.setIfInBounds_toArray, List.set_cons_zero, List.set_cons_succ]))
        refine walkT_take ?_
        (refine takeN_take (v := ?_) (some 29) rfl rfl (fun _ _ _ h => h) (by rfl) ?_ ?_; rotate_left; (focus (intro w' hw'; go_simp; (try with_reducible rfl))); (try simp only [Act.put, List.setIfInBounds_toArray, List.set_cons_zero, List.set_cons_succ]))
        refine walkT_one ?_
        (refine runN_call 30 _ _ _ _ (d_rEnd G _ _ _ _ HRD.out) rfl rfl rfl (by rfl) rfl (enter_dEnd _ _) ?_; rintro e w5 ⟨rfl, rfl⟩; refine ⟨_, rfl, hS, fun _ => ?_⟩; (try simp only [Act.put, List.setIfInBounds_toArray, List.set_cons_zero, List.set_cons_succ]))
        refine walkT_take ?_
        (refine takeN_take (v := ?_) (some 31) rfl rfl (fun _ _ _ h => h) (by rfl) ?_ ?_; rotate_left; (focus (intro w' hw'; go_simp; (try with_reducible rfl))); (try simp only [Act.put, List.setIfInBounds_toArray, List.set_cons_zero, List.set_cons_succ]))
        refine walkT_one ?_
        (refine runN_store rfl rfl (by rfl) 24 _ _ rfl _ #[.int .i64 v, .int .i64 (valN 4 xs : Nat), .slice a1 (cntM xs) c1] rfl rfl _ _ HZ.out HIM.out rfl rfl ?_; intro w6 hZ6 ht; refine ⟨hS.trans ht (fun _ _ h => h), fun hS => ?_⟩; (try simp only [Act.put, List.setIfInBounds_toArray, List.set_cons_zero, List.set_cons_succ]))
        refine walkT_take ?_
        (refine takeN_take (v := ?_) (some 3) rfl rfl (fun _ _ _ h => h) (by rfl) ?_ ?_; rotate_left; (focus (intro w' hw'; go_simp; (try with_reducible rfl))); (try simp only [Act.put, List.setIfInBounds_toArray, List.set_cons_zero, List.set_cons_succ]))
        refine walkT_fin ?_
        go_wp2_with fail
        refine ret_row1 rfl rfl (w.heap.size + 1) _ _ _ _ rfl hZ6 Tryd.underlying24 rfl HIM.out _ rfl ?_
        exact ⟨a1, c1, rfl, (ownS_rowI (HOW.out.touch hS (fun x hx e => by have := (HOW.out.own.lt x hx).1; have := HMG.out; have e : x = w.heap.size + 1 := e; omega)) (fun z hz => by have := segsV_bound _ _ (nxtX_small 6 xs HXS.out) z hz; omega)), (fun x hx => by have := (HOW.out.row'.2.2 x hx).1; have := HMG.out; omega), HTT.out.trans hS (fun k hk e => by have e : k = w.heap.size + 1 := e; omega)⟩

      case pos =>
        have hlI : (q : Int) < cntM xs := by omega
        have hx4 : valN 4 (nxtX (6 + 4 * q) xs) < 4294967296 := valN4 _ (nxtX_small _ _ HXS.out)
        go_wp2_with fail
        have HRD := Lib.hid (HRD.out.still ((Touch.refl wr (fun _ => False)).drew))
        have HM := Lib.hid (((Touch.refl wr (fun _ => False)).drew).keeps HM.out (fun h => h))
        have HZ := Lib.hid (((Touch.refl wr (fun _ => False)).drew).keeps HZ.out (fun h => h))
        have HOW := Lib.hid (HOW.out.still ((Touch.refl wr (fun _ => False)).drew))
        have hwv : IntKind.i64.wrap (valN 4 (nxtX (6 + 4 * q) xs) : Nat) = (valN 4 (nxtX (6 + 4 * q) xs) : Nat) := by rw [IntKind.wrap_i64]; omega
        have HWQ := Lib.hid hwv
        clear hwv
        have hS := HTT.out.drew
        refine wp_region_tree (fun w' => Touch w w' (fun _ => False)) (.take 0 (.take 2 (.two 1 3 (.one 3 (.take 4 (.one 5 (.one 6 (.take 7 (.one 8 .fin)))))) (.take 4 (.two 1 5 (.one 5 (.one 6 (.take 7 (.one 8 .fin)))) (.one 1 (.one 6 (.take 7 (.one 8 .fin))))))))) (by kernel_rfl) (by kernel_rfl) (by kernel_rfl) (by kernel_rfl) hS ?_
        refine walkT_take ?_
        (refine takeN_take (v := ?_) (some 19) rfl rfl (fun _ _ _ h => h) (by rfl) ?_ ?_; rotate_left; (focus (intro w' hw'; have hwv := HWQ.out; go_simp; (try with_reducible rfl))); (try simp only [Act.put, List.setIfInBounds_toArray, List.set_cons_zero, List.set_cons_succ]))
        refine walkT_take ?_
        (refine takeN_take (v := ?_) (some 21) rfl rfl (fun _ _ _ h => h) (by rfl) ?_ ?_; rotate_left; (focus (intro w' hw'; have hwv := HWQ.out; go_simp; (try with_reducible rfl))); (try simp only [Act.put, List.setIfInBounds_toArray, List.set_cons_zero, List.set_cons_succ]))
        refine walkT_two ?_ ?_
        · (have cc := (mcells_of HM.out).2.2; refine runN_do (v := .slice a1 q c1) (w' := _) (some 20) rfl rfl (by rfl) (by go_simp; (try with_reducible rfl)) hS (fun hS => ?_); clear cc; (try simp only [Act.put, List.setIfInBounds_toArray, List.set_cons_zero, List.set_cons_succ]))
          refine walkT_one ?_
          (refine runN_call 22 _ _ _ _ (d_rU32 G _ _ _ _ HRD.out) rfl rfl rfl (by rfl) rfl (enter_dU32 _ _) ?_; rintro e w5 ⟨rfl, hrd, ht⟩; have hS := hS.trans ht (fun k hk e => by have := HMG.out; have e : k = G := e; omega); refine ⟨_, rfl, hS, fun _ => ?_⟩; have HRD := Lib.hid hrd; have HM := Lib.hid (ht.keeps HM.out (fun e => HMG.out.1 e)); have HZ := Lib.hid (ht.keeps HZ.out (fun e => HMG.out.2.1 e)); have HOW := Lib.hid (HOW.out.touch ht (fun x hx e => by have := (HOW.out.own.lt x hx).1; have := HMG.out; have e : x = G := e; omega)); clear hrd ht; (try simp only [Act.put, List.setIfInBounds_toArray, List.set_cons_zero, List.set_cons_succ]))
          refine walkT_take ?_
          (refine takeN_take (v := ?_) (some 23) rfl rfl (fun _ _ _ h => h) (by rfl) ?_ ?_; rotate_left; (focus (intro w' hw'; have hwv := HWQ.out; go_simp; (try with_reducible rfl))); (try simp only [Act.put, List.setIfInBounds_toArray, List.set_cons_zero, List.set_cons_succ]))
          refine walkT_one ?_
          (refine runN_new 24 (fun W => .slice (some ⟨W.heap.size, 0, none⟩) 1 1) #[.int .i64 (valN 4 (nxtX (6 + 4 * q) xs) : Nat)] 3 rfl rfl (by rfl) (by intro W; go_simp <;> first | with_reducible rfl | rfl | exact ⟨rfl, rfl⟩) ?_; intro w7 hw7 hM7 hs7 t7; have hS := hS.trans t7 (fun _ _ h => h.elim); refine ⟨hS, fun _ => ?_⟩; have HNW := Lib.hid (show RowS w7 _ 1 1 1 [oneI (valN 4 (nxtX (6 + 4 * q) xs) : Nat)] from hw7 ▸ row_oneI _ _); have HM := Lib.hid (t7.keeps HM.out (fun h => h)); have HZ := Lib.hid (t7.keeps HZ.out (fun h => h)); have HRD := Lib.hid (HRD.out.still t7); have HOW := Lib.hid (HOW.out.still t7); clear hw7 hM7 hs7 t7; (try simp only [Act.put, List.setIfInBounds_toArray, List.set_cons_zero, List.set_cons_succ]))
          refine walkT_one ?_
          (refine runN_appS 25 (.tmp 20) (.tmp 24) _ rfl rfl rfl (by rfl) 3 Tryd.underlying22 (.int .i64 0) 1 8 infoInt rfl (by decide) (M + 1) _ _ rfl HOW.out _ 1 1 _ rfl HNW.out (by simp [oneI, Value.oneCell']) (q + 1) ((segsV (q + 1) (nxtX 6 xs)).map oneI) (by rw [segsV_snoc, List.map_append, nxtX_nxtX]; rfl) (by simp [segsV_length]) (by unfold maxLen; omega) (by omega) (heap_lt HM.out) ?_; intro a2 c2 w9 how9 hg9 hp9; have t9 := (Touch.refl _ (fun k => M + 1 ≤ k)).grown hg9 (fun k hk _ => (HOW.out.own.lt k hk).1); have hS := hS.trans t9 (fun k hk h => by have := HMG.out; have h : M + 1 ≤ k := h; omega); refine ⟨hS, fun _ => ?_⟩; have HM := Lib.hid (t9.keeps HM.out (fun h => by have h : M + 1 ≤ M := h; omega)); have HZ := Lib.hid (t9.keeps HZ.out (fun h => by have := HMG.out; have h : M + 1 ≤ w.heap.size + 1 := h; omega)); have HRD := Lib.hid (HRD.out.touch t9 (fun k _ h => .inr (by have := HM0.out; have h : M + 1 ≤ k := h; omega))); have HOW := Lib.hid how9; clear how9 hg9 hp9 t9 HNW; (try simp only [Act.put, List.setIfInBounds_toArray, List.set_cons_zero, List.set_cons_succ]))
          refine walkT_take ?_
          (refine takeN_take (v := ?_) (some 26) rfl rfl (fun _ _ _ h => h) (by rfl) ?_ ?_; rotate_left; (focus (intro w' hw'; have hwv := HWQ.out; go_simp; (try with_reducible rfl))); (try simp only [Act.put, List.setIfInBounds_toArray, List.set_cons_zero, List.set_cons_succ]))
          refine walkT_one ?_
          (have cc := (mcells_of HM.out).2.2; have ff := free_of_cells HM.out 2; refine runN_skip0 none rfl rfl (by rfl) (w' := World.setCell w9 ⟨M, 2, none⟩ (.slice a2 (q + 1) c2)) (by go_simp; (try with_reducible rfl)) ?_ ?_; (exact hS.setCell _ _ (fun h => by have := HMG.out; have h : M < w.heap.size := h; omega)); clear cc ff; intro hS; have t6 := (Touch.refl w9 (fun k => k = M)).setCell ⟨M, 2, none⟩ (.slice a2 (q + 1) c2) (fun _ => rfl); have HM := Lib.hid (heap_setCell_same _ M 2 _ _ (.slice a2 (q + 1) c2) HM.out); have HZ := Lib.hid (t6.keeps HZ.out (fun e => HMG.out.2.2.1 e.symm)); have HRD := Lib.hid (HRD.out.touch t6 (fun k _ h => .inr (by have := HM0.out; have h : k = M := h; omega))); have HOW := Lib.hid (HOW.out.touch t6 (fun x hx e => by have := (HOW.out.own.lt x hx).1; have e : x = M := e; omega)); clear t6; (try simp only [Act.put, List.setIfInBounds_toArray, List.set_cons_zero, List.set_cons_succ]))
          refine walkT_fin ?_
          go_wp2_with fail
          refine ⟨⟨q + 1, a2, c2, ⟨hlt, by go_num, HM.out, HZ.out, ?_, HOW.out, hS⟩⟩, by simp [intOf]; omega⟩
          have h9 := HRD.out
          rw [nxtX_nxtX, nxtE_nxtE] at h9
          rwa [show 6 + 4 * q + 4 = 6 + 4 * (q + 1) by omega] at h9
        · (refine runN_call 22 _ _ _ _ (d_rU32 G _ _ _ _ HRD.out) rfl rfl rfl (by rfl) rfl (enter_dU32 _ _) ?_; rintro e w5 ⟨rfl, hrd, ht⟩; have hS := hS.trans ht (fun k hk e => by have := HMG.out; have e : k = G := e; omega); refine ⟨_, rfl, hS, fun _ => ?_⟩; have HRD := Lib.hid hrd; have HM := Lib.hid (ht.keeps HM.out (fun e => HMG.out.1 e)); have HZ := Lib.hid (ht.keeps HZ.out (fun e => HMG.out.2.1 e)); have HOW := Lib.hid (HOW.out.touch ht (fun x hx e => by have := (HOW.out.own.lt x hx).1; have := HMG.out; have e : x = G := e; omega)); clear hrd ht; (try simp only [Act.put, List.setIfInBounds_toArray, List.set_cons_zero, List.set_cons_succ]))
          refine walkT_take ?_
          (refine takeN_take (v := ?_) (some 23) rfl rfl (fun _ _ _ h => h) (by rfl) ?_ ?_; rotate_left; (focus (intro w' hw'; have hwv := HWQ.out; go_simp; (try with_reducible rfl))); (try simp only [Act.put, List.setIfInBounds_toArray, List.set_cons_zero, List.set_cons_succ]))
          refine walkT_two ?_ ?_
          · (have cc := (mcells_of HM.out).2.2; refine runN_do (v := .slice a1 q c1) (w' := _) (some 20) rfl rfl (by rfl) (by go_simp; (try with_reducible rfl)) hS (fun hS => ?_); clear cc; (try simp only [Act.put, List.setIfInBounds_toArray, List.set_cons_zero, List.set_cons_succ]))
            refine walkT_one ?_
            (refine runN_new 24 (fun W => .slice (some ⟨W.heap.size, 0, none⟩) 1 1) #[.int .i64 (valN 4 (nxtX (6 + 4 * q) xs) : Nat)] 3 rfl rfl (by rfl) (by intro W; go_simp <;> first | with_reducible rfl | rfl | exact ⟨rfl, rfl⟩) ?_; intro w7 hw7 hM7 hs7 t7; have hS := hS.trans t7 (fun _ _ h => h.elim); refine ⟨hS, fun _ => ?_⟩; have HNW := Lib.hid (show RowS w7 _ 1 1 1 [oneI (valN 4 (nxtX (6 + 4 * q) xs) : Nat)] from hw7 ▸ row_oneI _ _); have HM := Lib.hid (t7.keeps HM.out (fun h => h)); have HZ := Lib.hid (t7.keeps HZ.out (fun h => h)); have HRD := Lib.hid (HRD.out.still t7); have HOW := Lib.hid (HOW.out.still t7); clear hw7 hM7 hs7 t7; (try simp only [Act.put, List.setIfInBounds_toArray, List.set_cons_zero, List.set_cons_succ]))
            refine walkT_one ?_
            (refine runN_appS 25 (.tmp 20) (.tmp 24) _ rfl rfl rfl (by rfl) 3 Tryd.underlying22 (.int .i64 0) 1 8 infoInt rfl (by decide) (M + 1) _ _ rfl HOW.out _ 1 1 _ rfl HNW.out (by simp [oneI, Value.oneCell']) (q + 1) ((segsV (q + 1) (nxtX 6 xs)).map oneI) (by rw [segsV_snoc, List.map_append, nxtX_nxtX]; rfl) (by simp [segsV_length]) (by unfold maxLen; omega) (by omega) (heap_lt HM.out) ?_; intro a2 c2 w9 how9 hg9 hp9; have t9 := (Touch.refl _ (fun k => M + 1 ≤ k)).grown hg9 (fun k hk _ => (HOW.out.own.lt k hk).1); have hS := hS.trans t9 (fun k hk h => by have := HMG.out; have h : M + 1 ≤ k := h; omega); refine ⟨hS, fun _ => ?_⟩; have HM := Lib.hid (t9.keeps HM.out (fun h => by have h : M + 1 ≤ M := h; omega)); have HZ := Lib.hid (t9.keeps HZ.out (fun h => by have := HMG.out; have h : M + 1 ≤ w.heap.size + 1 := h; omega)); have HRD := Lib.hid (HRD.out.touch t9 (fun k _ h => .inr (by have := HM0.out; have h : M + 1 ≤ k := h; omega))); have HOW := Lib.hid how9; clear how9 hg9 hp9 t9 HNW; (try simp only [Act.put, List.setIfInBounds_toArray, List.set_cons_zero, List.set_cons_succ]))
            refine walkT_take ?_
            (refine takeN_take (v := ?_) (some 26) rfl rfl (fun _ _ _ h => h) (by rfl) ?_ ?_; rotate_left; (focus (intro w' hw'; have hwv := HWQ.out; go_simp; (try with_reducible rfl))); (try simp only [Act.put, List.setIfInBounds_toArray, List.set_cons_zero, List.set_cons_succ]))
            refine walkT_one ?_
            (have cc := (mcells_of HM.out).2.2; have ff := free_of_cells HM.out 2; refine runN_skip0 none rfl rfl (by rfl) (w' := World.setCell w9 ⟨M, 2, none⟩ (.slice a2 (q + 1) c2)) (by go_simp; (try with_reducible rfl)) ?_ ?_; (exact hS.setCell _ _ (fun h => by have := HMG.out; have h : M < w.heap.size := h; omega)); clear cc ff; intro hS; have t6 := (Touch.refl w9 (fun k => k = M)).setCell ⟨M, 2, none⟩ (.slice a2 (q + 1) c2) (fun _ => rfl); have HM := Lib.hid (heap_setCell_same _ M 2 _ _ (.slice a2 (q + 1) c2) HM.out); have HZ := Lib.hid (t6.keeps HZ.out (fun e => HMG.out.2.2.1 e.symm)); have HRD := Lib.hid (HRD.out.touch t6 (fun k _ h => .inr (by have := HM0.out; have h : k = M := h; omega))); have HOW := Lib.hid (HOW.out.touch t6 (fun x hx e => by have := (HOW.out.own.lt x hx).1; have e : x = M := e; omega)); clear t6; (try simp only [Act.put, List.setIfInBounds_toArray, List.set_cons_zero, List.set_cons_succ]))
            refine walkT_fin ?_
            go_wp2_with fail
            refine ⟨⟨q + 1, a2, c2, ⟨hlt, by go_num, HM.out, HZ.out, ?_, HOW.out, hS⟩⟩, by simp [intOf]; omega⟩
            have h9 := HRD.out
            rw [nxtX_nxtX, nxtE_nxtE] at h9
            rwa [show 6 + 4 * q + 4 = 6 + 4 * (q + 1) by omega] at h9
          · (refine runN_new 24 (fun W => .slice (some ⟨W.heap.size, 0, none⟩) 1 1) #[.int .i64 (valN 4 (nxtX (6 + 4 * q) xs) : Nat)] 3 rfl rfl (by rfl) (by intro W; go_simp <;> first | with_reducible rfl | rfl | exact ⟨rfl, rfl⟩) ?_; intro w7 hw7 hM7 hs7 t7; have hS := hS.trans t7 (fun _ _ h => h.elim); refine ⟨hS, fun _ => ?_⟩; have HNW := Lib.hid (show RowS w7 _ 1 1 1 [oneI (valN 4 (nxtX (6 + 4 * q) xs) : Nat)] from hw7 ▸ row_oneI _ _); have HM := Lib.hid (t7.keeps HM.out (fun h => h)); have HZ := Lib.hid (t7.keeps HZ.out (fun h => h)); have HRD := Lib.hid (HRD.out.still t7); have HOW := Lib.hid (HOW.out.still t7); clear hw7 hM7 hs7 t7; (try simp only [Act.put, List.setIfInBounds_toArray, List.set_cons_zero, List.set_cons_succ]))
            refine walkT_one ?_
            (have cc := (mcells_of HM.out).2.2; refine runN_do (v := .slice a1 q c1) (w' := _) (some 20) rfl rfl (by rfl) (by go_simp; (try with_reducible rfl)) hS (fun hS => ?_); clear cc; (try simp only [Act.put, List.setIfInBounds_toArray, List.set_cons_zero, List.set_cons_succ]))
            refine walkT_one ?_
            (refine runN_appS 25 (.tmp 20) (.tmp 24) _ rfl rfl rfl (by rfl) 3 Tryd.underlying22 (.int .i64 0) 1 8 infoInt rfl (by decide) (M + 1) _ _ rfl HOW.out _ 1 1 _ rfl HNW.out (by simp [oneI, Value.oneCell']) (q + 1) ((segsV (q + 1) (nxtX 6 xs)).map oneI) (by rw [segsV_snoc, List.map_append, nxtX_nxtX]; rfl) (by simp [segsV_length]) (by unfold maxLen; omega) (by omega) (heap_lt HM.out) ?_; intro a2 c2 w9 how9 hg9 hp9; have t9 := (Touch.refl _ (fun k => M + 1 ≤ k)).grown hg9 (fun k hk _ => (HOW.out.own.lt k hk).1); have hS := hS.trans t9 (fun k hk h => by have := HMG.out; have h : M + 1 ≤ k := h; omega); refine ⟨hS, fun _ => ?_⟩; have HM := Lib.hid (t9.keeps HM.out (fun h => by have h : M + 1 ≤ M := h; omega)); have HZ := Lib.hid (t9.keeps HZ.out (fun h => by have := HMG.out; have h : M + 1 ≤ w.heap.size + 1 := h; omega)); have HRD := Lib.hid (HRD.out.touch t9 (fun k _ h => .inr (by have := HM0.out; have h : M + 1 ≤ k := h; omega))); have HOW := Lib.hid how9; clear how9 hg9 hp9 t9 HNW; (try simp only [Act.put, List.setIfInBounds_toArray, List.set_cons_zero, List.set_cons_succ]))
            refine walkT_take ?_
            (refine takeN_take (v := ?_) (some 26) rfl rfl (fun _ _ _ h => h) (by rfl) ?_ ?_; rotate_left; (focus (intro w' hw'; have hwv := HWQ.out; go_simp; (try with_reducible rfl))); (try simp only [Act.put, List.setIfInBounds_toArray, List.set_cons_zero, List.set_cons_succ]))
            refine walkT_one ?_
            (have cc := (mcells_of HM.out).2.2; have ff := free_of_cells HM.out 2; refine runN_skip0 none rfl rfl (by rfl) (w' := World.setCell w9 ⟨M, 2, none⟩ (.slice a2 (q + 1) c2)) (by go_simp; (try with_reducible rfl)) ?_ ?_; (exact hS.setCell _ _ (fun h => by have := HMG.out; have h : M < w.heap.size := h; omega)); clear cc ff; intro hS; have t6 := (Touch.refl w9 (fun k => k = M)).setCell ⟨M, 2, none⟩ (.slice a2 (q + 1) c2) (fun _ => rfl); have HM := Lib.hid (heap_setCell_same _ M 2 _ _ (.slice a2 (q + 1) c2) HM.out); have HZ := Lib.hid (t6.keeps HZ.out (fun e => HMG.out.2.2.1 e.symm)); have HRD := Lib.hid (HRD.out.touch t6 (fun k _ h => .inr (by have := HM0.out; have h : k = M := h; omega))); have HOW := Lib.hid (HOW.out.touch t6 (fun x hx e => by have := (HOW.out.own.lt x hx).1; have e : x = M := e; omega)); clear t6; (try simp only [Act.put, List.setIfInBounds_toArray, List.set_cons_zero, List.set_cons_succ]))
            refine walkT_fin ?_
            go_wp2_with fail
            refine ⟨⟨q + 1, a2, c2, ⟨hlt, by go_num, HM.out, HZ.out, ?_, HOW.out, hS⟩⟩, by simp [intOf]; omega⟩
            have h9 := HRD.out
            rw [nxtX_nxtX, nxtE_nxtE] at h9
            rwa [show 6 + 4 * q + 4 = 6 + 4 * (q + 1) by omega] at h9

end Go.Proofs.YtibpnlhdpdfhiaaDoor
