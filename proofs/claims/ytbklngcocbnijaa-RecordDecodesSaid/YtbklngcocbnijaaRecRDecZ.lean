/- Records: what the reference's Decode answers. -/
import Derived.Test.YtbklngcocbnijaaRTupReadZ
import Derived.Test.YtbklngcocbnijaaRecDecZ
import Derived.Test.YtbklngcocbnijaaRMigZ
import Derived.Deep.MidRow
import Derived.Laws.EntriesVeiled
set_option linter.unusedVariables false
set_option linter.unusedSimpArgs false
namespace Go.Proofs.Ytbklngcocbnijaa
open Go.RowKit

/-- Was there a tuple, where one is asked for? -/
def okB (k : Int) (xs : List Nat) : Bool := if k = 1 ∨ k = 2 then rtB xs else true
theorem ok_bad {k v : Int} {xs : List Nat} (hv : verB v = true) (h : okB k xs = false) : mayRB (decD k v xs) = false := by
  unfold okB at h
  by_cases hk : k = 1 ∨ k = 2
  · rw [if_pos hk] at h
    have hr : rtF xs = noT := by unfold rtF; rw [h]; rfl
    have hd := dec_parts k v xs hv
    rcases hk with rfl | rfl
    · rw [mayRB_1 (by rw [hd]; rfl)]
      have : (decD 1 v xs).t = noT := by rw [hd]; exact hr
      rw [this, noT_may]; rfl
    · rw [mayRB_2 (by rw [hd]; rfl)]
      have : (decD 2 v xs).t = noT := by rw [hd]; exact hr
      rw [this, noT_may]
  · rw [if_neg hk] at h; cases h

set_option maxRecDepth 20000 in
set_option maxHeartbeats 4000000 in
theorem rdec_ver (k v : Int) (a : Option Addr) (cap : Nat) (xs : List Nat) (w : World) (hv : verB v = false) :
    Calls Try.prog 28 #[.agg (f3 k v a xs.length cap)] w (DecIs w k v xs) := by
  have he : decE k v xs = 10 := by unfold decE; rw [hv]; rfl
  have hr : decR k v xs = zeroR := by unfold decR; rw [he]; rfl
  have hX : DecIs w k v xs = fun e w' => ∃ a' c', e = .returned (.tuple #[.agg (rcs zeroR a' c'), .int .i64 10]) ∧ OwnK w' w.heap.size (.slice a' 0 c') [] ∧ Touch w w' (fun _ => False) := by
    funext e w'; unfold DecIs; rw [he, hr]; rfl
  have HX := Lib.hid hX
  have HV : RowKit.Hid (∀ w, Calls Try.prog 51 #[.int .i64 v] w fun e w' => e = .returned (.bool false) ∧ w = w') := Lib.hid (fun w => (rversion_any v w).mono fun e w' h => ⟨hv ▸ h.1, h.2.symm⟩)
  generalize DecIs w k v xs = X at *
  obtain ⟨W1, hW1⟩ : ∃ W, w.alloc (.cells (f3 k v a xs.length cap) 39) = W := ⟨_, rfl⟩
  obtain ⟨W2, hW2⟩ : ∃ W, W1.alloc (.cells #[.int .i64 0, .int .u32 0, .int .u32 0, .int .i64 0, .int .i64 0, .int .i64 0, .int .i64 0, .int .i64 0, .int .i64 0, .int .i64 0, .slice none 0 0, .int .i64 0, .int .i64 0, .int .i64 0] 29) = W := ⟨_, rfl⟩
  have t1 : Touch w W1 (fun _ => False) := hW1 ▸ (Touch.refl _ _).alloc _
  have t2 : Touch W1 W2 (fun _ => False) := hW2 ▸ (Touch.refl _ _).alloc _
  have HZ : RowKit.Hid (W2.heap[W1.heap.size]? = some (.cells (rcs zeroR none 0) 29 (0, 0))) := Lib.hid (hW2 ▸ heap_alloc_new W1 _)
  have HF := Lib.hid (t2.keeps (hW1 ▸ heap_alloc_new w _ : W1.heap[w.heap.size]? = some (.cells (f3 k v a xs.length cap) 39 (0, 0))) (fun h => h))
  have HT := Lib.hid (t1.trans t2 (fun _ _ h => h))
  have HIR := Lib.hid infoRec
  have HSZ : RowKit.Hid (w.heap.size < W1.heap.size) := Lib.hid (by rw [← hW1]; simp)
  have g1 : W2.cell? ⟨w.heap.size, 1, none⟩ = some (.int .i64 v) := cell_of_cells HF.out 1
  clear hX he hr hv t1 t2
  simp only [f3] at hW1
  simp only [f3]
  go_enter Try.func28, Try.ntmps28
  go_wp2_with (first
    | (go_at_call 51; (with_reducible refine (HV.out _).mono ?_); rintro e w' ⟨rfl, rfl⟩)
    | (refine store_row rfl 29 (.tmp 2) (.tmp 12) rfl W1.heap.size (rcs zeroR none 0) rfl rfl _ _ HZ.out HIR.out rfl rfl ?_))
  refine ret_row1 rfl rfl W1.heap.size 29 (rcs zeroR none 0) (0, 0) _ rfl (setRow_heap _ _ _ _ _ _ HZ.out) Try.underlying29 rfl infoRec _ rfl ?_
  rw [HX.out]
  exact ⟨none, 0, rfl, OwnK.none _ _, HT.out.setRow _ _ (fun h => absurd h (by have := HSZ.out; omega))⟩
set_option maxRecDepth 20000 in
set_option maxHeartbeats 16000000 in
theorem rdec_k5 (v : Int) (a : Option Addr) (cap : Nat) (xs : List Nat) (w : World) (hv : verB v = true) (hrow : RowB w a xs.length cap xs) (hlen : xs.length ≤ 140737488355328) :
    Calls Try.prog 28 #[.agg (f3 5 v a xs.length cap)] w (DecIs w 5 v xs) := by
  have vv := verB_cases v hv
  have hsm := hrow.2.2.2.2.1
  obtain ⟨n, hn⟩ : ∃ n, lenD 5 v xs = n := ⟨_, rfl⟩
  obtain ⟨q, hq⟩ : ∃ q, decD 5 v xs = q := ⟨_, rfl⟩
  have hql : q.bs.length ≤ 100000 := by
    have h1 := rawD_len 5 v xs hsm
    rw [← hq, dec_parts _ _ _ hv]
    simp only
    split
    · rw [List.length_map]; omega
    · omega
  have hE : decE 5 v xs = if (n = xs.length ∧ mayRB q = true) then 0 else 3 := by
    unfold decE decB
    rw [if_pos hv, hn, hq]
    by_cases h1 : n = xs.length <;> by_cases h2 : mayRB q = true <;> simp [h1, h2]
  have hX1 : (n = xs.length ∧ mayRB q = true) → DecIs w 5 v xs = fun e w' => ∃ a' c', e = .returned (.tuple #[.agg (rcs q a' c'), .int .i64 0]) ∧ OwnK w' w.heap.size (.slice a' q.bs.length c') q.bs ∧ Touch w w' (fun _ => False) := by
    intro h
    have he : decE 5 v xs = 0 := by rw [hE, if_pos h]
    have hr : decR 5 v xs = q := by unfold decR; rw [he, if_pos rfl, hq]
    funext e w'; unfold DecIs; rw [he, hr]
  have hX2 : ¬ (n = xs.length ∧ mayRB q = true) → DecIs w 5 v xs = fun e w' => ∃ a' c', e = .returned (.tuple #[.agg (rcs zeroR a' c'), .int .i64 3]) ∧ OwnK w' w.heap.size (.slice a' 0 c') [] ∧ Touch w w' (fun _ => False) := by
    intro h
    have he : decE 5 v xs = 3 := by rw [hE, if_neg h]
    have hr : decR 5 v xs = zeroR := by unfold decR; rw [he]; rfl
    funext e w'; unfold DecIs; rw [he, hr]; rfl
  have HX1 := Lib.hid hX1
  have HX2 := Lib.hid hX2
  have HOB : RowKit.Hid (okB 5 xs = false → mayRB q = false) := Lib.hid (fun h => hq ▸ ok_bad hv h)
  have HV : RowKit.Hid (∀ w, Calls Try.prog 51 #[.int .i64 v] w fun e w' => e = .returned (.bool true) ∧ w = w') := Lib.hid (fun w => (rversion_any v w).mono fun e w' h => ⟨hv ▸ h.1, h.2.symm⟩)
  have HM : RowKit.Hid (∀ (a : Option Addr) (cap : Nat) (W : World), RowK W a q.bs.length cap q.bs → Calls Try.prog 19 #[.agg (rcs q a cap)] W fun e w' => e = .returned (.bool (mayRB q)) ∧ Touch W w' (fun _ => False)) := Lib.hid (fun a cap W h => rmay_any q a cap W h hql)
  have HEI := Lib.hid (end_iff n xs)
  have HDP := Lib.hid (dec_parts 5 v xs hv)
  have HN := Lib.hid hn
  have HQ0 := Lib.hid hq
  have HVV := Lib.hid vv
  obtain ⟨W1, hW1⟩ : ∃ W, w.alloc (.cells (f3 5 v a xs.length cap) 39) = W := ⟨_, rfl⟩
  obtain ⟨W2, hW2⟩ : ∃ W, W1.alloc (.cells #[.int .i64 0, .int .u32 0, .int .u32 0, .int .i64 0, .int .i64 0, .int .i64 0, .int .i64 0, .int .i64 0, .int .i64 0, .int .i64 0, .slice none 0 0, .int .i64 0, .int .i64 0, .int .i64 0] 29) = W := ⟨_, rfl⟩
  obtain ⟨W3, hW3⟩ : ∃ W, W2.alloc (.cells #[.slice a xs.length cap, .int .i64 0] 92) = W := ⟨_, rfl⟩
  have t1 : Touch w W1 (fun _ => False) := hW1 ▸ (Touch.refl _ _).alloc _
  have t2 : Touch W1 W2 (fun _ => False) := hW2 ▸ (Touch.refl _ _).alloc _
  have t3 : Touch W2 W3 (fun _ => False) := hW3 ▸ (Touch.refl _ _).alloc _
  obtain ⟨W4, hW4⟩ : ∃ W, W3.alloc (.cells (rcs (r0 5) none 0) 29) = W := ⟨_, rfl⟩
  have t4 : Touch W3 W4 (fun _ => False) := hW4 ▸ (Touch.refl _ _).alloc _
  have HZ : RowKit.Hid (W4.heap[W1.heap.size]? = some (.cells (rcs zeroR none 0) 29 (0, 0))) := Lib.hid (t4.keeps (t3.keeps (hW2 ▸ heap_alloc_new W1 _) (fun h => h)) (fun h => h))
  have hf2 : W2.heap[w.heap.size]? = some (.cells (f3 5 v a xs.length cap) 39 (0, 0)) := t2.keeps (hW1 ▸ heap_alloc_new w _) (fun h => h)
  have hf3 := t3.keeps hf2 (fun h => h)
  have HF := Lib.hid (t4.keeps hf3 (fun h => h))
  have HR : RowKit.Hid (W4.heap[W3.heap.size]? = some (.cells (rcs (r0 5) none 0) 29 (0, 0))) := Lib.hid (hW4 ▸ heap_alloc_new W3 _)
  have HSZ : RowKit.Hid (w.heap.size < W1.heap.size ∧ W1.heap.size < W2.heap.size ∧ W2.heap.size < W3.heap.size ∧ W3.heap.size < W4.heap.size) := Lib.hid ⟨by rw [← hW1]; simp, by rw [← hW2]; simp, by rw [← hW3]; simp, by rw [← hW4]; simp⟩
  have hrw3 := ((hrow.touch t1 (fun _ _ => .inr (fun h => h))).touch t2 (fun _ _ => .inr (fun h => h))).touch t3 (fun _ _ => .inr (fun h => h))
  have HRD : RowKit.Hid (RfD W4 W2.heap.size (fun k => w.heap.size ≤ k ∧ k ≠ W2.heap.size) xs 0) := Lib.hid (RfD.still ⟨fun h => h.2 rfl, .inl rfl, hlen, a, cap, ⟨hW3 ▸ heap_alloc_new W2 _, hrw3, fun x hx => (hrow.lt x hx).imp id (fun h1 => by have := HSZ.out; omega)⟩, fun x hx => (hrow.lt x hx).imp id (fun h1 h2 => by have := h2.1; omega)⟩ t4)
  have HT := Lib.hid (((t1.trans t2 (fun _ _ h => h)).trans t3 (fun _ _ h => h)).trans t4 (fun _ _ h => h))
  have HIR := Lib.hid infoRec
  have HIT := Lib.hid infoTup
  have g1' : W2.cell? ⟨w.heap.size, 1, none⟩ = some (.int .i64 v) := cell_of_cells hf2 1
  have g2' : W2.cell? ⟨w.heap.size, 2, none⟩ = some (.slice a xs.length cap) := cell_of_cells hf2 2
  have g0' : W3.cell? ⟨w.heap.size, 0, none⟩ = some (.int .i64 5) := cell_of_cells hf3 0
  have g0 : W4.cell? ⟨w.heap.size, 0, none⟩ = some (.int .i64 5) := cell_of_cells HF.out 0
  generalize DecIs w 5 v xs = X at *
  clear hX1 hX2 hE hrow hrw3 hf2 hf3 hsm t1 t2 t3 t4 vv hv hn hq hlen
  simp only [f3] at hW1
  simp only [rcs, r0, noT, List.length_nil] at hW4
  simp only [f3]
  have HW4 := Lib.hid hW4
  clear hW4
  go_enter Try.func28, Try.ntmps28
  go_upto_region 6 with (go_at_call 51; (with_reducible refine (HV.out _).mono ?_); rintro e w' ⟨rfl, rfl⟩)
  rw [HW4.out]
  clear g0' g1' g2' HW4 HV
  go_upto_region 31 with (go_at_call 63; (with_reducible refine (d_fU16 _ _ _ _ _ HRD.out).mono ?_); rintro e w9 ⟨rfl, h1, t2⟩; (try rw [nxtX_nxtX, nxtE_nxtE] at h1); (try simp only [Nat.reduceAdd] at h1); have HZ := Lib.hid (t2.keeps HZ.out (fun h => by have := HSZ.out; omega)); have HF := Lib.hid (t2.keeps HF.out (fun h => by have := HSZ.out; omega)); have HR := Lib.hid (t2.keeps HR.out (fun h => by have := HSZ.out; omega)); have HRD := Lib.hid h1; have HT := Lib.hid (HT.out.trans t2 (fun k hk h => by have := HSZ.out; omega)); clear h1 t2; (try clear g0); obtain ⟨k0, k1, k2, k3, k4, k5, k6, k7, k8, k9, k10, k11, k12, k13⟩ := rcells_of HR.out; have kf := free_of_cells HR.out)
  obtain ⟨V9, hV9⟩ : ∃ W, w9.setCell ⟨W3.heap.size, 11, none⟩ (.int .i64 (valN 2 xs : Nat)) = W := ⟨_, rfl⟩
  have tS : Touch w9 V9 (fun k => k = W3.heap.size) := hV9 ▸ (Touch.refl w9 _).into 11 _
  have HR := Lib.hid (heap_setCell_same w9 W3.heap.size 11 _ _ (.int .i64 (valN 2 xs : Nat)) HR.out)
  rw [rset_be, hV9] at HR
  have HZ := Lib.hid (tS.keeps HZ.out (fun h => by have := HSZ.out; omega))
  have HF := Lib.hid (tS.keeps HF.out (fun h => by have := HSZ.out; omega))
  have HRD := Lib.hid (HRD.out.touch tS (fun k _ h => by have := HSZ.out; subst h; exact ⟨by omega, by omega⟩))
  have HT := Lib.hid (HT.out.trans tS (fun k hk h => by have := HSZ.out; omega))
  rw [hV9]
  clear tS hV9
  (try clear k0 k1 k2 k3 k4 k5 k6 k7 k8 k9 k10 k11 k12 k13 kf)
  have g1 : V9.cell? ⟨w.heap.size, 1, none⟩ = some (.int .i64 v) := cell_of_cells HF.out 1
  have hn := HN.out
  have HQR : RowKit.Hid (V9.heap[W3.heap.size]? = some (.cells (rcs q none 0) 29 (0, 0))) := Lib.hid (by
    have h1 := HQ0.out
    rw [HDP.out] at h1
    have hraw : rawD 5 v xs = ⟨5, noT, 0, 0, 0, 0, [], (valN 2 xs : Nat), 0, 0⟩ := by unfold rawD; rw [if_neg (by decide), if_neg (by decide), if_neg (by decide), if_neg (by decide), if_pos rfl]
    rw [hraw] at h1
    have hb : (if v < 2 then List.map w1K [] else ([] : List BkD)) = [] := by split <;> rfl
    simp only [hb] at h1
    have e : q = { r0 5 with be := (valN 2 xs : Nat) } := by rw [← h1]; rfl
    rw [e]
    exact HR.out)
  have HRW : RowKit.Hid (RowK V9 none q.bs.length 0 q.bs) := Lib.hid (by
    have h1 := HQ0.out
    rw [HDP.out] at h1
    have hraw : rawD 5 v xs = ⟨5, noT, 0, 0, 0, 0, [], (valN 2 xs : Nat), 0, 0⟩ := by unfold rawD; rw [if_neg (by decide), if_neg (by decide), if_neg (by decide), if_neg (by decide), if_pos rfl]
    rw [hraw] at h1
    have hb : (if v < 2 then List.map w1K [] else ([] : List BkD)) = [] := by split <;> rfl
    simp only [hb] at h1
    have e : q.bs = [] := by rw [← h1]
    rw [e]; exact RowS.nil _ _ _ _ (by omega))
  have HOW : RowKit.Hid (∀ cs W, Touch V9 W (fun _ => False) → OwnK (W.setRow W1.heap.size cs) w.heap.size (.slice none q.bs.length 0) q.bs) := Lib.hid (by
    have h1 := HQ0.out
    rw [HDP.out] at h1
    have hraw : rawD 5 v xs = ⟨5, noT, 0, 0, 0, 0, [], (valN 2 xs : Nat), 0, 0⟩ := by unfold rawD; rw [if_neg (by decide), if_neg (by decide), if_neg (by decide), if_neg (by decide), if_pos rfl]
    rw [hraw] at h1
    have hb : (if v < 2 then List.map w1K [] else ([] : List BkD)) = [] := by split <;> rfl
    simp only [hb] at h1
    have e : q.bs = [] := by rw [← h1]
    rw [e]; exact fun cs W _ => OwnK.none _ _)
  have HEN := Lib.hid (d_fEnd _ _ _ _ V9 HRD.out)
  have HIR2 : RowKit.Hid ((Try.prog.info? 29).map (·.size) = some (rcs q none 0).size) := Lib.hid infoRec
  clear HR HRD HF
  have hn2 : n = 2 := hn.symm.trans (by unfold lenD; rfl)
  rw [← hn2] at HEN
  clear hn2 hn
  generalize endOf (nxtX n xs).length (nxtE n xs 0) = E at *
  by_cases hne : n = xs.length
  · have hE : E = 0 := HEI.out.2 hne
    subst hE
    cases hm : mayRB q with
    | true =>
      have HMQ := Lib.hid (fun (W : World) (h : RowK W none q.bs.length 0 q.bs) => hm ▸ HM.out none 0 W h)
      have HXX := Lib.hid (HX1.out ⟨hne, hm⟩)
      clear HX1 HX2 HEI hm HM HOB
      go_wp2_with (first
        | (go_at_call 67; (with_reducible refine HEN.out.mono ?_); rintro e w' ⟨rfl, h2⟩; obtain rfl := h2.symm)
        | (refine load_rowG rfl 29 (.tmp 5) rfl W3.heap.size rfl _ _ _ _ HQR.out Try.underlying29 rfl HIR2.out ?_)
        | (go_at_call 19; (with_reducible refine (HMQ.out _ HRW.out).mono ?_); rintro e w10 ⟨rfl, t10⟩; have HZ := Lib.hid (t10.keeps HZ.out (fun h => h)); have HQR := Lib.hid (t10.keeps HQR.out (fun h => h)); have HT := Lib.hid (HT.out.trans t10 (fun _ _ h => h)); have HOZ := Lib.hid (fun cs => HOW.out cs w10 t10); clear t10)
        | (refine store_row rfl 29 (.tmp 2) (.tmp 119) rfl W1.heap.size _ rfl rfl _ _ HZ.out HIR2.out rfl rfl ?_))
      refine ret_row1 rfl rfl W1.heap.size 29 (rcs q none 0) (0, 0) _ rfl (setRow_heap _ _ _ _ _ _ HZ.out) Try.underlying29 rfl infoRec _ rfl ?_
      rw [HXX.out]
      exact ⟨none, 0, rfl, HOZ.out _, HT.out.setRow _ _ (fun h => absurd h (by have := HSZ.out; omega))⟩
    | false =>
      have HMQ := Lib.hid (fun (W : World) (h : RowK W none q.bs.length 0 q.bs) => hm ▸ HM.out none 0 W h)
      have HXX := Lib.hid (HX2.out (fun h => by rw [hm] at h; cases h.2))
      clear HX1 HX2 HEI hm HM HOB
      go_wp2_with (first
        | (go_at_call 67; (with_reducible refine HEN.out.mono ?_); rintro e w' ⟨rfl, h2⟩; obtain rfl := h2.symm)
        | (refine load_rowG rfl 29 (.tmp 5) rfl W3.heap.size rfl _ _ _ _ HQR.out Try.underlying29 rfl HIR2.out ?_)
        | (go_at_call 19; (with_reducible refine (HMQ.out _ HRW.out).mono ?_); rintro e w10 ⟨rfl, t10⟩; have HZ := Lib.hid (t10.keeps HZ.out (fun h => h)); have HT := Lib.hid (HT.out.trans t10 (fun _ _ h => h)); clear t10)
        | (refine store_row rfl 29 (.tmp 2) (.tmp 118) rfl W1.heap.size (rcs zeroR none 0) rfl rfl _ _ HZ.out HIR2.out rfl rfl ?_))
      refine ret_row1 rfl rfl W1.heap.size 29 (rcs zeroR none 0) (0, 0) _ rfl (setRow_heap _ _ _ _ _ _ HZ.out) Try.underlying29 rfl infoRec _ rfl ?_
      rw [HXX.out]
      exact ⟨none, 0, rfl, OwnK.none _ _, HT.out.setRow _ _ (fun h => absurd h (by have := HSZ.out; omega))⟩
  · have hE : E ≠ 0 := fun h => hne (HEI.out.1 h)
    have hEb : (E != 0) = true := bne_iff_ne.2 hE
    have HXX := Lib.hid (HX2.out (fun h => hne h.1))
    clear HX1 HX2 HEI hne hE HM HOB
    go_wp2_with (first
      | (go_at_call 67; (with_reducible refine HEN.out.mono ?_); rintro e w' ⟨rfl, h2⟩; obtain rfl := h2.symm)
      | (refine store_row rfl 29 (.tmp 2) (.tmp 118) rfl W1.heap.size (rcs zeroR none 0) rfl rfl _ _ HZ.out HIR2.out rfl rfl ?_))
    refine ret_row1 rfl rfl W1.heap.size 29 (rcs zeroR none 0) (0, 0) _ rfl (setRow_heap _ _ _ _ _ _ HZ.out) Try.underlying29 rfl infoRec _ rfl ?_
    rw [HXX.out]
    exact ⟨none, 0, rfl, OwnK.none _ _, HT.out.setRow _ _ (fun h => absurd h (by have := HSZ.out; omega))⟩

set_option maxRecDepth 20000 in
set_option maxHeartbeats 16000000 in
theorem rdec_k6 (v : Int) (a : Option Addr) (cap : Nat) (xs : List Nat) (w : World) (hv : verB v = true) (hrow : RowB w a xs.length cap xs) (hlen : xs.length ≤ 140737488355328) :
    Calls Try.prog 28 #[.agg (f3 6 v a xs.length cap)] w (DecIs w 6 v xs) := by
  have vv := verB_cases v hv
  have hsm := hrow.2.2.2.2.1
  obtain ⟨n, hn⟩ : ∃ n, lenD 6 v xs = n := ⟨_, rfl⟩
  obtain ⟨q, hq⟩ : ∃ q, decD 6 v xs = q := ⟨_, rfl⟩
  have hql : q.bs.length ≤ 100000 := by
    have h1 := rawD_len 6 v xs hsm
    rw [← hq, dec_parts _ _ _ hv]
    simp only
    split
    · rw [List.length_map]; omega
    · omega
  have hE : decE 6 v xs = if (n = xs.length ∧ mayRB q = true) then 0 else 3 := by
    unfold decE decB
    rw [if_pos hv, hn, hq]
    by_cases h1 : n = xs.length <;> by_cases h2 : mayRB q = true <;> simp [h1, h2]
  have hX1 : (n = xs.length ∧ mayRB q = true) → DecIs w 6 v xs = fun e w' => ∃ a' c', e = .returned (.tuple #[.agg (rcs q a' c'), .int .i64 0]) ∧ OwnK w' w.heap.size (.slice a' q.bs.length c') q.bs ∧ Touch w w' (fun _ => False) := by
    intro h
    have he : decE 6 v xs = 0 := by rw [hE, if_pos h]
    have hr : decR 6 v xs = q := by unfold decR; rw [he, if_pos rfl, hq]
    funext e w'; unfold DecIs; rw [he, hr]
  have hX2 : ¬ (n = xs.length ∧ mayRB q = true) → DecIs w 6 v xs = fun e w' => ∃ a' c', e = .returned (.tuple #[.agg (rcs zeroR a' c'), .int .i64 3]) ∧ OwnK w' w.heap.size (.slice a' 0 c') [] ∧ Touch w w' (fun _ => False) := by
    intro h
    have he : decE 6 v xs = 3 := by rw [hE, if_neg h]
    have hr : decR 6 v xs = zeroR := by unfold decR; rw [he]; rfl
    funext e w'; unfold DecIs; rw [he, hr]; rfl
  have HX1 := Lib.hid hX1
  have HX2 := Lib.hid hX2
  have HOB : RowKit.Hid (okB 6 xs = false → mayRB q = false) := Lib.hid (fun h => hq ▸ ok_bad hv h)
  have HV : RowKit.Hid (∀ w, Calls Try.prog 51 #[.int .i64 v] w fun e w' => e = .returned (.bool true) ∧ w = w') := Lib.hid (fun w => (rversion_any v w).mono fun e w' h => ⟨hv ▸ h.1, h.2.symm⟩)
  have HM : RowKit.Hid (∀ (a : Option Addr) (cap : Nat) (W : World), RowK W a q.bs.length cap q.bs → Calls Try.prog 19 #[.agg (rcs q a cap)] W fun e w' => e = .returned (.bool (mayRB q)) ∧ Touch W w' (fun _ => False)) := Lib.hid (fun a cap W h => rmay_any q a cap W h hql)
  have HEI := Lib.hid (end_iff n xs)
  have HDP := Lib.hid (dec_parts 6 v xs hv)
  have HN := Lib.hid hn
  have HQ0 := Lib.hid hq
  have HVV := Lib.hid vv
  obtain ⟨W1, hW1⟩ : ∃ W, w.alloc (.cells (f3 6 v a xs.length cap) 39) = W := ⟨_, rfl⟩
  obtain ⟨W2, hW2⟩ : ∃ W, W1.alloc (.cells #[.int .i64 0, .int .u32 0, .int .u32 0, .int .i64 0, .int .i64 0, .int .i64 0, .int .i64 0, .int .i64 0, .int .i64 0, .int .i64 0, .slice none 0 0, .int .i64 0, .int .i64 0, .int .i64 0] 29) = W := ⟨_, rfl⟩
  obtain ⟨W3, hW3⟩ : ∃ W, W2.alloc (.cells #[.slice a xs.length cap, .int .i64 0] 92) = W := ⟨_, rfl⟩
  have t1 : Touch w W1 (fun _ => False) := hW1 ▸ (Touch.refl _ _).alloc _
  have t2 : Touch W1 W2 (fun _ => False) := hW2 ▸ (Touch.refl _ _).alloc _
  have t3 : Touch W2 W3 (fun _ => False) := hW3 ▸ (Touch.refl _ _).alloc _
  obtain ⟨W4, hW4⟩ : ∃ W, W3.alloc (.cells (rcs (r0 6) none 0) 29) = W := ⟨_, rfl⟩
  have t4 : Touch W3 W4 (fun _ => False) := hW4 ▸ (Touch.refl _ _).alloc _
  have HZ : RowKit.Hid (W4.heap[W1.heap.size]? = some (.cells (rcs zeroR none 0) 29 (0, 0))) := Lib.hid (t4.keeps (t3.keeps (hW2 ▸ heap_alloc_new W1 _) (fun h => h)) (fun h => h))
  have hf2 : W2.heap[w.heap.size]? = some (.cells (f3 6 v a xs.length cap) 39 (0, 0)) := t2.keeps (hW1 ▸ heap_alloc_new w _) (fun h => h)
  have hf3 := t3.keeps hf2 (fun h => h)
  have HF := Lib.hid (t4.keeps hf3 (fun h => h))
  have HR : RowKit.Hid (W4.heap[W3.heap.size]? = some (.cells (rcs (r0 6) none 0) 29 (0, 0))) := Lib.hid (hW4 ▸ heap_alloc_new W3 _)
  have HSZ : RowKit.Hid (w.heap.size < W1.heap.size ∧ W1.heap.size < W2.heap.size ∧ W2.heap.size < W3.heap.size ∧ W3.heap.size < W4.heap.size) := Lib.hid ⟨by rw [← hW1]; simp, by rw [← hW2]; simp, by rw [← hW3]; simp, by rw [← hW4]; simp⟩
  have hrw3 := ((hrow.touch t1 (fun _ _ => .inr (fun h => h))).touch t2 (fun _ _ => .inr (fun h => h))).touch t3 (fun _ _ => .inr (fun h => h))
  have HRD : RowKit.Hid (RfD W4 W2.heap.size (fun k => w.heap.size ≤ k ∧ k ≠ W2.heap.size) xs 0) := Lib.hid (RfD.still ⟨fun h => h.2 rfl, .inl rfl, hlen, a, cap, ⟨hW3 ▸ heap_alloc_new W2 _, hrw3, fun x hx => (hrow.lt x hx).imp id (fun h1 => by have := HSZ.out; omega)⟩, fun x hx => (hrow.lt x hx).imp id (fun h1 h2 => by have := h2.1; omega)⟩ t4)
  have HT := Lib.hid (((t1.trans t2 (fun _ _ h => h)).trans t3 (fun _ _ h => h)).trans t4 (fun _ _ h => h))
  have HIR := Lib.hid infoRec
  have HIT := Lib.hid infoTup
  have g1' : W2.cell? ⟨w.heap.size, 1, none⟩ = some (.int .i64 v) := cell_of_cells hf2 1
  have g2' : W2.cell? ⟨w.heap.size, 2, none⟩ = some (.slice a xs.length cap) := cell_of_cells hf2 2
  have g0' : W3.cell? ⟨w.heap.size, 0, none⟩ = some (.int .i64 6) := cell_of_cells hf3 0
  have g0 : W4.cell? ⟨w.heap.size, 0, none⟩ = some (.int .i64 6) := cell_of_cells HF.out 0
  generalize DecIs w 6 v xs = X at *
  clear hX1 hX2 hE hrow hrw3 hf2 hf3 hsm t1 t2 t3 t4 vv hv hn hq hlen
  simp only [f3] at hW1
  simp only [rcs, r0, noT, List.length_nil] at hW4
  simp only [f3]
  have HW4 := Lib.hid hW4
  clear hW4
  go_enter Try.func28, Try.ntmps28
  go_upto_region 6 with (go_at_call 51; (with_reducible refine (HV.out _).mono ?_); rintro e w' ⟨rfl, rfl⟩)
  rw [HW4.out]
  clear g0' g1' g2' HW4 HV
  have hlt4 := valN_lt 4 xs HRD.out.small
  have hpow : (256 : Nat) ^ 4 = 4294967296 := by decide
  rw [hpow] at hlt4
  go_upto_region 31 with (go_at_call 64; (with_reducible refine (d_fU32 _ _ _ _ _ HRD.out).mono ?_); rintro e w9 ⟨rfl, h1, t2⟩; (try rw [nxtX_nxtX, nxtE_nxtE] at h1); (try simp only [Nat.reduceAdd] at h1); have HZ := Lib.hid (t2.keeps HZ.out (fun h => by have := HSZ.out; omega)); have HF := Lib.hid (t2.keeps HF.out (fun h => by have := HSZ.out; omega)); have HR := Lib.hid (t2.keeps HR.out (fun h => by have := HSZ.out; omega)); have HRD := Lib.hid h1; have HT := Lib.hid (HT.out.trans t2 (fun k hk h => by have := HSZ.out; omega)); clear h1 t2; (try clear g0); obtain ⟨k0, k1, k2, k3, k4, k5, k6, k7, k8, k9, k10, k11, k12, k13⟩ := rcells_of HR.out; have kf := free_of_cells HR.out)
  obtain ⟨V9, hV9⟩ : ∃ W, w9.setCell ⟨W3.heap.size, 13, none⟩ (.int .i64 (valN 4 xs : Nat)) = W := ⟨_, rfl⟩
  have tS : Touch w9 V9 (fun k => k = W3.heap.size) := hV9 ▸ (Touch.refl w9 _).into 13 _
  have HR := Lib.hid (heap_setCell_same w9 W3.heap.size 13 _ _ (.int .i64 (valN 4 xs : Nat)) HR.out)
  rw [rset_ct, hV9] at HR
  have HZ := Lib.hid (tS.keeps HZ.out (fun h => by have := HSZ.out; omega))
  have HF := Lib.hid (tS.keeps HF.out (fun h => by have := HSZ.out; omega))
  have HRD := Lib.hid (HRD.out.touch tS (fun k _ h => by have := HSZ.out; subst h; exact ⟨by omega, by omega⟩))
  have HT := Lib.hid (HT.out.trans tS (fun k hk h => by have := HSZ.out; omega))
  rw [hV9]
  clear tS hV9
  (try clear k0 k1 k2 k3 k4 k5 k6 k7 k8 k9 k10 k11 k12 k13 kf)
  have g1 : V9.cell? ⟨w.heap.size, 1, none⟩ = some (.int .i64 v) := cell_of_cells HF.out 1
  have hn := HN.out
  have HQR : RowKit.Hid (V9.heap[W3.heap.size]? = some (.cells (rcs q none 0) 29 (0, 0))) := Lib.hid (by
    have h1 := HQ0.out
    rw [HDP.out] at h1
    have hraw : rawD 6 v xs = ⟨6, noT, 0, 0, 0, 0, [], 0, 0, (valN 4 xs : Nat)⟩ := by unfold rawD; rw [if_neg (by decide), if_neg (by decide), if_neg (by decide), if_neg (by decide), if_neg (by decide), if_pos rfl]
    rw [hraw] at h1
    have hb : (if v < 2 then List.map w1K [] else ([] : List BkD)) = [] := by split <;> rfl
    simp only [hb] at h1
    have e : q = { r0 6 with ct := (valN 4 xs : Nat) } := by rw [← h1]; rfl
    rw [e]
    exact HR.out)
  have HRW : RowKit.Hid (RowK V9 none q.bs.length 0 q.bs) := Lib.hid (by
    have h1 := HQ0.out
    rw [HDP.out] at h1
    have hraw : rawD 6 v xs = ⟨6, noT, 0, 0, 0, 0, [], 0, 0, (valN 4 xs : Nat)⟩ := by unfold rawD; rw [if_neg (by decide), if_neg (by decide), if_neg (by decide), if_neg (by decide), if_neg (by decide), if_pos rfl]
    rw [hraw] at h1
    have hb : (if v < 2 then List.map w1K [] else ([] : List BkD)) = [] := by split <;> rfl
    simp only [hb] at h1
    have e : q.bs = [] := by rw [← h1]
    rw [e]; exact RowS.nil _ _ _ _ (by omega))
  have HOW : RowKit.Hid (∀ cs W, Touch V9 W (fun _ => False) → OwnK (W.setRow W1.heap.size cs) w.heap.size (.slice none q.bs.length 0) q.bs) := Lib.hid (by
    have h1 := HQ0.out
    rw [HDP.out] at h1
    have hraw : rawD 6 v xs = ⟨6, noT, 0, 0, 0, 0, [], 0, 0, (valN 4 xs : Nat)⟩ := by unfold rawD; rw [if_neg (by decide), if_neg (by decide), if_neg (by decide), if_neg (by decide), if_neg (by decide), if_pos rfl]
    rw [hraw] at h1
    have hb : (if v < 2 then List.map w1K [] else ([] : List BkD)) = [] := by split <;> rfl
    simp only [hb] at h1
    have e : q.bs = [] := by rw [← h1]
    rw [e]; exact fun cs W _ => OwnK.none _ _)
  have HEN := Lib.hid (d_fEnd _ _ _ _ V9 HRD.out)
  have HIR2 : RowKit.Hid ((Try.prog.info? 29).map (·.size) = some (rcs q none 0).size) := Lib.hid infoRec
  clear HR HRD HF
  have hn2 : n = 4 := hn.symm.trans (by unfold lenD; rfl)
  rw [← hn2] at HEN
  clear hn2 hn
  generalize endOf (nxtX n xs).length (nxtE n xs 0) = E at *
  by_cases hne : n = xs.length
  · have hE : E = 0 := HEI.out.2 hne
    subst hE
    cases hm : mayRB q with
    | true =>
      have HMQ := Lib.hid (fun (W : World) (h : RowK W none q.bs.length 0 q.bs) => hm ▸ HM.out none 0 W h)
      have HXX := Lib.hid (HX1.out ⟨hne, hm⟩)
      clear HX1 HX2 HEI hm HM HOB
      go_wp2_with (first
        | (go_at_call 67; (with_reducible refine HEN.out.mono ?_); rintro e w' ⟨rfl, h2⟩; obtain rfl := h2.symm)
        | (refine load_rowG rfl 29 (.tmp 5) rfl W3.heap.size rfl _ _ _ _ HQR.out Try.underlying29 rfl HIR2.out ?_)
        | (go_at_call 19; (with_reducible refine (HMQ.out _ HRW.out).mono ?_); rintro e w10 ⟨rfl, t10⟩; have HZ := Lib.hid (t10.keeps HZ.out (fun h => h)); have HQR := Lib.hid (t10.keeps HQR.out (fun h => h)); have HT := Lib.hid (HT.out.trans t10 (fun _ _ h => h)); have HOZ := Lib.hid (fun cs => HOW.out cs w10 t10); clear t10)
        | (refine store_row rfl 29 (.tmp 2) (.tmp 119) rfl W1.heap.size _ rfl rfl _ _ HZ.out HIR2.out rfl rfl ?_))
      refine ret_row1 rfl rfl W1.heap.size 29 (rcs q none 0) (0, 0) _ rfl (setRow_heap _ _ _ _ _ _ HZ.out) Try.underlying29 rfl infoRec _ rfl ?_
      rw [HXX.out]
      exact ⟨none, 0, rfl, HOZ.out _, HT.out.setRow _ _ (fun h => absurd h (by have := HSZ.out; omega))⟩
    | false =>
      have HMQ := Lib.hid (fun (W : World) (h : RowK W none q.bs.length 0 q.bs) => hm ▸ HM.out none 0 W h)
      have HXX := Lib.hid (HX2.out (fun h => by rw [hm] at h; cases h.2))
      clear HX1 HX2 HEI hm HM HOB
      go_wp2_with (first
        | (go_at_call 67; (with_reducible refine HEN.out.mono ?_); rintro e w' ⟨rfl, h2⟩; obtain rfl := h2.symm)
        | (refine load_rowG rfl 29 (.tmp 5) rfl W3.heap.size rfl _ _ _ _ HQR.out Try.underlying29 rfl HIR2.out ?_)
        | (go_at_call 19; (with_reducible refine (HMQ.out _ HRW.out).mono ?_); rintro e w10 ⟨rfl, t10⟩; have HZ := Lib.hid (t10.keeps HZ.out (fun h => h)); have HT := Lib.hid (HT.out.trans t10 (fun _ _ h => h)); clear t10)
        | (refine store_row rfl 29 (.tmp 2) (.tmp 118) rfl W1.heap.size (rcs zeroR none 0) rfl rfl _ _ HZ.out HIR2.out rfl rfl ?_))
      refine ret_row1 rfl rfl W1.heap.size 29 (rcs zeroR none 0) (0, 0) _ rfl (setRow_heap _ _ _ _ _ _ HZ.out) Try.underlying29 rfl infoRec _ rfl ?_
      rw [HXX.out]
      exact ⟨none, 0, rfl, OwnK.none _ _, HT.out.setRow _ _ (fun h => absurd h (by have := HSZ.out; omega))⟩
  · have hE : E ≠ 0 := fun h => hne (HEI.out.1 h)
    have hEb : (E != 0) = true := bne_iff_ne.2 hE
    have HXX := Lib.hid (HX2.out (fun h => hne h.1))
    clear HX1 HX2 HEI hne hE HM HOB
    go_wp2_with (first
      | (go_at_call 67; (with_reducible refine HEN.out.mono ?_); rintro e w' ⟨rfl, h2⟩; obtain rfl := h2.symm)
      | (refine store_row rfl 29 (.tmp 2) (.tmp 118) rfl W1.heap.size (rcs zeroR none 0) rfl rfl _ _ HZ.out HIR2.out rfl rfl ?_))
    refine ret_row1 rfl rfl W1.heap.size 29 (rcs zeroR none 0) (0, 0) _ rfl (setRow_heap _ _ _ _ _ _ HZ.out) Try.underlying29 rfl infoRec _ rfl ?_
    rw [HXX.out]
    exact ⟨none, 0, rfl, OwnK.none _ _, HT.out.setRow _ _ (fun h => absurd h (by have := HSZ.out; omega))⟩

set_option maxRecDepth 20000 in
set_option maxHeartbeats 16000000 in
theorem rdec_k4 (v : Int) (a : Option Addr) (cap : Nat) (xs : List Nat) (w : World) (hv : verB v = true) (hrow : RowB w a xs.length cap xs) (hlen : xs.length ≤ 140737488355328) :
    Calls Try.prog 28 #[.agg (f3 4 v a xs.length cap)] w (DecIs w 4 v xs) := by
  have vv := verB_cases v hv
  have hsm := hrow.2.2.2.2.1
  obtain ⟨n, hn⟩ : ∃ n, lenD 4 v xs = n := ⟨_, rfl⟩
  obtain ⟨q, hq⟩ : ∃ q, decD 4 v xs = q := ⟨_, rfl⟩
  have hql : q.bs.length ≤ 100000 := by
    have h1 := rawD_len 4 v xs hsm
    rw [← hq, dec_parts _ _ _ hv]
    simp only
    split
    · rw [List.length_map]; omega
    · omega
  have hE : decE 4 v xs = if (n = xs.length ∧ mayRB q = true) then 0 else 3 := by
    unfold decE decB
    rw [if_pos hv, hn, hq]
    by_cases h1 : n = xs.length <;> by_cases h2 : mayRB q = true <;> simp [h1, h2]
  have hX1 : (n = xs.length ∧ mayRB q = true) → DecIs w 4 v xs = fun e w' => ∃ a' c', e = .returned (.tuple #[.agg (rcs q a' c'), .int .i64 0]) ∧ OwnK w' w.heap.size (.slice a' q.bs.length c') q.bs ∧ Touch w w' (fun _ => False) := by
    intro h
    have he : decE 4 v xs = 0 := by rw [hE, if_pos h]
    have hr : decR 4 v xs = q := by unfold decR; rw [he, if_pos rfl, hq]
    funext e w'; unfold DecIs; rw [he, hr]
  have hX2 : ¬ (n = xs.length ∧ mayRB q = true) → DecIs w 4 v xs = fun e w' => ∃ a' c', e = .returned (.tuple #[.agg (rcs zeroR a' c'), .int .i64 3]) ∧ OwnK w' w.heap.size (.slice a' 0 c') [] ∧ Touch w w' (fun _ => False) := by
    intro h
    have he : decE 4 v xs = 3 := by rw [hE, if_neg h]
    have hr : decR 4 v xs = zeroR := by unfold decR; rw [he]; rfl
    funext e w'; unfold DecIs; rw [he, hr]; rfl
  have HX1 := Lib.hid hX1
  have HX2 := Lib.hid hX2
  have HOB : RowKit.Hid (okB 4 xs = false → mayRB q = false) := Lib.hid (fun h => hq ▸ ok_bad hv h)
  have HV : RowKit.Hid (∀ w, Calls Try.prog 51 #[.int .i64 v] w fun e w' => e = .returned (.bool true) ∧ w = w') := Lib.hid (fun w => (rversion_any v w).mono fun e w' h => ⟨hv ▸ h.1, h.2.symm⟩)
  have HM : RowKit.Hid (∀ (a : Option Addr) (cap : Nat) (W : World), RowK W a q.bs.length cap q.bs → Calls Try.prog 19 #[.agg (rcs q a cap)] W fun e w' => e = .returned (.bool (mayRB q)) ∧ Touch W w' (fun _ => False)) := Lib.hid (fun a cap W h => rmay_any q a cap W h hql)
  have HEI := Lib.hid (end_iff n xs)
  have HDP := Lib.hid (dec_parts 4 v xs hv)
  have HN := Lib.hid hn
  have HQ0 := Lib.hid hq
  have HVV := Lib.hid vv
  obtain ⟨W1, hW1⟩ : ∃ W, w.alloc (.cells (f3 4 v a xs.length cap) 39) = W := ⟨_, rfl⟩
  obtain ⟨W2, hW2⟩ : ∃ W, W1.alloc (.cells #[.int .i64 0, .int .u32 0, .int .u32 0, .int .i64 0, .int .i64 0, .int .i64 0, .int .i64 0, .int .i64 0, .int .i64 0, .int .i64 0, .slice none 0 0, .int .i64 0, .int .i64 0, .int .i64 0] 29) = W := ⟨_, rfl⟩
  obtain ⟨W3, hW3⟩ : ∃ W, W2.alloc (.cells #[.slice a xs.length cap, .int .i64 0] 92) = W := ⟨_, rfl⟩
  have t1 : Touch w W1 (fun _ => False) := hW1 ▸ (Touch.refl _ _).alloc _
  have t2 : Touch W1 W2 (fun _ => False) := hW2 ▸ (Touch.refl _ _).alloc _
  have t3 : Touch W2 W3 (fun _ => False) := hW3 ▸ (Touch.refl _ _).alloc _
  obtain ⟨W4, hW4⟩ : ∃ W, W3.alloc (.cells (rcs (r0 4) none 0) 29) = W := ⟨_, rfl⟩
  have t4 : Touch W3 W4 (fun _ => False) := hW4 ▸ (Touch.refl _ _).alloc _
  have HZ : RowKit.Hid (W4.heap[W1.heap.size]? = some (.cells (rcs zeroR none 0) 29 (0, 0))) := Lib.hid (t4.keeps (t3.keeps (hW2 ▸ heap_alloc_new W1 _) (fun h => h)) (fun h => h))
  have hf2 : W2.heap[w.heap.size]? = some (.cells (f3 4 v a xs.length cap) 39 (0, 0)) := t2.keeps (hW1 ▸ heap_alloc_new w _) (fun h => h)
  have hf3 := t3.keeps hf2 (fun h => h)
  have HF := Lib.hid (t4.keeps hf3 (fun h => h))
  have HR : RowKit.Hid (W4.heap[W3.heap.size]? = some (.cells (rcs (r0 4) none 0) 29 (0, 0))) := Lib.hid (hW4 ▸ heap_alloc_new W3 _)
  have HSZ : RowKit.Hid (w.heap.size < W1.heap.size ∧ W1.heap.size < W2.heap.size ∧ W2.heap.size < W3.heap.size ∧ W3.heap.size < W4.heap.size) := Lib.hid ⟨by rw [← hW1]; simp, by rw [← hW2]; simp, by rw [← hW3]; simp, by rw [← hW4]; simp⟩
  have hrw3 := ((hrow.touch t1 (fun _ _ => .inr (fun h => h))).touch t2 (fun _ _ => .inr (fun h => h))).touch t3 (fun _ _ => .inr (fun h => h))
  have HRD : RowKit.Hid (RfD W4 W2.heap.size (fun k => w.heap.size ≤ k ∧ k ≠ W2.heap.size) xs 0) := Lib.hid (RfD.still ⟨fun h => h.2 rfl, .inl rfl, hlen, a, cap, ⟨hW3 ▸ heap_alloc_new W2 _, hrw3, fun x hx => (hrow.lt x hx).imp id (fun h1 => by have := HSZ.out; omega)⟩, fun x hx => (hrow.lt x hx).imp id (fun h1 h2 => by have := h2.1; omega)⟩ t4)
  have HT := Lib.hid (((t1.trans t2 (fun _ _ h => h)).trans t3 (fun _ _ h => h)).trans t4 (fun _ _ h => h))
  have HIR := Lib.hid infoRec
  have HIT := Lib.hid infoTup
  have g1' : W2.cell? ⟨w.heap.size, 1, none⟩ = some (.int .i64 v) := cell_of_cells hf2 1
  have g2' : W2.cell? ⟨w.heap.size, 2, none⟩ = some (.slice a xs.length cap) := cell_of_cells hf2 2
  have g0' : W3.cell? ⟨w.heap.size, 0, none⟩ = some (.int .i64 4) := cell_of_cells hf3 0
  have g0 : W4.cell? ⟨w.heap.size, 0, none⟩ = some (.int .i64 4) := cell_of_cells HF.out 0
  generalize DecIs w 4 v xs = X at *
  clear hX1 hX2 hE hrow hrw3 hf2 hf3 hsm t1 t2 t3 t4 vv hv hn hq hlen
  simp only [f3] at hW1
  simp only [rcs, r0, noT, List.length_nil] at hW4
  simp only [f3]
  have HW4 := Lib.hid hW4
  clear hW4
  go_enter Try.func28, Try.ntmps28
  go_upto_region 6 with (go_at_call 51; (with_reducible refine (HV.out _).mono ?_); rintro e w' ⟨rfl, rfl⟩)
  rw [HW4.out]
  clear g0' g1' g2' HW4 HV
  go_upto_region 31 with (first
    | (go_at_call 63; (with_reducible refine (d_fU16 _ _ _ _ _ HRD.out).mono ?_); rintro e w9 ⟨rfl, h1, t2⟩; (try rw [nxtX_nxtX, nxtE_nxtE] at h1); (try simp only [Nat.reduceAdd] at h1); have HZ := Lib.hid (t2.keeps HZ.out (fun h => by have := HSZ.out; omega)); have HF := Lib.hid (t2.keeps HF.out (fun h => by have := HSZ.out; omega)); have HR := Lib.hid (t2.keeps HR.out (fun h => by have := HSZ.out; omega)); have HRD := Lib.hid h1; have HT := Lib.hid (HT.out.trans t2 (fun k hk h => by have := HSZ.out; omega)); clear h1 t2; (try clear g0); obtain ⟨k0, k1, k2, k3, k4, k5, k6, k7, k8, k9, k10, k11, k12, k13⟩ := rcells_of HR.out; have kf := free_of_cells HR.out)
    | (go_at_call 65; (with_reducible refine (d_fI64 _ _ _ _ _ HRD.out).mono ?_); rintro e w9 ⟨rfl, h1, t2⟩; (try rw [nxtX_nxtX, nxtE_nxtE] at h1); (try simp only [Nat.reduceAdd] at h1); have HZ := Lib.hid (t2.keeps HZ.out (fun h => by have := HSZ.out; omega)); have HF := Lib.hid (t2.keeps HF.out (fun h => by have := HSZ.out; omega)); have HR := Lib.hid (t2.keeps HR.out (fun h => by have := HSZ.out; omega)); have HRD := Lib.hid h1; have HT := Lib.hid (HT.out.trans t2 (fun k hk h => by have := HSZ.out; omega)); clear h1 t2; (try clear g0); obtain ⟨k0, k1, k2, k3, k4, k5, k6, k7, k8, k9, k10, k11, k12, k13⟩ := rcells_of HR.out; have kf := free_of_cells HR.out))
  obtain ⟨V8, hV8⟩ : ∃ W, w9.setCell ⟨W3.heap.size, 11, none⟩ (.int .i64 (valN 2 xs : Nat)) = W := ⟨_, rfl⟩
  have tS : Touch w9 V8 (fun k => k = W3.heap.size) := hV8 ▸ (Touch.refl w9 _).into 11 _
  have HR := Lib.hid (heap_setCell_same w9 W3.heap.size 11 _ _ (.int .i64 (valN 2 xs : Nat)) HR.out)
  rw [rset_be, hV8] at HR
  have HZ := Lib.hid (tS.keeps HZ.out (fun h => by have := HSZ.out; omega))
  have HF := Lib.hid (tS.keeps HF.out (fun h => by have := HSZ.out; omega))
  have HRD := Lib.hid (HRD.out.touch tS (fun k _ h => by have := HSZ.out; subst h; exact ⟨by omega, by omega⟩))
  have HT := Lib.hid (HT.out.trans tS (fun k hk h => by have := HSZ.out; omega))
  rw [hV8]
  clear tS hV8
  (try clear k0 k1 k2 k3 k4 k5 k6 k7 k8 k9 k10 k11 k12 k13 kf)
  have g1 : V8.cell? ⟨w.heap.size, 1, none⟩ = some (.int .i64 v) := cell_of_cells HF.out 1
  obtain ⟨V9, hV9⟩ : ∃ W, V8.setCell ⟨W3.heap.size, 12, none⟩ (.int .i64 (sgn (valN 8 (nxtX 2 xs)))) = W := ⟨_, rfl⟩
  have tS : Touch V8 V9 (fun k => k = W3.heap.size) := hV9 ▸ (Touch.refl V8 _).into 12 _
  have HR := Lib.hid (heap_setCell_same V8 W3.heap.size 12 _ _ (.int .i64 (sgn (valN 8 (nxtX 2 xs)))) HR.out)
  rw [rset_un, hV9] at HR
  have HZ := Lib.hid (tS.keeps HZ.out (fun h => by have := HSZ.out; omega))
  have HF := Lib.hid (tS.keeps HF.out (fun h => by have := HSZ.out; omega))
  have HRD := Lib.hid (HRD.out.touch tS (fun k _ h => by have := HSZ.out; subst h; exact ⟨by omega, by omega⟩))
  have HT := Lib.hid (HT.out.trans tS (fun k hk h => by have := HSZ.out; omega))
  rw [hV9]
  clear tS hV9
  (try clear k0 k1 k2 k3 k4 k5 k6 k7 k8 k9 k10 k11 k12 k13 kf)
  have g1 : V9.cell? ⟨w.heap.size, 1, none⟩ = some (.int .i64 v) := cell_of_cells HF.out 1
  have hn := HN.out
  have HQR : RowKit.Hid (V9.heap[W3.heap.size]? = some (.cells (rcs q none 0) 29 (0, 0))) := Lib.hid (by
    have h1 := HQ0.out
    rw [HDP.out] at h1
    have hraw : rawD 4 v xs = ⟨4, noT, 0, 0, 0, 0, [], (valN 2 xs : Nat), sgn (valN 8 (nxtX 2 xs)), 0⟩ := by unfold rawD; rw [if_neg (by decide), if_neg (by decide), if_neg (by decide), if_pos rfl]
    rw [hraw] at h1
    have hb : (if v < 2 then List.map w1K [] else ([] : List BkD)) = [] := by split <;> rfl
    simp only [hb] at h1
    have e : q = { r0 4 with be := (valN 2 xs : Nat), un := sgn (valN 8 (nxtX 2 xs)) } := by rw [← h1]; rfl
    rw [e]
    exact HR.out)
  have HRW : RowKit.Hid (RowK V9 none q.bs.length 0 q.bs) := Lib.hid (by
    have h1 := HQ0.out
    rw [HDP.out] at h1
    have hraw : rawD 4 v xs = ⟨4, noT, 0, 0, 0, 0, [], (valN 2 xs : Nat), sgn (valN 8 (nxtX 2 xs)), 0⟩ := by unfold rawD; rw [if_neg (by decide), if_neg (by decide), if_neg (by decide), if_pos rfl]
    rw [hraw] at h1
    have hb : (if v < 2 then List.map w1K [] else ([] : List BkD)) = [] := by split <;> rfl
    simp only [hb] at h1
    have e : q.bs = [] := by rw [← h1]
    rw [e]; exact RowS.nil _ _ _ _ (by omega))
  have HOW : RowKit.Hid (∀ cs W, Touch V9 W (fun _ => False) → OwnK (W.setRow W1.heap.size cs) w.heap.size (.slice none q.bs.length 0) q.bs) := Lib.hid (by
    have h1 := HQ0.out
    rw [HDP.out] at h1
    have hraw : rawD 4 v xs = ⟨4, noT, 0, 0, 0, 0, [], (valN 2 xs : Nat), sgn (valN 8 (nxtX 2 xs)), 0⟩ := by unfold rawD; rw [if_neg (by decide), if_neg (by decide), if_neg (by decide), if_pos rfl]
    rw [hraw] at h1
    have hb : (if v < 2 then List.map w1K [] else ([] : List BkD)) = [] := by split <;> rfl
    simp only [hb] at h1
    have e : q.bs = [] := by rw [← h1]
    rw [e]; exact fun cs W _ => OwnK.none _ _)
  have HEN := Lib.hid (d_fEnd _ _ _ _ V9 HRD.out)
  have HIR2 : RowKit.Hid ((Try.prog.info? 29).map (·.size) = some (rcs q none 0).size) := Lib.hid infoRec
  clear HR HRD HF
  have hn2 : n = 10 := hn.symm.trans (by unfold lenD; rfl)
  rw [← hn2] at HEN
  clear hn2 hn
  generalize endOf (nxtX n xs).length (nxtE n xs 0) = E at *
  by_cases hne : n = xs.length
  · have hE : E = 0 := HEI.out.2 hne
    subst hE
    cases hm : mayRB q with
    | true =>
      have HMQ := Lib.hid (fun (W : World) (h : RowK W none q.bs.length 0 q.bs) => hm ▸ HM.out none 0 W h)
      have HXX := Lib.hid (HX1.out ⟨hne, hm⟩)
      clear HX1 HX2 HEI hm HM HOB
      go_wp2_with (first
        | (go_at_call 67; (with_reducible refine HEN.out.mono ?_); rintro e w' ⟨rfl, h2⟩; obtain rfl := h2.symm)
        | (refine load_rowG rfl 29 (.tmp 5) rfl W3.heap.size rfl _ _ _ _ HQR.out Try.underlying29 rfl HIR2.out ?_)
        | (go_at_call 19; (with_reducible refine (HMQ.out _ HRW.out).mono ?_); rintro e w10 ⟨rfl, t10⟩; have HZ := Lib.hid (t10.keeps HZ.out (fun h => h)); have HQR := Lib.hid (t10.keeps HQR.out (fun h => h)); have HT := Lib.hid (HT.out.trans t10 (fun _ _ h => h)); have HOZ := Lib.hid (fun cs => HOW.out cs w10 t10); clear t10)
        | (refine store_row rfl 29 (.tmp 2) (.tmp 119) rfl W1.heap.size _ rfl rfl _ _ HZ.out HIR2.out rfl rfl ?_))
      refine ret_row1 rfl rfl W1.heap.size 29 (rcs q none 0) (0, 0) _ rfl (setRow_heap _ _ _ _ _ _ HZ.out) Try.underlying29 rfl infoRec _ rfl ?_
      rw [HXX.out]
      exact ⟨none, 0, rfl, HOZ.out _, HT.out.setRow _ _ (fun h => absurd h (by have := HSZ.out; omega))⟩
    | false =>
      have HMQ := Lib.hid (fun (W : World) (h : RowK W none q.bs.length 0 q.bs) => hm ▸ HM.out none 0 W h)
      have HXX := Lib.hid (HX2.out (fun h => by rw [hm] at h; cases h.2))
      clear HX1 HX2 HEI hm HM HOB
      go_wp2_with (first
        | (go_at_call 67; (with_reducible refine HEN.out.mono ?_); rintro e w' ⟨rfl, h2⟩; obtain rfl := h2.symm)
        | (refine load_rowG rfl 29 (.tmp 5) rfl W3.heap.size rfl _ _ _ _ HQR.out Try.underlying29 rfl HIR2.out ?_)
        | (go_at_call 19; (with_reducible refine (HMQ.out _ HRW.out).mono ?_); rintro e w10 ⟨rfl, t10⟩; have HZ := Lib.hid (t10.keeps HZ.out (fun h => h)); have HT := Lib.hid (HT.out.trans t10 (fun _ _ h => h)); clear t10)
        | (refine store_row rfl 29 (.tmp 2) (.tmp 118) rfl W1.heap.size (rcs zeroR none 0) rfl rfl _ _ HZ.out HIR2.out rfl rfl ?_))
      refine ret_row1 rfl rfl W1.heap.size 29 (rcs zeroR none 0) (0, 0) _ rfl (setRow_heap _ _ _ _ _ _ HZ.out) Try.underlying29 rfl infoRec _ rfl ?_
      rw [HXX.out]
      exact ⟨none, 0, rfl, OwnK.none _ _, HT.out.setRow _ _ (fun h => absurd h (by have := HSZ.out; omega))⟩
  · have hE : E ≠ 0 := fun h => hne (HEI.out.1 h)
    have hEb : (E != 0) = true := bne_iff_ne.2 hE
    have HXX := Lib.hid (HX2.out (fun h => hne h.1))
    clear HX1 HX2 HEI hne hE HM HOB
    go_wp2_with (first
      | (go_at_call 67; (with_reducible refine HEN.out.mono ?_); rintro e w' ⟨rfl, h2⟩; obtain rfl := h2.symm)
      | (refine store_row rfl 29 (.tmp 2) (.tmp 118) rfl W1.heap.size (rcs zeroR none 0) rfl rfl _ _ HZ.out HIR2.out rfl rfl ?_))
    refine ret_row1 rfl rfl W1.heap.size 29 (rcs zeroR none 0) (0, 0) _ rfl (setRow_heap _ _ _ _ _ _ HZ.out) Try.underlying29 rfl infoRec _ rfl ?_
    rw [HXX.out]
    exact ⟨none, 0, rfl, OwnK.none _ _, HT.out.setRow _ _ (fun h => absurd h (by have := HSZ.out; omega))⟩

set_option maxRecDepth 20000 in
set_option maxHeartbeats 16000000 in
theorem rdec_k2 (v : Int) (a : Option Addr) (cap : Nat) (xs : List Nat) (w : World) (hv : verB v = true) (hrow : RowB w a xs.length cap xs) (hlen : xs.length ≤ 140737488355328) :
    Calls Try.prog 28 #[.agg (f3 2 v a xs.length cap)] w (DecIs w 2 v xs) := by
  have vv := verB_cases v hv
  have hsm := hrow.2.2.2.2.1
  obtain ⟨n, hn⟩ : ∃ n, lenD 2 v xs = n := ⟨_, rfl⟩
  obtain ⟨q, hq⟩ : ∃ q, decD 2 v xs = q := ⟨_, rfl⟩
  have hql : q.bs.length ≤ 100000 := by
    have h1 := rawD_len 2 v xs hsm
    rw [← hq, dec_parts _ _ _ hv]
    simp only
    split
    · rw [List.length_map]; omega
    · omega
  have hE : decE 2 v xs = if (n = xs.length ∧ mayRB q = true) then 0 else 3 := by
    unfold decE decB
    rw [if_pos hv, hn, hq]
    by_cases h1 : n = xs.length <;> by_cases h2 : mayRB q = true <;> simp [h1, h2]
  have hX1 : (n = xs.length ∧ mayRB q = true) → DecIs w 2 v xs = fun e w' => ∃ a' c', e = .returned (.tuple #[.agg (rcs q a' c'), .int .i64 0]) ∧ OwnK w' w.heap.size (.slice a' q.bs.length c') q.bs ∧ Touch w w' (fun _ => False) := by
    intro h
    have he : decE 2 v xs = 0 := by rw [hE, if_pos h]
    have hr : decR 2 v xs = q := by unfold decR; rw [he, if_pos rfl, hq]
    funext e w'; unfold DecIs; rw [he, hr]
  have hX2 : ¬ (n = xs.length ∧ mayRB q = true) → DecIs w 2 v xs = fun e w' => ∃ a' c', e = .returned (.tuple #[.agg (rcs zeroR a' c'), .int .i64 3]) ∧ OwnK w' w.heap.size (.slice a' 0 c') [] ∧ Touch w w' (fun _ => False) := by
    intro h
    have he : decE 2 v xs = 3 := by rw [hE, if_neg h]
    have hr : decR 2 v xs = zeroR := by unfold decR; rw [he]; rfl
    funext e w'; unfold DecIs; rw [he, hr]; rfl
  have HX1 := Lib.hid hX1
  have HX2 := Lib.hid hX2
  have HOB : RowKit.Hid (okB 2 xs = false → mayRB q = false) := Lib.hid (fun h => hq ▸ ok_bad hv h)
  have HV : RowKit.Hid (∀ w, Calls Try.prog 51 #[.int .i64 v] w fun e w' => e = .returned (.bool true) ∧ w = w') := Lib.hid (fun w => (rversion_any v w).mono fun e w' h => ⟨hv ▸ h.1, h.2.symm⟩)
  have HM : RowKit.Hid (∀ (a : Option Addr) (cap : Nat) (W : World), RowK W a q.bs.length cap q.bs → Calls Try.prog 19 #[.agg (rcs q a cap)] W fun e w' => e = .returned (.bool (mayRB q)) ∧ Touch W w' (fun _ => False)) := Lib.hid (fun a cap W h => rmay_any q a cap W h hql)
  have HEI := Lib.hid (end_iff n xs)
  have HDP := Lib.hid (dec_parts 2 v xs hv)
  have HN := Lib.hid hn
  have HQ0 := Lib.hid hq
  have HVV := Lib.hid vv
  obtain ⟨W1, hW1⟩ : ∃ W, w.alloc (.cells (f3 2 v a xs.length cap) 39) = W := ⟨_, rfl⟩
  obtain ⟨W2, hW2⟩ : ∃ W, W1.alloc (.cells #[.int .i64 0, .int .u32 0, .int .u32 0, .int .i64 0, .int .i64 0, .int .i64 0, .int .i64 0, .int .i64 0, .int .i64 0, .int .i64 0, .slice none 0 0, .int .i64 0, .int .i64 0, .int .i64 0] 29) = W := ⟨_, rfl⟩
  obtain ⟨W3, hW3⟩ : ∃ W, W2.alloc (.cells #[.slice a xs.length cap, .int .i64 0] 92) = W := ⟨_, rfl⟩
  have t1 : Touch w W1 (fun _ => False) := hW1 ▸ (Touch.refl _ _).alloc _
  have t2 : Touch W1 W2 (fun _ => False) := hW2 ▸ (Touch.refl _ _).alloc _
  have t3 : Touch W2 W3 (fun _ => False) := hW3 ▸ (Touch.refl _ _).alloc _
  obtain ⟨W4, hW4⟩ : ∃ W, W3.alloc (.cells (rcs (r0 2) none 0) 29) = W := ⟨_, rfl⟩
  have t4 : Touch W3 W4 (fun _ => False) := hW4 ▸ (Touch.refl _ _).alloc _
  have HZ : RowKit.Hid (W4.heap[W1.heap.size]? = some (.cells (rcs zeroR none 0) 29 (0, 0))) := Lib.hid (t4.keeps (t3.keeps (hW2 ▸ heap_alloc_new W1 _) (fun h => h)) (fun h => h))
  have hf2 : W2.heap[w.heap.size]? = some (.cells (f3 2 v a xs.length cap) 39 (0, 0)) := t2.keeps (hW1 ▸ heap_alloc_new w _) (fun h => h)
  have hf3 := t3.keeps hf2 (fun h => h)
  have HF := Lib.hid (t4.keeps hf3 (fun h => h))
  have HR : RowKit.Hid (W4.heap[W3.heap.size]? = some (.cells (rcs (r0 2) none 0) 29 (0, 0))) := Lib.hid (hW4 ▸ heap_alloc_new W3 _)
  have HSZ : RowKit.Hid (w.heap.size < W1.heap.size ∧ W1.heap.size < W2.heap.size ∧ W2.heap.size < W3.heap.size ∧ W3.heap.size < W4.heap.size) := Lib.hid ⟨by rw [← hW1]; simp, by rw [← hW2]; simp, by rw [← hW3]; simp, by rw [← hW4]; simp⟩
  have hrw3 := ((hrow.touch t1 (fun _ _ => .inr (fun h => h))).touch t2 (fun _ _ => .inr (fun h => h))).touch t3 (fun _ _ => .inr (fun h => h))
  have HRD : RowKit.Hid (RfD W4 W2.heap.size (fun k => w.heap.size ≤ k ∧ k ≠ W2.heap.size) xs 0) := Lib.hid (RfD.still ⟨fun h => h.2 rfl, .inl rfl, hlen, a, cap, ⟨hW3 ▸ heap_alloc_new W2 _, hrw3, fun x hx => (hrow.lt x hx).imp id (fun h1 => by have := HSZ.out; omega)⟩, fun x hx => (hrow.lt x hx).imp id (fun h1 h2 => by have := h2.1; omega)⟩ t4)
  have HT := Lib.hid (((t1.trans t2 (fun _ _ h => h)).trans t3 (fun _ _ h => h)).trans t4 (fun _ _ h => h))
  have HIR := Lib.hid infoRec
  have HIT := Lib.hid infoTup
  have g1' : W2.cell? ⟨w.heap.size, 1, none⟩ = some (.int .i64 v) := cell_of_cells hf2 1
  have g2' : W2.cell? ⟨w.heap.size, 2, none⟩ = some (.slice a xs.length cap) := cell_of_cells hf2 2
  have g0' : W3.cell? ⟨w.heap.size, 0, none⟩ = some (.int .i64 2) := cell_of_cells hf3 0
  have g0 : W4.cell? ⟨w.heap.size, 0, none⟩ = some (.int .i64 2) := cell_of_cells HF.out 0
  generalize DecIs w 2 v xs = X at *
  clear hX1 hX2 hE hrow hrw3 hf2 hf3 hsm t1 t2 t3 t4 vv hv hn hq hlen
  simp only [f3] at hW1
  simp only [rcs, r0, noT, List.length_nil] at hW4
  simp only [f3]
  have HW4 := Lib.hid hW4
  clear hW4
  go_enter Try.func28, Try.ntmps28
  go_upto_region 6 with (go_at_call 51; (with_reducible refine (HV.out _).mono ?_); rintro e w' ⟨rfl, rfl⟩)
  rw [HW4.out]
  clear g0' g1' g2' HW4 HV
  go_upto_region 31 with (first
    | (go_at_call 62; (with_reducible refine (rtRead_any _ _ _ _ HRD.out).mono ?_); rintro e w9 ⟨rfl, h1, t2⟩; have HTH : RowKit.Hid (w9.there W3.heap.size 1 5) := Lib.hid (fun j hj => ⟨by have hb2 := t2.keeps HR.out (fun h => by have := HSZ.out; omega); have h9 := (cell_of_cells hb2 (1 + j)).trans (Array.getElem?_eq_getElem (by rw [rcs_size]; omega)); exact Option.isSome_of_eq_some h9, free_of_cells (t2.keeps HR.out (fun h => by have := HSZ.out; omega)) (1 + j)⟩); have HZ := Lib.hid (t2.keeps HZ.out (fun h => by have := HSZ.out; omega)); have HF := Lib.hid (t2.keeps HF.out (fun h => by have := HSZ.out; omega)); have HR := Lib.hid (t2.keeps HR.out (fun h => by have := HSZ.out; omega)); have HRD := Lib.hid h1; have HT := Lib.hid (HT.out.trans t2 (fun k hk h => by have := HSZ.out; omega)); clear h1 t2; (try clear g0))
    | (refine wpList_store_mid rfl 24 (.tmp 58) (.tmp 55) rfl W3.heap.size 1 (tcs (rtF xs)) rfl rfl HTH.out HIT.out (tcs_one _) ?_; obtain ⟨V9, hV9⟩ : ∃ W, w9.setCells W3.heap.size 1 (tcs (rtF xs)).toList = W := ⟨_, rfl⟩; have tS : Touch w9 V9 (fun k => k = W3.heap.size) := hV9 ▸ (show Touch w9 (w9.setCells W3.heap.size 1 (tcs (rtF xs)).toList) (fun k => k = W3.heap.size) from ((((((Touch.refl w9 _).into 1 _).into 2 _).into 3 _).into 4 _).into 5 _)); have HR := Lib.hid (show (w9.setCells W3.heap.size 1 (tcs (rtF xs)).toList).heap[W3.heap.size]? = some (.cells (tupS (rcs (r0 2) none 0) 1 (rtF xs)) 29 (0, 0)) from heap_setCell_same _ W3.heap.size _ _ _ _ (heap_setCell_same _ W3.heap.size _ _ _ _ (heap_setCell_same _ W3.heap.size _ _ _ _ (heap_setCell_same _ W3.heap.size _ _ _ _ (heap_setCell_same w9 W3.heap.size 1 _ _ _ HR.out))))); rw [rset_t, hV9] at HR; have HZ := Lib.hid (tS.keeps HZ.out (fun h => by have := HSZ.out; omega)); have HF := Lib.hid (tS.keeps HF.out (fun h => by have := HSZ.out; omega)); have HRD := Lib.hid (HRD.out.touch tS (fun k _ h => by have := HSZ.out; subst h; exact ⟨by omega, by omega⟩)); have HT := Lib.hid (HT.out.trans tS (fun k hk h => by have := HSZ.out; omega)); rw [hV9]; clear tS hV9; (try clear k0 k1 k2 k3 k4 k5 k6 k7 k8 k9 k10 k11 k12 k13 kf); have g1 : V9.cell? ⟨w.heap.size, 1, none⟩ = some (.int .i64 v) := cell_of_cells HF.out 1))
  have hn := HN.out
  have HQR : RowKit.Hid (V9.heap[W3.heap.size]? = some (.cells (rcs q none 0) 29 (0, 0))) := Lib.hid (by
    have h1 := HQ0.out
    rw [HDP.out] at h1
    have hraw : rawD 2 v xs = ⟨2, rtF xs, 0, 0, 0, 0, [], 0, 0, 0⟩ := by unfold rawD; rw [if_neg (by decide), if_pos rfl]
    rw [hraw] at h1
    have hb : (if v < 2 then List.map w1K [] else ([] : List BkD)) = [] := by split <;> rfl
    simp only [hb] at h1
    have e : q = { r0 2 with t := rtF xs } := by rw [← h1]; rfl
    rw [e]
    exact HR.out)
  have HRW : RowKit.Hid (RowK V9 none q.bs.length 0 q.bs) := Lib.hid (by
    have h1 := HQ0.out
    rw [HDP.out] at h1
    have hraw : rawD 2 v xs = ⟨2, rtF xs, 0, 0, 0, 0, [], 0, 0, 0⟩ := by unfold rawD; rw [if_neg (by decide), if_pos rfl]
    rw [hraw] at h1
    have hb : (if v < 2 then List.map w1K [] else ([] : List BkD)) = [] := by split <;> rfl
    simp only [hb] at h1
    have e : q.bs = [] := by rw [← h1]
    rw [e]; exact RowS.nil _ _ _ _ (by omega))
  have HOW : RowKit.Hid (∀ cs W, Touch V9 W (fun _ => False) → OwnK (W.setRow W1.heap.size cs) w.heap.size (.slice none q.bs.length 0) q.bs) := Lib.hid (by
    have h1 := HQ0.out
    rw [HDP.out] at h1
    have hraw : rawD 2 v xs = ⟨2, rtF xs, 0, 0, 0, 0, [], 0, 0, 0⟩ := by unfold rawD; rw [if_neg (by decide), if_pos rfl]
    rw [hraw] at h1
    have hb : (if v < 2 then List.map w1K [] else ([] : List BkD)) = [] := by split <;> rfl
    simp only [hb] at h1
    have e : q.bs = [] := by rw [← h1]
    rw [e]; exact fun cs W _ => OwnK.none _ _)
  have HEN := Lib.hid (d_fEnd _ _ _ _ V9 HRD.out)
  have HIR2 : RowKit.Hid ((Try.prog.info? 29).map (·.size) = some (rcs q none 0).size) := Lib.hid infoRec
  clear HR HRD HF
  have hn2 : n = 13 := hn.symm.trans (by unfold lenD; rfl)
  rw [← hn2] at HEN
  clear hn2 hn
  generalize endOf (nxtX n xs).length (nxtE n xs 0) = E at *
  have HOB2 : RowKit.Hid (rtB xs = false → mayRB q = false) := Lib.hid (fun h => HOB.out (by unfold okB; rw [if_pos (by omega)]; exact h))
  cases hb : rtB xs with
  | true =>
    by_cases hne : n = xs.length
    · have hE : E = 0 := HEI.out.2 hne
      subst hE
      cases hm : mayRB q with
      | true =>
        have HMQ := Lib.hid (fun (W : World) (h : RowK W none q.bs.length 0 q.bs) => hm ▸ HM.out none 0 W h)
        have HXX := Lib.hid (HX1.out ⟨hne, hm⟩)
        clear HX1 HX2 HEI hm HM HOB HOB2
        go_wp2_with (first
          | (go_at_call 67; (with_reducible refine HEN.out.mono ?_); rintro e w' ⟨rfl, h2⟩; obtain rfl := h2.symm)
          | (refine load_rowG rfl 29 (.tmp 5) rfl W3.heap.size rfl _ _ _ _ HQR.out Try.underlying29 rfl HIR2.out ?_)
          | (go_at_call 19; (with_reducible refine (HMQ.out _ HRW.out).mono ?_); rintro e w10 ⟨rfl, t10⟩; have HZ := Lib.hid (t10.keeps HZ.out (fun h => h)); have HQR := Lib.hid (t10.keeps HQR.out (fun h => h)); have HT := Lib.hid (HT.out.trans t10 (fun _ _ h => h)); have HOZ := Lib.hid (fun cs => HOW.out cs w10 t10); clear t10)
          | (refine store_row rfl 29 (.tmp 2) (.tmp 119) rfl W1.heap.size _ rfl rfl _ _ HZ.out HIR2.out rfl rfl ?_))
        refine ret_row1 rfl rfl W1.heap.size 29 (rcs q none 0) (0, 0) _ rfl (setRow_heap _ _ _ _ _ _ HZ.out) Try.underlying29 rfl infoRec _ rfl ?_
        rw [HXX.out]
        exact ⟨none, 0, rfl, HOZ.out _, HT.out.setRow _ _ (fun h => absurd h (by have := HSZ.out; omega))⟩
      | false =>
        have HMQ := Lib.hid (fun (W : World) (h : RowK W none q.bs.length 0 q.bs) => hm ▸ HM.out none 0 W h)
        have HXX := Lib.hid (HX2.out (fun h => by rw [hm] at h; cases h.2))
        clear HX1 HX2 HEI hm HM HOB HOB2
        go_wp2_with (first
          | (go_at_call 67; (with_reducible refine HEN.out.mono ?_); rintro e w' ⟨rfl, h2⟩; obtain rfl := h2.symm)
          | (refine load_rowG rfl 29 (.tmp 5) rfl W3.heap.size rfl _ _ _ _ HQR.out Try.underlying29 rfl HIR2.out ?_)
          | (go_at_call 19; (with_reducible refine (HMQ.out _ HRW.out).mono ?_); rintro e w10 ⟨rfl, t10⟩; have HZ := Lib.hid (t10.keeps HZ.out (fun h => h)); have HT := Lib.hid (HT.out.trans t10 (fun _ _ h => h)); clear t10)
          | (refine store_row rfl 29 (.tmp 2) (.tmp 118) rfl W1.heap.size (rcs zeroR none 0) rfl rfl _ _ HZ.out HIR2.out rfl rfl ?_))
        refine ret_row1 rfl rfl W1.heap.size 29 (rcs zeroR none 0) (0, 0) _ rfl (setRow_heap _ _ _ _ _ _ HZ.out) Try.underlying29 rfl infoRec _ rfl ?_
        rw [HXX.out]
        exact ⟨none, 0, rfl, OwnK.none _ _, HT.out.setRow _ _ (fun h => absurd h (by have := HSZ.out; omega))⟩
    · have hE : E ≠ 0 := fun h => hne (HEI.out.1 h)
      have hEb : (E != 0) = true := bne_iff_ne.2 hE
      have HXX := Lib.hid (HX2.out (fun h => hne h.1))
      clear HX1 HX2 HEI hne hE HM HOB HOB2
      go_wp2_with (first
        | (go_at_call 67; (with_reducible refine HEN.out.mono ?_); rintro e w' ⟨rfl, h2⟩; obtain rfl := h2.symm)
        | (refine store_row rfl 29 (.tmp 2) (.tmp 118) rfl W1.heap.size (rcs zeroR none 0) rfl rfl _ _ HZ.out HIR2.out rfl rfl ?_))
      refine ret_row1 rfl rfl W1.heap.size 29 (rcs zeroR none 0) (0, 0) _ rfl (setRow_heap _ _ _ _ _ _ HZ.out) Try.underlying29 rfl infoRec _ rfl ?_
      rw [HXX.out]
      exact ⟨none, 0, rfl, OwnK.none _ _, HT.out.setRow _ _ (fun h => absurd h (by have := HSZ.out; omega))⟩
  | false =>
    have HXX := Lib.hid (HX2.out (fun h => by have h1 := HOB2.out hb; rw [h1] at h; cases h.2))
    clear HX1 HX2 HEI HM HOB HOB2
    go_wp2_with (refine store_row rfl 29 (.tmp 2) (.tmp 118) rfl W1.heap.size (rcs zeroR none 0) rfl rfl _ _ HZ.out HIR2.out rfl rfl ?_)
    refine ret_row1 rfl rfl W1.heap.size 29 (rcs zeroR none 0) (0, 0) _ rfl (setRow_heap _ _ _ _ _ _ HZ.out) Try.underlying29 rfl infoRec _ rfl ?_
    rw [HXX.out]
    exact ⟨none, 0, rfl, OwnK.none _ _, HT.out.setRow _ _ (fun h => absurd h (by have := HSZ.out; omega))⟩

set_option maxRecDepth 20000 in
set_option maxHeartbeats 16000000 in
theorem rdec_k1 (v : Int) (a : Option Addr) (cap : Nat) (xs : List Nat) (w : World) (hv : verB v = true) (hrow : RowB w a xs.length cap xs) (hlen : xs.length ≤ 140737488355328) :
    Calls Try.prog 28 #[.agg (f3 1 v a xs.length cap)] w (DecIs w 1 v xs) := by
  have vv := verB_cases v hv
  have hsm := hrow.2.2.2.2.1
  obtain ⟨n, hn⟩ : ∃ n, lenD 1 v xs = n := ⟨_, rfl⟩
  obtain ⟨q, hq⟩ : ∃ q, decD 1 v xs = q := ⟨_, rfl⟩
  have hql : q.bs.length ≤ 100000 := by
    have h1 := rawD_len 1 v xs hsm
    rw [← hq, dec_parts _ _ _ hv]
    simp only
    split
    · rw [List.length_map]; omega
    · omega
  have hE : decE 1 v xs = if (n = xs.length ∧ mayRB q = true) then 0 else 3 := by
    unfold decE decB
    rw [if_pos hv, hn, hq]
    by_cases h1 : n = xs.length <;> by_cases h2 : mayRB q = true <;> simp [h1, h2]
  have hX1 : (n = xs.length ∧ mayRB q = true) → DecIs w 1 v xs = fun e w' => ∃ a' c', e = .returned (.tuple #[.agg (rcs q a' c'), .int .i64 0]) ∧ OwnK w' w.heap.size (.slice a' q.bs.length c') q.bs ∧ Touch w w' (fun _ => False) := by
    intro h
    have he : decE 1 v xs = 0 := by rw [hE, if_pos h]
    have hr : decR 1 v xs = q := by unfold decR; rw [he, if_pos rfl, hq]
    funext e w'; unfold DecIs; rw [he, hr]
  have hX2 : ¬ (n = xs.length ∧ mayRB q = true) → DecIs w 1 v xs = fun e w' => ∃ a' c', e = .returned (.tuple #[.agg (rcs zeroR a' c'), .int .i64 3]) ∧ OwnK w' w.heap.size (.slice a' 0 c') [] ∧ Touch w w' (fun _ => False) := by
    intro h
    have he : decE 1 v xs = 3 := by rw [hE, if_neg h]
    have hr : decR 1 v xs = zeroR := by unfold decR; rw [he]; rfl
    funext e w'; unfold DecIs; rw [he, hr]; rfl
  have HX1 := Lib.hid hX1
  have HX2 := Lib.hid hX2
  have HOB : RowKit.Hid (okB 1 xs = false → mayRB q = false) := Lib.hid (fun h => hq ▸ ok_bad hv h)
  have HV : RowKit.Hid (∀ w, Calls Try.prog 51 #[.int .i64 v] w fun e w' => e = .returned (.bool true) ∧ w = w') := Lib.hid (fun w => (rversion_any v w).mono fun e w' h => ⟨hv ▸ h.1, h.2.symm⟩)
  have HM : RowKit.Hid (∀ (a : Option Addr) (cap : Nat) (W : World), RowK W a q.bs.length cap q.bs → Calls Try.prog 19 #[.agg (rcs q a cap)] W fun e w' => e = .returned (.bool (mayRB q)) ∧ Touch W w' (fun _ => False)) := Lib.hid (fun a cap W h => rmay_any q a cap W h hql)
  have HEI := Lib.hid (end_iff n xs)
  have HDP := Lib.hid (dec_parts 1 v xs hv)
  have HN := Lib.hid hn
  have HQ0 := Lib.hid hq
  have HVV := Lib.hid vv
  obtain ⟨W1, hW1⟩ : ∃ W, w.alloc (.cells (f3 1 v a xs.length cap) 39) = W := ⟨_, rfl⟩
  obtain ⟨W2, hW2⟩ : ∃ W, W1.alloc (.cells #[.int .i64 0, .int .u32 0, .int .u32 0, .int .i64 0, .int .i64 0, .int .i64 0, .int .i64 0, .int .i64 0, .int .i64 0, .int .i64 0, .slice none 0 0, .int .i64 0, .int .i64 0, .int .i64 0] 29) = W := ⟨_, rfl⟩
  obtain ⟨W3, hW3⟩ : ∃ W, W2.alloc (.cells #[.slice a xs.length cap, .int .i64 0] 92) = W := ⟨_, rfl⟩
  have t1 : Touch w W1 (fun _ => False) := hW1 ▸ (Touch.refl _ _).alloc _
  have t2 : Touch W1 W2 (fun _ => False) := hW2 ▸ (Touch.refl _ _).alloc _
  have t3 : Touch W2 W3 (fun _ => False) := hW3 ▸ (Touch.refl _ _).alloc _
  obtain ⟨W4, hW4⟩ : ∃ W, W3.alloc (.cells (rcs (r0 1) none 0) 29) = W := ⟨_, rfl⟩
  have t4 : Touch W3 W4 (fun _ => False) := hW4 ▸ (Touch.refl _ _).alloc _
  have HZ : RowKit.Hid (W4.heap[W1.heap.size]? = some (.cells (rcs zeroR none 0) 29 (0, 0))) := Lib.hid (t4.keeps (t3.keeps (hW2 ▸ heap_alloc_new W1 _) (fun h => h)) (fun h => h))
  have hf2 : W2.heap[w.heap.size]? = some (.cells (f3 1 v a xs.length cap) 39 (0, 0)) := t2.keeps (hW1 ▸ heap_alloc_new w _) (fun h => h)
  have hf3 := t3.keeps hf2 (fun h => h)
  have HF := Lib.hid (t4.keeps hf3 (fun h => h))
  have HR : RowKit.Hid (W4.heap[W3.heap.size]? = some (.cells (rcs (r0 1) none 0) 29 (0, 0))) := Lib.hid (hW4 ▸ heap_alloc_new W3 _)
  have HSZ : RowKit.Hid (w.heap.size < W1.heap.size ∧ W1.heap.size < W2.heap.size ∧ W2.heap.size < W3.heap.size ∧ W3.heap.size < W4.heap.size) := Lib.hid ⟨by rw [← hW1]; simp, by rw [← hW2]; simp, by rw [← hW3]; simp, by rw [← hW4]; simp⟩
  have hrw3 := ((hrow.touch t1 (fun _ _ => .inr (fun h => h))).touch t2 (fun _ _ => .inr (fun h => h))).touch t3 (fun _ _ => .inr (fun h => h))
  have HRD : RowKit.Hid (RfD W4 W2.heap.size (fun k => w.heap.size ≤ k ∧ k ≠ W2.heap.size) xs 0) := Lib.hid (RfD.still ⟨fun h => h.2 rfl, .inl rfl, hlen, a, cap, ⟨hW3 ▸ heap_alloc_new W2 _, hrw3, fun x hx => (hrow.lt x hx).imp id (fun h1 => by have := HSZ.out; omega)⟩, fun x hx => (hrow.lt x hx).imp id (fun h1 h2 => by have := h2.1; omega)⟩ t4)
  have HT := Lib.hid (((t1.trans t2 (fun _ _ h => h)).trans t3 (fun _ _ h => h)).trans t4 (fun _ _ h => h))
  have HIR := Lib.hid infoRec
  have HIT := Lib.hid infoTup
  have g1' : W2.cell? ⟨w.heap.size, 1, none⟩ = some (.int .i64 v) := cell_of_cells hf2 1
  have g2' : W2.cell? ⟨w.heap.size, 2, none⟩ = some (.slice a xs.length cap) := cell_of_cells hf2 2
  have g0' : W3.cell? ⟨w.heap.size, 0, none⟩ = some (.int .i64 1) := cell_of_cells hf3 0
  have g0 : W4.cell? ⟨w.heap.size, 0, none⟩ = some (.int .i64 1) := cell_of_cells HF.out 0
  generalize DecIs w 1 v xs = X at *
  clear hX1 hX2 hE hrow hrw3 hf2 hf3 hsm t1 t2 t3 t4 vv hv hn hq hlen
  simp only [f3] at hW1
  simp only [rcs, r0, noT, List.length_nil] at hW4
  simp only [f3]
  have HW4 := Lib.hid hW4
  clear hW4
  go_enter Try.func28, Try.ntmps28
  go_upto_region 6 with (go_at_call 51; (with_reducible refine (HV.out _).mono ?_); rintro e w' ⟨rfl, rfl⟩)
  rw [HW4.out]
  clear g0' g1' g2' HW4 HV
  go_upto_region 9 with (first
    | (go_at_call 62; (with_reducible refine (rtRead_any _ _ _ _ HRD.out).mono ?_); rintro e w9 ⟨rfl, h1, t2⟩; have HTH : RowKit.Hid (w9.there W3.heap.size 1 5) := Lib.hid (fun j hj => ⟨by have hb2 := t2.keeps HR.out (fun h => by have := HSZ.out; omega); have h9 := (cell_of_cells hb2 (1 + j)).trans (Array.getElem?_eq_getElem (by rw [rcs_size]; omega)); exact Option.isSome_of_eq_some h9, free_of_cells (t2.keeps HR.out (fun h => by have := HSZ.out; omega)) (1 + j)⟩); have HZ := Lib.hid (t2.keeps HZ.out (fun h => by have := HSZ.out; omega)); have HF := Lib.hid (t2.keeps HF.out (fun h => by have := HSZ.out; omega)); have HR := Lib.hid (t2.keeps HR.out (fun h => by have := HSZ.out; omega)); have HRD := Lib.hid h1; have HT := Lib.hid (HT.out.trans t2 (fun k hk h => by have := HSZ.out; omega)); clear h1 t2; (try clear g0))
    | (refine wpList_store_mid rfl 24 (.tmp 30) (.tmp 27) rfl W3.heap.size 1 (tcs (rtF xs)) rfl rfl HTH.out HIT.out (tcs_one _) ?_; obtain ⟨V8, hV8⟩ : ∃ W, w9.setCells W3.heap.size 1 (tcs (rtF xs)).toList = W := ⟨_, rfl⟩; have tS : Touch w9 V8 (fun k => k = W3.heap.size) := hV8 ▸ (show Touch w9 (w9.setCells W3.heap.size 1 (tcs (rtF xs)).toList) (fun k => k = W3.heap.size) from ((((((Touch.refl w9 _).into 1 _).into 2 _).into 3 _).into 4 _).into 5 _)); have HR := Lib.hid (show (w9.setCells W3.heap.size 1 (tcs (rtF xs)).toList).heap[W3.heap.size]? = some (.cells (tupS (rcs (r0 1) none 0) 1 (rtF xs)) 29 (0, 0)) from heap_setCell_same _ W3.heap.size _ _ _ _ (heap_setCell_same _ W3.heap.size _ _ _ _ (heap_setCell_same _ W3.heap.size _ _ _ _ (heap_setCell_same _ W3.heap.size _ _ _ _ (heap_setCell_same w9 W3.heap.size 1 _ _ _ HR.out))))); rw [rset_t, hV8] at HR; have HZ := Lib.hid (tS.keeps HZ.out (fun h => by have := HSZ.out; omega)); have HF := Lib.hid (tS.keeps HF.out (fun h => by have := HSZ.out; omega)); have HRD := Lib.hid (HRD.out.touch tS (fun k _ h => by have := HSZ.out; subst h; exact ⟨by omega, by omega⟩)); have HT := Lib.hid (HT.out.trans tS (fun k hk h => by have := HSZ.out; omega)); rw [hV8]; clear tS hV8; (try clear k0 k1 k2 k3 k4 k5 k6 k7 k8 k9 k10 k11 k12 k13 kf); have g1 : V8.cell? ⟨w.heap.size, 1, none⟩ = some (.int .i64 v) := cell_of_cells HF.out 1))
  go_upto_region 10 with (go_at_call 63; (with_reducible refine (d_fU16 _ _ _ _ _ HRD.out).mono ?_); rintro e w10 ⟨rfl, h1, t2⟩; (try rw [nxtX_nxtX, nxtE_nxtE] at h1); (try simp only [Nat.reduceAdd] at h1); have HZ := Lib.hid (t2.keeps HZ.out (fun h => by have := HSZ.out; omega)); have HF := Lib.hid (t2.keeps HF.out (fun h => by have := HSZ.out; omega)); have HR := Lib.hid (t2.keeps HR.out (fun h => by have := HSZ.out; omega)); have HRD := Lib.hid h1; have HT := Lib.hid (HT.out.trans t2 (fun k hk h => by have := HSZ.out; omega)); clear h1 t2; (try clear g0); obtain ⟨k0, k1, k2, k3, k4, k5, k6, k7, k8, k9, k10, k11, k12, k13⟩ := rcells_of HR.out; have kf := free_of_cells HR.out)
  obtain ⟨V9, hV9⟩ : ∃ W, w10.setCell ⟨W3.heap.size, 6, none⟩ (.int .i64 (valN 2 (nxtX 13 xs) : Nat)) = W := ⟨_, rfl⟩
  have tS : Touch w10 V9 (fun k => k = W3.heap.size) := hV9 ▸ (Touch.refl w10 _).into 6 _
  have HR := Lib.hid (heap_setCell_same w10 W3.heap.size 6 _ _ (.int .i64 (valN 2 (nxtX 13 xs) : Nat)) HR.out)
  rw [rset_fb, hV9] at HR
  have HZ := Lib.hid (tS.keeps HZ.out (fun h => by have := HSZ.out; omega))
  have HF := Lib.hid (tS.keeps HF.out (fun h => by have := HSZ.out; omega))
  have HRD := Lib.hid (HRD.out.touch tS (fun k _ h => by have := HSZ.out; subst h; exact ⟨by omega, by omega⟩))
  have HT := Lib.hid (HT.out.trans tS (fun k hk h => by have := HSZ.out; omega))
  rw [hV9]
  clear tS hV9
  (try clear k0 k1 k2 k3 k4 k5 k6 k7 k8 k9 k10 k11 k12 k13 kf)
  have g1 : V9.cell? ⟨w.heap.size, 1, none⟩ = some (.int .i64 v) := cell_of_cells HF.out 1
  rcases HVV.out with rfl | rfl | rfl
  · go_upto_region 31 with fail
    have hn := HN.out
    have HQR : RowKit.Hid (V9.heap[W3.heap.size]? = some (.cells (rcs q none 0) 29 (0, 0))) := Lib.hid (by
      have h1 := HQ0.out
      rw [HDP.out] at h1
      have hraw : rawD 1 1 xs = ⟨1, rtF xs, (valN 2 (nxtX 13 xs) : Nat), 0, 0, 0, [], 0, 0, 0⟩ := by unfold rawD; rw [if_pos rfl]; simp only [show (1 : Int) < 2 from by decide, show (1 : Int) < 3 from by decide, if_true, if_false]
      rw [hraw] at h1
      have hb : (if (1 : Int) < 2 then List.map w1K [] else ([] : List BkD)) = [] := by split <;> rfl
      simp only [hb] at h1
      have e : q = { r0 1 with t := rtF xs, fb := (valN 2 (nxtX 13 xs) : Nat) } := by rw [← h1]; rfl
      rw [e]
      exact HR.out)
    have HRW : RowKit.Hid (RowK V9 none q.bs.length 0 q.bs) := Lib.hid (by
      have h1 := HQ0.out
      rw [HDP.out] at h1
      have hraw : rawD 1 1 xs = ⟨1, rtF xs, (valN 2 (nxtX 13 xs) : Nat), 0, 0, 0, [], 0, 0, 0⟩ := by unfold rawD; rw [if_pos rfl]; simp only [show (1 : Int) < 2 from by decide, show (1 : Int) < 3 from by decide, if_true, if_false]
      rw [hraw] at h1
      have hb : (if (1 : Int) < 2 then List.map w1K [] else ([] : List BkD)) = [] := by split <;> rfl
      simp only [hb] at h1
      have e : q.bs = [] := by rw [← h1]
      rw [e]; exact RowS.nil _ _ _ _ (by omega))
    have HOW : RowKit.Hid (∀ cs W, Touch V9 W (fun _ => False) → OwnK (W.setRow W1.heap.size cs) w.heap.size (.slice none q.bs.length 0) q.bs) := Lib.hid (by
      have h1 := HQ0.out
      rw [HDP.out] at h1
      have hraw : rawD 1 1 xs = ⟨1, rtF xs, (valN 2 (nxtX 13 xs) : Nat), 0, 0, 0, [], 0, 0, 0⟩ := by unfold rawD; rw [if_pos rfl]; simp only [show (1 : Int) < 2 from by decide, show (1 : Int) < 3 from by decide, if_true, if_false]
      rw [hraw] at h1
      have hb : (if (1 : Int) < 2 then List.map w1K [] else ([] : List BkD)) = [] := by split <;> rfl
      simp only [hb] at h1
      have e : q.bs = [] := by rw [← h1]
      rw [e]; exact fun cs W _ => OwnK.none _ _)
    have HEN := Lib.hid (d_fEnd _ _ _ _ V9 HRD.out)
    have HIR2 : RowKit.Hid ((Try.prog.info? 29).map (·.size) = some (rcs q none 0).size) := Lib.hid infoRec
    clear HR HRD HF
    have hn2 : n = 15 := hn.symm.trans (by unfold lenD; rfl)
    rw [← hn2] at HEN
    clear hn2 hn
    generalize endOf (nxtX n xs).length (nxtE n xs 0) = E at *
    have HOB2 : RowKit.Hid (rtB xs = false → mayRB q = false) := Lib.hid (fun h => HOB.out (by unfold okB; rw [if_pos (by omega)]; exact h))
    cases hb : rtB xs with
    | true =>
      by_cases hne : n = xs.length
      · have hE : E = 0 := HEI.out.2 hne
        subst hE
        cases hm : mayRB q with
        | true =>
          have HMQ := Lib.hid (fun (W : World) (h : RowK W none q.bs.length 0 q.bs) => hm ▸ HM.out none 0 W h)
          have HXX := Lib.hid (HX1.out ⟨hne, hm⟩)
          clear HX1 HX2 HEI hm HM HOB HOB2
          go_wp2_with (first
            | (go_at_call 67; (with_reducible refine HEN.out.mono ?_); rintro e w' ⟨rfl, h2⟩; obtain rfl := h2.symm)
            | (refine load_rowG rfl 29 (.tmp 5) rfl W3.heap.size rfl _ _ _ _ HQR.out Try.underlying29 rfl HIR2.out ?_)
            | (go_at_call 19; (with_reducible refine (HMQ.out _ HRW.out).mono ?_); rintro e w10 ⟨rfl, t10⟩; have HZ := Lib.hid (t10.keeps HZ.out (fun h => h)); have HQR := Lib.hid (t10.keeps HQR.out (fun h => h)); have HT := Lib.hid (HT.out.trans t10 (fun _ _ h => h)); have HOZ := Lib.hid (fun cs => HOW.out cs w10 t10); clear t10)
            | (refine store_row rfl 29 (.tmp 2) (.tmp 119) rfl W1.heap.size _ rfl rfl _ _ HZ.out HIR2.out rfl rfl ?_))
          refine ret_row1 rfl rfl W1.heap.size 29 (rcs q none 0) (0, 0) _ rfl (setRow_heap _ _ _ _ _ _ HZ.out) Try.underlying29 rfl infoRec _ rfl ?_
          rw [HXX.out]
          exact ⟨none, 0, rfl, HOZ.out _, HT.out.setRow _ _ (fun h => absurd h (by have := HSZ.out; omega))⟩
        | false =>
          have HMQ := Lib.hid (fun (W : World) (h : RowK W none q.bs.length 0 q.bs) => hm ▸ HM.out none 0 W h)
          have HXX := Lib.hid (HX2.out (fun h => by rw [hm] at h; cases h.2))
          clear HX1 HX2 HEI hm HM HOB HOB2
          go_wp2_with (first
            | (go_at_call 67; (with_reducible refine HEN.out.mono ?_); rintro e w' ⟨rfl, h2⟩; obtain rfl := h2.symm)
            | (refine load_rowG rfl 29 (.tmp 5) rfl W3.heap.size rfl _ _ _ _ HQR.out Try.underlying29 rfl HIR2.out ?_)
            | (go_at_call 19; (with_reducible refine (HMQ.out _ HRW.out).mono ?_); rintro e w10 ⟨rfl, t10⟩; have HZ := Lib.hid (t10.keeps HZ.out (fun h => h)); have HT := Lib.hid (HT.out.trans t10 (fun _ _ h => h)); clear t10)
            | (refine store_row rfl 29 (.tmp 2) (.tmp 118) rfl W1.heap.size (rcs zeroR none 0) rfl rfl _ _ HZ.out HIR2.out rfl rfl ?_))
          refine ret_row1 rfl rfl W1.heap.size 29 (rcs zeroR none 0) (0, 0) _ rfl (setRow_heap _ _ _ _ _ _ HZ.out) Try.underlying29 rfl infoRec _ rfl ?_
          rw [HXX.out]
          exact ⟨none, 0, rfl, OwnK.none _ _, HT.out.setRow _ _ (fun h => absurd h (by have := HSZ.out; omega))⟩
      · have hE : E ≠ 0 := fun h => hne (HEI.out.1 h)
        have hEb : (E != 0) = true := bne_iff_ne.2 hE
        have HXX := Lib.hid (HX2.out (fun h => hne h.1))
        clear HX1 HX2 HEI hne hE HM HOB HOB2
        go_wp2_with (first
          | (go_at_call 67; (with_reducible refine HEN.out.mono ?_); rintro e w' ⟨rfl, h2⟩; obtain rfl := h2.symm)
          | (refine store_row rfl 29 (.tmp 2) (.tmp 118) rfl W1.heap.size (rcs zeroR none 0) rfl rfl _ _ HZ.out HIR2.out rfl rfl ?_))
        refine ret_row1 rfl rfl W1.heap.size 29 (rcs zeroR none 0) (0, 0) _ rfl (setRow_heap _ _ _ _ _ _ HZ.out) Try.underlying29 rfl infoRec _ rfl ?_
        rw [HXX.out]
        exact ⟨none, 0, rfl, OwnK.none _ _, HT.out.setRow _ _ (fun h => absurd h (by have := HSZ.out; omega))⟩
    | false =>
      have HXX := Lib.hid (HX2.out (fun h => by have h1 := HOB2.out hb; rw [h1] at h; cases h.2))
      clear HX1 HX2 HEI HM HOB HOB2
      go_wp2_with (refine store_row rfl 29 (.tmp 2) (.tmp 118) rfl W1.heap.size (rcs zeroR none 0) rfl rfl _ _ HZ.out HIR2.out rfl rfl ?_)
      refine ret_row1 rfl rfl W1.heap.size 29 (rcs zeroR none 0) (0, 0) _ rfl (setRow_heap _ _ _ _ _ _ HZ.out) Try.underlying29 rfl infoRec _ rfl ?_
      rw [HXX.out]
      exact ⟨none, 0, rfl, OwnK.none _ _, HT.out.setRow _ _ (fun h => absurd h (by have := HSZ.out; omega))⟩
  · have hlt4 := valN_lt 4 (nxtX 15 xs) HRD.out.small
    have hpow : (256 : Nat) ^ 4 = 4294967296 := by decide
    rw [hpow] at hlt4
    go_upto_region 12 with (go_at_call 64; (with_reducible refine (d_fU32 _ _ _ _ _ HRD.out).mono ?_); rintro e w11 ⟨rfl, h1, t2⟩; (try rw [nxtX_nxtX, nxtE_nxtE] at h1); (try simp only [Nat.reduceAdd] at h1); have HZ := Lib.hid (t2.keeps HZ.out (fun h => by have := HSZ.out; omega)); have HF := Lib.hid (t2.keeps HF.out (fun h => by have := HSZ.out; omega)); have HR := Lib.hid (t2.keeps HR.out (fun h => by have := HSZ.out; omega)); have HRD := Lib.hid h1; have HT := Lib.hid (HT.out.trans t2 (fun k hk h => by have := HSZ.out; omega)); clear h1 t2; (try clear g0); obtain ⟨k0, k1, k2, k3, k4, k5, k6, k7, k8, k9, k10, k11, k12, k13⟩ := rcells_of HR.out; have kf := free_of_cells HR.out)
    obtain ⟨VA, hVA⟩ : ∃ W, w11.setCell ⟨W3.heap.size, 7, none⟩ (.int .i64 (valN 4 (nxtX 15 xs) : Nat)) = W := ⟨_, rfl⟩
    have tS : Touch w11 VA (fun k => k = W3.heap.size) := hVA ▸ (Touch.refl w11 _).into 7 _
    have HR := Lib.hid (heap_setCell_same w11 W3.heap.size 7 _ _ (.int .i64 (valN 4 (nxtX 15 xs) : Nat)) HR.out)
    rw [rset_fg, hVA] at HR
    have HZ := Lib.hid (tS.keeps HZ.out (fun h => by have := HSZ.out; omega))
    have HF := Lib.hid (tS.keeps HF.out (fun h => by have := HSZ.out; omega))
    have HRD := Lib.hid (HRD.out.touch tS (fun k _ h => by have := HSZ.out; subst h; exact ⟨by omega, by omega⟩))
    have HT := Lib.hid (HT.out.trans tS (fun k hk h => by have := HSZ.out; omega))
    rw [hVA]
    clear tS hVA
    (try clear k0 k1 k2 k3 k4 k5 k6 k7 k8 k9 k10 k11 k12 k13 kf)
    have g1 : VA.cell? ⟨w.heap.size, 1, none⟩ = some (.int .i64 2) := cell_of_cells HF.out 1
    go_upto_region 31 with fail
    have hn := HN.out
    have HQR : RowKit.Hid (VA.heap[W3.heap.size]? = some (.cells (rcs q none 0) 29 (0, 0))) := Lib.hid (by
      have h1 := HQ0.out
      rw [HDP.out] at h1
      have hraw : rawD 1 2 xs = ⟨1, rtF xs, (valN 2 (nxtX 13 xs) : Nat), (valN 4 (nxtX 15 xs) : Nat), 0, 0, [], 0, 0, 0⟩ := by unfold rawD; rw [if_pos rfl]; simp only [show ¬ (2 : Int) < 2 from by decide, show (2 : Int) < 3 from by decide, if_true, if_false]
      rw [hraw] at h1
      have hb : (if (2 : Int) < 2 then List.map w1K [] else ([] : List BkD)) = [] := by split <;> rfl
      simp only [hb] at h1
      have e : q = { r0 1 with t := rtF xs, fb := (valN 2 (nxtX 13 xs) : Nat), fg := (valN 4 (nxtX 15 xs) : Nat) } := by rw [← h1]; rfl
      rw [e]
      exact HR.out)
    have HRW : RowKit.Hid (RowK VA none q.bs.length 0 q.bs) := Lib.hid (by
      have h1 := HQ0.out
      rw [HDP.out] at h1
      have hraw : rawD 1 2 xs = ⟨1, rtF xs, (valN 2 (nxtX 13 xs) : Nat), (valN 4 (nxtX 15 xs) : Nat), 0, 0, [], 0, 0, 0⟩ := by unfold rawD; rw [if_pos rfl]; simp only [show ¬ (2 : Int) < 2 from by decide, show (2 : Int) < 3 from by decide, if_true, if_false]
      rw [hraw] at h1
      have hb : (if (2 : Int) < 2 then List.map w1K [] else ([] : List BkD)) = [] := by split <;> rfl
      simp only [hb] at h1
      have e : q.bs = [] := by rw [← h1]
      rw [e]; exact RowS.nil _ _ _ _ (by omega))
    have HOW : RowKit.Hid (∀ cs W, Touch VA W (fun _ => False) → OwnK (W.setRow W1.heap.size cs) w.heap.size (.slice none q.bs.length 0) q.bs) := Lib.hid (by
      have h1 := HQ0.out
      rw [HDP.out] at h1
      have hraw : rawD 1 2 xs = ⟨1, rtF xs, (valN 2 (nxtX 13 xs) : Nat), (valN 4 (nxtX 15 xs) : Nat), 0, 0, [], 0, 0, 0⟩ := by unfold rawD; rw [if_pos rfl]; simp only [show ¬ (2 : Int) < 2 from by decide, show (2 : Int) < 3 from by decide, if_true, if_false]
      rw [hraw] at h1
      have hb : (if (2 : Int) < 2 then List.map w1K [] else ([] : List BkD)) = [] := by split <;> rfl
      simp only [hb] at h1
      have e : q.bs = [] := by rw [← h1]
      rw [e]; exact fun cs W _ => OwnK.none _ _)
    have HEN := Lib.hid (d_fEnd _ _ _ _ VA HRD.out)
    have HIR2 : RowKit.Hid ((Try.prog.info? 29).map (·.size) = some (rcs q none 0).size) := Lib.hid infoRec
    clear HR HRD HF
    have hn2 : n = 19 := hn.symm.trans (by unfold lenD; rfl)
    rw [← hn2] at HEN
    clear hn2 hn
    generalize endOf (nxtX n xs).length (nxtE n xs 0) = E at *
    have HOB2 : RowKit.Hid (rtB xs = false → mayRB q = false) := Lib.hid (fun h => HOB.out (by unfold okB; rw [if_pos (by omega)]; exact h))
    cases hb : rtB xs with
    | true =>
      by_cases hne : n = xs.length
      · have hE : E = 0 := HEI.out.2 hne
        subst hE
        cases hm : mayRB q with
        | true =>
          have HMQ := Lib.hid (fun (W : World) (h : RowK W none q.bs.length 0 q.bs) => hm ▸ HM.out none 0 W h)
          have HXX := Lib.hid (HX1.out ⟨hne, hm⟩)
          clear HX1 HX2 HEI hm HM HOB HOB2
          go_wp2_with (first
            | (go_at_call 67; (with_reducible refine HEN.out.mono ?_); rintro e w' ⟨rfl, h2⟩; obtain rfl := h2.symm)
            | (refine load_rowG rfl 29 (.tmp 5) rfl W3.heap.size rfl _ _ _ _ HQR.out Try.underlying29 rfl HIR2.out ?_)
            | (go_at_call 19; (with_reducible refine (HMQ.out _ HRW.out).mono ?_); rintro e w10 ⟨rfl, t10⟩; have HZ := Lib.hid (t10.keeps HZ.out (fun h => h)); have HQR := Lib.hid (t10.keeps HQR.out (fun h => h)); have HT := Lib.hid (HT.out.trans t10 (fun _ _ h => h)); have HOZ := Lib.hid (fun cs => HOW.out cs w10 t10); clear t10)
            | (refine store_row rfl 29 (.tmp 2) (.tmp 119) rfl W1.heap.size _ rfl rfl _ _ HZ.out HIR2.out rfl rfl ?_))
          refine ret_row1 rfl rfl W1.heap.size 29 (rcs q none 0) (0, 0) _ rfl (setRow_heap _ _ _ _ _ _ HZ.out) Try.underlying29 rfl infoRec _ rfl ?_
          rw [HXX.out]
          exact ⟨none, 0, rfl, HOZ.out _, HT.out.setRow _ _ (fun h => absurd h (by have := HSZ.out; omega))⟩
        | false =>
          have HMQ := Lib.hid (fun (W : World) (h : RowK W none q.bs.length 0 q.bs) => hm ▸ HM.out none 0 W h)
          have HXX := Lib.hid (HX2.out (fun h => by rw [hm] at h; cases h.2))
          clear HX1 HX2 HEI hm HM HOB HOB2
          go_wp2_with (first
            | (go_at_call 67; (with_reducible refine HEN.out.mono ?_); rintro e w' ⟨rfl, h2⟩; obtain rfl := h2.symm)
            | (refine load_rowG rfl 29 (.tmp 5) rfl W3.heap.size rfl _ _ _ _ HQR.out Try.underlying29 rfl HIR2.out ?_)
            | (go_at_call 19; (with_reducible refine (HMQ.out _ HRW.out).mono ?_); rintro e w10 ⟨rfl, t10⟩; have HZ := Lib.hid (t10.keeps HZ.out (fun h => h)); have HT := Lib.hid (HT.out.trans t10 (fun _ _ h => h)); clear t10)
            | (refine store_row rfl 29 (.tmp 2) (.tmp 118) rfl W1.heap.size (rcs zeroR none 0) rfl rfl _ _ HZ.out HIR2.out rfl rfl ?_))
          refine ret_row1 rfl rfl W1.heap.size 29 (rcs zeroR none 0) (0, 0) _ rfl (setRow_heap _ _ _ _ _ _ HZ.out) Try.underlying29 rfl infoRec _ rfl ?_
          rw [HXX.out]
          exact ⟨none, 0, rfl, OwnK.none _ _, HT.out.setRow _ _ (fun h => absurd h (by have := HSZ.out; omega))⟩
      · have hE : E ≠ 0 := fun h => hne (HEI.out.1 h)
        have hEb : (E != 0) = true := bne_iff_ne.2 hE
        have HXX := Lib.hid (HX2.out (fun h => hne h.1))
        clear HX1 HX2 HEI hne hE HM HOB HOB2
        go_wp2_with (first
          | (go_at_call 67; (with_reducible refine HEN.out.mono ?_); rintro e w' ⟨rfl, h2⟩; obtain rfl := h2.symm)
          | (refine store_row rfl 29 (.tmp 2) (.tmp 118) rfl W1.heap.size (rcs zeroR none 0) rfl rfl _ _ HZ.out HIR2.out rfl rfl ?_))
        refine ret_row1 rfl rfl W1.heap.size 29 (rcs zeroR none 0) (0, 0) _ rfl (setRow_heap _ _ _ _ _ _ HZ.out) Try.underlying29 rfl infoRec _ rfl ?_
        rw [HXX.out]
        exact ⟨none, 0, rfl, OwnK.none _ _, HT.out.setRow _ _ (fun h => absurd h (by have := HSZ.out; omega))⟩
    | false =>
      have HXX := Lib.hid (HX2.out (fun h => by have h1 := HOB2.out hb; rw [h1] at h; cases h.2))
      clear HX1 HX2 HEI HM HOB HOB2
      go_wp2_with (refine store_row rfl 29 (.tmp 2) (.tmp 118) rfl W1.heap.size (rcs zeroR none 0) rfl rfl _ _ HZ.out HIR2.out rfl rfl ?_)
      refine ret_row1 rfl rfl W1.heap.size 29 (rcs zeroR none 0) (0, 0) _ rfl (setRow_heap _ _ _ _ _ _ HZ.out) Try.underlying29 rfl infoRec _ rfl ?_
      rw [HXX.out]
      exact ⟨none, 0, rfl, OwnK.none _ _, HT.out.setRow _ _ (fun h => absurd h (by have := HSZ.out; omega))⟩
  · have hlt4 := valN_lt 4 (nxtX 15 xs) HRD.out.small
    have hpow : (256 : Nat) ^ 4 = 4294967296 := by decide
    rw [hpow] at hlt4
    go_upto_region 12 with (go_at_call 64; (with_reducible refine (d_fU32 _ _ _ _ _ HRD.out).mono ?_); rintro e w11 ⟨rfl, h1, t2⟩; (try rw [nxtX_nxtX, nxtE_nxtE] at h1); (try simp only [Nat.reduceAdd] at h1); have HZ := Lib.hid (t2.keeps HZ.out (fun h => by have := HSZ.out; omega)); have HF := Lib.hid (t2.keeps HF.out (fun h => by have := HSZ.out; omega)); have HR := Lib.hid (t2.keeps HR.out (fun h => by have := HSZ.out; omega)); have HRD := Lib.hid h1; have HT := Lib.hid (HT.out.trans t2 (fun k hk h => by have := HSZ.out; omega)); clear h1 t2; (try clear g0); obtain ⟨k0, k1, k2, k3, k4, k5, k6, k7, k8, k9, k10, k11, k12, k13⟩ := rcells_of HR.out; have kf := free_of_cells HR.out)
    obtain ⟨VA, hVA⟩ : ∃ W, w11.setCell ⟨W3.heap.size, 7, none⟩ (.int .i64 (valN 4 (nxtX 15 xs) : Nat)) = W := ⟨_, rfl⟩
    have tS : Touch w11 VA (fun k => k = W3.heap.size) := hVA ▸ (Touch.refl w11 _).into 7 _
    have HR := Lib.hid (heap_setCell_same w11 W3.heap.size 7 _ _ (.int .i64 (valN 4 (nxtX 15 xs) : Nat)) HR.out)
    rw [rset_fg, hVA] at HR
    have HZ := Lib.hid (tS.keeps HZ.out (fun h => by have := HSZ.out; omega))
    have HF := Lib.hid (tS.keeps HF.out (fun h => by have := HSZ.out; omega))
    have HRD := Lib.hid (HRD.out.touch tS (fun k _ h => by have := HSZ.out; subst h; exact ⟨by omega, by omega⟩))
    have HT := Lib.hid (HT.out.trans tS (fun k hk h => by have := HSZ.out; omega))
    rw [hVA]
    clear tS hVA
    (try clear k0 k1 k2 k3 k4 k5 k6 k7 k8 k9 k10 k11 k12 k13 kf)
    have g1 : VA.cell? ⟨w.heap.size, 1, none⟩ = some (.int .i64 3) := cell_of_cells HF.out 1
    clear hlt4 hpow
    go_upto_region 31 with (go_at_call 65; (with_reducible refine (d_fI64 _ _ _ _ _ HRD.out).mono ?_); rintro e w12 ⟨rfl, h1, t2⟩; (try rw [nxtX_nxtX, nxtE_nxtE] at h1); (try simp only [Nat.reduceAdd] at h1); have HZ := Lib.hid (t2.keeps HZ.out (fun h => by have := HSZ.out; omega)); have HF := Lib.hid (t2.keeps HF.out (fun h => by have := HSZ.out; omega)); have HR := Lib.hid (t2.keeps HR.out (fun h => by have := HSZ.out; omega)); have HRD := Lib.hid h1; have HT := Lib.hid (HT.out.trans t2 (fun k hk h => by have := HSZ.out; omega)); clear h1 t2; (try clear g0); obtain ⟨k0, k1, k2, k3, k4, k5, k6, k7, k8, k9, k10, k11, k12, k13⟩ := rcells_of HR.out; have kf := free_of_cells HR.out)
    obtain ⟨VB, hVB⟩ : ∃ W, w12.setCell ⟨W3.heap.size, 8, none⟩ (.int .i64 (sgn (valN 8 (nxtX 19 xs)))) = W := ⟨_, rfl⟩
    have tS : Touch w12 VB (fun k => k = W3.heap.size) := hVB ▸ (Touch.refl w12 _).into 8 _
    have HR := Lib.hid (heap_setCell_same w12 W3.heap.size 8 _ _ (.int .i64 (sgn (valN 8 (nxtX 19 xs)))) HR.out)
    rw [rset_fs, hVB] at HR
    have HZ := Lib.hid (tS.keeps HZ.out (fun h => by have := HSZ.out; omega))
    have HF := Lib.hid (tS.keeps HF.out (fun h => by have := HSZ.out; omega))
    have HRD := Lib.hid (HRD.out.touch tS (fun k _ h => by have := HSZ.out; subst h; exact ⟨by omega, by omega⟩))
    have HT := Lib.hid (HT.out.trans tS (fun k hk h => by have := HSZ.out; omega))
    rw [hVB]
    clear tS hVB
    (try clear k0 k1 k2 k3 k4 k5 k6 k7 k8 k9 k10 k11 k12 k13 kf)
    have g1 : VB.cell? ⟨w.heap.size, 1, none⟩ = some (.int .i64 3) := cell_of_cells HF.out 1
    have hn := HN.out
    have HQR : RowKit.Hid (VB.heap[W3.heap.size]? = some (.cells (rcs q none 0) 29 (0, 0))) := Lib.hid (by
      have h1 := HQ0.out
      rw [HDP.out] at h1
      have hraw : rawD 1 3 xs = ⟨1, rtF xs, (valN 2 (nxtX 13 xs) : Nat), (valN 4 (nxtX 15 xs) : Nat), sgn (valN 8 (nxtX 19 xs)), 0, [], 0, 0, 0⟩ := by unfold rawD; rw [if_pos rfl]; simp only [show ¬ (3 : Int) < 2 from by decide, show ¬ (3 : Int) < 3 from by decide, if_true, if_false]
      rw [hraw] at h1
      have hb : (if (3 : Int) < 2 then List.map w1K [] else ([] : List BkD)) = [] := by split <;> rfl
      simp only [hb] at h1
      have e : q = { r0 1 with t := rtF xs, fb := (valN 2 (nxtX 13 xs) : Nat), fg := (valN 4 (nxtX 15 xs) : Nat), fs := sgn (valN 8 (nxtX 19 xs)) } := by rw [← h1]; rfl
      rw [e]
      exact HR.out)
    have HRW : RowKit.Hid (RowK VB none q.bs.length 0 q.bs) := Lib.hid (by
      have h1 := HQ0.out
      rw [HDP.out] at h1
      have hraw : rawD 1 3 xs = ⟨1, rtF xs, (valN 2 (nxtX 13 xs) : Nat), (valN 4 (nxtX 15 xs) : Nat), sgn (valN 8 (nxtX 19 xs)), 0, [], 0, 0, 0⟩ := by unfold rawD; rw [if_pos rfl]; simp only [show ¬ (3 : Int) < 2 from by decide, show ¬ (3 : Int) < 3 from by decide, if_true, if_false]
      rw [hraw] at h1
      have hb : (if (3 : Int) < 2 then List.map w1K [] else ([] : List BkD)) = [] := by split <;> rfl
      simp only [hb] at h1
      have e : q.bs = [] := by rw [← h1]
      rw [e]; exact RowS.nil _ _ _ _ (by omega))
    have HOW : RowKit.Hid (∀ cs W, Touch VB W (fun _ => False) → OwnK (W.setRow W1.heap.size cs) w.heap.size (.slice none q.bs.length 0) q.bs) := Lib.hid (by
      have h1 := HQ0.out
      rw [HDP.out] at h1
      have hraw : rawD 1 3 xs = ⟨1, rtF xs, (valN 2 (nxtX 13 xs) : Nat), (valN 4 (nxtX 15 xs) : Nat), sgn (valN 8 (nxtX 19 xs)), 0, [], 0, 0, 0⟩ := by unfold rawD; rw [if_pos rfl]; simp only [show ¬ (3 : Int) < 2 from by decide, show ¬ (3 : Int) < 3 from by decide, if_true, if_false]
      rw [hraw] at h1
      have hb : (if (3 : Int) < 2 then List.map w1K [] else ([] : List BkD)) = [] := by split <;> rfl
      simp only [hb] at h1
      have e : q.bs = [] := by rw [← h1]
      rw [e]; exact fun cs W _ => OwnK.none _ _)
    have HEN := Lib.hid (d_fEnd _ _ _ _ VB HRD.out)
    have HIR2 : RowKit.Hid ((Try.prog.info? 29).map (·.size) = some (rcs q none 0).size) := Lib.hid infoRec
    clear HR HRD HF
    have hn2 : n = 27 := hn.symm.trans (by unfold lenD; rfl)
    rw [← hn2] at HEN
    clear hn2 hn
    generalize endOf (nxtX n xs).length (nxtE n xs 0) = E at *
    have HOB2 : RowKit.Hid (rtB xs = false → mayRB q = false) := Lib.hid (fun h => HOB.out (by unfold okB; rw [if_pos (by omega)]; exact h))
    cases hb : rtB xs with
    | true =>
      by_cases hne : n = xs.length
      · have hE : E = 0 := HEI.out.2 hne
        subst hE
        cases hm : mayRB q with
        | true =>
          have HMQ := Lib.hid (fun (W : World) (h : RowK W none q.bs.length 0 q.bs) => hm ▸ HM.out none 0 W h)
          have HXX := Lib.hid (HX1.out ⟨hne, hm⟩)
          clear HX1 HX2 HEI hm HM HOB HOB2
          go_wp2_with (first
            | (go_at_call 67; (with_reducible refine HEN.out.mono ?_); rintro e w' ⟨rfl, h2⟩; obtain rfl := h2.symm)
            | (refine load_rowG rfl 29 (.tmp 5) rfl W3.heap.size rfl _ _ _ _ HQR.out Try.underlying29 rfl HIR2.out ?_)
            | (go_at_call 19; (with_reducible refine (HMQ.out _ HRW.out).mono ?_); rintro e w10 ⟨rfl, t10⟩; have HZ := Lib.hid (t10.keeps HZ.out (fun h => h)); have HQR := Lib.hid (t10.keeps HQR.out (fun h => h)); have HT := Lib.hid (HT.out.trans t10 (fun _ _ h => h)); have HOZ := Lib.hid (fun cs => HOW.out cs w10 t10); clear t10)
            | (refine store_row rfl 29 (.tmp 2) (.tmp 119) rfl W1.heap.size _ rfl rfl _ _ HZ.out HIR2.out rfl rfl ?_))
          refine ret_row1 rfl rfl W1.heap.size 29 (rcs q none 0) (0, 0) _ rfl (setRow_heap _ _ _ _ _ _ HZ.out) Try.underlying29 rfl infoRec _ rfl ?_
          rw [HXX.out]
          exact ⟨none, 0, rfl, HOZ.out _, HT.out.setRow _ _ (fun h => absurd h (by have := HSZ.out; omega))⟩
        | false =>
          have HMQ := Lib.hid (fun (W : World) (h : RowK W none q.bs.length 0 q.bs) => hm ▸ HM.out none 0 W h)
          have HXX := Lib.hid (HX2.out (fun h => by rw [hm] at h; cases h.2))
          clear HX1 HX2 HEI hm HM HOB HOB2
          go_wp2_with (first
            | (go_at_call 67; (with_reducible refine HEN.out.mono ?_); rintro e w' ⟨rfl, h2⟩; obtain rfl := h2.symm)
            | (refine load_rowG rfl 29 (.tmp 5) rfl W3.heap.size rfl _ _ _ _ HQR.out Try.underlying29 rfl HIR2.out ?_)
            | (go_at_call 19; (with_reducible refine (HMQ.out _ HRW.out).mono ?_); rintro e w10 ⟨rfl, t10⟩; have HZ := Lib.hid (t10.keeps HZ.out (fun h => h)); have HT := Lib.hid (HT.out.trans t10 (fun _ _ h => h)); clear t10)
            | (refine store_row rfl 29 (.tmp 2) (.tmp 118) rfl W1.heap.size (rcs zeroR none 0) rfl rfl _ _ HZ.out HIR2.out rfl rfl ?_))
          refine ret_row1 rfl rfl W1.heap.size 29 (rcs zeroR none 0) (0, 0) _ rfl (setRow_heap _ _ _ _ _ _ HZ.out) Try.underlying29 rfl infoRec _ rfl ?_
          rw [HXX.out]
          exact ⟨none, 0, rfl, OwnK.none _ _, HT.out.setRow _ _ (fun h => absurd h (by have := HSZ.out; omega))⟩
      · have hE : E ≠ 0 := fun h => hne (HEI.out.1 h)
        have hEb : (E != 0) = true := bne_iff_ne.2 hE
        have HXX := Lib.hid (HX2.out (fun h => hne h.1))
        clear HX1 HX2 HEI hne hE HM HOB HOB2
        go_wp2_with (first
          | (go_at_call 67; (with_reducible refine HEN.out.mono ?_); rintro e w' ⟨rfl, h2⟩; obtain rfl := h2.symm)
          | (refine store_row rfl 29 (.tmp 2) (.tmp 118) rfl W1.heap.size (rcs zeroR none 0) rfl rfl _ _ HZ.out HIR2.out rfl rfl ?_))
        refine ret_row1 rfl rfl W1.heap.size 29 (rcs zeroR none 0) (0, 0) _ rfl (setRow_heap _ _ _ _ _ _ HZ.out) Try.underlying29 rfl infoRec _ rfl ?_
        rw [HXX.out]
        exact ⟨none, 0, rfl, OwnK.none _ _, HT.out.setRow _ _ (fun h => absurd h (by have := HSZ.out; omega))⟩
    | false =>
      have HXX := Lib.hid (HX2.out (fun h => by have h1 := HOB2.out hb; rw [h1] at h; cases h.2))
      clear HX1 HX2 HEI HM HOB HOB2
      go_wp2_with (refine store_row rfl 29 (.tmp 2) (.tmp 118) rfl W1.heap.size (rcs zeroR none 0) rfl rfl _ _ HZ.out HIR2.out rfl rfl ?_)
      refine ret_row1 rfl rfl W1.heap.size 29 (rcs zeroR none 0) (0, 0) _ rfl (setRow_heap _ _ _ _ _ _ HZ.out) Try.underlying29 rfl infoRec _ rfl ?_
      rw [HXX.out]
      exact ⟨none, 0, rfl, OwnK.none _ _, HT.out.setRow _ _ (fun h => absurd h (by have := HSZ.out; omega))⟩

set_option maxRecDepth 20000 in
set_option maxHeartbeats 16000000 in
theorem rdec_k0 (k : Int) (n1 : k ≠ 1) (n2 : k ≠ 2) (n3 : k ≠ 3) (n4 : k ≠ 4) (n5 : k ≠ 5) (n6 : k ≠ 6) (v : Int) (a : Option Addr) (cap : Nat) (xs : List Nat) (w : World) (hv : verB v = true) (hrow : RowB w a xs.length cap xs) (hlen : xs.length ≤ 140737488355328) :
    Calls Try.prog 28 #[.agg (f3 k v a xs.length cap)] w (DecIs w k v xs) := by
  have HRAW : RowKit.Hid (rawD k v xs = r0 k) := Lib.hid (by unfold rawD; rw [if_neg n1, if_neg n2, if_neg n3, if_neg n4, if_neg n5, if_neg n6]; rfl)
  have HLEN : RowKit.Hid (lenD k v xs = 0) := Lib.hid (by unfold lenD; rw [if_neg n1, if_neg n2, if_neg n3, if_neg n4, if_neg n5, if_neg n6])
  have b1 : (k == 1) = false := beq_eq_false_iff_ne.2 n1
  have b2 : (k == 2) = false := beq_eq_false_iff_ne.2 n2
  have b3 : (k == 3) = false := beq_eq_false_iff_ne.2 n3
  have b4 : (k == 4) = false := beq_eq_false_iff_ne.2 n4
  have b5 : (k == 5) = false := beq_eq_false_iff_ne.2 n5
  have b6 : (k == 6) = false := beq_eq_false_iff_ne.2 n6
  clear n1 n2 n3 n4 n5 n6
  have vv := verB_cases v hv
  have hsm := hrow.2.2.2.2.1
  obtain ⟨n, hn⟩ : ∃ n, lenD k v xs = n := ⟨_, rfl⟩
  obtain ⟨q, hq⟩ : ∃ q, decD k v xs = q := ⟨_, rfl⟩
  have hql : q.bs.length ≤ 100000 := by
    have h1 := rawD_len k v xs hsm
    rw [← hq, dec_parts _ _ _ hv]
    simp only
    split
    · rw [List.length_map]; omega
    · omega
  have hE : decE k v xs = if (n = xs.length ∧ mayRB q = true) then 0 else 3 := by
    unfold decE decB
    rw [if_pos hv, hn, hq]
    by_cases h1 : n = xs.length <;> by_cases h2 : mayRB q = true <;> simp [h1, h2]
  have hX1 : (n = xs.length ∧ mayRB q = true) → DecIs w k v xs = fun e w' => ∃ a' c', e = .returned (.tuple #[.agg (rcs q a' c'), .int .i64 0]) ∧ OwnK w' w.heap.size (.slice a' q.bs.length c') q.bs ∧ Touch w w' (fun _ => False) := by
    intro h
    have he : decE k v xs = 0 := by rw [hE, if_pos h]
    have hr : decR k v xs = q := by unfold decR; rw [he, if_pos rfl, hq]
    funext e w'; unfold DecIs; rw [he, hr]
  have hX2 : ¬ (n = xs.length ∧ mayRB q = true) → DecIs w k v xs = fun e w' => ∃ a' c', e = .returned (.tuple #[.agg (rcs zeroR a' c'), .int .i64 3]) ∧ OwnK w' w.heap.size (.slice a' 0 c') [] ∧ Touch w w' (fun _ => False) := by
    intro h
    have he : decE k v xs = 3 := by rw [hE, if_neg h]
    have hr : decR k v xs = zeroR := by unfold decR; rw [he]; rfl
    funext e w'; unfold DecIs; rw [he, hr]; rfl
  have HX1 := Lib.hid hX1
  have HX2 := Lib.hid hX2
  have HOB : RowKit.Hid (okB k xs = false → mayRB q = false) := Lib.hid (fun h => hq ▸ ok_bad hv h)
  have HV : RowKit.Hid (∀ w, Calls Try.prog 51 #[.int .i64 v] w fun e w' => e = .returned (.bool true) ∧ w = w') := Lib.hid (fun w => (rversion_any v w).mono fun e w' h => ⟨hv ▸ h.1, h.2.symm⟩)
  have HM : RowKit.Hid (∀ (a : Option Addr) (cap : Nat) (W : World), RowK W a q.bs.length cap q.bs → Calls Try.prog 19 #[.agg (rcs q a cap)] W fun e w' => e = .returned (.bool (mayRB q)) ∧ Touch W w' (fun _ => False)) := Lib.hid (fun a cap W h => rmay_any q a cap W h hql)
  have HEI := Lib.hid (end_iff n xs)
  have HDP := Lib.hid (dec_parts k v xs hv)
  have HN := Lib.hid hn
  have HQ0 := Lib.hid hq
  have HVV := Lib.hid vv
  obtain ⟨W1, hW1⟩ : ∃ W, w.alloc (.cells (f3 k v a xs.length cap) 39) = W := ⟨_, rfl⟩
  obtain ⟨W2, hW2⟩ : ∃ W, W1.alloc (.cells #[.int .i64 0, .int .u32 0, .int .u32 0, .int .i64 0, .int .i64 0, .int .i64 0, .int .i64 0, .int .i64 0, .int .i64 0, .int .i64 0, .slice none 0 0, .int .i64 0, .int .i64 0, .int .i64 0] 29) = W := ⟨_, rfl⟩
  obtain ⟨W3, hW3⟩ : ∃ W, W2.alloc (.cells #[.slice a xs.length cap, .int .i64 0] 92) = W := ⟨_, rfl⟩
  have t1 : Touch w W1 (fun _ => False) := hW1 ▸ (Touch.refl _ _).alloc _
  have t2 : Touch W1 W2 (fun _ => False) := hW2 ▸ (Touch.refl _ _).alloc _
  have t3 : Touch W2 W3 (fun _ => False) := hW3 ▸ (Touch.refl _ _).alloc _
  obtain ⟨W4, hW4⟩ : ∃ W, W3.alloc (.cells (rcs (r0 k) none 0) 29) = W := ⟨_, rfl⟩
  have t4 : Touch W3 W4 (fun _ => False) := hW4 ▸ (Touch.refl _ _).alloc _
  have HZ : RowKit.Hid (W4.heap[W1.heap.size]? = some (.cells (rcs zeroR none 0) 29 (0, 0))) := Lib.hid (t4.keeps (t3.keeps (hW2 ▸ heap_alloc_new W1 _) (fun h => h)) (fun h => h))
  have hf2 : W2.heap[w.heap.size]? = some (.cells (f3 k v a xs.length cap) 39 (0, 0)) := t2.keeps (hW1 ▸ heap_alloc_new w _) (fun h => h)
  have hf3 := t3.keeps hf2 (fun h => h)
  have HF := Lib.hid (t4.keeps hf3 (fun h => h))
  have HR : RowKit.Hid (W4.heap[W3.heap.size]? = some (.cells (rcs (r0 k) none 0) 29 (0, 0))) := Lib.hid (hW4 ▸ heap_alloc_new W3 _)
  have HSZ : RowKit.Hid (w.heap.size < W1.heap.size ∧ W1.heap.size < W2.heap.size ∧ W2.heap.size < W3.heap.size ∧ W3.heap.size < W4.heap.size) := Lib.hid ⟨by rw [← hW1]; simp, by rw [← hW2]; simp, by rw [← hW3]; simp, by rw [← hW4]; simp⟩
  have hrw3 := ((hrow.touch t1 (fun _ _ => .inr (fun h => h))).touch t2 (fun _ _ => .inr (fun h => h))).touch t3 (fun _ _ => .inr (fun h => h))
  have HRD : RowKit.Hid (RfD W4 W2.heap.size (fun k => w.heap.size ≤ k ∧ k ≠ W2.heap.size) xs 0) := Lib.hid (RfD.still ⟨fun h => h.2 rfl, .inl rfl, hlen, a, cap, ⟨hW3 ▸ heap_alloc_new W2 _, hrw3, fun x hx => (hrow.lt x hx).imp id (fun h1 => by have := HSZ.out; omega)⟩, fun x hx => (hrow.lt x hx).imp id (fun h1 h2 => by have := h2.1; omega)⟩ t4)
  have HT := Lib.hid (((t1.trans t2 (fun _ _ h => h)).trans t3 (fun _ _ h => h)).trans t4 (fun _ _ h => h))
  have HIR := Lib.hid infoRec
  have HIT := Lib.hid infoTup
  have g1' : W2.cell? ⟨w.heap.size, 1, none⟩ = some (.int .i64 v) := cell_of_cells hf2 1
  have g2' : W2.cell? ⟨w.heap.size, 2, none⟩ = some (.slice a xs.length cap) := cell_of_cells hf2 2
  have g0' : W3.cell? ⟨w.heap.size, 0, none⟩ = some (.int .i64 k) := cell_of_cells hf3 0
  have g0 : W4.cell? ⟨w.heap.size, 0, none⟩ = some (.int .i64 k) := cell_of_cells HF.out 0
  generalize DecIs w k v xs = X at *
  clear hX1 hX2 hE hrow hrw3 hf2 hf3 hsm t1 t2 t3 t4 vv hv hn hq hlen
  simp only [f3] at hW1
  simp only [rcs, r0, noT, List.length_nil] at hW4
  simp only [f3]
  have HW4 := Lib.hid hW4
  clear hW4
  go_enter Try.func28, Try.ntmps28
  go_upto_region 6 with (go_at_call 51; (with_reducible refine (HV.out _).mono ?_); rintro e w' ⟨rfl, rfl⟩)
  rw [HW4.out]
  clear g0' g1' g2' HW4 HV
  have hn0 : n = 0 := HN.out.symm.trans HLEN.out
  have HRD := Lib.hid (show RfD W4 W2.heap.size (fun k => w.heap.size ≤ k ∧ k ≠ W2.heap.size) (nxtX n xs) (nxtE n xs 0) by rw [hn0, nxtX_zero, nxtE_zero]; exact HRD.out)
  clear hn0
  go_upto_region 31 with fail
  have hn := HN.out
  have HQR : RowKit.Hid (W4.heap[W3.heap.size]? = some (.cells (rcs q none 0) 29 (0, 0))) := Lib.hid (by
    have h1 := HQ0.out
    rw [HDP.out] at h1
    have hb : (if v < 2 then List.map w1K (r0 k).bs else (r0 k).bs) = [] := by split <;> rfl
    rw [HRAW.out] at h1
    rw [hb] at h1
    have e : q = r0 k := by rw [← h1]; rfl
    rw [e]
    exact HR.out)
  have HRW : RowKit.Hid (RowK W4 none q.bs.length 0 q.bs) := Lib.hid (by
    have h1 := HQ0.out
    rw [HDP.out] at h1
    have hb : (if v < 2 then List.map w1K (r0 k).bs else (r0 k).bs) = [] := by split <;> rfl
    rw [HRAW.out] at h1
    rw [hb] at h1
    have e : q.bs = [] := by rw [← h1]
    rw [e]; exact RowS.nil _ _ _ _ (by omega))
  have HOW : RowKit.Hid (∀ cs W, Touch W4 W (fun _ => False) → OwnK (W.setRow W1.heap.size cs) w.heap.size (.slice none q.bs.length 0) q.bs) := Lib.hid (by
    have h1 := HQ0.out
    rw [HDP.out] at h1
    have hb : (if v < 2 then List.map w1K (r0 k).bs else (r0 k).bs) = [] := by split <;> rfl
    rw [HRAW.out] at h1
    rw [hb] at h1
    have e : q.bs = [] := by rw [← h1]
    rw [e]; exact fun cs W _ => OwnK.none _ _)
  have HEN := Lib.hid (d_fEnd _ _ _ _ W4 HRD.out)
  have HIR2 : RowKit.Hid ((Try.prog.info? 29).map (·.size) = some (rcs q none 0).size) := Lib.hid infoRec
  clear HR HRD HF
  clear hn
  generalize endOf (nxtX n xs).length (nxtE n xs 0) = E at *
  by_cases hne : n = xs.length
  · have hE : E = 0 := HEI.out.2 hne
    subst hE
    cases hm : mayRB q with
    | true =>
      have HMQ := Lib.hid (fun (W : World) (h : RowK W none q.bs.length 0 q.bs) => hm ▸ HM.out none 0 W h)
      have HXX := Lib.hid (HX1.out ⟨hne, hm⟩)
      clear HX1 HX2 HEI hm HM HOB
      go_wp2_with (first
        | (go_at_call 67; (with_reducible refine HEN.out.mono ?_); rintro e w' ⟨rfl, h2⟩; obtain rfl := h2.symm)
        | (refine load_rowG rfl 29 (.tmp 5) rfl W3.heap.size rfl _ _ _ _ HQR.out Try.underlying29 rfl HIR2.out ?_)
        | (go_at_call 19; (with_reducible refine (HMQ.out _ HRW.out).mono ?_); rintro e w10 ⟨rfl, t10⟩; have HZ := Lib.hid (t10.keeps HZ.out (fun h => h)); have HQR := Lib.hid (t10.keeps HQR.out (fun h => h)); have HT := Lib.hid (HT.out.trans t10 (fun _ _ h => h)); have HOZ := Lib.hid (fun cs => HOW.out cs w10 t10); clear t10)
        | (refine store_row rfl 29 (.tmp 2) (.tmp 119) rfl W1.heap.size _ rfl rfl _ _ HZ.out HIR2.out rfl rfl ?_))
      refine ret_row1 rfl rfl W1.heap.size 29 (rcs q none 0) (0, 0) _ rfl (setRow_heap _ _ _ _ _ _ HZ.out) Try.underlying29 rfl infoRec _ rfl ?_
      rw [HXX.out]
      exact ⟨none, 0, rfl, HOZ.out _, HT.out.setRow _ _ (fun h => absurd h (by have := HSZ.out; omega))⟩
    | false =>
      have HMQ := Lib.hid (fun (W : World) (h : RowK W none q.bs.length 0 q.bs) => hm ▸ HM.out none 0 W h)
      have HXX := Lib.hid (HX2.out (fun h => by rw [hm] at h; cases h.2))
      clear HX1 HX2 HEI hm HM HOB
      go_wp2_with (first
        | (go_at_call 67; (with_reducible refine HEN.out.mono ?_); rintro e w' ⟨rfl, h2⟩; obtain rfl := h2.symm)
        | (refine load_rowG rfl 29 (.tmp 5) rfl W3.heap.size rfl _ _ _ _ HQR.out Try.underlying29 rfl HIR2.out ?_)
        | (go_at_call 19; (with_reducible refine (HMQ.out _ HRW.out).mono ?_); rintro e w10 ⟨rfl, t10⟩; have HZ := Lib.hid (t10.keeps HZ.out (fun h => h)); have HT := Lib.hid (HT.out.trans t10 (fun _ _ h => h)); clear t10)
        | (refine store_row rfl 29 (.tmp 2) (.tmp 118) rfl W1.heap.size (rcs zeroR none 0) rfl rfl _ _ HZ.out HIR2.out rfl rfl ?_))
      refine ret_row1 rfl rfl W1.heap.size 29 (rcs zeroR none 0) (0, 0) _ rfl (setRow_heap _ _ _ _ _ _ HZ.out) Try.underlying29 rfl infoRec _ rfl ?_
      rw [HXX.out]
      exact ⟨none, 0, rfl, OwnK.none _ _, HT.out.setRow _ _ (fun h => absurd h (by have := HSZ.out; omega))⟩
  · have hE : E ≠ 0 := fun h => hne (HEI.out.1 h)
    have hEb : (E != 0) = true := bne_iff_ne.2 hE
    have HXX := Lib.hid (HX2.out (fun h => hne h.1))
    clear HX1 HX2 HEI hne hE HM HOB
    go_wp2_with (first
      | (go_at_call 67; (with_reducible refine HEN.out.mono ?_); rintro e w' ⟨rfl, h2⟩; obtain rfl := h2.symm)
      | (refine store_row rfl 29 (.tmp 2) (.tmp 118) rfl W1.heap.size (rcs zeroR none 0) rfl rfl _ _ HZ.out HIR2.out rfl rfl ?_))
    refine ret_row1 rfl rfl W1.heap.size 29 (rcs zeroR none 0) (0, 0) _ rfl (setRow_heap _ _ _ _ _ _ HZ.out) Try.underlying29 rfl infoRec _ rfl ?_
    rw [HXX.out]
    exact ⟨none, 0, rfl, OwnK.none _ _, HT.out.setRow _ _ (fun h => absurd h (by have := HSZ.out; omega))⟩

end Go.Proofs.Ytbklngcocbnijaa
