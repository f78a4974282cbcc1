/- Records: what the reference's Decode answers for a set of backends. -/
import Derived.Test.YtbklngcocbnijaaRecRDecZ
set_option linter.unusedVariables false
set_option linter.unusedSimpArgs false
namespace Go.Proofs.Ytbklngcocbnijaa
open Go.RowKit

/-- Backends as the reference reads them. -/
def qB (v : Int) (k : Nat) (ys : List Nat) : List BkD := if v < 2 then (bksV v k ys).map w1K else bksV v k ys
theorem qB_length (v : Int) (k : Nat) (ys : List Nat) : (qB v k ys).length = k := by unfold qB; split <;> simp [bksV_length]
theorem qB_snoc (v : Int) (k : Nat) (ys : List Nat) : qB v (k + 1) ys = qB v k ys ++ [if v < 2 then w1K (bkV v (nxtX (k * bkW v) ys)) else bkV v (nxtX (k * bkW v) ys)] := by
  unfold qB; split <;> simp [bksV_snoc]
/-- At the head of the loop. -/
def DqAt (w W1 W2 W3 W4 : World) (v : Int) (a : Option Addr) (cap : Nat) (xs : List Nat) (k : Nat) (wr : World) : Prop :=
  W4.heap.size ≤ wr.heap.size ∧ ∃ aq cq, wr.heap[W3.heap.size]? = some (.cells (rcs { r0 3 with gen := (valN 4 xs : Nat), bs := qB v k (nxtX 5 xs) } aq cq) 29 (0, 0)) ∧ OwnK wr W4.heap.size (.slice aq k cq) (qB v k (nxtX 5 xs)) ∧ RfD wr W2.heap.size (fun k => w.heap.size ≤ k ∧ k ≠ W2.heap.size) (nxtX (5 + k * bkW v) xs) (nxtE (5 + k * bkW v) xs 0) ∧
    wr.heap[W1.heap.size]? = some (.cells (rcs zeroR none 0) 29 (0, 0)) ∧ wr.heap[w.heap.size]? = some (.cells (f3 3 v a xs.length cap) 39 (0, 0)) ∧ Touch w wr (fun _ => False)
theorem rset_bq (r : RecD) (a : Option Addr) (cap : Nat) (bs : List BkD) (a2 : Option Addr) (N c2 : Nat) (h : bs.length = N) : (rcs r a cap).setIfInBounds 10 (.slice a2 N c2) = rcs { r with bs := bs } a2 c2 := by subst h; rfl
theorem bk_lit (x : BkD) (W : World) : RowS (W.alloc (.cells #[.int .i64 x.id, .int .u32 x.addr, .int .i64 x.weight] 61)) (some ⟨W.heap.size, 0, none⟩) 1 1 3 [x.cells] :=
  (OwnS.row' (OwnS.lit W W.heap.size (Nat.le_refl _) 61 3 1 [x.cells] #[.int .i64 x.id, .int .u32 x.addr, .int .i64 x.weight] rfl rfl (by simp [BkD.cells]) (by decide))).2.1
theorem bx_of {w : World} {B : Nat} {x y z : Value} {T : TypeId} (hb : w.heap[B]? = some (.cells #[x, y, z] T (0, 0))) : w.cell? ⟨B, 0, none⟩ = some x ∧ w.cell? ⟨B, 1, none⟩ = some y ∧ w.cell? ⟨B, 2, none⟩ = some z := ⟨cell_of_cells hb 0, cell_of_cells hb 1, cell_of_cells hb 2⟩

set_option maxRecDepth 20000 in
set_option maxHeartbeats 16000000 in
theorem rdec_k3 (v : Int) (a : Option Addr) (cap : Nat) (xs : List Nat) (w : World) (hv : verB v = true) (hrow : RowB w a xs.length cap xs) (hlen : xs.length ≤ 140737488355328) :
    Calls Try.prog 28 #[.agg (f3 3 v a xs.length cap)] w (DecIs w 3 v xs) := by
  have vv := verB_cases v hv
  have hsm := hrow.2.2.2.2.1
  obtain ⟨n, hn⟩ : ∃ n, lenD 3 v xs = n := ⟨_, rfl⟩
  obtain ⟨q, hq⟩ : ∃ q, decD 3 v xs = q := ⟨_, rfl⟩
  have hql : q.bs.length ≤ 100000 := by
    have h1 := rawD_len 3 v xs hsm
    rw [← hq, dec_parts _ _ _ hv]
    simp only
    split
    · rw [List.length_map]; omega
    · omega
  have hE : decE 3 v xs = if (n = xs.length ∧ mayRB q = true) then 0 else 3 := by
    unfold decE decB
    rw [if_pos hv, hn, hq]
    by_cases h1 : n = xs.length <;> by_cases h2 : mayRB q = true <;> simp [h1, h2]
  have hX1 : (n = xs.length ∧ mayRB q = true) → DecIs w 3 v xs = fun e w' => ∃ a' c', e = .returned (.tuple #[.agg (rcs q a' c'), .int .i64 0]) ∧ OwnK w' w.heap.size (.slice a' q.bs.length c') q.bs ∧ Touch w w' (fun _ => False) := by
    intro h
    have he : decE 3 v xs = 0 := by rw [hE, if_pos h]
    have hr : decR 3 v xs = q := by unfold decR; rw [he, if_pos rfl, hq]
    funext e w'; unfold DecIs; rw [he, hr]
  have hX2 : ¬ (n = xs.length ∧ mayRB q = true) → DecIs w 3 v xs = fun e w' => ∃ a' c', e = .returned (.tuple #[.agg (rcs zeroR a' c'), .int .i64 3]) ∧ OwnK w' w.heap.size (.slice a' 0 c') [] ∧ Touch w w' (fun _ => False) := by
    intro h
    have he : decE 3 v xs = 3 := by rw [hE, if_neg h]
    have hr : decR 3 v xs = zeroR := by unfold decR; rw [he]; rfl
    funext e w'; unfold DecIs; rw [he, hr]; rfl
  have HX1 := Lib.hid hX1
  have HX2 := Lib.hid hX2
  have HOB : RowKit.Hid (okB 3 xs = false → mayRB q = false) := Lib.hid (fun h => hq ▸ ok_bad hv h)
  have HV : RowKit.Hid (∀ w, Calls Try.prog 51 #[.int .i64 v] w fun e w' => e = .returned (.bool true) ∧ w = w') := Lib.hid (fun w => (rversion_any v w).mono fun e w' h => ⟨hv ▸ h.1, h.2.symm⟩)
  have HM : RowKit.Hid (∀ (a : Option Addr) (cap : Nat) (W : World), RowK W a q.bs.length cap q.bs → Calls Try.prog 19 #[.agg (rcs q a cap)] W fun e w' => e = .returned (.bool (mayRB q)) ∧ Touch W w' (fun _ => False)) := Lib.hid (fun a cap W h => rmay_any q a cap W h hql)
  have HEI := Lib.hid (end_iff n xs)
  have HDP := Lib.hid (dec_parts 3 v xs hv)
  have HN := Lib.hid hn
  have HQ0 := Lib.hid hq
  have HVV := Lib.hid vv
  obtain ⟨W1, hW1⟩ : ∃ W, w.alloc (.cells (f3 3 v a xs.length cap) 39) = W := ⟨_, rfl⟩
  obtain ⟨W2, hW2⟩ : ∃ W, W1.alloc (.cells #[.int .i64 0, .int .u32 0, .int .u32 0, .int .i64 0, .int .i64 0, .int .i64 0, .int .i64 0, .int .i64 0, .int .i64 0, .int .i64 0, .slice none 0 0, .int .i64 0, .int .i64 0, .int .i64 0] 29) = W := ⟨_, rfl⟩
  obtain ⟨W3, hW3⟩ : ∃ W, W2.alloc (.cells #[.slice a xs.length cap, .int .i64 0] 92) = W := ⟨_, rfl⟩
  have t1 : Touch w W1 (fun _ => False) := hW1 ▸ (Touch.refl _ _).alloc _
  have t2 : Touch W1 W2 (fun _ => False) := hW2 ▸ (Touch.refl _ _).alloc _
  have t3 : Touch W2 W3 (fun _ => False) := hW3 ▸ (Touch.refl _ _).alloc _
  obtain ⟨W4, hW4⟩ : ∃ W, W3.alloc (.cells (rcs (r0 3) none 0) 29) = W := ⟨_, rfl⟩
  have t4 : Touch W3 W4 (fun _ => False) := hW4 ▸ (Touch.refl _ _).alloc _
  have HZ : RowKit.Hid (W4.heap[W1.heap.size]? = some (.cells (rcs zeroR none 0) 29 (0, 0))) := Lib.hid (t4.keeps (t3.keeps (hW2 ▸ heap_alloc_new W1 _) (fun h => h)) (fun h => h))
  have hf2 : W2.heap[w.heap.size]? = some (.cells (f3 3 v a xs.length cap) 39 (0, 0)) := t2.keeps (hW1 ▸ heap_alloc_new w _) (fun h => h)
  have hf3 := t3.keeps hf2 (fun h => h)
  have HF := Lib.hid (t4.keeps hf3 (fun h => h))
  have HR : RowKit.Hid (W4.heap[W3.heap.size]? = some (.cells (rcs (r0 3) none 0) 29 (0, 0))) := Lib.hid (hW4 ▸ heap_alloc_new W3 _)
  have HSZ : RowKit.Hid (w.heap.size < W1.heap.size ∧ W1.heap.size < W2.heap.size ∧ W2.heap.size < W3.heap.size ∧ W3.heap.size < W4.heap.size) := Lib.hid ⟨by rw [← hW1]; simp, by rw [← hW2]; simp, by rw [← hW3]; simp, by rw [← hW4]; simp⟩
  have hrw3 := ((hrow.touch t1 (fun _ _ => .inr (fun h => h))).touch t2 (fun _ _ => .inr (fun h => h))).touch t3 (fun _ _ => .inr (fun h => h))
  have HRD : RowKit.Hid (RfD W4 W2.heap.size (fun k => w.heap.size ≤ k ∧ k ≠ W2.heap.size) xs 0) := Lib.hid (RfD.still ⟨fun h => h.2 rfl, .inl rfl, hlen, a, cap, ⟨hW3 ▸ heap_alloc_new W2 _, hrw3, fun x hx => (hrow.lt x hx).imp id (fun h1 => by have := HSZ.out; omega)⟩, fun x hx => (hrow.lt x hx).imp id (fun h1 h2 => by have := h2.1; omega)⟩ t4)
  have HT := Lib.hid (((t1.trans t2 (fun _ _ h => h)).trans t3 (fun _ _ h => h)).trans t4 (fun _ _ h => h))
  have HIR := Lib.hid infoRec
  have HIT := Lib.hid infoTup
  have g1' : W2.cell? ⟨w.heap.size, 1, none⟩ = some (.int .i64 v) := cell_of_cells hf2 1
  have g2' : W2.cell? ⟨w.heap.size, 2, none⟩ = some (.slice a xs.length cap) := cell_of_cells hf2 2
  have g0' : W3.cell? ⟨w.heap.size, 0, none⟩ = some (.int .i64 3) := cell_of_cells hf3 0
  have g0 : W4.cell? ⟨w.heap.size, 0, none⟩ = some (.int .i64 3) := cell_of_cells HF.out 0
  generalize DecIs w 3 v xs = X at *
  clear hX1 hX2 hE hrow hrw3 hf2 hf3 hsm t1 t2 t3 t4 vv hv hn hq hlen
  simp only [f3] at hW1
  simp only [rcs, r0, noT, List.length_nil] at hW4
  simp only [f3]
  have HW4 := Lib.hid hW4
  clear hW4
  go_enter Try.func28, Try.ntmps28
  go_upto_region 6 with (go_at_call 51; (with_reducible refine (HV.out _).mono ?_); rintro e w' ⟨rfl, rfl⟩)
  rw [HW4.out]
  clear g0' g1' g2' HW4 HV
  have hlt4 := valN_lt 4 xs HRD.out.small
  have hpow : (256 : Nat) ^ 4 = 4294967296 := by decide
  rw [hpow] at hlt4
  go_upto_region 18 with (go_at_call 64; (with_reducible refine (d_fU32 _ _ _ _ _ HRD.out).mono ?_); rintro e w9 ⟨rfl, h1, t2⟩; (try rw [nxtX_nxtX, nxtE_nxtE] at h1); (try simp only [Nat.reduceAdd] at h1); have HZ := Lib.hid (t2.keeps HZ.out (fun h => by have := HSZ.out; omega)); have HF := Lib.hid (t2.keeps HF.out (fun h => by have := HSZ.out; omega)); have HR := Lib.hid (t2.keeps HR.out (fun h => by have := HSZ.out; omega)); have HS2 : RowKit.Hid (W4.heap.size ≤ w9.heap.size) := Lib.hid t2.size; have HRD := Lib.hid h1; have HT := Lib.hid (HT.out.trans t2 (fun k hk h => by have := HSZ.out; omega)); clear h1 t2; (try clear g0); obtain ⟨k0, k1, k2, k3, k4, k5, k6, k7, k8, k9, k10, k11, k12, k13⟩ := rcells_of HR.out; have kf := free_of_cells HR.out)
  obtain ⟨V9, hV9⟩ : ∃ W, w9.setCell ⟨W3.heap.size, 9, none⟩ (.int .i64 (valN 4 xs : Nat)) = W := ⟨_, rfl⟩
  have tS : Touch w9 V9 (fun k => k = W3.heap.size) := hV9 ▸ (Touch.refl w9 _).into 9 _
  have HR := Lib.hid (heap_setCell_same w9 W3.heap.size 9 _ _ (.int .i64 (valN 4 xs : Nat)) HR.out)
  rw [rset_gen, hV9] at HR
  have HZ := Lib.hid (tS.keeps HZ.out (fun h => by have := HSZ.out; omega))
  have HF := Lib.hid (tS.keeps HF.out (fun h => by have := HSZ.out; omega))
  have HRD := Lib.hid (HRD.out.touch tS (fun k _ h => by have := HSZ.out; subst h; exact ⟨by omega, by omega⟩))
  have HT := Lib.hid (HT.out.trans tS (fun k hk h => by have := HSZ.out; omega))
  have HS3 : RowKit.Hid (W4.heap.size ≤ V9.heap.size) := Lib.hid (Nat.le_trans HS2.out tS.size)
  rw [hV9]
  clear tS hV9
  (try clear k0 k1 k2 k3 k4 k5 k6 k7 k8 k9 k10 k11 k12 k13 kf)
  have g1 : V9.cell? ⟨w.heap.size, 1, none⟩ = some (.int .i64 v) := cell_of_cells HF.out 1
  clear hlt4 hpow
  have HNL : RowKit.Hid (valN 1 (nxtX 4 xs) < 256) := Lib.hid (valN_lt 1 _ HRD.out.small)
  have HQE : RowKit.Hid (q = { r0 3 with gen := (valN 4 xs : Nat), bs := qB v (valN 1 (nxtX 4 xs)) (nxtX 5 xs) }) := Lib.hid (by
    rw [← HQ0.out, HDP.out]
    have hraw : rawD 3 v xs = ⟨3, noT, 0, 0, 0, (valN 4 xs : Nat), bksV v (valN 1 (nxtX 4 xs)) (nxtX 5 xs), 0, 0, 0⟩ := by unfold rawD; rw [if_neg (by decide), if_neg (by decide), if_pos rfl]
    rw [hraw]; rfl)
  have HNN : RowKit.Hid (n = 5 + valN 1 (nxtX 4 xs) * bkW v) := Lib.hid (by rw [← HN.out]; unfold lenD; rw [if_neg (by decide), if_neg (by decide), if_pos rfl])
  have HIB := Lib.hid infoBk
  have HIB3 : RowKit.Hid ((Try.prog.info? 61).map (·.size) = some 3) := Lib.hid (by kernel_rfl)
  go_wp2_with (go_at_call 66; (with_reducible refine (d_fU8 _ _ _ _ _ HRD.out).mono ?_); rintro e w10 ⟨rfl, h1, t2⟩; (try rw [nxtX_nxtX, nxtE_nxtE] at h1); (try simp only [Nat.reduceAdd] at h1); have HZ := Lib.hid (t2.keeps HZ.out (fun h => by have := HSZ.out; omega)); have HF := Lib.hid (t2.keeps HF.out (fun h => by have := HSZ.out; omega)); have HR := Lib.hid (t2.keeps HR.out (fun h => by have := HSZ.out; omega)); have HS4 := Lib.hid (Nat.le_trans HS3.out t2.size); have HRD := Lib.hid h1; have HT := Lib.hid (HT.out.trans t2 (fun k hk h => by have := HSZ.out; omega)); clear h1 t2; (try clear g0); obtain ⟨k0, k1, k2, k3, k4, k5, k6, k7, k8, k9, k10, k11, k12, k13⟩ := rcells_of HR.out; have kf := free_of_cells HR.out)
  clear HDP HQ0 HN
  have g1 : w10.cell? ⟨w.heap.size, 1, none⟩ = some (.int .i64 v) := cell_of_cells HF.out 1
  generalize valN 1 (nxtX 4 xs) = N at *
  rcases HVV.out with rfl | rfl | rfl
  · go_loopw [67] (fun i wr => ∃ k : Nat, k ≤ N ∧ i = .int .i64 k ∧ DqAt w W1 W2 W3 W4 1 a cap xs k wr) (fun i _ => N - (intOf i).toNat)
    case atStart => exact ⟨0, Nat.zero_le _, rfl, HS4.out, none, 0, HR.out, OwnK.none _ _, by simpa using HRD.out, HZ.out, HF.out, HT.out⟩
    case round =>
      clear HR HRD HZ HF HT k0 k1 k2 k3 k4 k5 k6 k7 k8 k9 k10 k11 k12 k13 kf g1
      obtain ⟨k, hk, rfl, p0, aq, cq, p1, p2, p3, p4, p5, p6⟩ := hrel
      have HS4 := Lib.hid p0
      have HR := Lib.hid p1
      have HOQ := Lib.hid p2
      have HRD := Lib.hid p3
      have HZ := Lib.hid p4
      have HF := Lib.hid p5
      have HT := Lib.hid p6
      clear p0 p1 p2 p3 p4 p5 p6
      have g1 : wr.cell? ⟨w.heap.size, 1, none⟩ = some (.int .i64 1) := cell_of_cells HF.out 1
      by_cases hlt : k < N
      case neg =>
        obtain rfl : N = k := by omega
        have hlt' : ¬ (N : Int) < N := by omega
        go_upto_region 31 with fail
        have hqb : q.bs = qB 1 N (nxtX 5 xs) := by rw [HQE.out]
        have HQR : RowKit.Hid (wr.heap[W3.heap.size]? = some (.cells (rcs q aq cq) 29 (0, 0))) := Lib.hid (by rw [HQE.out]; exact HR.out)
        have HRW : RowKit.Hid (RowK wr aq q.bs.length cq q.bs) := Lib.hid (by rw [hqb, qB_length]; exact HOQ.out.row.2.1)
        have HOW : RowKit.Hid (∀ cs W, Touch wr W (fun _ => False) → OwnK (W.setRow W1.heap.size cs) w.heap.size (.slice aq q.bs.length cq) q.bs) := Lib.hid (by
          rw [hqb, qB_length]
          intro cs W t
          exact ((HOQ.out.still t).touch ((Touch.refl W (fun k => k = W1.heap.size)).setRow _ _ (fun _ => rfl)) (fun x hx h => by have h1 := (HOQ.out.own.lt x hx).1; have := HSZ.out; omega)).rebase (fun x hx => by have h1 := (HOQ.out.own.lt x hx).1; have := HSZ.out; omega))
        have HEN := Lib.hid (d_fEnd _ _ _ _ wr HRD.out)
        have HIR2 : RowKit.Hid ((Try.prog.info? 29).map (·.size) = some (rcs q none 0).size) := Lib.hid infoRec
        have hn2 := HNN.out
        rw [← hn2] at HEN
        clear HR HRD HF hqb hn2
        generalize endOf (nxtX n xs).length (nxtE n xs 0) = E at *
        by_cases hne : n = xs.length
        · have hE : E = 0 := HEI.out.2 hne
          subst hE
          cases hm : mayRB q with
          | true =>
            have HMQ := Lib.hid (fun (W : World) (h : RowK W aq q.bs.length cq q.bs) => hm ▸ HM.out aq cq W h)
            have HXX := Lib.hid (HX1.out ⟨hne, hm⟩)
            clear HX1 HX2 HEI hm HM HOB
            go_wp2_with (first
              | (go_at_call 67; (with_reducible refine HEN.out.mono ?_); rintro e w' ⟨rfl, h2⟩; obtain rfl := h2.symm)
              | (refine load_rowG rfl 29 (.tmp 5) rfl W3.heap.size rfl _ _ _ _ HQR.out Try.underlying29 rfl HIR2.out ?_)
              | (go_at_call 19; (with_reducible refine (HMQ.out _ HRW.out).mono ?_); rintro e w10 ⟨rfl, t10⟩; have HZ := Lib.hid (t10.keeps HZ.out (fun h => h)); have HQR := Lib.hid (t10.keeps HQR.out (fun h => h)); have HT := Lib.hid (HT.out.trans t10 (fun _ _ h => h)); have HOZ := Lib.hid (fun cs => HOW.out cs w10 t10); clear t10)
              | (refine store_row rfl 29 (.tmp 2) (.tmp 119) rfl W1.heap.size _ rfl rfl _ _ HZ.out HIR2.out rfl rfl ?_))
            refine ret_row1 rfl rfl W1.heap.size 29 (rcs q aq cq) (0, 0) _ rfl (setRow_heap _ _ _ _ _ _ HZ.out) Try.underlying29 rfl infoRec _ rfl ?_
            rw [HXX.out]
            exact ⟨aq, cq, rfl, HOZ.out _, HT.out.setRow _ _ (fun h => absurd h (by have := HSZ.out; omega))⟩
          | false =>
            have HMQ := Lib.hid (fun (W : World) (h : RowK W aq q.bs.length cq q.bs) => hm ▸ HM.out aq cq W h)
            have HXX := Lib.hid (HX2.out (fun h => by rw [hm] at h; cases h.2))
            clear HX1 HX2 HEI hm HM HOB
            go_wp2_with (first
              | (go_at_call 67; (with_reducible refine HEN.out.mono ?_); rintro e w' ⟨rfl, h2⟩; obtain rfl := h2.symm)
              | (refine load_rowG rfl 29 (.tmp 5) rfl W3.heap.size rfl _ _ _ _ HQR.out Try.underlying29 rfl HIR2.out ?_)
              | (go_at_call 19; (with_reducible refine (HMQ.out _ HRW.out).mono ?_); rintro e w10 ⟨rfl, t10⟩; have HZ := Lib.hid (t10.keeps HZ.out (fun h => h)); have HT := Lib.hid (HT.out.trans t10 (fun _ _ h => h)); clear t10)
              | (refine store_row rfl 29 (.tmp 2) (.tmp 118) rfl W1.heap.size (rcs zeroR none 0) rfl rfl _ _ HZ.out HIR2.out rfl rfl ?_))
            refine ret_row1 rfl rfl W1.heap.size 29 (rcs zeroR none 0) (0, 0) _ rfl (setRow_heap _ _ _ _ _ _ HZ.out) Try.underlying29 rfl infoRec _ rfl ?_
            rw [HXX.out]
            exact ⟨none, 0, rfl, OwnK.none _ _, HT.out.setRow _ _ (fun h => absurd h (by have := HSZ.out; omega))⟩
        · have hE : E ≠ 0 := fun h => hne (HEI.out.1 h)
          have hEb : (E != 0) = true := bne_iff_ne.2 hE
          have HXX := Lib.hid (HX2.out (fun h => hne h.1))
          clear HX1 HX2 HEI hne hE HM HOB
          go_wp2_with (first
            | (go_at_call 67; (with_reducible refine HEN.out.mono ?_); rintro e w' ⟨rfl, h2⟩; obtain rfl := h2.symm)
            | (refine store_row rfl 29 (.tmp 2) (.tmp 118) rfl W1.heap.size (rcs zeroR none 0) rfl rfl _ _ HZ.out HIR2.out rfl rfl ?_))
          refine ret_row1 rfl rfl W1.heap.size 29 (rcs zeroR none 0) (0, 0) _ rfl (setRow_heap _ _ _ _ _ _ HZ.out) Try.underlying29 rfl infoRec _ rfl ?_
          rw [HXX.out]
          exact ⟨none, 0, rfl, OwnK.none _ _, HT.out.setRow _ _ (fun h => absurd h (by have := HSZ.out; omega))⟩
    
      case pos =>
        have i1 : (k : Int) < N := by omega
        have hNl := HNL.out
        go_upto_region 21 with (first
          | (go_at_call 63; (with_reducible refine (d_fU16 _ _ _ _ _ HRD.out).mono ?_); rintro e w12 ⟨rfl, h1, t2⟩; (try rw [nxtX_nxtX, nxtE_nxtE] at h1); (try simp only [Nat.reduceAdd] at h1); have HZ := Lib.hid (t2.keeps HZ.out (fun h => by have := HSZ.out; omega)); have HF := Lib.hid (t2.keeps HF.out (fun h => by have := HSZ.out; omega)); have HR := Lib.hid (t2.keeps HR.out (fun h => by have := HSZ.out; omega)); (try have HXB := Lib.hid (t2.keeps HXB.out (fun h => by have := HXN.out; have := HSZ.out; omega))); have HS4 := Lib.hid (Nat.le_trans HS4.out t2.size); have HOQ := Lib.hid (HOQ.out.touch t2 (fun x hx h => by have h1 := (HOQ.out.own.lt x hx).1; have := HSZ.out; omega)); have HRD := Lib.hid h1; have HT := Lib.hid (HT.out.trans t2 (fun k hk h => by have := HSZ.out; omega)); clear h1 t2; (try clear g0); (try clear k0 k1 k2 k3 k4 k5 k6 k7 k8 k9 k10 k11 k12 k13 kf); obtain ⟨k0, k1, k2, k3, k4, k5, k6, k7, k8, k9, k10, k11, k12, k13⟩ := rcells_of HR.out; rw [qB_length] at k10; have kf := free_of_cells HR.out)
          | (go_at_call 64; (with_reducible refine (d_fU32 _ _ _ _ _ HRD.out).mono ?_); rintro e w12 ⟨rfl, h1, t2⟩; (try rw [nxtX_nxtX, nxtE_nxtE] at h1); (try simp only [Nat.reduceAdd] at h1); have HZ := Lib.hid (t2.keeps HZ.out (fun h => by have := HSZ.out; omega)); have HF := Lib.hid (t2.keeps HF.out (fun h => by have := HSZ.out; omega)); have HR := Lib.hid (t2.keeps HR.out (fun h => by have := HSZ.out; omega)); (try have HXB := Lib.hid (t2.keeps HXB.out (fun h => by have := HXN.out; have := HSZ.out; omega))); have HS4 := Lib.hid (Nat.le_trans HS4.out t2.size); have HOQ := Lib.hid (HOQ.out.touch t2 (fun x hx h => by have h1 := (HOQ.out.own.lt x hx).1; have := HSZ.out; omega)); have HRD := Lib.hid h1; have HT := Lib.hid (HT.out.trans t2 (fun k hk h => by have := HSZ.out; omega)); clear h1 t2; (try clear g0); (try clear k0 k1 k2 k3 k4 k5 k6 k7 k8 k9 k10 k11 k12 k13 kf); obtain ⟨k0, k1, k2, k3, k4, k5, k6, k7, k8, k9, k10, k11, k12, k13⟩ := rcells_of HR.out; rw [qB_length] at k10; have kf := free_of_cells HR.out))
        obtain ⟨VX, hVX⟩ : ∃ W, w12.alloc (.cells #[.int .i64 (valN 2 (nxtX (5 + k * bkW 1) xs) : Nat), .int .u32 (valN 4 (nxtX (5 + k * bkW 1 + 2) xs) : Nat), .int .i64 1] 61) = W := ⟨_, rfl⟩
        have tX : Touch w12 VX (fun _ => False) := hVX ▸ (Touch.refl _ _).alloc _
        have HXB : RowKit.Hid (VX.heap[w12.heap.size]? = some (.cells #[.int .i64 (valN 2 (nxtX (5 + k * bkW 1) xs) : Nat), .int .u32 (valN 4 (nxtX (5 + k * bkW 1 + 2) xs) : Nat), .int .i64 1] 61 (0, 0))) := Lib.hid (hVX ▸ heap_alloc_new w12 _)
        have HXN : RowKit.Hid (W4.heap.size ≤ w12.heap.size) := HS4
        have HOX : RowKit.Hid (∀ x, (Value.slice aq k cq).ownBlock = some x → x < w12.heap.size) := Lib.hid (fun x hx => (HOQ.out.own.lt x hx).2)
        have HS4 : RowKit.Hid (W4.heap.size ≤ VX.heap.size) := Lib.hid (Nat.le_trans HS4.out tX.size)
        have HOQ := Lib.hid (HOQ.out.still tX)
        have HR := Lib.hid (tX.keeps HR.out (fun h => h))
        have HRD := Lib.hid (HRD.out.still tX)
        have HZ := Lib.hid (tX.keeps HZ.out (fun h => h))
        have HF := Lib.hid (tX.keeps HF.out (fun h => h))
        have HT := Lib.hid (HT.out.trans tX (fun _ _ h => h))
        rw [hVX]
        clear tX hVX k0 k1 k2 k3 k4 k5 k6 k7 k8 k9 k10 k11 k12 k13 kf g1
        have g1 : VX.cell? ⟨w.heap.size, 1, none⟩ = some (.int .i64 1) := cell_of_cells HF.out 1
        obtain ⟨x0, x1, x2⟩ := bx_of HXB.out
        obtain ⟨k0, k1, k2, k3, k4, k5, k6, k7, k8, k9, k10, k11, k12, k13⟩ := rcells_of HR.out
        rw [qB_length] at k10
        have HB1 : RowKit.Hid (∀ l ∈ [(⟨(valN 2 (nxtX (5 + k * bkW 1) xs) : Nat), (valN 4 (nxtX (5 + k * bkW 1 + 2) xs) : Nat), 1⟩ : BkD).cells], ∀ u ∈ l, u.oneCell' = true) := Lib.hid (bk_one [(⟨(valN 2 (nxtX (5 + k * bkW 1) xs) : Nat), (valN 4 (nxtX (5 + k * bkW 1 + 2) xs) : Nat), 1⟩ : BkD)])
        have HLR : RowKit.Hid (∀ W : World, RowS (W.alloc (.cells #[.int .i64 (valN 2 (nxtX (5 + k * bkW 1) xs) : Nat), .int .u32 (valN 4 (nxtX (5 + k * bkW 1 + 2) xs) : Nat), .int .i64 1] 61)) (some ⟨W.heap.size, 0, none⟩) 1 1 3 [(⟨(valN 2 (nxtX (5 + k * bkW 1) xs) : Nat), (valN 4 (nxtX (5 + k * bkW 1 + 2) xs) : Nat), 1⟩ : BkD).cells]) := Lib.hid (fun W => bk_lit (⟨(valN 2 (nxtX (5 + k * bkW 1) xs) : Nat), (valN 4 (nxtX (5 + k * bkW 1 + 2) xs) : Nat), 1⟩ : BkD) W)
        go_wp2_with (first
          | (at_builtin; have _u := HLR; (with_reducible refine wp_appS (OwnS.still HOQ.out.toS ((Touch.refl _ (fun _ => False)).alloc _)) (HLR.out _) HB1.out 27 Try.underlying27 _ 24 HIB.out rfl (by decide) (by simp only [maxLen, List.length_map, qB_length]; omega) (by simp only [List.length_map, qB_length]; omega) (Below.refl _ _) (Nat.le_refl _) (by have := HXN.out; have := heap_lt HXB.out; simp; omega) rfl _ _ rfl rfl rfl (k + 1) _ (by simp only [List.length_map, qB_length]) rfl ?_); intro a84 c84 w84 ho8 hg8 hb8 hp8; have HO8 := Lib.hid ho8; have tA : Touch VX w84 (fun x => (Value.slice aq k cq).ownBlock = some x) := ((Touch.refl VX (fun x => (Value.slice aq k cq).ownBlock = some x)).alloc _).grown hg8 (fun j hj hlt => hj); have HR := Lib.hid (tA.keeps HR.out (fun h => by have h1 := (HOQ.out.own.lt _ h).1; have := HSZ.out; omega)); have HZ := Lib.hid (tA.keeps HZ.out (fun h => by have h1 := (HOQ.out.own.lt _ h).1; have := HSZ.out; omega)); have HF := Lib.hid (tA.keeps HF.out (fun h => by have h1 := (HOQ.out.own.lt _ h).1; have := HSZ.out; omega)); have HRD := Lib.hid (HRD.out.touch tA (fun j _ h => by have h1 := (HOQ.out.own.lt _ h).1; have := HSZ.out; exact ⟨by omega, by omega⟩)); have HT := Lib.hid (HT.out.trans tA (fun j hj h => by have h1 := (HOQ.out.own.lt _ h).1; have := HSZ.out; omega)); have HS8 : RowKit.Hid (W4.heap.size ≤ w84.heap.size) := Lib.hid (by have := HXN.out; have := heap_lt HXB.out; have := tA.size; omega); clear ho8 hg8 hb8 hp8 tA k0 k1 k2 k3 k4 k5 k6 k7 k8 k9 k10 k11 k12 k13 x0 x1 x2; obtain ⟨k0, k1, k2, k3, k4, k5, k6, k7, k8, k9, k10, k11, k12, k13⟩ := rcells_of HR.out; rw [qB_length] at k10; have kf := free_of_cells HR.out)
          | (refine load_rowG rfl 61 (.tmp 7) rfl w12.heap.size rfl _ _ _ _ HXB.out Try.underlying61 rfl HIB3.out ?_))
        obtain ⟨VE, hVE⟩ : ∃ W, w84.setCell ⟨W3.heap.size, 10, none⟩ (.slice a84 (k + 1) c84) = W := ⟨_, rfl⟩
        have tE : Touch w84 VE (fun k => k = W3.heap.size) := hVE ▸ (Touch.refl w84 _).into 10 _
        have hqs : qB 1 (k + 1) (nxtX 5 xs) = qB 1 k (nxtX 5 xs) ++ [(⟨(valN 2 (nxtX (5 + k * bkW 1) xs) : Nat), (valN 4 (nxtX (5 + k * bkW 1 + 2) xs) : Nat), 1⟩ : BkD)] := by
          rw [qB_snoc, nxtX_nxtX]
          have e2 : nxtX 2 (nxtX (5 + k * bkW 1) xs) = nxtX (5 + k * bkW 1 + 2) xs := nxtX_nxtX 2 _ _
          have e6 : nxtX 6 (nxtX (5 + k * bkW 1) xs) = nxtX (5 + k * bkW 1 + 2 + 4) xs := nxtX_nxtX 6 _ _
          simp only [bkV, w1K, e2, e6, show (1 : Int) < 2 from by decide, if_true, if_false]
        have HR := Lib.hid (heap_setCell_same w84 W3.heap.size 10 _ _ (.slice a84 (k + 1) c84) HR.out)
        rw [rset_bq _ _ _ (qB 1 (k + 1) (nxtX 5 xs)) a84 (k + 1) c84 (qB_length _ _ _), hVE] at HR
        have HO9 : RowKit.Hid (OwnK VE W4.heap.size (.slice a84 (k + 1) c84) (qB 1 (k + 1) (nxtX 5 xs))) := Lib.hid (by
          rw [hqs]
          unfold OwnK
          rw [List.map_append]
          exact HO8.out.touch tE (fun x hx h => by have h1 := (HO8.out.own.lt x hx).1; have := HSZ.out; omega))
        have HZ := Lib.hid (tE.keeps HZ.out (fun h => by have := HSZ.out; omega))
        have HF := Lib.hid (tE.keeps HF.out (fun h => by have := HSZ.out; omega))
        have HRD := Lib.hid (HRD.out.touch tE (fun k _ h => by have := HSZ.out; subst h; exact ⟨by omega, by omega⟩))
        have HT := Lib.hid (HT.out.trans tE (fun k hk h => by have := HSZ.out; omega))
        have HS9 : RowKit.Hid (W4.heap.size ≤ VE.heap.size) := Lib.hid (Nat.le_trans HS8.out tE.size)
        have hll : 5 + k * bkW 1 + 6 = 5 + (k + 1) * bkW 1 := by rw [Nat.add_mul, show bkW 1 = 6 from rfl]; omega
        rw [hVE]
        clear tE hVE hqs
        go_roundw
        case rel =>
          refine ⟨k + 1, hlt, by go_num, HS9.out, a84, c84, HR.out, HO9.out, ?_, HZ.out, HF.out, HT.out⟩
          rw [← hll]
          exact HRD.out
        case measure => simp [intOf]; omega
  · go_loopw [67] (fun i wr => ∃ k : Nat, k ≤ N ∧ i = .int .i64 k ∧ DqAt w W1 W2 W3 W4 2 a cap xs k wr) (fun i _ => N - (intOf i).toNat)
    case atStart => exact ⟨0, Nat.zero_le _, rfl, HS4.out, none, 0, HR.out, OwnK.none _ _, by simpa using HRD.out, HZ.out, HF.out, HT.out⟩
    case round =>
      clear HR HRD HZ HF HT k0 k1 k2 k3 k4 k5 k6 k7 k8 k9 k10 k11 k12 k13 kf g1
      obtain ⟨k, hk, rfl, p0, aq, cq, p1, p2, p3, p4, p5, p6⟩ := hrel
      have HS4 := Lib.hid p0
      have HR := Lib.hid p1
      have HOQ := Lib.hid p2
      have HRD := Lib.hid p3
      have HZ := Lib.hid p4
      have HF := Lib.hid p5
      have HT := Lib.hid p6
      clear p0 p1 p2 p3 p4 p5 p6
      have g1 : wr.cell? ⟨w.heap.size, 1, none⟩ = some (.int .i64 2) := cell_of_cells HF.out 1
      by_cases hlt : k < N
      case neg =>
        obtain rfl : N = k := by omega
        have hlt' : ¬ (N : Int) < N := by omega
        go_upto_region 31 with fail
        have hqb : q.bs = qB 2 N (nxtX 5 xs) := by rw [HQE.out]
        have HQR : RowKit.Hid (wr.heap[W3.heap.size]? = some (.cells (rcs q aq cq) 29 (0, 0))) := Lib.hid (by rw [HQE.out]; exact HR.out)
        have HRW : RowKit.Hid (RowK wr aq q.bs.length cq q.bs) := Lib.hid (by rw [hqb, qB_length]; exact HOQ.out.row.2.1)
        have HOW : RowKit.Hid (∀ cs W, Touch wr W (fun _ => False) → OwnK (W.setRow W1.heap.size cs) w.heap.size (.slice aq q.bs.length cq) q.bs) := Lib.hid (by
          rw [hqb, qB_length]
          intro cs W t
          exact ((HOQ.out.still t).touch ((Touch.refl W (fun k => k = W1.heap.size)).setRow _ _ (fun _ => rfl)) (fun x hx h => by have h1 := (HOQ.out.own.lt x hx).1; have := HSZ.out; omega)).rebase (fun x hx => by have h1 := (HOQ.out.own.lt x hx).1; have := HSZ.out; omega))
        have HEN := Lib.hid (d_fEnd _ _ _ _ wr HRD.out)
        have HIR2 : RowKit.Hid ((Try.prog.info? 29).map (·.size) = some (rcs q none 0).size) := Lib.hid infoRec
        have hn2 := HNN.out
        rw [← hn2] at HEN
        clear HR HRD HF hqb hn2
        generalize endOf (nxtX n xs).length (nxtE n xs 0) = E at *
        by_cases hne : n = xs.length
        · have hE : E = 0 := HEI.out.2 hne
          subst hE
          cases hm : mayRB q with
          | true =>
            have HMQ := Lib.hid (fun (W : World) (h : RowK W aq q.bs.length cq q.bs) => hm ▸ HM.out aq cq W h)
            have HXX := Lib.hid (HX1.out ⟨hne, hm⟩)
            clear HX1 HX2 HEI hm HM HOB
            go_wp2_with (first
              | (go_at_call 67; (with_reducible refine HEN.out.mono ?_); rintro e w' ⟨rfl, h2⟩; obtain rfl := h2.symm)
              | (refine load_rowG rfl 29 (.tmp 5) rfl W3.heap.size rfl _ _ _ _ HQR.out Try.underlying29 rfl HIR2.out ?_)
              | (go_at_call 19; (with_reducible refine (HMQ.out _ HRW.out).mono ?_); rintro e w10 ⟨rfl, t10⟩; have HZ := Lib.hid (t10.keeps HZ.out (fun h => h)); have HQR := Lib.hid (t10.keeps HQR.out (fun h => h)); have HT := Lib.hid (HT.out.trans t10 (fun _ _ h => h)); have HOZ := Lib.hid (fun cs => HOW.out cs w10 t10); clear t10)
              | (refine store_row rfl 29 (.tmp 2) (.tmp 119) rfl W1.heap.size _ rfl rfl _ _ HZ.out HIR2.out rfl rfl ?_))
            refine ret_row1 rfl rfl W1.heap.size 29 (rcs q aq cq) (0, 0) _ rfl (setRow_heap _ _ _ _ _ _ HZ.out) Try.underlying29 rfl infoRec _ rfl ?_
            rw [HXX.out]
            exact ⟨aq, cq, rfl, HOZ.out _, HT.out.setRow _ _ (fun h => absurd h (by have := HSZ.out; omega))⟩
          | false =>
            have HMQ := Lib.hid (fun (W : World) (h : RowK W aq q.bs.length cq q.bs) => hm ▸ HM.out aq cq W h)
            have HXX := Lib.hid (HX2.out (fun h => by rw [hm] at h; cases h.2))
            clear HX1 HX2 HEI hm HM HOB
            go_wp2_with (first
              | (go_at_call 67; (with_reducible refine HEN.out.mono ?_); rintro e w' ⟨rfl, h2⟩; obtain rfl := h2.symm)
              | (refine load_rowG rfl 29 (.tmp 5) rfl W3.heap.size rfl _ _ _ _ HQR.out Try.underlying29 rfl HIR2.out ?_)
              | (go_at_call 19; (with_reducible refine (HMQ.out _ HRW.out).mono ?_); rintro e w10 ⟨rfl, t10⟩; have HZ := Lib.hid (t10.keeps HZ.out (fun h => h)); have HT := Lib.hid (HT.out.trans t10 (fun _ _ h => h)); clear t10)
              | (refine store_row rfl 29 (.tmp 2) (.tmp 118) rfl W1.heap.size (rcs zeroR none 0) rfl rfl _ _ HZ.out HIR2.out rfl rfl ?_))
            refine ret_row1 rfl rfl W1.heap.size 29 (rcs zeroR none 0) (0, 0) _ rfl (setRow_heap _ _ _ _ _ _ HZ.out) Try.underlying29 rfl infoRec _ rfl ?_
            rw [HXX.out]
            exact ⟨none, 0, rfl, OwnK.none _ _, HT.out.setRow _ _ (fun h => absurd h (by have := HSZ.out; omega))⟩
        · have hE : E ≠ 0 := fun h => hne (HEI.out.1 h)
          have hEb : (E != 0) = true := bne_iff_ne.2 hE
          have HXX := Lib.hid (HX2.out (fun h => hne h.1))
          clear HX1 HX2 HEI hne hE HM HOB
          go_wp2_with (first
            | (go_at_call 67; (with_reducible refine HEN.out.mono ?_); rintro e w' ⟨rfl, h2⟩; obtain rfl := h2.symm)
            | (refine store_row rfl 29 (.tmp 2) (.tmp 118) rfl W1.heap.size (rcs zeroR none 0) rfl rfl _ _ HZ.out HIR2.out rfl rfl ?_))
          refine ret_row1 rfl rfl W1.heap.size 29 (rcs zeroR none 0) (0, 0) _ rfl (setRow_heap _ _ _ _ _ _ HZ.out) Try.underlying29 rfl infoRec _ rfl ?_
          rw [HXX.out]
          exact ⟨none, 0, rfl, OwnK.none _ _, HT.out.setRow _ _ (fun h => absurd h (by have := HSZ.out; omega))⟩
    
      case pos =>
        have i1 : (k : Int) < N := by omega
        have hNl := HNL.out
        go_upto_region 21 with (first
          | (go_at_call 63; (with_reducible refine (d_fU16 _ _ _ _ _ HRD.out).mono ?_); rintro e w12 ⟨rfl, h1, t2⟩; (try rw [nxtX_nxtX, nxtE_nxtE] at h1); (try simp only [Nat.reduceAdd] at h1); have HZ := Lib.hid (t2.keeps HZ.out (fun h => by have := HSZ.out; omega)); have HF := Lib.hid (t2.keeps HF.out (fun h => by have := HSZ.out; omega)); have HR := Lib.hid (t2.keeps HR.out (fun h => by have := HSZ.out; omega)); (try have HXB := Lib.hid (t2.keeps HXB.out (fun h => by have := HXN.out; have := HSZ.out; omega))); have HS4 := Lib.hid (Nat.le_trans HS4.out t2.size); have HOQ := Lib.hid (HOQ.out.touch t2 (fun x hx h => by have h1 := (HOQ.out.own.lt x hx).1; have := HSZ.out; omega)); have HRD := Lib.hid h1; have HT := Lib.hid (HT.out.trans t2 (fun k hk h => by have := HSZ.out; omega)); clear h1 t2; (try clear g0); (try clear k0 k1 k2 k3 k4 k5 k6 k7 k8 k9 k10 k11 k12 k13 kf); obtain ⟨k0, k1, k2, k3, k4, k5, k6, k7, k8, k9, k10, k11, k12, k13⟩ := rcells_of HR.out; rw [qB_length] at k10; have kf := free_of_cells HR.out)
          | (go_at_call 64; (with_reducible refine (d_fU32 _ _ _ _ _ HRD.out).mono ?_); rintro e w12 ⟨rfl, h1, t2⟩; (try rw [nxtX_nxtX, nxtE_nxtE] at h1); (try simp only [Nat.reduceAdd] at h1); have HZ := Lib.hid (t2.keeps HZ.out (fun h => by have := HSZ.out; omega)); have HF := Lib.hid (t2.keeps HF.out (fun h => by have := HSZ.out; omega)); have HR := Lib.hid (t2.keeps HR.out (fun h => by have := HSZ.out; omega)); (try have HXB := Lib.hid (t2.keeps HXB.out (fun h => by have := HXN.out; have := HSZ.out; omega))); have HS4 := Lib.hid (Nat.le_trans HS4.out t2.size); have HOQ := Lib.hid (HOQ.out.touch t2 (fun x hx h => by have h1 := (HOQ.out.own.lt x hx).1; have := HSZ.out; omega)); have HRD := Lib.hid h1; have HT := Lib.hid (HT.out.trans t2 (fun k hk h => by have := HSZ.out; omega)); clear h1 t2; (try clear g0); (try clear k0 k1 k2 k3 k4 k5 k6 k7 k8 k9 k10 k11 k12 k13 kf); obtain ⟨k0, k1, k2, k3, k4, k5, k6, k7, k8, k9, k10, k11, k12, k13⟩ := rcells_of HR.out; rw [qB_length] at k10; have kf := free_of_cells HR.out))
        obtain ⟨VX, hVX⟩ : ∃ W, w12.alloc (.cells #[.int .i64 (valN 2 (nxtX (5 + k * bkW 2) xs) : Nat), .int .u32 (valN 4 (nxtX (5 + k * bkW 2 + 2) xs) : Nat), .int .i64 1] 61) = W := ⟨_, rfl⟩
        have tX : Touch w12 VX (fun _ => False) := hVX ▸ (Touch.refl _ _).alloc _
        have HXB : RowKit.Hid (VX.heap[w12.heap.size]? = some (.cells #[.int .i64 (valN 2 (nxtX (5 + k * bkW 2) xs) : Nat), .int .u32 (valN 4 (nxtX (5 + k * bkW 2 + 2) xs) : Nat), .int .i64 1] 61 (0, 0))) := Lib.hid (hVX ▸ heap_alloc_new w12 _)
        have HXN : RowKit.Hid (W4.heap.size ≤ w12.heap.size) := HS4
        have HOX : RowKit.Hid (∀ x, (Value.slice aq k cq).ownBlock = some x → x < w12.heap.size) := Lib.hid (fun x hx => (HOQ.out.own.lt x hx).2)
        have HS4 : RowKit.Hid (W4.heap.size ≤ VX.heap.size) := Lib.hid (Nat.le_trans HS4.out tX.size)
        have HOQ := Lib.hid (HOQ.out.still tX)
        have HR := Lib.hid (tX.keeps HR.out (fun h => h))
        have HRD := Lib.hid (HRD.out.still tX)
        have HZ := Lib.hid (tX.keeps HZ.out (fun h => h))
        have HF := Lib.hid (tX.keeps HF.out (fun h => h))
        have HT := Lib.hid (HT.out.trans tX (fun _ _ h => h))
        rw [hVX]
        clear tX hVX k0 k1 k2 k3 k4 k5 k6 k7 k8 k9 k10 k11 k12 k13 kf g1
        have g1 : VX.cell? ⟨w.heap.size, 1, none⟩ = some (.int .i64 2) := cell_of_cells HF.out 1
        obtain ⟨x0, x1, x2⟩ := bx_of HXB.out
        obtain ⟨k0, k1, k2, k3, k4, k5, k6, k7, k8, k9, k10, k11, k12, k13⟩ := rcells_of HR.out
        rw [qB_length] at k10
        go_upto_region 23 with (go_at_call 66; (with_reducible refine (d_fU8 _ _ _ _ _ HRD.out).mono ?_); rintro e w13 ⟨rfl, h1, t2⟩; (try rw [nxtX_nxtX, nxtE_nxtE] at h1); (try simp only [Nat.reduceAdd] at h1); have HZ := Lib.hid (t2.keeps HZ.out (fun h => by have := HSZ.out; omega)); have HF := Lib.hid (t2.keeps HF.out (fun h => by have := HSZ.out; omega)); have HR := Lib.hid (t2.keeps HR.out (fun h => by have := HSZ.out; omega)); (try have HXB := Lib.hid (t2.keeps HXB.out (fun h => by have := HXN.out; have := HSZ.out; omega))); have HS4 := Lib.hid (Nat.le_trans HS4.out t2.size); have HOQ := Lib.hid (HOQ.out.touch t2 (fun x hx h => by have h1 := (HOQ.out.own.lt x hx).1; have := HSZ.out; omega)); have HRD := Lib.hid h1; have HT := Lib.hid (HT.out.trans t2 (fun k hk h => by have := HSZ.out; omega)); clear h1 t2; clear x0 x1 x2; obtain ⟨x0, x1, x2⟩ := bx_of HXB.out; have xf := free_of_cells HXB.out; (try clear g0); (try clear k0 k1 k2 k3 k4 k5 k6 k7 k8 k9 k10 k11 k12 k13 kf); obtain ⟨k0, k1, k2, k3, k4, k5, k6, k7, k8, k9, k10, k11, k12, k13⟩ := rcells_of HR.out; rw [qB_length] at k10; have kf := free_of_cells HR.out)
        obtain ⟨VY, hVY⟩ : ∃ W, w13.setCell ⟨w12.heap.size, 2, none⟩ (.int .i64 (valN 1 (nxtX (5 + k * bkW 2 + 2 + 4) xs) : Nat)) = W := ⟨_, rfl⟩
        have tY : Touch w13 VY (fun k => k = w12.heap.size) := hVY ▸ (Touch.refl w13 _).into 2 _
        have HXB : RowKit.Hid (VY.heap[w12.heap.size]? = some (.cells #[.int .i64 (valN 2 (nxtX (5 + k * bkW 2) xs) : Nat), .int .u32 (valN 4 (nxtX (5 + k * bkW 2 + 2) xs) : Nat), .int .i64 (valN 1 (nxtX (5 + k * bkW 2 + 2 + 4) xs) : Nat)] 61 (0, 0))) := Lib.hid (hVY ▸ heap_setCell_same w13 w12.heap.size 2 _ _ (.int .i64 (valN 1 (nxtX (5 + k * bkW 2 + 2 + 4) xs) : Nat)) HXB.out)
        have HOQ := Lib.hid (HOQ.out.touch tY (fun x hx h => by have h1 := HOX.out x hx; omega))
        have HRD := Lib.hid (HRD.out.touch tY (fun k _ h => by have := HXN.out; have := HSZ.out; subst h; exact ⟨by omega, by omega⟩))
        have HR := Lib.hid (tY.keeps HR.out (fun h => by have := HXN.out; have := HSZ.out; omega))
        have HZ := Lib.hid (tY.keeps HZ.out (fun h => by have := HXN.out; have := HSZ.out; omega))
        have HF := Lib.hid (tY.keeps HF.out (fun h => by have := HXN.out; have := HSZ.out; omega))
        have HT := Lib.hid (HT.out.trans tY (fun k hk h => by have := HXN.out; have := HSZ.out; omega))
        rw [hVY]
        clear tY hVY x0 x1 x2 xf k0 k1 k2 k3 k4 k5 k6 k7 k8 k9 k10 k11 k12 k13 kf g1
        have g1 : VY.cell? ⟨w.heap.size, 1, none⟩ = some (.int .i64 2) := cell_of_cells HF.out 1
        obtain ⟨x0, x1, x2⟩ := bx_of HXB.out
        obtain ⟨k0, k1, k2, k3, k4, k5, k6, k7, k8, k9, k10, k11, k12, k13⟩ := rcells_of HR.out
        rw [qB_length] at k10
        have HB1 : RowKit.Hid (∀ l ∈ [(⟨(valN 2 (nxtX (5 + k * bkW 2) xs) : Nat), (valN 4 (nxtX (5 + k * bkW 2 + 2) xs) : Nat), (valN 1 (nxtX (5 + k * bkW 2 + 2 + 4) xs) : Nat)⟩ : BkD).cells], ∀ u ∈ l, u.oneCell' = true) := Lib.hid (bk_one [(⟨(valN 2 (nxtX (5 + k * bkW 2) xs) : Nat), (valN 4 (nxtX (5 + k * bkW 2 + 2) xs) : Nat), (valN 1 (nxtX (5 + k * bkW 2 + 2 + 4) xs) : Nat)⟩ : BkD)])
        have HLR : RowKit.Hid (∀ W : World, RowS (W.alloc (.cells #[.int .i64 (valN 2 (nxtX (5 + k * bkW 2) xs) : Nat), .int .u32 (valN 4 (nxtX (5 + k * bkW 2 + 2) xs) : Nat), .int .i64 (valN 1 (nxtX (5 + k * bkW 2 + 2 + 4) xs) : Nat)] 61)) (some ⟨W.heap.size, 0, none⟩) 1 1 3 [(⟨(valN 2 (nxtX (5 + k * bkW 2) xs) : Nat), (valN 4 (nxtX (5 + k * bkW 2 + 2) xs) : Nat), (valN 1 (nxtX (5 + k * bkW 2 + 2 + 4) xs) : Nat)⟩ : BkD).cells]) := Lib.hid (fun W => bk_lit (⟨(valN 2 (nxtX (5 + k * bkW 2) xs) : Nat), (valN 4 (nxtX (5 + k * bkW 2 + 2) xs) : Nat), (valN 1 (nxtX (5 + k * bkW 2 + 2 + 4) xs) : Nat)⟩ : BkD) W)
        go_wp2_with (first
          | (at_builtin; have _u := HLR; (with_reducible refine wp_appS (OwnS.still HOQ.out.toS ((Touch.refl _ (fun _ => False)).alloc _)) (HLR.out _) HB1.out 27 Try.underlying27 _ 24 HIB.out rfl (by decide) (by simp only [maxLen, List.length_map, qB_length]; omega) (by simp only [List.length_map, qB_length]; omega) (Below.refl _ _) (Nat.le_refl _) (by have := HXN.out; have := heap_lt HXB.out; simp; omega) rfl _ _ rfl rfl rfl (k + 1) _ (by simp only [List.length_map, qB_length]) rfl ?_); intro a84 c84 w84 ho8 hg8 hb8 hp8; have HO8 := Lib.hid ho8; have tA : Touch VY w84 (fun x => (Value.slice aq k cq).ownBlock = some x) := ((Touch.refl VY (fun x => (Value.slice aq k cq).ownBlock = some x)).alloc _).grown hg8 (fun j hj hlt => hj); have HR := Lib.hid (tA.keeps HR.out (fun h => by have h1 := (HOQ.out.own.lt _ h).1; have := HSZ.out; omega)); have HZ := Lib.hid (tA.keeps HZ.out (fun h => by have h1 := (HOQ.out.own.lt _ h).1; have := HSZ.out; omega)); have HF := Lib.hid (tA.keeps HF.out (fun h => by have h1 := (HOQ.out.own.lt _ h).1; have := HSZ.out; omega)); have HRD := Lib.hid (HRD.out.touch tA (fun j _ h => by have h1 := (HOQ.out.own.lt _ h).1; have := HSZ.out; exact ⟨by omega, by omega⟩)); have HT := Lib.hid (HT.out.trans tA (fun j hj h => by have h1 := (HOQ.out.own.lt _ h).1; have := HSZ.out; omega)); have HS8 : RowKit.Hid (W4.heap.size ≤ w84.heap.size) := Lib.hid (by have := HXN.out; have := heap_lt HXB.out; have := tA.size; omega); clear ho8 hg8 hb8 hp8 tA k0 k1 k2 k3 k4 k5 k6 k7 k8 k9 k10 k11 k12 k13 x0 x1 x2; obtain ⟨k0, k1, k2, k3, k4, k5, k6, k7, k8, k9, k10, k11, k12, k13⟩ := rcells_of HR.out; rw [qB_length] at k10; have kf := free_of_cells HR.out)
          | (refine load_rowG rfl 61 (.tmp 7) rfl w12.heap.size rfl _ _ _ _ HXB.out Try.underlying61 rfl HIB3.out ?_))
        obtain ⟨VE, hVE⟩ : ∃ W, w84.setCell ⟨W3.heap.size, 10, none⟩ (.slice a84 (k + 1) c84) = W := ⟨_, rfl⟩
        have tE : Touch w84 VE (fun k => k = W3.heap.size) := hVE ▸ (Touch.refl w84 _).into 10 _
        have hqs : qB 2 (k + 1) (nxtX 5 xs) = qB 2 k (nxtX 5 xs) ++ [(⟨(valN 2 (nxtX (5 + k * bkW 2) xs) : Nat), (valN 4 (nxtX (5 + k * bkW 2 + 2) xs) : Nat), (valN 1 (nxtX (5 + k * bkW 2 + 2 + 4) xs) : Nat)⟩ : BkD)] := by
          rw [qB_snoc, nxtX_nxtX]
          have e2 : nxtX 2 (nxtX (5 + k * bkW 2) xs) = nxtX (5 + k * bkW 2 + 2) xs := nxtX_nxtX 2 _ _
          have e6 : nxtX 6 (nxtX (5 + k * bkW 2) xs) = nxtX (5 + k * bkW 2 + 2 + 4) xs := nxtX_nxtX 6 _ _
          simp only [bkV, w1K, e2, e6, show ¬ (2 : Int) < 2 from by decide, if_true, if_false]
        have HR := Lib.hid (heap_setCell_same w84 W3.heap.size 10 _ _ (.slice a84 (k + 1) c84) HR.out)
        rw [rset_bq _ _ _ (qB 2 (k + 1) (nxtX 5 xs)) a84 (k + 1) c84 (qB_length _ _ _), hVE] at HR
        have HO9 : RowKit.Hid (OwnK VE W4.heap.size (.slice a84 (k + 1) c84) (qB 2 (k + 1) (nxtX 5 xs))) := Lib.hid (by
          rw [hqs]
          unfold OwnK
          rw [List.map_append]
          exact HO8.out.touch tE (fun x hx h => by have h1 := (HO8.out.own.lt x hx).1; have := HSZ.out; omega))
        have HZ := Lib.hid (tE.keeps HZ.out (fun h => by have := HSZ.out; omega))
        have HF := Lib.hid (tE.keeps HF.out (fun h => by have := HSZ.out; omega))
        have HRD := Lib.hid (HRD.out.touch tE (fun k _ h => by have := HSZ.out; subst h; exact ⟨by omega, by omega⟩))
        have HT := Lib.hid (HT.out.trans tE (fun k hk h => by have := HSZ.out; omega))
        have HS9 : RowKit.Hid (W4.heap.size ≤ VE.heap.size) := Lib.hid (Nat.le_trans HS8.out tE.size)
        have hll : 5 + k * bkW 2 + 7 = 5 + (k + 1) * bkW 2 := by rw [Nat.add_mul, show bkW 2 = 7 from rfl]; omega
        rw [hVE]
        clear tE hVE hqs
        go_roundw
        case rel =>
          refine ⟨k + 1, hlt, by go_num, HS9.out, a84, c84, HR.out, HO9.out, ?_, HZ.out, HF.out, HT.out⟩
          rw [← hll]
          exact HRD.out
        case measure => simp [intOf]; omega
  · go_loopw [67] (fun i wr => ∃ k : Nat, k ≤ N ∧ i = .int .i64 k ∧ DqAt w W1 W2 W3 W4 3 a cap xs k wr) (fun i _ => N - (intOf i).toNat)
    case atStart => exact ⟨0, Nat.zero_le _, rfl, HS4.out, none, 0, HR.out, OwnK.none _ _, by simpa using HRD.out, HZ.out, HF.out, HT.out⟩
    case round =>
      clear HR HRD HZ HF HT k0 k1 k2 k3 k4 k5 k6 k7 k8 k9 k10 k11 k12 k13 kf g1
      obtain ⟨k, hk, rfl, p0, aq, cq, p1, p2, p3, p4, p5, p6⟩ := hrel
      have HS4 := Lib.hid p0
      have HR := Lib.hid p1
      have HOQ := Lib.hid p2
      have HRD := Lib.hid p3
      have HZ := Lib.hid p4
      have HF := Lib.hid p5
      have HT := Lib.hid p6
      clear p0 p1 p2 p3 p4 p5 p6
      have g1 : wr.cell? ⟨w.heap.size, 1, none⟩ = some (.int .i64 3) := cell_of_cells HF.out 1
      by_cases hlt : k < N
      case neg =>
        obtain rfl : N = k := by omega
        have hlt' : ¬ (N : Int) < N := by omega
        go_upto_region 31 with fail
        have hqb : q.bs = qB 3 N (nxtX 5 xs) := by rw [HQE.out]
        have HQR : RowKit.Hid (wr.heap[W3.heap.size]? = some (.cells (rcs q aq cq) 29 (0, 0))) := Lib.hid (by rw [HQE.out]; exact HR.out)
        have HRW : RowKit.Hid (RowK wr aq q.bs.length cq q.bs) := Lib.hid (by rw [hqb, qB_length]; exact HOQ.out.row.2.1)
        have HOW : RowKit.Hid (∀ cs W, Touch wr W (fun _ => False) → OwnK (W.setRow W1.heap.size cs) w.heap.size (.slice aq q.bs.length cq) q.bs) := Lib.hid (by
          rw [hqb, qB_length]
          intro cs W t
          exact ((HOQ.out.still t).touch ((Touch.refl W (fun k => k = W1.heap.size)).setRow _ _ (fun _ => rfl)) (fun x hx h => by have h1 := (HOQ.out.own.lt x hx).1; have := HSZ.out; omega)).rebase (fun x hx => by have h1 := (HOQ.out.own.lt x hx).1; have := HSZ.out; omega))
        have HEN := Lib.hid (d_fEnd _ _ _ _ wr HRD.out)
        have HIR2 : RowKit.Hid ((Try.prog.info? 29).map (·.size) = some (rcs q none 0).size) := Lib.hid infoRec
        have hn2 := HNN.out
        rw [← hn2] at HEN
        clear HR HRD HF hqb hn2
        generalize endOf (nxtX n xs).length (nxtE n xs 0) = E at *
        by_cases hne : n = xs.length
        · have hE : E = 0 := HEI.out.2 hne
          subst hE
          cases hm : mayRB q with
          | true =>
            have HMQ := Lib.hid (fun (W : World) (h : RowK W aq q.bs.length cq q.bs) => hm ▸ HM.out aq cq W h)
            have HXX := Lib.hid (HX1.out ⟨hne, hm⟩)
            clear HX1 HX2 HEI hm HM HOB
            go_wp2_with (first
              | (go_at_call 67; (with_reducible refine HEN.out.mono ?_); rintro e w' ⟨rfl, h2⟩; obtain rfl := h2.symm)
              | (refine load_rowG rfl 29 (.tmp 5) rfl W3.heap.size rfl _ _ _ _ HQR.out Try.underlying29 rfl HIR2.out ?_)
              | (go_at_call 19; (with_reducible refine (HMQ.out _ HRW.out).mono ?_); rintro e w10 ⟨rfl, t10⟩; have HZ := Lib.hid (t10.keeps HZ.out (fun h => h)); have HQR := Lib.hid (t10.keeps HQR.out (fun h => h)); have HT := Lib.hid (HT.out.trans t10 (fun _ _ h => h)); have HOZ := Lib.hid (fun cs => HOW.out cs w10 t10); clear t10)
              | (refine store_row rfl 29 (.tmp 2) (.tmp 119) rfl W1.heap.size _ rfl rfl _ _ HZ.out HIR2.out rfl rfl ?_))
            refine ret_row1 rfl rfl W1.heap.size 29 (rcs q aq cq) (0, 0) _ rfl (setRow_heap _ _ _ _ _ _ HZ.out) Try.underlying29 rfl infoRec _ rfl ?_
            rw [HXX.out]
            exact ⟨aq, cq, rfl, HOZ.out _, HT.out.setRow _ _ (fun h => absurd h (by have := HSZ.out; omega))⟩
          | false =>
            have HMQ := Lib.hid (fun (W : World) (h : RowK W aq q.bs.length cq q.bs) => hm ▸ HM.out aq cq W h)
            have HXX := Lib.hid (HX2.out (fun h => by rw [hm] at h; cases h.2))
            clear HX1 HX2 HEI hm HM HOB
            go_wp2_with (first
              | (go_at_call 67; (with_reducible refine HEN.out.mono ?_); rintro e w' ⟨rfl, h2⟩; obtain rfl := h2.symm)
              | (refine load_rowG rfl 29 (.tmp 5) rfl W3.heap.size rfl _ _ _ _ HQR.out Try.underlying29 rfl HIR2.out ?_)
              | (go_at_call 19; (with_reducible refine (HMQ.out _ HRW.out).mono ?_); rintro e w10 ⟨rfl, t10⟩; have HZ := Lib.hid (t10.keeps HZ.out (fun h => h)); have HT := Lib.hid (HT.out.trans t10 (fun _ _ h => h)); clear t10)
              | (refine store_row rfl 29 (.tmp 2) (.tmp 118) rfl W1.heap.size (rcs zeroR none 0) rfl rfl _ _ HZ.out HIR2.out rfl rfl ?_))
            refine ret_row1 rfl rfl W1.heap.size 29 (rcs zeroR none 0) (0, 0) _ rfl (setRow_heap _ _ _ _ _ _ HZ.out) Try.underlying29 rfl infoRec _ rfl ?_
            rw [HXX.out]
            exact ⟨none, 0, rfl, OwnK.none _ _, HT.out.setRow _ _ (fun h => absurd h (by have := HSZ.out; omega))⟩
        · have hE : E ≠ 0 := fun h => hne (HEI.out.1 h)
          have hEb : (E != 0) = true := bne_iff_ne.2 hE
          have HXX := Lib.hid (HX2.out (fun h => hne h.1))
          clear HX1 HX2 HEI hne hE HM HOB
          go_wp2_with (first
            | (go_at_call 67; (with_reducible refine HEN.out.mono ?_); rintro e w' ⟨rfl, h2⟩; obtain rfl := h2.symm)
            | (refine store_row rfl 29 (.tmp 2) (.tmp 118) rfl W1.heap.size (rcs zeroR none 0) rfl rfl _ _ HZ.out HIR2.out rfl rfl ?_))
          refine ret_row1 rfl rfl W1.heap.size 29 (rcs zeroR none 0) (0, 0) _ rfl (setRow_heap _ _ _ _ _ _ HZ.out) Try.underlying29 rfl infoRec _ rfl ?_
          rw [HXX.out]
          exact ⟨none, 0, rfl, OwnK.none _ _, HT.out.setRow _ _ (fun h => absurd h (by have := HSZ.out; omega))⟩
    
      case pos =>
        have i1 : (k : Int) < N := by omega
        have hNl := HNL.out
        go_upto_region 21 with (first
          | (go_at_call 63; (with_reducible refine (d_fU16 _ _ _ _ _ HRD.out).mono ?_); rintro e w12 ⟨rfl, h1, t2⟩; (try rw [nxtX_nxtX, nxtE_nxtE] at h1); (try simp only [Nat.reduceAdd] at h1); have HZ := Lib.hid (t2.keeps HZ.out (fun h => by have := HSZ.out; omega)); have HF := Lib.hid (t2.keeps HF.out (fun h => by have := HSZ.out; omega)); have HR := Lib.hid (t2.keeps HR.out (fun h => by have := HSZ.out; omega)); (try have HXB := Lib.hid (t2.keeps HXB.out (fun h => by have := HXN.out; have := HSZ.out; omega))); have HS4 := Lib.hid (Nat.le_trans HS4.out t2.size); have HOQ := Lib.hid (HOQ.out.touch t2 (fun x hx h => by have h1 := (HOQ.out.own.lt x hx).1; have := HSZ.out; omega)); have HRD := Lib.hid h1; have HT := Lib.hid (HT.out.trans t2 (fun k hk h => by have := HSZ.out; omega)); clear h1 t2; (try clear g0); (try clear k0 k1 k2 k3 k4 k5 k6 k7 k8 k9 k10 k11 k12 k13 kf); obtain ⟨k0, k1, k2, k3, k4, k5, k6, k7, k8, k9, k10, k11, k12, k13⟩ := rcells_of HR.out; rw [qB_length] at k10; have kf := free_of_cells HR.out)
          | (go_at_call 64; (with_reducible refine (d_fU32 _ _ _ _ _ HRD.out).mono ?_); rintro e w12 ⟨rfl, h1, t2⟩; (try rw [nxtX_nxtX, nxtE_nxtE] at h1); (try simp only [Nat.reduceAdd] at h1); have HZ := Lib.hid (t2.keeps HZ.out (fun h => by have := HSZ.out; omega)); have HF := Lib.hid (t2.keeps HF.out (fun h => by have := HSZ.out; omega)); have HR := Lib.hid (t2.keeps HR.out (fun h => by have := HSZ.out; omega)); (try have HXB := Lib.hid (t2.keeps HXB.out (fun h => by have := HXN.out; have := HSZ.out; omega))); have HS4 := Lib.hid (Nat.le_trans HS4.out t2.size); have HOQ := Lib.hid (HOQ.out.touch t2 (fun x hx h => by have h1 := (HOQ.out.own.lt x hx).1; have := HSZ.out; omega)); have HRD := Lib.hid h1; have HT := Lib.hid (HT.out.trans t2 (fun k hk h => by have := HSZ.out; omega)); clear h1 t2; (try clear g0); (try clear k0 k1 k2 k3 k4 k5 k6 k7 k8 k9 k10 k11 k12 k13 kf); obtain ⟨k0, k1, k2, k3, k4, k5, k6, k7, k8, k9, k10, k11, k12, k13⟩ := rcells_of HR.out; rw [qB_length] at k10; have kf := free_of_cells HR.out))
        obtain ⟨VX, hVX⟩ : ∃ W, w12.alloc (.cells #[.int .i64 (valN 2 (nxtX (5 + k * bkW 3) xs) : Nat), .int .u32 (valN 4 (nxtX (5 + k * bkW 3 + 2) xs) : Nat), .int .i64 1] 61) = W := ⟨_, rfl⟩
        have tX : Touch w12 VX (fun _ => False) := hVX ▸ (Touch.refl _ _).alloc _
        have HXB : RowKit.Hid (VX.heap[w12.heap.size]? = some (.cells #[.int .i64 (valN 2 (nxtX (5 + k * bkW 3) xs) : Nat), .int .u32 (valN 4 (nxtX (5 + k * bkW 3 + 2) xs) : Nat), .int .i64 1] 61 (0, 0))) := Lib.hid (hVX ▸ heap_alloc_new w12 _)
        have HXN : RowKit.Hid (W4.heap.size ≤ w12.heap.size) := HS4
        have HOX : RowKit.Hid (∀ x, (Value.slice aq k cq).ownBlock = some x → x < w12.heap.size) := Lib.hid (fun x hx => (HOQ.out.own.lt x hx).2)
        have HS4 : RowKit.Hid (W4.heap.size ≤ VX.heap.size) := Lib.hid (Nat.le_trans HS4.out tX.size)
        have HOQ := Lib.hid (HOQ.out.still tX)
        have HR := Lib.hid (tX.keeps HR.out (fun h => h))
        have HRD := Lib.hid (HRD.out.still tX)
        have HZ := Lib.hid (tX.keeps HZ.out (fun h => h))
        have HF := Lib.hid (tX.keeps HF.out (fun h => h))
        have HT := Lib.hid (HT.out.trans tX (fun _ _ h => h))
        rw [hVX]
        clear tX hVX k0 k1 k2 k3 k4 k5 k6 k7 k8 k9 k10 k11 k12 k13 kf g1
        have g1 : VX.cell? ⟨w.heap.size, 1, none⟩ = some (.int .i64 3) := cell_of_cells HF.out 1
        obtain ⟨x0, x1, x2⟩ := bx_of HXB.out
        obtain ⟨k0, k1, k2, k3, k4, k5, k6, k7, k8, k9, k10, k11, k12, k13⟩ := rcells_of HR.out
        rw [qB_length] at k10
        go_upto_region 23 with (go_at_call 66; (with_reducible refine (d_fU8 _ _ _ _ _ HRD.out).mono ?_); rintro e w13 ⟨rfl, h1, t2⟩; (try rw [nxtX_nxtX, nxtE_nxtE] at h1); (try simp only [Nat.reduceAdd] at h1); have HZ := Lib.hid (t2.keeps HZ.out (fun h => by have := HSZ.out; omega)); have HF := Lib.hid (t2.keeps HF.out (fun h => by have := HSZ.out; omega)); have HR := Lib.hid (t2.keeps HR.out (fun h => by have := HSZ.out; omega)); (try have HXB := Lib.hid (t2.keeps HXB.out (fun h => by have := HXN.out; have := HSZ.out; omega))); have HS4 := Lib.hid (Nat.le_trans HS4.out t2.size); have HOQ := Lib.hid (HOQ.out.touch t2 (fun x hx h => by have h1 := (HOQ.out.own.lt x hx).1; have := HSZ.out; omega)); have HRD := Lib.hid h1; have HT := Lib.hid (HT.out.trans t2 (fun k hk h => by have := HSZ.out; omega)); clear h1 t2; clear x0 x1 x2; obtain ⟨x0, x1, x2⟩ := bx_of HXB.out; have xf := free_of_cells HXB.out; (try clear g0); (try clear k0 k1 k2 k3 k4 k5 k6 k7 k8 k9 k10 k11 k12 k13 kf); obtain ⟨k0, k1, k2, k3, k4, k5, k6, k7, k8, k9, k10, k11, k12, k13⟩ := rcells_of HR.out; rw [qB_length] at k10; have kf := free_of_cells HR.out)
        obtain ⟨VY, hVY⟩ : ∃ W, w13.setCell ⟨w12.heap.size, 2, none⟩ (.int .i64 (valN 1 (nxtX (5 + k * bkW 3 + 2 + 4) xs) : Nat)) = W := ⟨_, rfl⟩
        have tY : Touch w13 VY (fun k => k = w12.heap.size) := hVY ▸ (Touch.refl w13 _).into 2 _
        have HXB : RowKit.Hid (VY.heap[w12.heap.size]? = some (.cells #[.int .i64 (valN 2 (nxtX (5 + k * bkW 3) xs) : Nat), .int .u32 (valN 4 (nxtX (5 + k * bkW 3 + 2) xs) : Nat), .int .i64 (valN 1 (nxtX (5 + k * bkW 3 + 2 + 4) xs) : Nat)] 61 (0, 0))) := Lib.hid (hVY ▸ heap_setCell_same w13 w12.heap.size 2 _ _ (.int .i64 (valN 1 (nxtX (5 + k * bkW 3 + 2 + 4) xs) : Nat)) HXB.out)
        have HOQ := Lib.hid (HOQ.out.touch tY (fun x hx h => by have h1 := HOX.out x hx; omega))
        have HRD := Lib.hid (HRD.out.touch tY (fun k _ h => by have := HXN.out; have := HSZ.out; subst h; exact ⟨by omega, by omega⟩))
        have HR := Lib.hid (tY.keeps HR.out (fun h => by have := HXN.out; have := HSZ.out; omega))
        have HZ := Lib.hid (tY.keeps HZ.out (fun h => by have := HXN.out; have := HSZ.out; omega))
        have HF := Lib.hid (tY.keeps HF.out (fun h => by have := HXN.out; have := HSZ.out; omega))
        have HT := Lib.hid (HT.out.trans tY (fun k hk h => by have := HXN.out; have := HSZ.out; omega))
        rw [hVY]
        clear tY hVY x0 x1 x2 xf k0 k1 k2 k3 k4 k5 k6 k7 k8 k9 k10 k11 k12 k13 kf g1
        have g1 : VY.cell? ⟨w.heap.size, 1, none⟩ = some (.int .i64 3) := cell_of_cells HF.out 1
        obtain ⟨x0, x1, x2⟩ := bx_of HXB.out
        obtain ⟨k0, k1, k2, k3, k4, k5, k6, k7, k8, k9, k10, k11, k12, k13⟩ := rcells_of HR.out
        rw [qB_length] at k10
        have HB1 : RowKit.Hid (∀ l ∈ [(⟨(valN 2 (nxtX (5 + k * bkW 3) xs) : Nat), (valN 4 (nxtX (5 + k * bkW 3 + 2) xs) : Nat), (valN 1 (nxtX (5 + k * bkW 3 + 2 + 4) xs) : Nat)⟩ : BkD).cells], ∀ u ∈ l, u.oneCell' = true) := Lib.hid (bk_one [(⟨(valN 2 (nxtX (5 + k * bkW 3) xs) : Nat), (valN 4 (nxtX (5 + k * bkW 3 + 2) xs) : Nat), (valN 1 (nxtX (5 + k * bkW 3 + 2 + 4) xs) : Nat)⟩ : BkD)])
        have HLR : RowKit.Hid (∀ W : World, RowS (W.alloc (.cells #[.int .i64 (valN 2 (nxtX (5 + k * bkW 3) xs) : Nat), .int .u32 (valN 4 (nxtX (5 + k * bkW 3 + 2) xs) : Nat), .int .i64 (valN 1 (nxtX (5 + k * bkW 3 + 2 + 4) xs) : Nat)] 61)) (some ⟨W.heap.size, 0, none⟩) 1 1 3 [(⟨(valN 2 (nxtX (5 + k * bkW 3) xs) : Nat), (valN 4 (nxtX (5 + k * bkW 3 + 2) xs) : Nat), (valN 1 (nxtX (5 + k * bkW 3 + 2 + 4) xs) : Nat)⟩ : BkD).cells]) := Lib.hid (fun W => bk_lit (⟨(valN 2 (nxtX (5 + k * bkW 3) xs) : Nat), (valN 4 (nxtX (5 + k * bkW 3 + 2) xs) : Nat), (valN 1 (nxtX (5 + k * bkW 3 + 2 + 4) xs) : Nat)⟩ : BkD) W)
        go_wp2_with (first
          | (at_builtin; have _u := HLR; (with_reducible refine wp_appS (OwnS.still HOQ.out.toS ((Touch.refl _ (fun _ => False)).alloc _)) (HLR.out _) HB1.out 27 Try.underlying27 _ 24 HIB.out rfl (by decide) (by simp only [maxLen, List.length_map, qB_length]; omega) (by simp only [List.length_map, qB_length]; omega) (Below.refl _ _) (Nat.le_refl _) (by have := HXN.out; have := heap_lt HXB.out; simp; omega) rfl _ _ rfl rfl rfl (k + 1) _ (by simp only [List.length_map, qB_length]) rfl ?_); intro a84 c84 w84 ho8 hg8 hb8 hp8; have HO8 := Lib.hid ho8; have tA : Touch VY w84 (fun x => (Value.slice aq k cq).ownBlock = some x) := ((Touch.refl VY (fun x => (Value.slice aq k cq).ownBlock = some x)).alloc _).grown hg8 (fun j hj hlt => hj); have HR := Lib.hid (tA.keeps HR.out (fun h => by have h1 := (HOQ.out.own.lt _ h).1; have := HSZ.out; omega)); have HZ := Lib.hid (tA.keeps HZ.out (fun h => by have h1 := (HOQ.out.own.lt _ h).1; have := HSZ.out; omega)); have HF := Lib.hid (tA.keeps HF.out (fun h => by have h1 := (HOQ.out.own.lt _ h).1; have := HSZ.out; omega)); have HRD := Lib.hid (HRD.out.touch tA (fun j _ h => by have h1 := (HOQ.out.own.lt _ h).1; have := HSZ.out; exact ⟨by omega, by omega⟩)); have HT := Lib.hid (HT.out.trans tA (fun j hj h => by have h1 := (HOQ.out.own.lt _ h).1; have := HSZ.out; omega)); have HS8 : RowKit.Hid (W4.heap.size ≤ w84.heap.size) := Lib.hid (by have := HXN.out; have := heap_lt HXB.out; have := tA.size; omega); clear ho8 hg8 hb8 hp8 tA k0 k1 k2 k3 k4 k5 k6 k7 k8 k9 k10 k11 k12 k13 x0 x1 x2; obtain ⟨k0, k1, k2, k3, k4, k5, k6, k7, k8, k9, k10, k11, k12, k13⟩ := rcells_of HR.out; rw [qB_length] at k10; have kf := free_of_cells HR.out)
          | (refine load_rowG rfl 61 (.tmp 7) rfl w12.heap.size rfl _ _ _ _ HXB.out Try.underlying61 rfl HIB3.out ?_))
        obtain ⟨VE, hVE⟩ : ∃ W, w84.setCell ⟨W3.heap.size, 10, none⟩ (.slice a84 (k + 1) c84) = W := ⟨_, rfl⟩
        have tE : Touch w84 VE (fun k => k = W3.heap.size) := hVE ▸ (Touch.refl w84 _).into 10 _
        have hqs : qB 3 (k + 1) (nxtX 5 xs) = qB 3 k (nxtX 5 xs) ++ [(⟨(valN 2 (nxtX (5 + k * bkW 3) xs) : Nat), (valN 4 (nxtX (5 + k * bkW 3 + 2) xs) : Nat), (valN 1 (nxtX (5 + k * bkW 3 + 2 + 4) xs) : Nat)⟩ : BkD)] := by
          rw [qB_snoc, nxtX_nxtX]
          have e2 : nxtX 2 (nxtX (5 + k * bkW 3) xs) = nxtX (5 + k * bkW 3 + 2) xs := nxtX_nxtX 2 _ _
          have e6 : nxtX 6 (nxtX (5 + k * bkW 3) xs) = nxtX (5 + k * bkW 3 + 2 + 4) xs := nxtX_nxtX 6 _ _
          simp only [bkV, w1K, e2, e6, show ¬ (3 : Int) < 2 from by decide, if_true, if_false]
        have HR := Lib.hid (heap_setCell_same w84 W3.heap.size 10 _ _ (.slice a84 (k + 1) c84) HR.out)
        rw [rset_bq _ _ _ (qB 3 (k + 1) (nxtX 5 xs)) a84 (k + 1) c84 (qB_length _ _ _), hVE] at HR
        have HO9 : RowKit.Hid (OwnK VE W4.heap.size (.slice a84 (k + 1) c84) (qB 3 (k + 1) (nxtX 5 xs))) := Lib.hid (by
          rw [hqs]
          unfold OwnK
          rw [List.map_append]
          exact HO8.out.touch tE (fun x hx h => by have h1 := (HO8.out.own.lt x hx).1; have := HSZ.out; omega))
        have HZ := Lib.hid (tE.keeps HZ.out (fun h => by have := HSZ.out; omega))
        have HF := Lib.hid (tE.keeps HF.out (fun h => by have := HSZ.out; omega))
        have HRD := Lib.hid (HRD.out.touch tE (fun k _ h => by have := HSZ.out; subst h; exact ⟨by omega, by omega⟩))
        have HT := Lib.hid (HT.out.trans tE (fun k hk h => by have := HSZ.out; omega))
        have HS9 : RowKit.Hid (W4.heap.size ≤ VE.heap.size) := Lib.hid (Nat.le_trans HS8.out tE.size)
        have hll : 5 + k * bkW 3 + 7 = 5 + (k + 1) * bkW 3 := by rw [Nat.add_mul, show bkW 3 = 7 from rfl]; omega
        rw [hVE]
        clear tE hVE hqs
        go_roundw
        case rel =>
          refine ⟨k + 1, hlt, by go_num, HS9.out, a84, c84, HR.out, HO9.out, ?_, HZ.out, HF.out, HT.out⟩
          rw [← hll]
          exact HRD.out
        case measure => simp [intOf]; omega

theorem rdec_any (k v : Int) (a : Option Addr) (cap : Nat) (xs : List Nat) (w : World) (hrow : RowB w a xs.length cap xs) (hlen : xs.length ≤ 140737488355328) :
    Calls Try.prog 28 #[.agg (f3 k v a xs.length cap)] w (DecIs w k v xs) := by
  cases hv : verB v with
  | false => exact rdec_ver k v a cap xs w hv
  | true =>
    by_cases n1 : k = 1
    · subst n1; exact rdec_k1 v a cap xs w hv hrow hlen
    by_cases n2 : k = 2
    · subst n2; exact rdec_k2 v a cap xs w hv hrow hlen
    by_cases n3 : k = 3
    · subst n3; exact rdec_k3 v a cap xs w hv hrow hlen
    by_cases n4 : k = 4
    · subst n4; exact rdec_k4 v a cap xs w hv hrow hlen
    by_cases n5 : k = 5
    · subst n5; exact rdec_k5 v a cap xs w hv hrow hlen
    by_cases n6 : k = 6
    · subst n6; exact rdec_k6 v a cap xs w hv hrow hlen
    exact rdec_k0 k n1 n2 n3 n4 n5 n6 v a cap xs w hv hrow hlen
end Go.Proofs.Ytbklngcocbnijaa
