/- RecordBack: the walk, where the given frame is none. -/
import Derived.Test.YtbklngcocbnijaaRecBack0Z
set_option linter.unusedVariables false
set_option linter.unusedSimpArgs false
namespace Go.Proofs.Ytbklngcocbnijaa
open Go.RowKit


set_option maxRecDepth 20000 in
set_option maxHeartbeats 16000000 in
theorem back_0 (r : RecD) (a : Option Addr) (cap : Nat) (ver : Int) (k2 v2 : Int) (a2 : Option Addr) (cap2 : Nat) (xs : List Nat) (w : World) (ok : RecOk r) (hr : RowK w a r.bs.length cap r.bs) (hk2 : i64 k2) (hy : RowB w a2 xs.length cap2 xs) (hlen : xs.length ≤ 140737488355328) (hl : lightB r = true) (hx : xs.length ≤ 400) (hd : decE k2 v2 xs ≠ 0) :
    Calls Try.prog 6 #[.agg (rcs r a cap), .int .i64 ver, .agg #[.int .i64 k2, .int .i64 v2, .slice a2 xs.length cap2]] w fun e w' => e = .returned (.bool true) ∧ Touch w w' (fun _ => False) := by
  obtain ⟨W1, hW1⟩ : ∃ W, w.alloc (.cells (rcs r a cap) 29) = W := ⟨_, rfl⟩
  obtain ⟨W2, hW2⟩ : ∃ W, W1.alloc (.cells #[.int .i64 k2, .int .i64 v2, .slice a2 xs.length cap2] 39) = W := ⟨_, rfl⟩
  have t1 : Touch w W1 (fun _ => False) := hW1 ▸ (Touch.refl _ _).alloc _
  have t2 : Touch W1 W2 (fun _ => False) := hW2 ▸ (Touch.refl _ _).alloc _
  have HB : RowKit.Hid (W2.heap[w.heap.size]? = some (.cells (rcs r a cap) 29 (0, 0))) := Lib.hid (t2.keeps (hW1 ▸ heap_alloc_new w _) (fun h => h))
  have HF : RowKit.Hid (W2.heap[W1.heap.size]? = some (.cells #[.int .i64 k2, .int .i64 v2, .slice a2 xs.length cap2] 39 (0, 0))) := Lib.hid (hW2 ▸ heap_alloc_new W1 _)
  have HR := Lib.hid ((hr.still t1).still t2)
  have HY := Lib.hid ((hy.touch t1 (fun _ _ => .inr (fun h => h))).touch t2 (fun _ _ => .inr (fun h => h)))
  have HT := Lib.hid (t1.trans t2 (fun _ _ h => h))
  have HIR := Lib.hid infoRec
  have HIF := Lib.hid infoFr
  have HLL : RowKit.Hid (∀ W, Calls Try.prog 13 #[.agg (rcs r a cap)] W fun e w' => e = .returned (.bool (lightB r)) ∧ Touch W w' (fun _ => False)) := Lib.hid (fun W => light_any r a cap W)
  have hl4 : r.bs.length ≤ 40 := of_decide_eq_true hl
  have HL4 := Lib.hid hl4
  have HOK := Lib.hid ok
  have i1 : ¬ (400 : Int) < xs.length := by omega
  obtain ⟨X, hX⟩ : ∃ X, decR k2 v2 xs = X := ⟨_, rfl⟩
  have KD : RowKit.Hid (∀ W, RowB W a2 xs.length cap2 xs → Calls Try.prog 27 #[.agg #[.int .i64 k2, .int .i64 v2, .slice a2 xs.length cap2]] W fun e w' => ∃ a' c', e = .returned (.tuple #[.agg (rcs X a' c'), .int .i64 (decE k2 v2 xs)]) ∧ OwnK w' W.heap.size (.slice a' X.bs.length c') X.bs ∧ Touch W w' (fun _ => False)) := Lib.hid (fun W h => by
    have := dec_any k2 v2 a2 cap2 xs W h hlen
    unfold DecIs at this
    rw [hX] at this
    exact this)
  rw [hl] at HLL
  have c2 : W2.cell? ⟨W1.heap.size, 2, none⟩ = some (.slice a2 xs.length cap2) := cell_of_cells HF.out 2
  have hdb : (decE k2 v2 xs == 0) = false := beq_eq_false_iff_ne.2 hd
  generalize decE k2 v2 xs = E1 at *
  clear hr hy t1 t2 ok hk2 hl hl4 hX hd
  simp only [rcs] at hW1
  simp only [rcs]
  go_enter Try.func6, Try.ntmps6
  go_upto_region 8 with (first
    | (refine load_rowH 29 (.tmp 3) rfl rfl w.heap.size rfl _ _ _ _ HB.out Try.underlying29 rfl HIR.out ?_)
    | (refine load_rowH 39 (.tmp 5) rfl rfl W1.heap.size rfl _ _ _ _ HF.out Try.underlying39 rfl HIF.out ?_)
    | (go_at_call 13; (with_reducible refine (HLL.out _).mono ?_); rintro e w2 ⟨rfl, t9⟩; (try have HB := Lib.hid (t9.keeps HB.out (fun h => h))); (try have HF := Lib.hid (t9.keeps HF.out (fun h => h))); (try have HX := Lib.hid (t9.keeps HX.out (fun h => h))); (try have HG := Lib.hid (t9.keeps HG.out (fun h => h))); (try have HF2 := Lib.hid (t9.keeps HF2.out (fun h => h))); (try have HX2 := Lib.hid (t9.keeps HX2.out (fun h => h))); (try have HR := Lib.hid (HR.out.still t9)); (try have HY := Lib.hid (HY.out.touch t9 (fun _ _ => .inr (fun h => h)))); (try have RX := Lib.hid (RX.out.still t9)); (try have RG := Lib.hid (RG.out.touch t9 (fun _ _ => .inr (fun h => h)))); (try have RF2 := Lib.hid (RF2.out.touch t9 (fun _ _ => .inr (fun h => h)))); (try have RX2 := Lib.hid (RX2.out.still t9)); have HT := Lib.hid (HT.out.trans t9 (fun _ _ h => h)); clear t9; have c2 := cell_of_cells HF.out 2; simp at c2)
    | (go_at_call 27; (with_reducible refine (KD.out _ HY.out).mono ?_); rintro e w4 ⟨a4, c4, rfl, ho, t8⟩; obtain ⟨v4, hv4⟩ : ∃ W, w4.alloc (.cells (rcs X a4 c4) 29) = W := ⟨_, rfl⟩; have tA : Touch w4 v4 (fun _ => False) := hv4 ▸ (Touch.refl w4 (fun _ => False)).alloc (.cells (rcs X a4 c4) 29); have t9 := t8.trans tA (fun _ _ h => h); (try have HB := Lib.hid (t9.keeps HB.out (fun h => h))); (try have HF := Lib.hid (t9.keeps HF.out (fun h => h))); (try have HX := Lib.hid (t9.keeps HX.out (fun h => h))); (try have HG := Lib.hid (t9.keeps HG.out (fun h => h))); (try have HF2 := Lib.hid (t9.keeps HF2.out (fun h => h))); (try have HX2 := Lib.hid (t9.keeps HX2.out (fun h => h))); (try have HR := Lib.hid (HR.out.still t9)); (try have HY := Lib.hid (HY.out.touch t9 (fun _ _ => .inr (fun h => h)))); (try have RX := Lib.hid (RX.out.still t9)); (try have RG := Lib.hid (RG.out.touch t9 (fun _ _ => .inr (fun h => h)))); (try have RF2 := Lib.hid (RF2.out.touch t9 (fun _ _ => .inr (fun h => h)))); (try have RX2 := Lib.hid (RX2.out.still t9)); have HT := Lib.hid (HT.out.trans t9 (fun _ _ h => h)); have HX : RowKit.Hid (v4.heap[w4.heap.size]? = some (.cells (rcs X a4 c4) 29 (0, 0))) := Lib.hid (hv4 ▸ heap_alloc_new w4 _); have RX := Lib.hid (ho.row.2.1.still tA); clear t8 t9 tA ho; simp only [rcs] at hv4; simp only [rcs]))
  clear HLL KD c2
  by_cases he : encE r ver = 0
  · obtain ⟨hv, hm⟩ := encE_good he
    obtain ⟨e1, e2⟩ := dec_of_enc r ver HOK.out hv hm
    obtain ⟨ys, hys⟩ : ∃ ys, bodyF r ver = ys := ⟨_, rfl⟩
    obtain ⟨q, hq⟩ : ∃ q, inD r ver = q := ⟨_, rfl⟩
    have hyl : ys.length ≤ 1000 := by rw [← hys]; exact bodyF_le r ver hm
    have hql : q.bs.length ≤ 100000 := by have := in_less r ver; rw [hq] at this; have := HL4.out; omega
    rw [hys] at e1 e2
    rw [hq] at e2
    have e3 : decR r.kind ver ys = q := by unfold decR; rw [if_pos e1, e2]
    obtain ⟨L2, hL2⟩ : ∃ n, ys.length = n := ⟨_, rfl⟩
    have KE : RowKit.Hid (∀ W, RowK W a r.bs.length cap r.bs → Calls Try.prog 24 #[.agg (rcs r a cap), .int .i64 ver] W fun e w' => ∃ a' c', e = .returned (.tuple #[.agg #[.int .i64 r.kind, .int .i64 ver, .slice a' L2 c'], .int .i64 0]) ∧ RowB w' a' L2 c' ys ∧ Touch W w' (fun _ => False)) := Lib.hid (fun W h => by have := enc_fine r a cap ver W h HOK.out hv hm; rw [hys, hL2] at this; exact this)
    have KD2 : RowKit.Hid (∀ (a3 : Option Addr) (c3 : Nat) W, RowB W a3 L2 c3 ys → Calls Try.prog 27 #[.agg #[.int .i64 r.kind, .int .i64 ver, .slice a3 L2 c3]] W fun e w' => ∃ a' c', e = .returned (.tuple #[.agg (rcs q a' c'), .int .i64 0]) ∧ OwnK w' W.heap.size (.slice a' q.bs.length c') q.bs ∧ Touch W w' (fun _ => False)) := Lib.hid (fun a3 c3 W h => by
      have := dec_any r.kind ver a3 c3 ys W (by rw [hL2]; exact h) (by omega)
      unfold DecIs at this
      rw [e1, e3, hL2] at this
      exact this)
    have KI : RowKit.Hid (∀ W, RowK W a r.bs.length cap r.bs → Calls Try.prog 22 #[.agg (rcs r a cap), .int .i64 ver] W fun e w' => RecIs W w' q e) := Lib.hid (fun W h => hq ▸ in_any r a cap ver W h (by have := HL4.out; omega))
    have KS : RowKit.Hid (∀ (b1 : Option Addr) (c1 : Nat) (b2 : Option Addr) (c2 : Nat) (W : World), RowK W b1 q.bs.length c1 q.bs → RowK W b2 q.bs.length c2 q.bs → Calls Try.prog 20 #[.agg (rcs q b1 c1), .agg (rcs q b2 c2)] W fun e w' => e = .returned (.bool true) ∧ Touch W w' (fun _ => False)) :=
      Lib.hid (fun b1 c1 b2 c2 W h1 h2 => by have := same_any q b1 c1 q b2 c2 W h1 hql h2 hql; rwa [(sameR_iff q q).2 rfl] at this)
    have KS3 : RowKit.Hid (ver = 3 → ∀ (b1 : Option Addr) (c1 : Nat) (W : World), RowK W b1 q.bs.length c1 q.bs → RowK W a r.bs.length cap r.bs → Calls Try.prog 20 #[.agg (rcs q b1 c1), .agg (rcs r a cap)] W fun e w' => e = .returned (.bool true) ∧ Touch W w' (fun _ => False)) :=
      Lib.hid (fun h3 b1 c1 W h1 h2 => by have := same_any q b1 c1 r a cap W h1 hql h2 (by have := HL4.out; omega); rwa [(sameR_iff q r).2 (by rw [← hq, h3]; exact plain_in3 r)] at this)
    have hvv := (verB_iff ver).1 hv
    clear he hv hm e1 e2 e3 hys hq hyl hql hL2 HOK
    go_upto_region 12 with (first
      | (refine load_rowH 29 (.tmp 3) rfl rfl w.heap.size rfl _ _ _ _ HB.out Try.underlying29 rfl HIR.out ?_)
      | (refine load_rowH 39 (.tmp 11) rfl rfl w14.heap.size rfl _ _ _ _ HF2.out Try.underlying39 rfl HIF.out ?_)
      | (go_at_call 24; (with_reducible refine (KE.out _ HR.out).mono ?_); rintro e w14 ⟨a14, c14, rfl, ho, t8⟩; obtain ⟨v14, hv14⟩ : ∃ W, w14.alloc (.cells #[.int .i64 r.kind, .int .i64 ver, .slice a14 L2 c14] 39) = W := ⟨_, rfl⟩; have tA : Touch w14 v14 (fun _ => False) := hv14 ▸ (Touch.refl w14 (fun _ => False)).alloc _; have t9 := t8.trans tA (fun _ _ h => h); (try have HB := Lib.hid (t9.keeps HB.out (fun h => h))); (try have HF := Lib.hid (t9.keeps HF.out (fun h => h))); (try have HX := Lib.hid (t9.keeps HX.out (fun h => h))); (try have HG := Lib.hid (t9.keeps HG.out (fun h => h))); (try have HF2 := Lib.hid (t9.keeps HF2.out (fun h => h))); (try have HX2 := Lib.hid (t9.keeps HX2.out (fun h => h))); (try have HR := Lib.hid (HR.out.still t9)); (try have HY := Lib.hid (HY.out.touch t9 (fun _ _ => .inr (fun h => h)))); (try have RX := Lib.hid (RX.out.still t9)); (try have RG := Lib.hid (RG.out.touch t9 (fun _ _ => .inr (fun h => h)))); (try have RF2 := Lib.hid (RF2.out.touch t9 (fun _ _ => .inr (fun h => h)))); (try have RX2 := Lib.hid (RX2.out.still t9)); have HT := Lib.hid (HT.out.trans t9 (fun _ _ h => h)); have HF2 : RowKit.Hid (v14.heap[w14.heap.size]? = some (.cells #[.int .i64 r.kind, .int .i64 ver, .slice a14 L2 c14] 39 (0, 0))) := Lib.hid (hv14 ▸ heap_alloc_new w14 _); have RF2 := Lib.hid (ho.touch tA (fun _ _ => .inr (fun h => h))); clear t8 t9 tA ho)
      | (go_at_call 27; (with_reducible refine (KD2.out _ _ _ RF2.out).mono ?_); rintro e w16 ⟨a16, c16, rfl, ho, t8⟩; obtain ⟨v16, hv16⟩ : ∃ W, w16.alloc (.cells (rcs q a16 c16) 29) = W := ⟨_, rfl⟩; have tA : Touch w16 v16 (fun _ => False) := hv16 ▸ (Touch.refl w16 (fun _ => False)).alloc (.cells (rcs q a16 c16) 29); have t9 := t8.trans tA (fun _ _ h => h); (try have HB := Lib.hid (t9.keeps HB.out (fun h => h))); (try have HF := Lib.hid (t9.keeps HF.out (fun h => h))); (try have HX := Lib.hid (t9.keeps HX.out (fun h => h))); (try have HG := Lib.hid (t9.keeps HG.out (fun h => h))); (try have HF2 := Lib.hid (t9.keeps HF2.out (fun h => h))); (try have HX2 := Lib.hid (t9.keeps HX2.out (fun h => h))); (try have HR := Lib.hid (HR.out.still t9)); (try have HY := Lib.hid (HY.out.touch t9 (fun _ _ => .inr (fun h => h)))); (try have RX := Lib.hid (RX.out.still t9)); (try have RG := Lib.hid (RG.out.touch t9 (fun _ _ => .inr (fun h => h)))); (try have RF2 := Lib.hid (RF2.out.touch t9 (fun _ _ => .inr (fun h => h)))); (try have RX2 := Lib.hid (RX2.out.still t9)); have HT := Lib.hid (HT.out.trans t9 (fun _ _ h => h)); have HX2 : RowKit.Hid (v16.heap[w16.heap.size]? = some (.cells (rcs q a16 c16) 29 (0, 0))) := Lib.hid (hv16 ▸ heap_alloc_new w16 _); have RX2 := Lib.hid (ho.row.2.1.still tA); clear t8 t9 tA ho; simp only [rcs] at hv16; simp only [rcs]))
    clear KE KD2
    have td := (Touch.refl v16 (fun _ => False)).drew
    have t9 : Touch v16 v16.drew (fun _ => False) := td
    (try have HB := Lib.hid (t9.keeps HB.out (fun h => h))); (try have HF := Lib.hid (t9.keeps HF.out (fun h => h))); (try have HX := Lib.hid (t9.keeps HX.out (fun h => h))); (try have HG := Lib.hid (t9.keeps HG.out (fun h => h))); (try have HF2 := Lib.hid (t9.keeps HF2.out (fun h => h))); (try have HX2 := Lib.hid (t9.keeps HX2.out (fun h => h))); (try have HR := Lib.hid (HR.out.still t9)); (try have HY := Lib.hid (HY.out.touch t9 (fun _ _ => .inr (fun h => h)))); (try have RX := Lib.hid (RX.out.still t9)); (try have RG := Lib.hid (RG.out.touch t9 (fun _ _ => .inr (fun h => h)))); (try have RF2 := Lib.hid (RF2.out.touch t9 (fun _ _ => .inr (fun h => h)))); (try have RX2 := Lib.hid (RX2.out.still t9)); have HT := Lib.hid (HT.out.trans t9 (fun _ _ h => h))
    clear td t9
    go_region_held3 (fun w' => (w'.cell? ⟨w16.heap.size, 0, none⟩ = some (.int .i64 q.kind) ∧ w'.cell? ⟨w16.heap.size, 1, none⟩ = some (.int .u32 q.t.src) ∧ w'.cell? ⟨w16.heap.size, 2, none⟩ = some (.int .u32 q.t.dst) ∧ w'.cell? ⟨w16.heap.size, 3, none⟩ = some (.int .i64 q.t.proto) ∧ w'.cell? ⟨w16.heap.size, 4, none⟩ = some (.int .i64 q.t.sport) ∧ w'.cell? ⟨w16.heap.size, 5, none⟩ = some (.int .i64 q.t.dport) ∧ w'.cell? ⟨w16.heap.size, 6, none⟩ = some (.int .i64 q.fb) ∧ w'.cell? ⟨w16.heap.size, 7, none⟩ = some (.int .i64 q.fg) ∧ w'.cell? ⟨w16.heap.size, 8, none⟩ = some (.int .i64 q.fs) ∧ w'.cell? ⟨w16.heap.size, 9, none⟩ = some (.int .i64 q.gen) ∧ w'.cell? ⟨w16.heap.size, 10, none⟩ = some (.slice a16 q.bs.length c16) ∧ w'.cell? ⟨w16.heap.size, 11, none⟩ = some (.int .i64 q.be) ∧ w'.cell? ⟨w16.heap.size, 12, none⟩ = some (.int .i64 q.un) ∧ w'.cell? ⟨w16.heap.size, 13, none⟩ = some (.int .i64 q.ct)) ∧ (w'.cell? ⟨w.heap.size, 0, none⟩ = some (.int .i64 r.kind) ∧ w'.cell? ⟨w.heap.size, 1, none⟩ = some (.int .u32 r.t.src) ∧ w'.cell? ⟨w.heap.size, 2, none⟩ = some (.int .u32 r.t.dst) ∧ w'.cell? ⟨w.heap.size, 3, none⟩ = some (.int .i64 r.t.proto) ∧ w'.cell? ⟨w.heap.size, 4, none⟩ = some (.int .i64 r.t.sport) ∧ w'.cell? ⟨w.heap.size, 5, none⟩ = some (.int .i64 r.t.dport) ∧ w'.cell? ⟨w.heap.size, 6, none⟩ = some (.int .i64 r.fb) ∧ w'.cell? ⟨w.heap.size, 7, none⟩ = some (.int .i64 r.fg) ∧ w'.cell? ⟨w.heap.size, 8, none⟩ = some (.int .i64 r.fs) ∧ w'.cell? ⟨w.heap.size, 9, none⟩ = some (.int .i64 r.gen) ∧ w'.cell? ⟨w.heap.size, 10, none⟩ = some (.slice a r.bs.length cap) ∧ w'.cell? ⟨w.heap.size, 11, none⟩ = some (.int .i64 r.be) ∧ w'.cell? ⟨w.heap.size, 12, none⟩ = some (.int .i64 r.un) ∧ w'.cell? ⟨w.heap.size, 13, none⟩ = some (.int .i64 r.ct)))
      (first | (with_reducible exact ⟨rcells_of HX2.out, rcells_of HB.out⟩) | go_keep)
      (first
      | (go_at_call 22; refine (KI.out _ HR.out).mono ?_; rintro e w20 ⟨a20, c20, rfl, ho, t9⟩; (try have HB := Lib.hid (t9.keeps HB.out (fun h => h))); (try have HF := Lib.hid (t9.keeps HF.out (fun h => h))); (try have HX := Lib.hid (t9.keeps HX.out (fun h => h))); (try have HG := Lib.hid (t9.keeps HG.out (fun h => h))); (try have HF2 := Lib.hid (t9.keeps HF2.out (fun h => h))); (try have HX2 := Lib.hid (t9.keeps HX2.out (fun h => h))); (try have HR := Lib.hid (HR.out.still t9)); (try have HY := Lib.hid (HY.out.touch t9 (fun _ _ => .inr (fun h => h)))); (try have RX := Lib.hid (RX.out.still t9)); (try have RG := Lib.hid (RG.out.touch t9 (fun _ _ => .inr (fun h => h)))); (try have RF2 := Lib.hid (RF2.out.touch t9 (fun _ _ => .inr (fun h => h)))); (try have RX2 := Lib.hid (RX2.out.still t9)); have HT := Lib.hid (HT.out.trans t9 (fun _ _ h => h)); have RX20 := Lib.hid ho.row.2.1; clear t9 ho)
      | (have _u := RX20; go_at_call 20; refine (KS.out _ _ _ _ _ RX2.out RX20.out).mono ?_; rintro e w21 ⟨rfl, t9⟩; (try have HB := Lib.hid (t9.keeps HB.out (fun h => h))); (try have HF := Lib.hid (t9.keeps HF.out (fun h => h))); (try have HX := Lib.hid (t9.keeps HX.out (fun h => h))); (try have HG := Lib.hid (t9.keeps HG.out (fun h => h))); (try have HF2 := Lib.hid (t9.keeps HF2.out (fun h => h))); (try have HX2 := Lib.hid (t9.keeps HX2.out (fun h => h))); (try have HR := Lib.hid (HR.out.still t9)); (try have HY := Lib.hid (HY.out.touch t9 (fun _ _ => .inr (fun h => h)))); (try have RX := Lib.hid (RX.out.still t9)); (try have RG := Lib.hid (RG.out.touch t9 (fun _ _ => .inr (fun h => h)))); (try have RF2 := Lib.hid (RF2.out.touch t9 (fun _ _ => .inr (fun h => h)))); (try have RX2 := Lib.hid (RX2.out.still t9)); have HT := Lib.hid (HT.out.trans t9 (fun _ _ h => h)); clear t9))
    all_goals (
      rcases (by omega : ver < 3 ∨ ver = 3) with h3 | h3
      · clear KS KS3 KI
        go_upto_region 14 with fail
        go_wp2_with (go_at_call 14; (with_reducible refine (awake8 _).mono ?_); rintro e w2 ⟨rfl, t9⟩; have HT := Lib.hid (HT.out.trans t9 (fun _ _ h => h)); clear t9)
        go_ret
        exact ⟨rfl, HT.out⟩
      · have KX := Lib.hid (fun (b1 : Option Addr) (c1 : Nat) (W : World) (h1 : RowK W b1 q.bs.length c1 q.bs) (h2 : RowK W a r.bs.length cap r.bs) => KS3.out h3 b1 c1 W h1 h2)
        have n3 : ¬ ver < 3 := by omega
        clear KS KS3 KI h3
        go_upto_region 14 with fail
        go_wp2_with (first
          | (refine load_rowH 29 (.tmp 13) rfl rfl w16.heap.size rfl _ _ _ _ HX2.out Try.underlying29 rfl HIR.out ?_)
          | (refine load_rowH 29 (.tmp 3) rfl rfl w.heap.size rfl _ _ _ _ HB.out Try.underlying29 rfl HIR.out ?_)
          | (go_at_call 20; (with_reducible refine (KX.out _ _ _ RX2.out HR.out).mono ?_); rintro e w12 ⟨rfl, t9⟩; (try have HB := Lib.hid (t9.keeps HB.out (fun h => h))); (try have HF := Lib.hid (t9.keeps HF.out (fun h => h))); (try have HX := Lib.hid (t9.keeps HX.out (fun h => h))); (try have HG := Lib.hid (t9.keeps HG.out (fun h => h))); (try have HF2 := Lib.hid (t9.keeps HF2.out (fun h => h))); (try have HX2 := Lib.hid (t9.keeps HX2.out (fun h => h))); (try have HR := Lib.hid (HR.out.still t9)); (try have HY := Lib.hid (HY.out.touch t9 (fun _ _ => .inr (fun h => h)))); (try have RX := Lib.hid (RX.out.still t9)); (try have RG := Lib.hid (RG.out.touch t9 (fun _ _ => .inr (fun h => h)))); (try have RF2 := Lib.hid (RF2.out.touch t9 (fun _ _ => .inr (fun h => h)))); (try have RX2 := Lib.hid (RX2.out.still t9)); have HT := Lib.hid (HT.out.trans t9 (fun _ _ h => h)); clear t9)
          | (go_at_call 14; (with_reducible refine (awake8 _).mono ?_); rintro e w2 ⟨rfl, t9⟩; have HT := Lib.hid (HT.out.trans t9 (fun _ _ h => h)); clear t9))
        go_ret
        exact ⟨rfl, HT.out⟩)
  · have hbad := encE_bad he
    have KE : RowKit.Hid (∀ W, RowK W a r.bs.length cap r.bs → Calls Try.prog 24 #[.agg (rcs r a cap), .int .i64 ver] W fun e w' => ∃ a' c', e = .returned (.tuple #[.agg #[.int .i64 0, .int .i64 0, .slice a' 0 c'], .int .i64 (encE r ver)]) ∧ Touch W w' (fun _ => False)) := Lib.hid (fun W h => enc_none r a cap ver W h HOK.out he)
    have KM : RowKit.Hid (∀ W, RowK W a r.bs.length cap r.bs → Calls Try.prog 18 #[.agg (rcs r a cap)] W fun e w' => e = .returned (.bool (mayRB r)) ∧ Touch W w' (fun _ => False)) := Lib.hid (fun W h => mayR_any r a cap W h)
    have hne : (encE r ver != 0) = true := bne_iff_ne.2 he
    generalize encE r ver = E2 at *
    clear he HOK
    go_upto_region 10 with (first
      | (refine load_rowH 29 (.tmp 3) rfl rfl w.heap.size rfl _ _ _ _ HB.out Try.underlying29 rfl HIR.out ?_)
      | (go_at_call 24; (with_reducible refine (KE.out _ HR.out).mono ?_); rintro e w14 ⟨a14, c14, rfl, t8⟩; obtain ⟨v14, hv14⟩ : ∃ W, w14.alloc (.cells #[.int .i64 0, .int .i64 0, .slice a14 0 c14] 39) = W := ⟨_, rfl⟩; have tA : Touch w14 v14 (fun _ => False) := hv14 ▸ (Touch.refl w14 (fun _ => False)).alloc _; have t9 := t8.trans tA (fun _ _ h => h); (try have HB := Lib.hid (t9.keeps HB.out (fun h => h))); (try have HF := Lib.hid (t9.keeps HF.out (fun h => h))); (try have HX := Lib.hid (t9.keeps HX.out (fun h => h))); (try have HG := Lib.hid (t9.keeps HG.out (fun h => h))); (try have HF2 := Lib.hid (t9.keeps HF2.out (fun h => h))); (try have HX2 := Lib.hid (t9.keeps HX2.out (fun h => h))); (try have HR := Lib.hid (HR.out.still t9)); (try have HY := Lib.hid (HY.out.touch t9 (fun _ _ => .inr (fun h => h)))); (try have RX := Lib.hid (RX.out.still t9)); (try have RG := Lib.hid (RG.out.touch t9 (fun _ _ => .inr (fun h => h)))); (try have RF2 := Lib.hid (RF2.out.touch t9 (fun _ _ => .inr (fun h => h)))); (try have RX2 := Lib.hid (RX2.out.still t9)); have HT := Lib.hid (HT.out.trans t9 (fun _ _ h => h)); have HF2 : RowKit.Hid (v14.heap[w14.heap.size]? = some (.cells #[.int .i64 0, .int .i64 0, .slice a14 0 c14] 39 (0, 0))) := Lib.hid (hv14 ▸ heap_alloc_new w14 _); clear t8 t9 tA))
    clear KE
    have c2 : v14.cell? ⟨w14.heap.size, 2, none⟩ = some (.slice a14 0 c14) := cell_of_cells HF2.out 2
    rcases hbad with h | h | ⟨h, hm⟩
    · clear KM
      go_wp2_with (go_at_call 14; (with_reducible refine (awake8 _).mono ?_); rintro e w2 ⟨rfl, t9⟩; have HT := Lib.hid (HT.out.trans t9 (fun _ _ h => h)); clear t9)
      go_ret
      exact ⟨rfl, HT.out⟩
    · have n1 : ¬ ver < 1 := by omega
      clear KM
      go_wp2_with (go_at_call 14; (with_reducible refine (awake8 _).mono ?_); rintro e w2 ⟨rfl, t9⟩; have HT := Lib.hid (HT.out.trans t9 (fun _ _ h => h)); clear t9)
      go_ret
      exact ⟨rfl, HT.out⟩
    · have n1 : ¬ ver < 1 := by omega
      have n3 : ¬ 3 < ver := by omega
      rw [hm] at KM
      clear hm
      go_wp2_with (first
        | (refine load_rowH 29 (.tmp 3) rfl rfl w.heap.size rfl _ _ _ _ HB.out Try.underlying29 rfl HIR.out ?_)
        | (go_at_call 18; (with_reducible refine (KM.out _ HR.out).mono ?_); rintro e w12 ⟨rfl, t9⟩; (try have HB := Lib.hid (t9.keeps HB.out (fun h => h))); (try have HF := Lib.hid (t9.keeps HF.out (fun h => h))); (try have HX := Lib.hid (t9.keeps HX.out (fun h => h))); (try have HG := Lib.hid (t9.keeps HG.out (fun h => h))); (try have HF2 := Lib.hid (t9.keeps HF2.out (fun h => h))); (try have HX2 := Lib.hid (t9.keeps HX2.out (fun h => h))); (try have HR := Lib.hid (HR.out.still t9)); (try have HY := Lib.hid (HY.out.touch t9 (fun _ _ => .inr (fun h => h)))); (try have RX := Lib.hid (RX.out.still t9)); (try have RG := Lib.hid (RG.out.touch t9 (fun _ _ => .inr (fun h => h)))); (try have RF2 := Lib.hid (RF2.out.touch t9 (fun _ _ => .inr (fun h => h)))); (try have RX2 := Lib.hid (RX2.out.still t9)); have HT := Lib.hid (HT.out.trans t9 (fun _ _ h => h)); clear t9)
        | (go_at_call 14; (with_reducible refine (awake8 _).mono ?_); rintro e w2 ⟨rfl, t9⟩; have HT := Lib.hid (HT.out.trans t9 (fun _ _ h => h)); clear t9))
      go_ret
      exact ⟨rfl, HT.out⟩

end Go.Proofs.Ytbklngcocbnijaa
