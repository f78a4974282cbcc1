/- RecordDecodes: the walk. -/
import Derived.Test.YtbklngcocbnijaaRecBack0Z
import Derived.Test.YtbklngcocbnijaaRecRDec3Z
import Derived.Test.YtbklngcocbnijaaRecREnc3Z
import Derived.Test.YtbklngcocbnijaaRecRSameZ
import Derived.StillTailTactics
import Derived.Deep.AppendLies
import Derived.Laws.BitsAllLaws
set_option linter.unusedVariables false
set_option linter.unusedSimpArgs false
namespace Go.Proofs.Ytbklngcocbnijaa
open Go.RowKit

/-- The head of a row of the call's own is one. -/
theorem OwnB.front {w : World} {base : Nat} {E : TypeId} {g n c : Nat} {xs : List Nat} (h : OwnB w base E (.slice (some ⟨g, 0, none⟩) n c) xs) (m : Nat) (hm : m ≤ n) : OwnB w base E (.slice (some ⟨g, 0, none⟩) m c) (xs.take m) := by
  obtain ⟨a', cap', hv, -, -⟩ := h.row
  simp only [Value.slice.injEq] at hv
  obtain ⟨-, hn, -⟩ := hv
  obtain ⟨h1, h2⟩ := h.own
  have hl : (xs.take m).length = m := by simp; omega
  refine ⟨⟨by simp, ?_⟩, fun x hx => h.small x (List.mem_of_mem_take hx), by have := h.short; omega⟩
  rcases h2 with ⟨h2, -⟩ | ⟨g2, cap2, cur, hv2, hb, hg, hc, hmx, hs, ht⟩
  · cases h2
  · simp only [Value.slice.injEq, Option.some.injEq, Addr.mk.injEq, and_true] at hv2
    obtain ⟨rfl, h3, rfl⟩ := hv2
    refine .inr ⟨g, c, cur, by rw [hl], hb, hg, by omega, hmx, hs, ?_⟩
    rw [hl, List.map_take, ← ht, List.take_take]
    congr 1; omega
theorem decD_len (k v : Int) (xs : List Nat) (h : ∀ x ∈ xs, x < 256) : (decD k v xs).bs.length ≤ 100000 := by
  have h1 := in_less (rawD k v xs) v
  have h2 : (rawD k v xs).bs.length ≤ 256 := by
    have hv := (val_lt (n := 0) (nxt_small 4 xs h)).1
    unfold rawD
    repeat' split
    all_goals simp [bksV_length]
    all_goals omega
  unfold decD; omega
theorem encB_less' (r : RecD) (v : Int) : (encB r v).length ≤ 1000 := by
  unfold encB; split
  · rename_i he; exact bodyF_le r v (encE_good he).2
  · simp
set_option maxRecDepth 20000 in
set_option maxHeartbeats 8000000 in
theorem decodes_bad (r : RecD) (a : Option Addr) (cap : Nat) (ver place : Int) (x : Nat) (cut : Int) (am : Option Addr) (m5 cm : Nat) (ms : List Nat) (k2 v2 : Int) (a2 : Option Addr) (cap2 : Nat) (xs : List Nat) (w : World) (ok : RecOk r) (hr : RowK w a r.bs.length cap r.bs) (hm : RowB w am m5 cm ms) (hy : RowB w a2 xs.length cap2 xs) (hlen : xs.length ≤ 140737488355328) (hx8 : x < 256) (hl : lightB r = false ∨ (lightB r = true ∧ 400 < xs.length) ∨ (lightB r = true ∧ xs.length ≤ 400 ∧ 50 < m5)) :
    Calls Try.prog 5 #[.agg (rcs r a cap), .int .i64 ver, .int .i64 place, .int .u8 (x : Nat), .int .i64 cut, .slice am m5 cm, .agg #[.int .i64 k2, .int .i64 v2, .slice a2 xs.length cap2]] w fun e w' => e = .returned (.bool true) ∧ Touch w w' (fun _ => False) := by
  obtain ⟨W1, hW1⟩ : ∃ W, w.alloc (.cells (rcs r a cap) 29) = W := ⟨_, rfl⟩
  obtain ⟨W2, hW2⟩ : ∃ W, W1.alloc (.cells #[.int .i64 k2, .int .i64 v2, .slice a2 xs.length cap2] 39) = W := ⟨_, rfl⟩
  have t1 : Touch w W1 (fun _ => False) := hW1 ▸ (Touch.refl _ _).alloc _
  have t2 : Touch W1 W2 (fun _ => False) := hW2 ▸ (Touch.refl _ _).alloc _
  have HB : RowKit.Hid (W2.heap[w.heap.size]? = some (.cells (rcs r a cap) 29 (0, 0))) := Lib.hid (t2.keeps (hW1 ▸ heap_alloc_new w _) (fun h => h))
  have HF : RowKit.Hid (W2.heap[W1.heap.size]? = some (.cells #[.int .i64 k2, .int .i64 v2, .slice a2 xs.length cap2] 39 (0, 0))) := Lib.hid (hW2 ▸ heap_alloc_new W1 _)
  have HR := Lib.hid ((hr.still t1).still t2)
  have HY := Lib.hid ((hy.touch t1 (fun _ _ => .inr (fun h => h))).touch t2 (fun _ _ => .inr (fun h => h)))
  have HM := Lib.hid ((hm.touch t1 (fun _ _ => .inr (fun h => h))).touch t2 (fun _ _ => .inr (fun h => h)))
  have HT0 := Lib.hid (t1.trans t2 (fun _ _ h => h))
  have HT := Lib.hid (Touch.refl W2 (fun _ => False))
  have HIR := Lib.hid infoRec
  have HIF := Lib.hid infoFr
  have HLL : RowKit.Hid (∀ W, Calls Try.prog 13 #[.agg (rcs r a cap)] W fun e w' => e = .returned (.bool (lightB r)) ∧ Touch W w' (fun _ => False)) := Lib.hid (fun W => light_any r a cap W)
  have c2 : W2.cell? ⟨W1.heap.size, 2, none⟩ = some (.slice a2 xs.length cap2) := cell_of_cells HF.out 2
  clear hr hy hm t1 t2 ok
  simp only [rcs] at hW1
  simp only [rcs]
  rcases hl with hl | ⟨hl, hx⟩ | ⟨hl, hx, hm5⟩
  · rw [hl] at HLL
    go_enter Try.func5, Try.ntmps5
    go_wp2_with (first
      | (refine load_rowH 29 (.tmp 7) rfl rfl w.heap.size rfl _ _ _ _ (HT.out.keeps HB.out (fun h => h)) Try.underlying29 rfl HIR.out ?_)
      | (go_at_call 13; (with_reducible refine (HLL.out _).mono ?_); rintro e w2 ⟨rfl, t9⟩; have HT := Lib.hid (HT.out.trans t9 (fun _ _ h => h)); clear t9; have c2 := cell_of_cells (HT.out.keeps HF.out (fun h => h)) 2; simp at c2)
      | (go_at_call 14; (with_reducible refine (awake8 _).mono ?_); rintro e w8 ⟨rfl, t9⟩; have HT := Lib.hid (HT.out.trans t9 (fun _ _ h => h)); clear t9))
    go_ret
    exact ⟨rfl, HT0.out.trans HT.out (fun _ _ h => h)⟩
  · rw [hl] at HLL
    have i1 : (400 : Int) < xs.length := by omega
    go_enter Try.func5, Try.ntmps5
    go_wp2_with (first
      | (refine load_rowH 29 (.tmp 7) rfl rfl w.heap.size rfl _ _ _ _ (HT.out.keeps HB.out (fun h => h)) Try.underlying29 rfl HIR.out ?_)
      | (go_at_call 13; (with_reducible refine (HLL.out _).mono ?_); rintro e w2 ⟨rfl, t9⟩; have HT := Lib.hid (HT.out.trans t9 (fun _ _ h => h)); clear t9; have c2 := cell_of_cells (HT.out.keeps HF.out (fun h => h)) 2; simp at c2)
      | (go_at_call 14; (with_reducible refine (awake8 _).mono ?_); rintro e w8 ⟨rfl, t9⟩; have HT := Lib.hid (HT.out.trans t9 (fun _ _ h => h)); clear t9))
    go_ret
    exact ⟨rfl, HT0.out.trans HT.out (fun _ _ h => h)⟩
  · rw [hl] at HLL
    have i1 : ¬ (400 : Int) < xs.length := by omega
    have i2 : (50 : Int) < m5 := by omega
    go_enter Try.func5, Try.ntmps5
    go_wp2_with (first
      | (refine load_rowH 29 (.tmp 7) rfl rfl w.heap.size rfl _ _ _ _ (HT.out.keeps HB.out (fun h => h)) Try.underlying29 rfl HIR.out ?_)
      | (go_at_call 13; (with_reducible refine (HLL.out _).mono ?_); rintro e w2 ⟨rfl, t9⟩; have HT := Lib.hid (HT.out.trans t9 (fun _ _ h => h)); clear t9; have c2 := cell_of_cells (HT.out.keeps HF.out (fun h => h)) 2; simp at c2)
      | (go_at_call 14; (with_reducible refine (awake8 _).mono ?_); rintro e w8 ⟨rfl, t9⟩; have HT := Lib.hid (HT.out.trans t9 (fun _ _ h => h)); clear t9))
    go_ret
    exact ⟨rfl, HT0.out.trans HT.out (fun _ _ h => h)⟩
set_option maxRecDepth 20000 in
set_option maxHeartbeats 16000000 in
theorem decodes_walk (r : RecD) (a : Option Addr) (cap : Nat) (ver place : Int) (x : Nat) (cut : Int) (am : Option Addr) (m5 cm : Nat) (ms : List Nat) (k2 v2 : Int) (a2 : Option Addr) (cap2 : Nat) (xs : List Nat) (w : World) (ok : RecOk r) (hr : RowK w a r.bs.length cap r.bs) (hm : RowB w am m5 cm ms) (hy : RowB w a2 xs.length cap2 xs) (hlen : xs.length ≤ 140737488355328) (hx8 : x < 256) (hl : lightB r = true) (hx : xs.length ≤ 400) (hm5 : m5 ≤ 50) :
    Calls Try.prog 5 #[.agg (rcs r a cap), .int .i64 ver, .int .i64 place, .int .u8 (x : Nat), .int .i64 cut, .slice am m5 cm, .agg #[.int .i64 k2, .int .i64 v2, .slice a2 xs.length cap2]] w fun e w' => e = .returned (.bool true) ∧ Touch w w' (fun _ => False) := by
  obtain ⟨W1, hW1⟩ : ∃ W, w.alloc (.cells (rcs r a cap) 29) = W := ⟨_, rfl⟩
  obtain ⟨W2, hW2⟩ : ∃ W, W1.alloc (.cells #[.int .i64 k2, .int .i64 v2, .slice a2 xs.length cap2] 39) = W := ⟨_, rfl⟩
  have t1 : Touch w W1 (fun _ => False) := hW1 ▸ (Touch.refl _ _).alloc _
  have t2 : Touch W1 W2 (fun _ => False) := hW2 ▸ (Touch.refl _ _).alloc _
  have HB : RowKit.Hid (W2.heap[w.heap.size]? = some (.cells (rcs r a cap) 29 (0, 0))) := Lib.hid (t2.keeps (hW1 ▸ heap_alloc_new w _) (fun h => h))
  have HF : RowKit.Hid (W2.heap[W1.heap.size]? = some (.cells #[.int .i64 k2, .int .i64 v2, .slice a2 xs.length cap2] 39 (0, 0))) := Lib.hid (hW2 ▸ heap_alloc_new W1 _)
  have HR := Lib.hid ((hr.still t1).still t2)
  have HY := Lib.hid ((hy.touch t1 (fun _ _ => .inr (fun h => h))).touch t2 (fun _ _ => .inr (fun h => h)))
  have HM := Lib.hid ((hm.touch t1 (fun _ _ => .inr (fun h => h))).touch t2 (fun _ _ => .inr (fun h => h)))
  have HT0 := Lib.hid (t1.trans t2 (fun _ _ h => h))
  have HT := Lib.hid (Touch.refl W2 (fun _ => False))
  have HIR := Lib.hid infoRec
  have HIF := Lib.hid infoFr
  have HLL : RowKit.Hid (∀ W, Calls Try.prog 13 #[.agg (rcs r a cap)] W fun e w' => e = .returned (.bool (lightB r)) ∧ Touch W w' (fun _ => False)) := Lib.hid (fun W => light_any r a cap W)
  have HML := Lib.hid hm.1
  have hl4 : r.bs.length ≤ 40 := of_decide_eq_true hl
  have i1 : ¬ (400 : Int) < xs.length := by omega
  have i2 : ¬ (50 : Int) < m5 := by omega
  obtain ⟨K, hK⟩ : ∃ K, encK r ver = K := ⟨_, rfl⟩
  obtain ⟨V, hV⟩ : ∃ V, encV r ver = V := ⟨_, rfl⟩
  obtain ⟨E, hE⟩ : ∃ E, encE r ver = E := ⟨_, rfl⟩
  obtain ⟨ys, hys⟩ : ∃ ys, encB r ver = ys := ⟨_, rfl⟩
  obtain ⟨L, hL⟩ : ∃ n, ys.length = n := ⟨_, rfl⟩
  have hL1 : L ≤ 1000 := by rw [← hL, ← hys]; exact encB_less' r ver
  have KE : RowKit.Hid (∀ W, RowK W a r.bs.length cap r.bs → W2.heap.size ≤ W.heap.size → Calls Try.prog 25 #[.agg (rcs r a cap), .int .i64 ver] W fun e w' => ∃ a' c', e = .returned (.tuple #[.agg #[.int .i64 K, .int .i64 V, .slice a' L c'], .int .i64 E]) ∧ OwnB w' W2.heap.size 5 (.slice a' L c') ys ∧ Touch W w' (fun _ => False)) := Lib.hid (fun W h hs => by
    refine (renc_any r a cap ver W h ok (by omega)).mono ?_
    rintro e w' ⟨a1, c1, rfl, hf⟩
    rw [hK, hV, hE]
    rw [hys] at hf ⊢
    rw [hL] at hf ⊢
    exact ⟨a1, c1, rfl, hf.1.base (fun k hk => Nat.le_trans hs (hf.1.own.lt k hk).1), hf.2⟩)
  have c2 : W2.cell? ⟨W1.heap.size, 2, none⟩ = some (.slice a2 xs.length cap2) := cell_of_cells HF.out 2
  have HL2 := Lib.hid hlen
  have HLY := Lib.hid hL
  rw [hl] at HLL
  clear hr hy hm t1 t2 ok hl hl4 hK hV hE hys hlen hx hL
  simp only [rcs] at hW1
  simp only [rcs]
  go_enter Try.func5, Try.ntmps5
  go_upto_region 4 with (first
    | (refine load_rowH 29 (.tmp 7) rfl rfl w.heap.size rfl _ _ _ _ (HT.out.keeps HB.out (fun h => h)) Try.underlying29 rfl HIR.out ?_)
    | (go_at_call 13; (with_reducible refine (HLL.out _).mono ?_); rintro e w2 ⟨rfl, t9⟩; have HT := Lib.hid (HT.out.trans t9 (fun _ _ h => h)); clear t9; have c2 := cell_of_cells (HT.out.keeps HF.out (fun h => h)) 2; simp at c2)
    | (go_at_call 25; (with_reducible refine (KE.out _ (HR.out.still HT.out) HT.out.size).mono ?_); rintro e w3 ⟨a3, c3, rfl, ho, t8⟩; obtain ⟨v3, hv3⟩ : ∃ W, w3.alloc (.cells #[.int .i64 K, .int .i64 V, .slice a3 L c3] 39) = W := ⟨_, rfl⟩; have tA : Touch w3 v3 (fun _ => False) := hv3 ▸ (Touch.refl w3 (fun _ => False)).alloc _; have t9 := t8.trans tA (fun _ _ h => h); have HGB := Lib.hid (HT.out.trans t8 (fun _ _ h => h)).size; have HT := Lib.hid (HT.out.trans t9 (fun _ _ h => h)); have HG : RowKit.Hid (v3.heap[w3.heap.size]? = some (.cells #[.int .i64 K, .int .i64 V, .slice a3 L c3] 39 (0, 0))) := Lib.hid (hv3 ▸ heap_alloc_new w3 _); have HNE : RowKit.Hid (∀ k, (Value.slice a3 L c3).ownBlock = some k → k < w3.heap.size) := Lib.hid (fun k hk => (ho.own.lt k hk).2); have HO := Lib.hid (ho.touch tA (fun _ _ h => h)); clear t8 t9 tA ho; have c15 : v3.cell? ⟨w3.heap.size, 2, none⟩ = some (.slice a3 L c3) := cell_of_cells HG.out 2))
  clear HLL KE c2 HB HR
  have b1 : decide ((400 : Int) < xs.length) = false := decide_eq_false (by omega)
  have b2 : decide ((50 : Int) < m5) = false := decide_eq_false (by omega)
  simp only [rcs, b1, b2, Bool.or_false]
  clear b1 b2
  by_cases hL0 : L = 0
  · have iL : ¬ (0 : Int) < L := by omega
    go_upto_region 8 with fail
    have bL : decide ((0 : Int) < L) = false := decide_eq_false (by omega)
    try simp only [bL]
    clear bL
    have HQL := Lib.hid HLY.out
    clear hL0 iL c15
    have HCL : RowKit.Hid ((ys ++ ms).length = L + m5) := Lib.hid (by rw [List.length_append, HQL.out, HML.out])
    have c15 : v3.cell? ⟨w3.heap.size, 2, none⟩ = some (.slice a3 L c3) := cell_of_cells HG.out 2
    have HD19 : RowKit.Hid (L ≤ 1000) := Lib.hid (by first | assumption | omega)
    have g1 : (L + m5) ≤ 140737488355328 := by have := HD19.out; omega
    go_wp2_with (first
      | (refine load_rowH 39 (.tmp 15) rfl rfl w3.heap.size rfl _ _ _ _ HG.out Try.underlying39 rfl HIF.out ?_)
      | (refine load_rowH 39 (.tmp 13) rfl rfl W1.heap.size rfl _ _ _ _ (HT.out.keeps HF.out (fun h => h)) Try.underlying39 rfl HIF.out ?_)
      | (at_builtin; refine wpList_appendB rfl _ _ 37 rfl 5 Try.underlying37 infoB W2.heap.size (.slice a3 L c3) ys rfl HO.out _ _ _ ms rfl (HM.out.touch HT.out (fun _ _ => .inr (fun h => h))) (L + m5) (ys ++ ms) rfl HCL.out g1 HT.out.size W2.heap.size W2 (HT.out.below (fun _ _ h => h.elim) (Nat.le_refl _)) (Nat.le_refl _) ?_; intro a5 c5 w5 hown5 hrow5 hg5 hb5 hs5 hp5 hk5; obtain ⟨x5, hx5⟩ : ∃ W, w5.setCell ⟨w3.heap.size, 2, none⟩ (.slice a5 (L + m5) c5) = W := ⟨_, rfl⟩; have hG5 := (hg5.block w3.heap.size (heap_lt HG.out) (fun e => absurd (HNE.out _ e.symm) (Nat.lt_irrefl _))).trans HG.out; have c15 : w5.cell? ⟨w3.heap.size, 2, none⟩ = some (.slice a3 L c3) := cell_of_cells hG5 2; have f15 : w5.frozen? ⟨w3.heap.size, 2, none⟩ = false := frozen_of_row _ _ _ _ _ hG5; have HT := Lib.hid (hx5 ▸ (Touch.ofBelow (S := fun _ => False) hb5 (fun k h1 h2 => by omega)).setCell ⟨w3.heap.size, 2, none⟩ (.slice a5 (L + m5) c5) (fun hh => absurd (Nat.lt_of_lt_of_le hh HGB.out) (Nat.lt_irrefl _)) : Touch W2 x5 (fun _ => False)); have hz5 : RowB x5 a5 (L + m5) c5 (ys ++ ms) := hrow5.touch (S := fun k => k = w3.heap.size) (hx5 ▸ (Touch.refl w5 _).into 2 _) (fun p hp => .inr (fun h => by subst hp; rcases hk5 p.block rfl with h1 | h1; exact absurd (HNE.out _ h1) (by rw [h]; exact Nat.lt_irrefl _); exact absurd (heap_lt HG.out) (by omega))); have HG : RowKit.Hid (x5.heap[w3.heap.size]? = some (.cells #[.int .i64 K, .int .i64 V, .slice a5 (L + m5) c5] 39 (0, 0))) := Lib.hid (by rw [← hx5, heap_setCell_same _ _ _ _ _ _ hG5]; rfl); have HZ5 := Lib.hid hz5; clear hown5 hrow5 hg5 hb5 hs5 hp5 hk5 hG5 hz5))
    clear HO HNE HM HML c15 f15 HG
    go_loopw [89] (fun i wr => ∃ k : Nat, k ≤ 2 ∧ i = .int .i64 k ∧ Touch x5 wr (fun _ => False)) (fun i _ => 2 - (intOf i).toNat)
    case atStart => exact ⟨0, by omega, rfl, Touch.refl _ _⟩
    case round =>
      obtain ⟨k, hk, rfl, ht⟩ := hrel
      by_cases hlt : k < 2
      · have hkI : (k : Int) < 2 := by omega
        have HY := Lib.hid (HY.out.touch HT.out (fun _ _ => .inr (fun h => h)))
        have hidx : ∃ GK GV A C N zz, (∀ W, (Instr.index 46 (.agg #[.int .i64 K, .int .i64 V, .slice a5 (L + m5) c5, .int .i64 k2, .int .i64 v2, .slice a2 xs.length cap2]) (.int .i64 k)).run Try.prog W = .ok (.agg #[.int .i64 GK, .int .i64 GV, .slice A N C]) W) ∧ RowB x5 A N C zz ∧ N = List.length zz ∧ N ≤ 140737488355328 := by
          have : k = 0 ∨ k = 1 := by omega
          rcases this with rfl | rfl
          · exact ⟨K, V, a5, c5, _, ys ++ ms, fun W => by rfl, HZ5.out, HCL.out.symm, g1⟩
          · exact ⟨k2, v2, a2, cap2, _, xs, fun W => by rfl, HY.out, rfl, HL2.out⟩
        obtain ⟨GK, GV, A, C, N, zz, hidx, hrz, hN, hnb⟩ := hidx
        obtain ⟨wz, hwz⟩ : ∃ W, wr.alloc (.cells #[.int .i64 GK, .int .i64 GV, .slice A N C] 39) = W := ⟨_, rfl⟩
        have tz : Touch wr wz (fun _ => False) := hwz ▸ (Touch.refl _ _).alloc _
        have HZF : RowKit.Hid (wz.heap[wr.heap.size]? = some (.cells #[.int .i64 GK, .int .i64 GV, .slice A N C] 39 (0, 0))) := Lib.hid (hwz ▸ heap_alloc_new wr _)
        have RZ := Lib.hid ((hrz.touch ht (fun _ _ => .inr (fun h => h))).touch tz (fun _ _ => .inr (fun h => h)))
        have HT := Lib.hid (ht.trans tz (fun _ _ h => h))
        have HTZ := Lib.hid (Touch.refl wz (fun _ => False))
        obtain ⟨X, hX⟩ : ∃ X, decR GK GV zz = X := ⟨_, rfl⟩
        obtain ⟨E2, hE2⟩ : ∃ X, decE GK GV zz = X := ⟨_, rfl⟩
        have K1 : RowKit.Hid (∀ W, RowB W A N C zz → Calls Try.prog 27 #[.agg #[.int .i64 GK, .int .i64 GV, .slice A N C]] W fun e w' => ∃ a' c', e = .returned (.tuple #[.agg (rcs X a' c'), .int .i64 E2]) ∧ RowK w' a' X.bs.length c' X.bs ∧ Touch W w' (fun _ => False)) := Lib.hid (fun W h => by
          have := dec_any GK GV A C zz W (hN ▸ h) (hN ▸ hnb)
          unfold DecIs at this
          rw [hX, hE2, ← hN] at this
          refine this.mono ?_
          rintro e w' ⟨a', c', rfl, ho, t⟩
          exact ⟨a', c', rfl, ho.row.2.1, t⟩)
        have K2 : RowKit.Hid (∀ W, RowB W A N C zz → Calls Try.prog 28 #[.agg #[.int .i64 GK, .int .i64 GV, .slice A N C]] W fun e w' => ∃ a' c', e = .returned (.tuple #[.agg (rcs X a' c'), .int .i64 E2]) ∧ RowK w' a' X.bs.length c' X.bs ∧ Touch W w' (fun _ => False)) := Lib.hid (fun W h => by
          have := rdec_any GK GV A C zz W (hN ▸ h) (hN ▸ hnb)
          unfold DecIs at this
          rw [hX, hE2, ← hN] at this
          refine this.mono ?_
          rintro e w' ⟨a', c', rfl, ho, t⟩
          exact ⟨a', c', rfl, ho.row.2.1, t⟩)
        have hcase : (E2 = 0 ∧ X.bs.length ≤ 100000) ∨ (E2 ≠ 0 ∧ X.kind = 0) := by
          by_cases he : E2 = 0
          · refine .inl ⟨he, ?_⟩
            have e : decD GK GV zz = X := by rw [← hX]; unfold decR; rw [if_pos (hE2.trans he)]
            rw [← e]; exact decD_len GK GV zz hrz.2.2.2.2.1
          · refine .inr ⟨he, ?_⟩
            rw [← hX]; unfold decR; rw [if_neg (by rw [hE2]; exact he)]; rfl
        clear hrz hnb hX hE2 hN tz ht HY HL2 HZ5 HCL
        go_upto_region 14 with (first
          | (refine load_rowH 39 (.tmp 19) rfl rfl wr.heap.size rfl _ _ _ _ (HTZ.out.keeps HZF.out (fun h => h)) Try.underlying39 rfl HIF.out ?_)
          | (go_at_call 27; (with_reducible refine (K1.out _ RZ.out).mono ?_); rintro e w14 ⟨a14, c14, rfl, ho, t8⟩; obtain ⟨v14, hv14⟩ : ∃ W, w14.alloc (.cells (rcs X a14 c14) 29) = W := ⟨_, rfl⟩; have tA : Touch w14 v14 (fun _ => False) := hv14 ▸ (Touch.refl w14 (fun _ => False)).alloc (.cells (rcs X a14 c14) 29); have t9 := t8.trans tA (fun _ _ h => h); have HTZ := Lib.hid (HTZ.out.trans t9 (fun _ _ h => h)); have RZ := Lib.hid (RZ.out.touch t9 (fun _ _ => .inr (fun h => h))); have HT := Lib.hid (HT.out.trans t9 (fun _ _ h => h)); have HX : RowKit.Hid (v14.heap[w14.heap.size]? = some (.cells (rcs X a14 c14) 29 (0, 0))) := Lib.hid (hv14 ▸ heap_alloc_new w14 _); have RX := Lib.hid (ho.still tA); clear t8 t9 tA ho; simp only [rcs] at hv14; simp only [rcs])
          | (go_at_call 28; (with_reducible refine (K2.out _ RZ.out).mono ?_); rintro e w16 ⟨a16, c16, rfl, ho, t8⟩; obtain ⟨v16, hv16⟩ : ∃ W, w16.alloc (.cells (rcs X a16 c16) 29) = W := ⟨_, rfl⟩; have tA : Touch w16 v16 (fun _ => False) := hv16 ▸ (Touch.refl w16 (fun _ => False)).alloc (.cells (rcs X a16 c16) 29); have t9 := t8.trans tA (fun _ _ h => h); have HX := Lib.hid (t9.keeps HX.out (fun h => h)); have RX := Lib.hid (RX.out.still t9); have HT := Lib.hid (HT.out.trans t9 (fun _ _ h => h)); have HX2 : RowKit.Hid (v16.heap[w16.heap.size]? = some (.cells (rcs X a16 c16) 29 (0, 0))) := Lib.hid (hv16 ▸ heap_alloc_new w16 _); have RX2 := Lib.hid (ho.still tA); clear t8 t9 tA ho; simp only [rcs] at hv16; simp only [rcs]))
        clear K1 K2
        rcases hcase with ⟨he, hl⟩ | ⟨he, hk0⟩
        · have KS : RowKit.Hid (∀ (a3 : Option Addr) (c3 : Nat) (a4 : Option Addr) (c4 : Nat) W, RowK W a3 X.bs.length c3 X.bs → RowK W a4 X.bs.length c4 X.bs → Calls Try.prog 21 #[.agg (rcs X a3 c3), .agg (rcs X a4 c4)] W fun e w' => e = .returned (.bool true) ∧ Touch W w' (fun _ => False)) := Lib.hid (fun a3 c3 a4 c4 W h1 h2 => by have := rsame_any X a3 c3 X a4 c4 W h1 hl h2 hl; rwa [(sameR_iff X X).2 rfl] at this)
          subst he
          clear hl
          go_wp2_with (first
            | (refine load_rowH 29 (.tmp 20) rfl rfl w14.heap.size rfl _ _ _ _ HX.out Try.underlying29 rfl HIR.out ?_)
            | (refine load_rowH 29 (.tmp 22) rfl rfl w16.heap.size rfl _ _ _ _ HX2.out Try.underlying29 rfl HIR.out ?_)
            | (go_at_call 21; (with_reducible refine (KS.out _ _ _ _ _ RX.out RX2.out).mono ?_); rintro e w27 ⟨rfl, t9⟩; have HT := Lib.hid (HT.out.trans t9 (fun _ _ h => h)); clear t9))
          go_roundw
          case rel => exact ⟨k + 1, by omega, by go_num, HT.out⟩
          case measure => simp [intOf]; omega
        · have c20 : v16.cell? ⟨w14.heap.size, 0, none⟩ = some (.int .i64 0) := hk0 ▸ cell_of_cells HX.out 0
          have hne : (E2 == 0) = false := beq_eq_false_iff_ne.2 he
          have hne2 : (E2 != 0) = true := bne_iff_ne.2 he
          go_wp2_with fail
          go_roundw
          case rel => exact ⟨k + 1, by omega, by go_num, HT.out⟩
          case measure => simp [intOf]; omega
      · have hkI : ¬ (k : Int) < 2 := by omega
        have HT := Lib.hid ((HT0.out.trans HT.out (fun _ _ h => h)).trans ht (fun _ _ h => h))
        go_wp2_with (go_at_call 14; (with_reducible refine (awake8 _).mono ?_); rintro e w8 ⟨rfl, t9⟩; have HT := Lib.hid (HT.out.trans t9 (fun _ _ h => h)); clear t9)
        go_ret
        exact ⟨rfl, HT.out⟩
  · have iL : (0 : Int) < L := by omega
    obtain ⟨b3, cc, hv, hb3, -⟩ := HO.out.own.form (by rw [HLY.out]; omega)
    simp only [Value.slice.injEq] at hv
    obtain ⟨rfl, -, -⟩ := hv
    clear cc
    have hbg : b3 < w3.heap.size := HNE.out b3 rfl
    obtain ⟨j, hj⟩ : ∃ j, u64N place % L = j := ⟨_, rfl⟩
    have hjn : j < L := by rw [← hj]; exact Nat.mod_lt _ (by omega)
    have hjI : (j : Int) < L := by omega
    have e1 : ((u64N place : Int) % (L : Int)) = (j : Int) := by rw [← hj]; simp
    have e2 : ((u64N place : Int).tmod (L : Int)) = (j : Int) := by rw [Int.tmod_eq_emod_of_nonneg (by omega)]; exact e1
    have hn0 : ((L : Int) == 0) = false := beq_eq_false_iff_ne.2 (by omega)
    have hn1 : ¬ (L : Int) = 0 := by omega
    obtain ⟨y, hy⟩ : ∃ y, ys[j]'(by rw [HLY.out]; exact hjn) = y := ⟨_, rfl⟩
    have hyb : y < 256 := by rw [← hy]; exact HO.out.small _ (List.getElem_mem _)
    have hxor := u8_xor_nat y x hyb hx8
    have hu := u64N_wrap place
    have hul := u64_lt place
    have cv : v3.cell? ⟨b3, j, none⟩ = some (.int .u8 (y : Nat)) := hy ▸ HO.out.at HLY.out j hjn (by rw [HLY.out]; exact hjn)
    obtain ⟨d3, hd3⟩ : ∃ W, v3.drew = W := ⟨_, rfl⟩
    have td : Touch v3 d3 (fun _ => False) := hd3 ▸ (Touch.refl v3 _).drew
    have HT := Lib.hid (HT.out.trans td (fun _ _ h => h))
    have HG := Lib.hid (td.keeps HG.out (fun h => h))
    have HO := Lib.hid (HO.out.touch td (fun _ _ h => h))
    have c15d : d3.cell? ⟨w3.heap.size, 2, none⟩ = some (.slice (some ⟨b3, 0, none⟩) L c3) := cell_of_cells HG.out 2
    have cj : d3.cell? ⟨b3, j, none⟩ = some (.int .u8 (y : Nat)) := hy ▸ HO.out.at HLY.out j hjn (by rw [HLY.out]; exact hjn)
    have fj : d3.frozen? ⟨b3, j, none⟩ = false := HO.out.free HLY.out j
    have HD3 := Lib.hid hd3
    obtain ⟨s3, hs3⟩ : ∃ W, d3.setCell ⟨b3, j, none⟩ (.int .u8 ((y ^^^ x : Nat) : Int)) = W := ⟨_, rfl⟩
    have HS3 := Lib.hid hs3
    have hxy : y ^^^ x < 256 := Nat.xor_lt_two_pow (n := 8) hyb hx8
    have HO3 := Lib.hid (hs3 ▸ HO.out.stored HLY.out j _ hxy)
    have HT3 := Lib.hid (hs3 ▸ HT.out.setCell ⟨b3, j, none⟩ (.int .u8 ((y ^^^ x : Nat) : Int)) (fun hh => by have h5 : b3 < W2.heap.size := hh; omega) : Touch W2 s3 (fun _ => False))
    have HG3 : RowKit.Hid (s3.heap[w3.heap.size]? = some (.cells #[.int .i64 K, .int .i64 V, .slice (some ⟨b3, 0, none⟩) L c3] 39 (0, 0))) := Lib.hid (by rw [← hs3, heap_setCell_other _ _ _ _ (show w3.heap.size ≠ b3 by omega)]; exact HG.out)
    have HLS : RowKit.Hid ((ys.set j (y ^^^ x)).length = L) := Lib.hid (by rw [List.length_set]; exact HLY.out)
    have hwL : IntKind.u64.wrap (L : Int) = (L : Int) := by rw [IntKind.wrap_u64]; omega
    have hwj : IntKind.i64.wrap (j : Int) = (j : Int) := IntWalk.i64_in _ (by omega)
    have HWL := Lib.hid hwL
    have HWJ := Lib.hid hwj
    clear hd3 td hs3 hj hy hxy hwL hwj
    go_upto_region 6 with fail
    have bL : decide ((0 : Int) < L) = true := decide_eq_true (by omega)
    try simp only [bL]
    clear bL
    have hwL := HWL.out
    have hwj := HWJ.out
    go_still_tail 13, (by kernel_rfl)
    change wpList _ _ _ _ _ v3.drew
    rw [HD3.out]
    go_upto_region 7 with fail
    rw [HS3.out]
    clear hwL hwj HWL HWJ
    clear HS3 HD3 c15 c15d cv cj fj e1 e2 hu hul hxor hjI HG HO HT hyb
    have HT := HT3
    have HG := HG3
    have HO := HO3
    clear HT3 HG3 HO3
    obtain ⟨q3, hq3⟩ : ∃ q, u64N cut % 3 = q := ⟨_, rfl⟩
    obtain ⟨qn, hqn⟩ : ∃ q, u64N cut % L = q := ⟨_, rfl⟩
    have q1 : q3 < 3 := by rw [← hq3]; exact Nat.mod_lt _ (by omega)
    have q2 : qn < L := by rw [← hqn]; exact Nat.mod_lt _ (by omega)
    obtain ⟨m, hmq⟩ : ∃ m, q3 * qn = m := ⟨_, rfl⟩
    have q4 : m ≤ 2 * qn := by rw [← hmq]; exact Nat.mul_le_mul_right _ (by omega)
    obtain ⟨h, hh⟩ : ∃ h, m / 2 = h := ⟨_, rfl⟩
    have q5 : h < L := by omega
    have e3 : ((u64N cut : Int) % 3) = (q3 : Int) := by rw [← hq3]; simp
    have e4 : ((u64N cut : Int).tmod 3) = (q3 : Int) := by rw [Int.tmod_eq_emod_of_nonneg (by omega)]; exact e3
    have e5 : ((u64N cut : Int) % (L : Int)) = (qn : Int) := by rw [← hqn]; simp
    have e6 : ((u64N cut : Int).tmod (L : Int)) = (qn : Int) := by rw [Int.tmod_eq_emod_of_nonneg (by omega)]; exact e5
    have e7 : (q3 : Int) * (qn : Int) = (m : Int) := by rw [← hmq]; simp
    have e8 : (m : Int).tdiv 2 = (h : Int) := by rw [Int.tdiv_eq_ediv_of_nonneg (by omega)]; omega
    have e9 : (m : Int) / 2 = (h : Int) := by omega
    obtain ⟨n5, hn5⟩ : ∃ n, L - h = n := ⟨_, rfl⟩
    have e10 : (L : Int) - (h : Int) = (n5 : Int) := by omega
    have hcap : L ≤ c3 := by
      obtain ⟨-, h2⟩ := HO.out.own
      rcases h2 with ⟨h2, -⟩ | ⟨g2, cap2, cur, hv2, hb, hg, hc, hmx, hs, ht⟩
      · cases h2
      · simp only [Value.slice.injEq] at hv2; rw [HLS.out] at hc; omega
    have hs1 : (n5 : Int) ≤ (c3 : Int) := by omega
    have hs2 : (0 : Int) ≤ (n5 : Int) := by omega
    have hu := u64N_wrap cut
    have hul := u64_lt cut
    have c15 : s3.cell? ⟨w3.heap.size, 2, none⟩ = some (.slice (some ⟨b3, 0, none⟩) L c3) := cell_of_cells HG.out 2
    obtain ⟨d4, hd4⟩ : ∃ W, s3.drew = W := ⟨_, rfl⟩
    have td : Touch s3 d4 (fun _ => False) := hd4 ▸ (Touch.refl s3 _).drew
    have HT := Lib.hid (HT.out.trans td (fun _ _ h => h))
    have HG := Lib.hid (td.keeps HG.out (fun h => h))
    have HO := Lib.hid (HO.out.touch td (fun _ _ h => h))
    have c15d : d4.cell? ⟨w3.heap.size, 2, none⟩ = some (.slice (some ⟨b3, 0, none⟩) L c3) := cell_of_cells HG.out 2
    have f15 : d4.frozen? ⟨w3.heap.size, 2, none⟩ = false := frozen_of_row _ _ _ _ _ HG.out
    have HD4 := Lib.hid hd4
    obtain ⟨p4, hp4⟩ : ∃ W, d4.setCell ⟨w3.heap.size, 2, none⟩ (.slice (some ⟨b3, 0, none⟩) n5 c3) = W := ⟨_, rfl⟩
    have HP4 := Lib.hid hp4
    have HT4 := Lib.hid (hp4 ▸ HT.out.setCell ⟨w3.heap.size, 2, none⟩ (.slice (some ⟨b3, 0, none⟩) n5 c3) (fun hh => absurd (Nat.lt_of_lt_of_le hh HGB.out) (Nat.lt_irrefl _)) : Touch W2 p4 (fun _ => False))
    have HG4 : RowKit.Hid (p4.heap[w3.heap.size]? = some (.cells #[.int .i64 K, .int .i64 V, .slice (some ⟨b3, 0, none⟩) n5 c3] 39 (0, 0))) := Lib.hid (by rw [← hp4, heap_setCell_same _ _ _ _ _ _ HG.out]; rfl)
    have tp : Touch d4 p4 (fun k => k = w3.heap.size) := hp4 ▸ (Touch.refl d4 _).into 2 _
    have HO4 := Lib.hid ((HO.out.touch tp (fun k hk h => by simp only [Value.ownBlock, Option.some.injEq] at hk; omega)).front n5 (by omega))
    have HQL : RowKit.Hid (((ys.set j (y ^^^ x)).take n5).length = n5) := Lib.hid (by rw [List.length_take, HLS.out]; omega)
    have HNE : RowKit.Hid (∀ k, (Value.slice (some ⟨b3, 0, none⟩) n5 c3).ownBlock = some k → k < w3.heap.size) := Lib.hid (fun k hk => by simp only [Value.ownBlock, Option.some.injEq] at hk; omega)
    have hn5' : n5 ≤ 1000 := by omega
    have z1 : IntKind.u64.wrap (L : Int) = (L : Int) := by rw [IntKind.wrap_u64]; omega
    have z2 : IntKind.i64.wrap (q3 : Int) = (q3 : Int) := IntWalk.i64_in _ (by omega)
    have z3 : IntKind.i64.wrap (qn : Int) = (qn : Int) := IntWalk.i64_in _ (by omega)
    have z4 : IntKind.i64.wrap (m : Int) = (m : Int) := IntWalk.i64_in _ (by omega)
    have z5 : IntKind.i64.wrap (h : Int) = (h : Int) := IntWalk.i64_in _ (by omega)
    have z6 : IntKind.i64.wrap (n5 : Int) = (n5 : Int) := IntWalk.i64_in _ (by omega)
    clear hd4 td hp4 tp hmq hq3 hqn hh hn5
    go_still_tail 18, (by kernel_rfl)
    change wpList _ _ _ _ _ s3.drew
    rw [HD4.out]
    go_upto_region 8 with fail
    rw [HP4.out]
    clear z1 z2 z3 z4 z5 z6
    clear HP4 HD4 c15 c15d f15 e3 e4 e5 e6 e7 e8 e9 hu hul HG HO HT e10 hs1 hs2 hcap
    have HT := HT4
    have HG := HG4
    have HO := HO4
    clear HT4 HG4 HO4
    generalize (ys.set j (y ^^^ x)).take n5 = qs at *
    have HCL : RowKit.Hid ((qs ++ ms).length = n5 + m5) := Lib.hid (by rw [List.length_append, HQL.out, HML.out])
    have c15 : p4.cell? ⟨w3.heap.size, 2, none⟩ = some (.slice (some ⟨b3, 0, none⟩) n5 c3) := cell_of_cells HG.out 2
    have HD19 : RowKit.Hid (n5 ≤ 1000) := Lib.hid (by first | assumption | omega)
    have g1 : (n5 + m5) ≤ 140737488355328 := by have := HD19.out; omega
    go_wp2_with (first
      | (refine load_rowH 39 (.tmp 15) rfl rfl w3.heap.size rfl _ _ _ _ HG.out Try.underlying39 rfl HIF.out ?_)
      | (refine load_rowH 39 (.tmp 13) rfl rfl W1.heap.size rfl _ _ _ _ (HT.out.keeps HF.out (fun h => h)) Try.underlying39 rfl HIF.out ?_)
      | (at_builtin; refine wpList_appendB rfl _ _ 37 rfl 5 Try.underlying37 infoB W2.heap.size (.slice (some ⟨b3, 0, none⟩) n5 c3) qs rfl HO.out _ _ _ ms rfl (HM.out.touch HT.out (fun _ _ => .inr (fun h => h))) (n5 + m5) (qs ++ ms) rfl HCL.out g1 HT.out.size W2.heap.size W2 (HT.out.below (fun _ _ h => h.elim) (Nat.le_refl _)) (Nat.le_refl _) ?_; intro a5 c5 w5 hown5 hrow5 hg5 hb5 hs5 hp5 hk5; obtain ⟨x5, hx5⟩ : ∃ W, w5.setCell ⟨w3.heap.size, 2, none⟩ (.slice a5 (n5 + m5) c5) = W := ⟨_, rfl⟩; have hG5 := (hg5.block w3.heap.size (heap_lt HG.out) (fun e => absurd (HNE.out _ e.symm) (Nat.lt_irrefl _))).trans HG.out; have c15 : w5.cell? ⟨w3.heap.size, 2, none⟩ = some (.slice (some ⟨b3, 0, none⟩) n5 c3) := cell_of_cells hG5 2; have f15 : w5.frozen? ⟨w3.heap.size, 2, none⟩ = false := frozen_of_row _ _ _ _ _ hG5; have HT := Lib.hid (hx5 ▸ (Touch.ofBelow (S := fun _ => False) hb5 (fun k h1 h2 => by omega)).setCell ⟨w3.heap.size, 2, none⟩ (.slice a5 (n5 + m5) c5) (fun hh => absurd (Nat.lt_of_lt_of_le hh HGB.out) (Nat.lt_irrefl _)) : Touch W2 x5 (fun _ => False)); have hz5 : RowB x5 a5 (n5 + m5) c5 (qs ++ ms) := hrow5.touch (S := fun k => k = w3.heap.size) (hx5 ▸ (Touch.refl w5 _).into 2 _) (fun p hp => .inr (fun h => by subst hp; rcases hk5 p.block rfl with h1 | h1; exact absurd (HNE.out _ h1) (by rw [h]; exact Nat.lt_irrefl _); exact absurd (heap_lt HG.out) (by omega))); have HG : RowKit.Hid (x5.heap[w3.heap.size]? = some (.cells #[.int .i64 K, .int .i64 V, .slice a5 (n5 + m5) c5] 39 (0, 0))) := Lib.hid (by rw [← hx5, heap_setCell_same _ _ _ _ _ _ hG5]; rfl); have HZ5 := Lib.hid hz5; clear hown5 hrow5 hg5 hb5 hs5 hp5 hk5 hG5 hz5))
    clear HO HNE HM HML c15 f15 HG
    go_loopw [89] (fun i wr => ∃ k : Nat, k ≤ 2 ∧ i = .int .i64 k ∧ Touch x5 wr (fun _ => False)) (fun i _ => 2 - (intOf i).toNat)
    case atStart => exact ⟨0, by omega, rfl, Touch.refl _ _⟩
    case round =>
      obtain ⟨k, hk, rfl, ht⟩ := hrel
      by_cases hlt : k < 2
      · have hkI : (k : Int) < 2 := by omega
        have HY := Lib.hid (HY.out.touch HT.out (fun _ _ => .inr (fun h => h)))
        have hidx : ∃ GK GV A C N zz, (∀ W, (Instr.index 46 (.agg #[.int .i64 K, .int .i64 V, .slice a5 (n5 + m5) c5, .int .i64 k2, .int .i64 v2, .slice a2 xs.length cap2]) (.int .i64 k)).run Try.prog W = .ok (.agg #[.int .i64 GK, .int .i64 GV, .slice A N C]) W) ∧ RowB x5 A N C zz ∧ N = List.length zz ∧ N ≤ 140737488355328 := by
          have : k = 0 ∨ k = 1 := by omega
          rcases this with rfl | rfl
          · exact ⟨K, V, a5, c5, _, qs ++ ms, fun W => by rfl, HZ5.out, HCL.out.symm, g1⟩
          · exact ⟨k2, v2, a2, cap2, _, xs, fun W => by rfl, HY.out, rfl, HL2.out⟩
        obtain ⟨GK, GV, A, C, N, zz, hidx, hrz, hN, hnb⟩ := hidx
        obtain ⟨wz, hwz⟩ : ∃ W, wr.alloc (.cells #[.int .i64 GK, .int .i64 GV, .slice A N C] 39) = W := ⟨_, rfl⟩
        have tz : Touch wr wz (fun _ => False) := hwz ▸ (Touch.refl _ _).alloc _
        have HZF : RowKit.Hid (wz.heap[wr.heap.size]? = some (.cells #[.int .i64 GK, .int .i64 GV, .slice A N C] 39 (0, 0))) := Lib.hid (hwz ▸ heap_alloc_new wr _)
        have RZ := Lib.hid ((hrz.touch ht (fun _ _ => .inr (fun h => h))).touch tz (fun _ _ => .inr (fun h => h)))
        have HT := Lib.hid (ht.trans tz (fun _ _ h => h))
        have HTZ := Lib.hid (Touch.refl wz (fun _ => False))
        obtain ⟨X, hX⟩ : ∃ X, decR GK GV zz = X := ⟨_, rfl⟩
        obtain ⟨E2, hE2⟩ : ∃ X, decE GK GV zz = X := ⟨_, rfl⟩
        have K1 : RowKit.Hid (∀ W, RowB W A N C zz → Calls Try.prog 27 #[.agg #[.int .i64 GK, .int .i64 GV, .slice A N C]] W fun e w' => ∃ a' c', e = .returned (.tuple #[.agg (rcs X a' c'), .int .i64 E2]) ∧ RowK w' a' X.bs.length c' X.bs ∧ Touch W w' (fun _ => False)) := Lib.hid (fun W h => by
          have := dec_any GK GV A C zz W (hN ▸ h) (hN ▸ hnb)
          unfold DecIs at this
          rw [hX, hE2, ← hN] at this
          refine this.mono ?_
          rintro e w' ⟨a', c', rfl, ho, t⟩
          exact ⟨a', c', rfl, ho.row.2.1, t⟩)
        have K2 : RowKit.Hid (∀ W, RowB W A N C zz → Calls Try.prog 28 #[.agg #[.int .i64 GK, .int .i64 GV, .slice A N C]] W fun e w' => ∃ a' c', e = .returned (.tuple #[.agg (rcs X a' c'), .int .i64 E2]) ∧ RowK w' a' X.bs.length c' X.bs ∧ Touch W w' (fun _ => False)) := Lib.hid (fun W h => by
          have := rdec_any GK GV A C zz W (hN ▸ h) (hN ▸ hnb)
          unfold DecIs at this
          rw [hX, hE2, ← hN] at this
          refine this.mono ?_
          rintro e w' ⟨a', c', rfl, ho, t⟩
          exact ⟨a', c', rfl, ho.row.2.1, t⟩)
        have hcase : (E2 = 0 ∧ X.bs.length ≤ 100000) ∨ (E2 ≠ 0 ∧ X.kind = 0) := by
          by_cases he : E2 = 0
          · refine .inl ⟨he, ?_⟩
            have e : decD GK GV zz = X := by rw [← hX]; unfold decR; rw [if_pos (hE2.trans he)]
            rw [← e]; exact decD_len GK GV zz hrz.2.2.2.2.1
          · refine .inr ⟨he, ?_⟩
            rw [← hX]; unfold decR; rw [if_neg (by rw [hE2]; exact he)]; rfl
        clear hrz hnb hX hE2 hN tz ht HY HL2 HZ5 HCL
        go_upto_region 14 with (first
          | (refine load_rowH 39 (.tmp 19) rfl rfl wr.heap.size rfl _ _ _ _ (HTZ.out.keeps HZF.out (fun h => h)) Try.underlying39 rfl HIF.out ?_)
          | (go_at_call 27; (with_reducible refine (K1.out _ RZ.out).mono ?_); rintro e w14 ⟨a14, c14, rfl, ho, t8⟩; obtain ⟨v14, hv14⟩ : ∃ W, w14.alloc (.cells (rcs X a14 c14) 29) = W := ⟨_, rfl⟩; have tA : Touch w14 v14 (fun _ => False) := hv14 ▸ (Touch.refl w14 (fun _ => False)).alloc (.cells (rcs X a14 c14) 29); have t9 := t8.trans tA (fun _ _ h => h); have HTZ := Lib.hid (HTZ.out.trans t9 (fun _ _ h => h)); have RZ := Lib.hid (RZ.out.touch t9 (fun _ _ => .inr (fun h => h))); have HT := Lib.hid (HT.out.trans t9 (fun _ _ h => h)); have HX : RowKit.Hid (v14.heap[w14.heap.size]? = some (.cells (rcs X a14 c14) 29 (0, 0))) := Lib.hid (hv14 ▸ heap_alloc_new w14 _); have RX := Lib.hid (ho.still tA); clear t8 t9 tA ho; simp only [rcs] at hv14; simp only [rcs])
          | (go_at_call 28; (with_reducible refine (K2.out _ RZ.out).mono ?_); rintro e w16 ⟨a16, c16, rfl, ho, t8⟩; obtain ⟨v16, hv16⟩ : ∃ W, w16.alloc (.cells (rcs X a16 c16) 29) = W := ⟨_, rfl⟩; have tA : Touch w16 v16 (fun _ => False) := hv16 ▸ (Touch.refl w16 (fun _ => False)).alloc (.cells (rcs X a16 c16) 29); have t9 := t8.trans tA (fun _ _ h => h); have HX := Lib.hid (t9.keeps HX.out (fun h => h)); have RX := Lib.hid (RX.out.still t9); have HT := Lib.hid (HT.out.trans t9 (fun _ _ h => h)); have HX2 : RowKit.Hid (v16.heap[w16.heap.size]? = some (.cells (rcs X a16 c16) 29 (0, 0))) := Lib.hid (hv16 ▸ heap_alloc_new w16 _); have RX2 := Lib.hid (ho.still tA); clear t8 t9 tA ho; simp only [rcs] at hv16; simp only [rcs]))
        clear K1 K2
        rcases hcase with ⟨he, hl⟩ | ⟨he, hk0⟩
        · have KS : RowKit.Hid (∀ (a3 : Option Addr) (c3 : Nat) (a4 : Option Addr) (c4 : Nat) W, RowK W a3 X.bs.length c3 X.bs → RowK W a4 X.bs.length c4 X.bs → Calls Try.prog 21 #[.agg (rcs X a3 c3), .agg (rcs X a4 c4)] W fun e w' => e = .returned (.bool true) ∧ Touch W w' (fun _ => False)) := Lib.hid (fun a3 c3 a4 c4 W h1 h2 => by have := rsame_any X a3 c3 X a4 c4 W h1 hl h2 hl; rwa [(sameR_iff X X).2 rfl] at this)
          subst he
          clear hl
          go_wp2_with (first
            | (refine load_rowH 29 (.tmp 20) rfl rfl w14.heap.size rfl _ _ _ _ HX.out Try.underlying29 rfl HIR.out ?_)
            | (refine load_rowH 29 (.tmp 22) rfl rfl w16.heap.size rfl _ _ _ _ HX2.out Try.underlying29 rfl HIR.out ?_)
            | (go_at_call 21; (with_reducible refine (KS.out _ _ _ _ _ RX.out RX2.out).mono ?_); rintro e w27 ⟨rfl, t9⟩; have HT := Lib.hid (HT.out.trans t9 (fun _ _ h => h)); clear t9))
          go_roundw
          case rel => exact ⟨k + 1, by omega, by go_num, HT.out⟩
          case measure => simp [intOf]; omega
        · have c20 : v16.cell? ⟨w14.heap.size, 0, none⟩ = some (.int .i64 0) := hk0 ▸ cell_of_cells HX.out 0
          have hne : (E2 == 0) = false := beq_eq_false_iff_ne.2 he
          have hne2 : (E2 != 0) = true := bne_iff_ne.2 he
          go_wp2_with fail
          go_roundw
          case rel => exact ⟨k + 1, by omega, by go_num, HT.out⟩
          case measure => simp [intOf]; omega
      · have hkI : ¬ (k : Int) < 2 := by omega
        have HT := Lib.hid ((HT0.out.trans HT.out (fun _ _ h => h)).trans ht (fun _ _ h => h))
        go_wp2_with (go_at_call 14; (with_reducible refine (awake8 _).mono ?_); rintro e w8 ⟨rfl, t9⟩; have HT := Lib.hid (HT.out.trans t9 (fun _ _ h => h)); clear t9)
        go_ret
        exact ⟨rfl, HT.out⟩
end Go.Proofs.Ytbklngcocbnijaa
