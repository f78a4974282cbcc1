/- ManifestDecodes: any bytes, near a manifest or far from it: the program reads as the page does. -/
import Derived.Test.YtibpnlhdpdfhiaaDoorFrManifestDecodesZ
import Derived.Test.YtibpnlhdpdfhiaaDoorManAwakeZ
import Derived.Test.YtibpnlhdpdfhiaaDoorManREncZ
import Derived.Test.YtibpnlhdpdfhiaaDoorManRDecZ
import Derived.Test.YtibpnlhdpdfhiaaDoorManArgsZ
import Derived.Test.YtibpnlhdpdfhiaaDoorFrmAwakeZ
import Derived.Test.YtibpnlhdpdfhiaaDoorGCZ
import Derived.Test.YtibpnlhdpdfhiaaDoorGAZ
import Derived.Laws.BitsAllLaws
set_option linter.unusedVariables false
set_option linter.unusedSimpArgs false
namespace Go.Proofs.YtibpnlhdpdfhiaaDoor
open Go.ChangeShapes Go.WideShapes Go.ChangeAt Go.RowKit

theorem putF_less (k v : Int) (ys : List Nat) : (putF k v ys).length ≤ 16 + ys.length := by
  unfold putF; split
  · rw [frmF_length]; exact Nat.le_refl _
  · simp
theorem encM_len (v n : Int) (zs : List Int) : (encM v n zs).length ≤ 278 := by
  unfold encM
  split
  · rename_i h
    obtain ⟨_, _, h3, _⟩ := (mayM_iff v n zs).1 h
    rw [frmF_length, bodyM_length]; omega
  · simp
set_option maxRecDepth 20000 in
set_option maxHeartbeats 8000000 in
theorem mdecs_bad (v n : Int) (a : Option Addr) (len cap : Nat) (k2 v2 : Int) (a2 : Option Addr) (cap2 : Nat) (ys : List Nat) (am : Option Addr) (m5 cm : Nat) (place : Int) (x : Nat) (cut : Int) (w : World) (hT : TabW w) (hl : 200 < m5 ∨ (m5 ≤ 200 ∧ 300 < ys.length)) :
    Calls Tryd.prog 4 #[.agg #[.int .i64 v, .int .i64 n, .slice a len cap], .agg #[.int .i64 k2, .int .i64 v2, .slice a2 ys.length cap2], .slice am m5 cm, .int .i64 place, .int .u8 (x : Nat), .int .i64 cut] w fun e w' => e = .returned (.bool true) ∧ Touch w w' (fun _ => False) := by
  obtain ⟨W1, hW1⟩ : ∃ W, w.alloc (.cells #[.int .i64 v, .int .i64 n, .slice a len cap] 24) = W := ⟨_, rfl⟩
  obtain ⟨W2, hW2⟩ : ∃ W, W1.alloc (.cells #[.int .i64 k2, .int .i64 v2, .slice a2 ys.length cap2] 33) = W := ⟨_, rfl⟩
  have t1 : Touch w W1 (fun _ => False) := hW1 ▸ (Touch.refl _ _).alloc _
  have t2 : Touch W1 W2 (fun _ => False) := hW2 ▸ (Touch.refl _ _).alloc _
  have hf : W2.heap[w.heap.size + 1]? = some (.cells #[.int .i64 k2, .int .i64 v2, .slice a2 ys.length cap2] 33 (0, 0)) := by
    have h1 : W1.heap.size = w.heap.size + 1 := by rw [← hW1]; simp
    rw [← h1]; exact hW2 ▸ heap_alloc_new W1 _
  have c2 : W2.cell? ⟨w.heap.size + 1, 2, none⟩ = some (.slice a2 ys.length cap2) := cell_of_cells hf 2
  have HT0 := Lib.hid (t1.trans t2 (fun _ _ h => h))
  have HA := Lib.hid (awake5 W2 (hT.touch HT0.out))
  have HW1 := Lib.hid hW1
  have HW2 := Lib.hid hW2
  clear t1 t2 hf hT hW1 hW2
  rcases hl with hl | ⟨hl, hl2⟩
  · have i1 : (200 : Int) < m5 := by omega
    go_enter Tryd.func4, Tryd.ntmps4
    go_upto_region 1 with (fail)
    rw [HW1.out, HW2.out]
    go_wp2_with (go_at_call 17; (with_reducible refine HA.out.mono ?_); rintro e w8 ⟨rfl, t9⟩)
    go_ret
    exact ⟨rfl, HT0.out.trans t9 (fun _ _ h => h)⟩
  · have i1 : ¬ (200 : Int) < m5 := by omega
    have i2 : (300 : Int) < ys.length := by omega
    go_enter Tryd.func4, Tryd.ntmps4
    go_upto_region 1 with (fail)
    rw [HW1.out, HW2.out]
    go_wp2_with (go_at_call 17; (with_reducible refine HA.out.mono ?_); rintro e w8 ⟨rfl, t9⟩)
    go_ret
    exact ⟨rfl, HT0.out.trans t9 (fun _ _ h => h)⟩
set_option maxRecDepth 20000 in
set_option maxHeartbeats 16000000 in
theorem mdecs_walk (v n : Int) (a : Option Addr) (len cap : Nat) (zs : List Int) (k2 v2 : Int) (a2 : Option Addr) (cap2 : Nat) (ys : List Nat) (am : Option Addr) (m5 cm : Nat) (ms : List Nat) (place : Int) (x : Nat) (cut : Int) (w : World) (hr : RowI w a len cap zs) (hy : RowB w a2 ys.length cap2 ys) (hm : RowB w am m5 cm ms) (hx8 : x < 256) (hT : TabW w) (hm5 : m5 ≤ 200) (hy3 : ys.length ≤ 300) :
    Calls Tryd.prog 4 #[.agg #[.int .i64 v, .int .i64 n, .slice a len cap], .agg #[.int .i64 k2, .int .i64 v2, .slice a2 ys.length cap2], .slice am m5 cm, .int .i64 place, .int .u8 (x : Nat), .int .i64 cut] w fun e w' => e = .returned (.bool true) ∧ Touch w w' (fun _ => False) := by
  obtain ⟨W1, hW1⟩ : ∃ W, w.alloc (.cells #[.int .i64 v, .int .i64 n, .slice a len cap] 24) = W := ⟨_, rfl⟩
  obtain ⟨W2, hW2⟩ : ∃ W, W1.alloc (.cells #[.int .i64 k2, .int .i64 v2, .slice a2 ys.length cap2] 33) = W := ⟨_, rfl⟩
  have t1 : Touch w W1 (fun _ => False) := hW1 ▸ (Touch.refl _ _).alloc _
  have t2 : Touch W1 W2 (fun _ => False) := hW2 ▸ (Touch.refl _ _).alloc _
  have hf : W2.heap[w.heap.size + 1]? = some (.cells #[.int .i64 k2, .int .i64 v2, .slice a2 ys.length cap2] 33 (0, 0)) := by
    have h1 : W1.heap.size = w.heap.size + 1 := by rw [← hW1]; simp
    rw [← h1]; exact hW2 ▸ heap_alloc_new W1 _
  have hg : W2.heap[w.heap.size]? = some (.cells #[.int .i64 v, .int .i64 n, .slice a len cap] 24 (0, 0)) := t2.keeps (hW1 ▸ heap_alloc_new w _) (fun h => h)
  have c2 : W2.cell? ⟨w.heap.size + 1, 2, none⟩ = some (.slice a2 ys.length cap2) := cell_of_cells hf 2
  have HT0 := Lib.hid (t1.trans t2 (fun _ _ h => h))
  have HR := Lib.hid (hr.keep HT0.out)
  have HM := Lib.hid (hm.touch HT0.out (fun _ _ => .inr (fun h => h)))
  have HY := Lib.hid (hy.touch HT0.out (fun _ _ => .inr (fun h => h)))
  have HTB := Lib.hid (hT.touch HT0.out)
  have HIM := Lib.hid infoMan
  have HIF := Lib.hid infoF
  have HG := Lib.hid hg
  have HF := Lib.hid hf
  have HML := Lib.hid hm.1
  have HE := Lib.hid (rmenc_any v n a len cap zs W2 HR.out)
  have HW1 := Lib.hid hW1
  have HW2 := Lib.hid hW2
  have hel := encM_len v n zs
  obtain ⟨L, hL⟩ : ∃ L, (encM v n zs).length = L := ⟨_, rfl⟩
  obtain ⟨Y, hY⟩ : ∃ Y, encM v n zs = Y := ⟨_, rfl⟩
  rw [hL] at hel
  unfold EncMIs at HE
  rw [hL, hY] at HE
  rw [hY] at hL
  have HL := Lib.hid hL
  have hpl := putF_less k2 v2 ys
  obtain ⟨n4, hn4⟩ : ∃ n, (putF k2 v2 ys).length = n := ⟨_, rfl⟩
  rw [hn4] at hpl
  have HP : RowKit.Hid (∀ W, Touch W2 W (fun _ => False) → Calls Tryd.prog 18 #[.agg #[.int .i64 k2, .int .i64 v2, .slice a2 ys.length cap2]] W fun e w' => ∃ a' c', e = .returned (.tuple #[.slice a' n4 c', .int .i64 (putE k2 v2 ys.length : Nat)]) ∧ FreshB W w' (.slice a' n4 c') (putF k2 v2 ys)) := Lib.hid (fun W h => by
    have h9 := rput_any k2 v2 a2 _ cap2 ys W (HY.out.touch h (fun _ _ => .inr (fun h => h)))
    unfold PutIs at h9
    rw [hn4] at h9
    exact h9)
  have hn49 : n4 ≤ 316 := by omega
  have i1 : ¬ (200 : Int) < m5 := by omega
  have i2 : ¬ (300 : Int) < ys.length := by omega
  generalize putF k2 v2 ys = P at *
  generalize putE k2 v2 ys.length = PE at *
  clear hr hm hy hT t1 t2 hf hg hW1 hW2 hY hL hn4 hpl
  go_enter Tryd.func4, Tryd.ntmps4
  go_upto_region 1 with (fail)
  rw [HW1.out, HW2.out]
  go_upto_region 3 with (fail)
  clear c2
  go_upto_region 5 with (first
    | (refine load_rowH 24 (.tmp 6) rfl rfl w.heap.size rfl _ _ _ _ HG.out Tryd.underlying24 rfl HIM.out ?_)
    | (go_at_call 12; (with_reducible refine HE.out.mono ?_); rintro e w3 ⟨a3, c3, rfl, hf3⟩; have HOA : RowKit.Hid (∀ k, (Value.slice a3 L c3).ownBlock = some k → k < w3.heap.size) := Lib.hid (fun k hk => (hf3.1.own.lt k hk).2); have T3 := Lib.hid hf3.2; have HO3 := Lib.hid hf3.1; have HF := Lib.hid (hf3.2.keeps HF.out (fun h => h)); clear hf3)
    | (refine load_rowH 33 (.tmp 7) rfl rfl (w.heap.size + 1) rfl _ _ _ _ HF.out Tryd.underlying33 rfl HIF.out ?_)
    | (go_at_call 18; (with_reducible refine (HP.out _ T3.out).mono ?_); rintro e w4 ⟨a4, c4, rfl, hf4⟩; have T4 := Lib.hid (T3.out.trans hf4.2 (fun _ _ h => h)); have HO3 := Lib.hid (HO3.out.touch hf4.2 (fun _ _ h => h)); have HR4 := Lib.hid hf4.row'.2; have HR45 := Lib.hid HR4.out.lt; have HOB : RowKit.Hid (∀ x, a4 = some x → w3.heap.size ≤ x.block) := Lib.hid (fun x hx => (hf4.1.own.lt x.block (by rw [hx]; rfl)).1); clear hf4))
  have HCL : RowKit.Hid ((Y ++ ms).length = L + m5) := Lib.hid (by rw [List.length_append, HL.out, HML.out])
  have g1 : L + m5 ≤ 478 := by omega
  have g2 : L + m5 ≤ 140737488355328 := by omega
  go_upto_region 6 with (at_builtin; go_loud (refine wpList_appendB rfl _ _ 25 rfl 5 Tryd.underlying25 infoB W2.heap.size (.slice a3 L c3) Y rfl HO3.out _ _ _ ms rfl (HM.out.touch T4.out (fun _ _ => .inr (fun h => h))) (L + m5) (Y ++ ms) rfl HCL.out g2 T4.out.size W2.heap.size W2 (T4.out.below (fun _ _ h => h.elim) (Nat.le_refl _)) (Nat.le_refl _) ?_; intro a5 c5 w5 hown5 hrow5 hg5 hb5 hs5 hp5 hk5; have HO5 := Lib.hid hown5; have HR4 := Lib.hid (HR4.out.touch ((Touch.refl w4 (fun k => (Value.slice a3 L c3).ownBlock = some k)).grown hg5 (fun k hk _ => hk)) (fun x hx => .inr (fun h => by have h7 := HOA.out _ h; have h8 := HOB.out x hx; omega))); have HT : RowKit.Hid (Touch W2 w5 (fun _ => False)) := Lib.hid (Touch.ofBelow (S := fun _ => False) hb5 (fun k h1 h2 => by omega)); have HOC : RowKit.Hid (∀ k, (Value.slice a5 (L + m5) c5).ownBlock = some k → k < w3.heap.size ∨ w4.heap.size ≤ k) := Lib.hid (fun k hk => (hk5 k hk).imp (fun h => HOA.out k h) id); clear hown5 hrow5 hg5 hb5 hs5 hp5 hk5))
  have HLN := Lib.hid HCL.out
  generalize hZ : Y ++ ms = Z at *
  clear hZ HCL HE HP HM HML HL HR HY HG HF
  obtain ⟨NL, hNL⟩ : ∃ q, L + m5 = q := ⟨_, rfl⟩
  rw [hNL] at HLN HO5 HOC g1 g2
  rw [hNL]
  clear hNL
  by_cases h0 : 0 < NL
  case neg =>
    obtain rfl : NL = 0 := by omega
    obtain ⟨x5, hx5⟩ : ∃ W, w5 = W := ⟨_, rfl⟩
    rw [hx5] at HT HO5 HR4
    rw [hx5]
    clear hx5
    have HR5 : RowKit.Hid (RowB x5 a5 0 c5 Z) := Lib.hid (by
      obtain ⟨a8, c8, hv8, hr8, _⟩ := HO5.out.row
      rw [HLN.out] at hv8 hr8
      simp only [Value.slice.injEq, true_and] at hv8
      obtain ⟨rfl, rfl⟩ := hv8
      exact hr8)
    go_upto_region 10 with (fail)
    go_loopw [83] (fun i wr => ∃ k : Nat, k ≤ 2 ∧ i = .int .i64 k ∧ Touch x5 wr (fun _ => False)) (fun i _ => 2 - (intOf i).toNat)
    case atStart => exact ⟨0, by omega, rfl, Touch.refl _ _⟩
    case round =>
      obtain ⟨k, hk, rfl, ht⟩ := hrel
      by_cases hlt : k < 2
      case neg =>
        obtain rfl : k = 2 := by omega
        have hlt' : ¬ ((2 : Nat) : Int) < 2 := by omega
        go_wp2_with (go_at_call 17; (with_reducible refine (awake5 _ (HTB.out.touch (HT.out.trans ht (fun _ _ h => h)))).mono ?_); rintro e w9 ⟨rfl, t9⟩)
        go_ret
        exact ⟨rfl, (HT0.out.trans (HT.out.trans ht (fun _ _ h => h)) (fun _ _ h => h)).trans t9 (fun _ _ h => h)⟩
      case pos =>
        have hkI : (k : Int) < 2 := by omega
        have hidx : ∃ A C N qq, (∀ W, (Instr.index 36 (.agg #[.slice a5 0 c5, .slice a4 n4 c4]) (.int .i64 k)).run Tryd.prog W = .ok (.slice A N C) W) ∧ RowB x5 A N C qq ∧ N ≤ 140737488355328 := by
          have : k = 0 ∨ k = 1 := by omega
          rcases this with rfl | rfl
          · exact ⟨a5, c5, 0, Z, fun W => by rfl, HR5.out, by omega⟩
          · exact ⟨a4, c4, n4, _, fun W => by rfl, HR4.out, by omega⟩
        obtain ⟨A, C, N, qq, hidx, hrz, hnb⟩ := hidx
        have HX := Lib.hid hidx
        have RZ := Lib.hid (hrz.touch ht (fun _ _ => .inr (fun h => h)))
        have HTT := Lib.hid ht
        obtain ⟨V, hV⟩ : ∃ X, dmV qq = X := ⟨_, rfl⟩
        obtain ⟨X1, hX1⟩ : ∃ X, dmN qq = X := ⟨_, rfl⟩
        obtain ⟨ZZ, hZ2⟩ : ∃ X, dmZ qq = X := ⟨_, rfl⟩
        obtain ⟨E9, hE9⟩ : ∃ X, dmE qq = X := ⟨_, rfl⟩
        have K1 : RowKit.Hid (∀ W, RowB W A N C qq → Calls Tryd.prog 19 #[.slice A N C] W fun e w' => ∃ a' c', e = .returned (.tuple #[.agg (mcs V X1 a' ZZ.length c'), .int .i64 E9]) ∧ RowI w' a' ZZ.length c' ZZ ∧ Touch W w' (fun _ => False)) := Lib.hid (fun W h => by
          refine (mdec_any A N C qq W h hnb).mono ?_
          rintro e w' ⟨a', c', he, hi, _, t⟩
          rw [hV, hX1, hZ2, hE9] at he
          rw [hZ2] at hi
          exact ⟨a', c', he, hi, t⟩)
        have K2 : RowKit.Hid (∀ W, RowB W A N C qq → Calls Tryd.prog 20 #[.slice A N C] W fun e w' => ∃ a' c', e = .returned (.tuple #[.agg (mcs V X1 a' ZZ.length c'), .int .i64 E9]) ∧ RowI w' a' ZZ.length c' ZZ ∧ Touch W w' (fun _ => False)) := Lib.hid (fun W h => by
          refine (rmdec_any A N C qq W h hnb).mono ?_
          rintro e w' ⟨a', c', he, hi, _, t⟩
          rw [hV, hX1, hZ2, hE9] at he
          rw [hZ2] at hi
          exact ⟨a', c', he, hi, t⟩)
        clear hV hX1 hZ2 hE9 hrz hnb ht
        have hb9 : ((E9 : Int) != E9) = false := bne_eq_false_iff_eq.2 rfl
        generalize ZZ.length = zl at *
        go_upto_region 14 with (first
          | (go_at_call 19; (with_reducible refine (K1.out _ RZ.out).mono ?_); rintro e w14 ⟨a14, c14, rfl, hi, t8⟩; simp only [mcs]; obtain ⟨v14, hv14⟩ : ∃ W, w14.alloc (.cells #[.int .i64 V, .int .i64 X1, .slice a14 zl c14] 24) = W := ⟨_, rfl⟩; have tA : Touch w14 v14 (fun _ => False) := hv14 ▸ (Touch.refl w14 (fun _ => False)).alloc _; have t9 := t8.trans tA (fun _ _ h => h); have RZ := Lib.hid (RZ.out.touch t9 (fun _ _ => .inr (fun h => h))); have HTT := Lib.hid (HTT.out.trans t9 (fun _ _ h => h)); have HX1 : RowKit.Hid (v14.heap[w14.heap.size]? = some (.cells #[.int .i64 V, .int .i64 X1, .slice a14 zl c14] 24 (0, 0))) := Lib.hid (hv14 ▸ heap_alloc_new w14 _); have RI1 := Lib.hid (hi.keep tA); clear t8 t9 tA hi)
          | (go_at_call 20; (with_reducible refine (K2.out _ RZ.out).mono ?_); rintro e w16 ⟨a16, c16, rfl, hi, t8⟩; simp only [mcs]; obtain ⟨v16, hv16⟩ : ∃ W, w16.alloc (.cells #[.int .i64 V, .int .i64 X1, .slice a16 zl c16] 24) = W := ⟨_, rfl⟩; have tA : Touch w16 v16 (fun _ => False) := hv16 ▸ (Touch.refl w16 (fun _ => False)).alloc _; have t9 := t8.trans tA (fun _ _ h => h); have HX1 := Lib.hid (t9.keeps HX1.out (fun h => h)); have RI1 := Lib.hid (RI1.out.keep t9); have HTT := Lib.hid (HTT.out.trans t9 (fun _ _ h => h)); have HX2 : RowKit.Hid (v16.heap[w16.heap.size]? = some (.cells #[.int .i64 V, .int .i64 X1, .slice a16 zl c16] 24 (0, 0))) := Lib.hid (hv16 ▸ heap_alloc_new w16 _); have RI2 := Lib.hid (hi.keep tA); clear t8 t9 tA hi))
        clear K1 K2
        have KS : RowKit.Hid (Calls Tryd.prog 16 #[.agg #[.int .i64 V, .int .i64 X1, .slice a14 zl c14], .agg #[.int .i64 V, .int .i64 X1, .slice a16 zl c16]] v16 fun e w' => e = .returned (.bool true) ∧ Touch v16 w' (fun _ => False)) := Lib.hid (by have h9 := rmsame_any V X1 a14 zl c14 ZZ V X1 a16 zl c16 ZZ v16 RI1.out RI2.out; rwa [show sameM V X1 ZZ V X1 ZZ = true from decide_eq_true ⟨rfl, rfl, rfl⟩] at h9)
        go_wp2_with (first
          | (refine load_rowH 24 (.tmp 19) rfl rfl w14.heap.size rfl _ _ _ _ HX1.out Tryd.underlying24 rfl HIM.out ?_)
          | (refine load_rowH 24 (.tmp 21) rfl rfl w16.heap.size rfl _ _ _ _ HX2.out Tryd.underlying24 rfl HIM.out ?_)
          | (go_at_call 16; (with_reducible refine KS.out.mono ?_); rintro e w27 ⟨rfl, t9⟩; have HTT := Lib.hid (HTT.out.trans t9 (fun _ _ h => h)); clear t9))
        exact ⟨⟨k + 1, by omega, by go_num, HTT.out⟩, by simp [intOf]; omega⟩
  case pos =>
    have h0' : (0 : Int) < NL := by omega
    obtain ⟨j, hj⟩ : ∃ j, u64N place % NL = j := ⟨_, rfl⟩
    have hjl : j < NL := by rw [← hj]; exact Nat.mod_lt _ h0
    have hw := u64N_wrap place
    have hul := u64N_lt place
    have hmod : ((u64N place : Nat) : Int).tmod (NL : Int) = (j : Nat) := by
      rw [Int.tmod_eq_emod_of_nonneg (by omega), ← hj]; rfl
    obtain ⟨a7, c7, hv7, hr7, hp7⟩ := HO5.out.row
    rw [HLN.out] at hv7 hr7
    simp only [Value.slice.injEq, true_and] at hv7
    obtain ⟨rfl, rfl⟩ := hv7
    obtain ⟨b6, o6, rfl⟩ := hr7.some h0
    obtain hp7 | ⟨g, hp7, hg1, hg2⟩ := hp7
    · cases hp7
    simp only [Option.some.injEq, Addr.mk.injEq] at hp7
    obtain ⟨rfl, rfl, -⟩ := hp7
    have cj := HO5.out.at HLN.out j hjl (by rw [HLN.out]; exact hjl)
    have fj := HO5.out.free HLN.out j
    rw [← gb_get Z j (by rw [HLN.out]; exact hjl)] at cj
    have hyb : gb Z j < 256 := gb_lt Z HO5.out.small j
    have hxor := u8_xor_nat (gb Z j) x hyb hx8
    have hy2 : gb Z j ^^^ x < 256 := Nat.xor_lt_two_pow (n := 8) hyb hx8
    have ho14 := HO5.out.stored HLN.out j _ hy2
    rw [← hxor] at ho14
    have HT14 := Lib.hid (HT.out.setCell ⟨b6, j, none⟩ (.int .u8 (bits BinOp.xor IntKind.u8 (gb Z j : Int) (x : Int))) (fun hh => by have : b6 < W2.heap.size := hh; omega))
    have HOC6 := HOC.out b6 rfl
    have t6 := (Touch.refl w5 (fun k => k = b6)).setCell ⟨b6, j, none⟩ (.int .u8 (bits BinOp.xor IntKind.u8 (gb Z j : Int) (x : Int))) (fun _ => rfl)
    have HR4 := Lib.hid (HR4.out.touch t6 (fun y hy => (HR45.out y hy).imp id (fun h9 e => by have e : y.block = b6 := e; have h8 := HOB.out y hy; omega)))
    have HO14 := Lib.hid ho14
    have HLS : RowKit.Hid ((Z.set j (gb Z j ^^^ x)).length = NL) := Lib.hid (by rw [List.length_set]; exact HLN.out)
    obtain ⟨x5, hx5⟩ : ∃ W, w5.setCell ⟨b6, j, none⟩ (.int .u8 (bits BinOp.xor IntKind.u8 (gb Z j : Int) (x : Int))) = W := ⟨_, rfl⟩
    rw [hx5] at HT14 HR4 HO14
    have HT := HT14
    have HX5 := Lib.hid hx5
    have hji : (j : Int) < NL := by omega
    obtain ⟨q3, hq3⟩ : ∃ q, u64N cut % 3 = q := ⟨_, rfl⟩
    obtain ⟨qn, hqn⟩ : ∃ q, u64N cut % NL = q := ⟨_, rfl⟩
    have q1 : q3 < 3 := by rw [← hq3]; exact Nat.mod_lt _ (by omega)
    have q2 : qn < NL := by rw [← hqn]; exact Nat.mod_lt _ (by omega)
    obtain ⟨m, hmq⟩ : ∃ m, q3 * qn = m := ⟨_, rfl⟩
    have q4 : m ≤ 2 * qn := by rw [← hmq]; exact Nat.mul_le_mul_right _ (by omega)
    obtain ⟨h, hh⟩ : ∃ h, m / 2 = h := ⟨_, rfl⟩
    have q5 : h < NL := by omega
    have e4 : ((u64N cut : Int).tmod 3) = (q3 : Int) := by rw [Int.tmod_eq_emod_of_nonneg (by omega), ← hq3]; simp
    have e6 : ((u64N cut : Int).tmod (NL : Int)) = (qn : Int) := by rw [Int.tmod_eq_emod_of_nonneg (by omega), ← hqn]; simp
    have e7 : (q3 : Int) * (qn : Int) = (m : Int) := by rw [← hmq]; simp
    have e8 : (m : Int).tdiv 2 = (h : Int) := by rw [Int.tdiv_eq_ediv_of_nonneg (by omega)]; omega
    obtain ⟨n5, hn5⟩ : ∃ n, NL - h = n := ⟨_, rfl⟩
    have e10 : (NL : Int) - (h : Int) = (n5 : Int) := by omega
    have hcap := hr7.2.1
    have hs1 : (n5 : Int) ≤ (c5 : Int) := by omega
    have hs2 : (0 : Int) ≤ (n5 : Int) := by omega
    have hwc := u64N_wrap cut
    have hulc := u64N_lt cut
    have HR5 : RowKit.Hid (RowB x5 (some ⟨b6, 0, none⟩) n5 c5 ((Z.set j (gb Z j ^^^ x)).take n5)) := Lib.hid (by
      obtain ⟨a8, c8, hv8, hr8, _⟩ := HO14.out.row
      rw [HLS.out] at hv8 hr8
      simp only [Value.slice.injEq, true_and] at hv8
      obtain ⟨rfl, rfl⟩ := hv8
      obtain ⟨r1, r2, r3, r4, r5, r6⟩ := hr8
      refine ⟨by rw [List.length_take, HLS.out]; omega, by omega, r3, by omega, fun y hy => r5 y (List.mem_of_mem_take hy), ?_⟩
      rcases r6 with h | ⟨b, off, ha, hc⟩
      · exact .inl (by omega)
      · exact .inr ⟨b, off, ha, fun i hi => by rw [List.getElem_take]; exact hc i (by rw [List.length_take] at hi; omega)⟩)
    clear hxor ho14 hy2 hr7 hj hg1 hg2 hx5 HT14 t6 hn5 hh hmq hq3 hqn hcap
    go_upto_region 8 with (fail)
    rw [HX5.out]
    clear cj fj hyb hmod
    generalize bits BinOp.xor IntKind.u8 (gb Z j : Int) (x : Int) = bx at *
    generalize (Z.set j (gb Z j ^^^ x)).take n5 = Z5 at *
    go_upto_region 9 with (fail)
    go_upto_region 10 with (fail)
    go_loopw [83] (fun i wr => ∃ k : Nat, k ≤ 2 ∧ i = .int .i64 k ∧ Touch x5 wr (fun _ => False)) (fun i _ => 2 - (intOf i).toNat)
    case atStart => exact ⟨0, by omega, rfl, Touch.refl _ _⟩
    case round =>
      obtain ⟨k, hk, rfl, ht⟩ := hrel
      by_cases hlt : k < 2
      case neg =>
        obtain rfl : k = 2 := by omega
        have hlt' : ¬ ((2 : Nat) : Int) < 2 := by omega
        go_wp2_with (go_at_call 17; (with_reducible refine (awake5 _ (HTB.out.touch (HT.out.trans ht (fun _ _ h => h)))).mono ?_); rintro e w9 ⟨rfl, t9⟩)
        go_ret
        exact ⟨rfl, (HT0.out.trans (HT.out.trans ht (fun _ _ h => h)) (fun _ _ h => h)).trans t9 (fun _ _ h => h)⟩
      case pos =>
        have hkI : (k : Int) < 2 := by omega
        have hidx : ∃ A C N qq, (∀ W, (Instr.index 36 (.agg #[.slice (some ⟨b6, 0, none⟩) n5 c5, .slice a4 n4 c4]) (.int .i64 k)).run Tryd.prog W = .ok (.slice A N C) W) ∧ RowB x5 A N C qq ∧ N ≤ 140737488355328 := by
          have : k = 0 ∨ k = 1 := by omega
          rcases this with rfl | rfl
          · exact ⟨(some ⟨b6, 0, none⟩), c5, n5, Z5, fun W => by rfl, HR5.out, by omega⟩
          · exact ⟨a4, c4, n4, _, fun W => by rfl, HR4.out, by omega⟩
        obtain ⟨A, C, N, qq, hidx, hrz, hnb⟩ := hidx
        have HX := Lib.hid hidx
        have RZ := Lib.hid (hrz.touch ht (fun _ _ => .inr (fun h => h)))
        have HTT := Lib.hid ht
        obtain ⟨V, hV⟩ : ∃ X, dmV qq = X := ⟨_, rfl⟩
        obtain ⟨X1, hX1⟩ : ∃ X, dmN qq = X := ⟨_, rfl⟩
        obtain ⟨ZZ, hZ2⟩ : ∃ X, dmZ qq = X := ⟨_, rfl⟩
        obtain ⟨E9, hE9⟩ : ∃ X, dmE qq = X := ⟨_, rfl⟩
        have K1 : RowKit.Hid (∀ W, RowB W A N C qq → Calls Tryd.prog 19 #[.slice A N C] W fun e w' => ∃ a' c', e = .returned (.tuple #[.agg (mcs V X1 a' ZZ.length c'), .int .i64 E9]) ∧ RowI w' a' ZZ.length c' ZZ ∧ Touch W w' (fun _ => False)) := Lib.hid (fun W h => by
          refine (mdec_any A N C qq W h hnb).mono ?_
          rintro e w' ⟨a', c', he, hi, _, t⟩
          rw [hV, hX1, hZ2, hE9] at he
          rw [hZ2] at hi
          exact ⟨a', c', he, hi, t⟩)
        have K2 : RowKit.Hid (∀ W, RowB W A N C qq → Calls Tryd.prog 20 #[.slice A N C] W fun e w' => ∃ a' c', e = .returned (.tuple #[.agg (mcs V X1 a' ZZ.length c'), .int .i64 E9]) ∧ RowI w' a' ZZ.length c' ZZ ∧ Touch W w' (fun _ => False)) := Lib.hid (fun W h => by
          refine (rmdec_any A N C qq W h hnb).mono ?_
          rintro e w' ⟨a', c', he, hi, _, t⟩
          rw [hV, hX1, hZ2, hE9] at he
          rw [hZ2] at hi
          exact ⟨a', c', he, hi, t⟩)
        clear hV hX1 hZ2 hE9 hrz hnb ht
        have hb9 : ((E9 : Int) != E9) = false := bne_eq_false_iff_eq.2 rfl
        generalize ZZ.length = zl at *
        go_upto_region 14 with (first
          | (go_at_call 19; (with_reducible refine (K1.out _ RZ.out).mono ?_); rintro e w14 ⟨a14, c14, rfl, hi, t8⟩; simp only [mcs]; obtain ⟨v14, hv14⟩ : ∃ W, w14.alloc (.cells #[.int .i64 V, .int .i64 X1, .slice a14 zl c14] 24) = W := ⟨_, rfl⟩; have tA : Touch w14 v14 (fun _ => False) := hv14 ▸ (Touch.refl w14 (fun _ => False)).alloc _; have t9 := t8.trans tA (fun _ _ h => h); have RZ := Lib.hid (RZ.out.touch t9 (fun _ _ => .inr (fun h => h))); have HTT := Lib.hid (HTT.out.trans t9 (fun _ _ h => h)); have HX1 : RowKit.Hid (v14.heap[w14.heap.size]? = some (.cells #[.int .i64 V, .int .i64 X1, .slice a14 zl c14] 24 (0, 0))) := Lib.hid (hv14 ▸ heap_alloc_new w14 _); have RI1 := Lib.hid (hi.keep tA); clear t8 t9 tA hi)
          | (go_at_call 20; (with_reducible refine (K2.out _ RZ.out).mono ?_); rintro e w16 ⟨a16, c16, rfl, hi, t8⟩; simp only [mcs]; obtain ⟨v16, hv16⟩ : ∃ W, w16.alloc (.cells #[.int .i64 V, .int .i64 X1, .slice a16 zl c16] 24) = W := ⟨_, rfl⟩; have tA : Touch w16 v16 (fun _ => False) := hv16 ▸ (Touch.refl w16 (fun _ => False)).alloc _; have t9 := t8.trans tA (fun _ _ h => h); have HX1 := Lib.hid (t9.keeps HX1.out (fun h => h)); have RI1 := Lib.hid (RI1.out.keep t9); have HTT := Lib.hid (HTT.out.trans t9 (fun _ _ h => h)); have HX2 : RowKit.Hid (v16.heap[w16.heap.size]? = some (.cells #[.int .i64 V, .int .i64 X1, .slice a16 zl c16] 24 (0, 0))) := Lib.hid (hv16 ▸ heap_alloc_new w16 _); have RI2 := Lib.hid (hi.keep tA); clear t8 t9 tA hi))
        clear K1 K2
        have KS : RowKit.Hid (Calls Tryd.prog 16 #[.agg #[.int .i64 V, .int .i64 X1, .slice a14 zl c14], .agg #[.int .i64 V, .int .i64 X1, .slice a16 zl c16]] v16 fun e w' => e = .returned (.bool true) ∧ Touch v16 w' (fun _ => False)) := Lib.hid (by have h9 := rmsame_any V X1 a14 zl c14 ZZ V X1 a16 zl c16 ZZ v16 RI1.out RI2.out; rwa [show sameM V X1 ZZ V X1 ZZ = true from decide_eq_true ⟨rfl, rfl, rfl⟩] at h9)
        go_wp2_with (first
          | (refine load_rowH 24 (.tmp 19) rfl rfl w14.heap.size rfl _ _ _ _ HX1.out Tryd.underlying24 rfl HIM.out ?_)
          | (refine load_rowH 24 (.tmp 21) rfl rfl w16.heap.size rfl _ _ _ _ HX2.out Tryd.underlying24 rfl HIM.out ?_)
          | (go_at_call 16; (with_reducible refine KS.out.mono ?_); rintro e w27 ⟨rfl, t9⟩; have HTT := Lib.hid (HTT.out.trans t9 (fun _ _ h => h)); clear t9))
        exact ⟨⟨k + 1, by omega, by go_num, HTT.out⟩, by simp [intOf]; omega⟩
theorem manifestDecodes_holds : Rows.ManifestDecodesCardSaid := by
  refine manifestDecodes.said fun H enc W base v0 v1 v2 v3 v4 v5 d0 d1 d2 d3 d4 d5 p0 p1 p2 p3 p4 p5 h0 h1 h2 h3 h4 h5 hT hM => ?_
  obtain ⟨v, n, a, len, cap, zs, rfl, hr, _⟩ := h0.manD
  obtain ⟨k2, v2, a2, cap2, ys, rfl, hy, _⟩ := h1.aframe
  obtain ⟨am, m5, cm, ms, rfl, hm, _, _⟩ := h2.bytes Tryd.underlying25 Tryd.underlying5 (by kernel_rfl) (by kernel_rfl)
  obtain ⟨place, rfl, _⟩ := h3.i64 Tryd.underlying3
  obtain ⟨x, rfl, hx⟩ := h4.u8 Tryd.underlying5
  obtain ⟨cut, rfl, _⟩ := h5.i64 Tryd.underlying3
  by_cases hl : 200 < m5 ∨ (m5 ≤ 200 ∧ 300 < ys.length)
  · exact (mdecs_bad v n a len cap k2 v2 a2 cap2 ys am m5 cm place x cut W hT hl).mono fun e w' h => ⟨h.1, h.2.under (Nat.le_refl _)⟩
  · exact (mdecs_walk v n a len cap zs k2 v2 a2 cap2 ys am m5 cm ms place x cut W hr hy hm hx hT (by omega) (by omega)).mono fun e w' h => ⟨h.1, h.2.under (Nat.le_refl _)⟩
end Go.Proofs.YtibpnlhdpdfhiaaDoor
