/- ManifestBack: what is written is read as it was; with one byte changed, or less, it is none. -/
import Derived.Test.YtibpnlhdpdfhiaaDoorFrManifestBackZ
import Derived.Test.YtibpnlhdpdfhiaaDoorManAwakeZ
import Derived.Test.YtibpnlhdpdfhiaaDoorManBackMZ
import Derived.Test.YtibpnlhdpdfhiaaDoorManArgsZ
import Derived.Test.YtibpnlhdpdfhiaaDoorGAZ
import Derived.Laws.BitsAllLaws
set_option linter.unusedVariables false
set_option linter.unusedSimpArgs false
namespace Go.Proofs.YtibpnlhdpdfhiaaDoor
open Go.ChangeShapes Go.WideShapes Go.ChangeAt Go.RowKit

theorem encM_pos (v n : Int) (zs : List Int) (h : mayM v n zs = true) : 0 < (encM v n zs).length ∧ (encM v n zs).length ≤ 278 := by
  obtain ⟨_, _, h3, _⟩ := (mayM_iff v n zs).1 h
  unfold encM
  rw [if_pos h, frmF_length, bodyM_length]; omega
theorem rowB_take {w : World} {a : Option Addr} {len cap : Nat} {xs : List Nat} (h : RowB w a len cap xs) (n : Nat) (hn : n ≤ len) : RowB w a n cap (xs.take n) := by
  obtain ⟨r1, r2, r3, r4, r5, r6⟩ := h
  refine ⟨by rw [List.length_take]; omega, by omega, r3, by omega, fun y hy => r5 y (List.mem_of_mem_take hy), ?_⟩
  rcases r6 with h | ⟨b, off, ha, hc⟩
  · exact .inl (by omega)
  · exact .inr ⟨b, off, ha, fun i hi => by rw [List.getElem_take]; exact hc i (by rw [List.length_take] at hi; omega)⟩
set_option maxRecDepth 20000 in
set_option maxHeartbeats 16000000 in
theorem mback_walk (v n : Int) (a : Option Addr) (len cap : Nat) (zs : List Int) (at_ : Int) (x : Nat) (seg : Int) (w : World) (hr : RowI w a len cap zs) (hx8 : x < 256) (hT : TabW w) (hE : ErrW w) :
    Calls Tryd.prog 6 #[.agg #[.int .i64 v, .int .i64 n, .slice a len cap], .int .i64 at_, .int .u8 (x : Nat), .int .i64 seg] w fun e w' => e = .returned (.bool true) ∧ Touch w w' (fun _ => False) := by
  obtain ⟨W1, hW1⟩ : ∃ W, w.alloc (.cells #[.int .i64 v, .int .i64 n, .slice a len cap] 24) = W := ⟨_, rfl⟩
  have t1 : Touch w W1 (fun _ => False) := hW1 ▸ (Touch.refl _ _).alloc _
  have hg : W1.heap[w.heap.size]? = some (.cells #[.int .i64 v, .int .i64 n, .slice a len cap] 24 (0, 0)) := hW1 ▸ heap_alloc_new w _
  have HT0 := Lib.hid t1
  have HR := Lib.hid (hr.keep t1)
  have HTB := Lib.hid (hT.touch t1)
  have HEB := Lib.hid (hE.touch t1)
  have HIM := Lib.hid infoMan
  have HG := Lib.hid hg
  have HE := Lib.hid (menc_any v n a len cap zs W1 HR.out)
  have HAW : RowKit.Hid (∀ W, Touch W1 W (fun _ => False) → Calls Tryd.prog 17 #[] W fun e w' => e = .returned (.bool true) ∧ Touch W1 w' (fun _ => False)) := Lib.hid (fun W h => (awake5 W (HTB.out.touch h)).mono fun e w' k => ⟨k.1, h.trans k.2 (fun _ _ h => h)⟩)
  have HW1 := Lib.hid hW1
  clear hr t1 hg hT hE hW1
  cases hm : mayM v n zs with
  | false =>
    have e1 : encM v n zs = [] := by unfold encM; rw [hm]; rfl
    have e2 : encE v n zs = 1 := by unfold encE; rw [hm]; rfl
    unfold EncMIs at HE
    rw [e1, e2] at HE
    simp only [List.length_nil] at HE
    clear e1 e2 hm
    go_enter Tryd.func6, Tryd.ntmps6
    go_upto_region 1 with (fail)
    rw [HW1.out]
    go_wp2_with (first
      | (refine load_rowH 24 (.tmp 4) rfl rfl w.heap.size rfl _ _ _ _ HG.out Tryd.underlying24 rfl HIM.out ?_)
      | (go_at_call 11; (with_reducible refine HE.out.mono ?_); rintro e w3 ⟨a3, c3, rfl, hf3⟩; have T3 := Lib.hid hf3.2; clear hf3)
      | (go_at_call 17; (with_reducible refine (HAW.out _ T3.out).mono ?_); rintro e w4 ⟨rfl, t4⟩))
    go_ret
    exact ⟨rfl, HT0.out.trans t4 (fun _ _ h => h)⟩
  | true =>
  have hml := encM_pos v n zs hm
  obtain ⟨d1, d2, d3, d4⟩ := dec_encM v n zs hm
  have HCH := Lib.hid (man_changed v n zs hm)
  have HCU := Lib.hid (man_cut v n zs hm)
  have HMA : RowKit.Hid (∀ (a' : Option Addr) (c' : Nat) W, RowI W a' len c' zs → Calls Tryd.prog 13 #[.agg #[.int .i64 v, .int .i64 n, .slice a' len c']] W fun e w' => e = .returned (.bool true) ∧ Touch W w' (fun _ => False)) := Lib.hid (fun a' c' W h => hm ▸ mmay_any v n a' len c' zs W h)
  have HSA : RowKit.Hid (∀ (a' : Option Addr) (c' : Nat) W, RowI W a len cap zs → RowI W a' len c' zs → Calls Tryd.prog 15 #[.agg #[.int .i64 v, .int .i64 n, .slice a len cap], .agg #[.int .i64 v, .int .i64 n, .slice a' len c']] W fun e w' => e = .returned (.bool true) ∧ Touch W w' (fun _ => False)) := Lib.hid (fun a' c' W h h2 => by
    have h9 := msame_any v n a len cap zs v n a' len c' zs W h h2
    rwa [show sameM v n zs v n zs = true from decide_eq_true ⟨rfl, rfl, rfl⟩] at h9)
  have e2 : encE v n zs = 0 := by unfold encE; rw [hm]; rfl
  obtain ⟨L, hL⟩ : ∃ L, (encM v n zs).length = L := ⟨_, rfl⟩
  obtain ⟨Y, hY⟩ : ∃ Y, encM v n zs = Y := ⟨_, rfl⟩
  unfold EncMIs at HE
  have hzl := HR.out.1
  rw [e2, hL, hY] at HE
  rw [hL] at hml
  rw [hY] at d1 d2 d3 d4 HCH HCU hL
  have HLY := Lib.hid hL
  have HD : RowKit.Hid (∀ a' c' W, RowB W a' L c' Y → Calls Tryd.prog 19 #[.slice a' L c'] W fun e w' => ∃ a9 c9, e = .returned (.tuple #[.agg #[.int .i64 v, .int .i64 n, .slice a9 len c9], .int .i64 0]) ∧ RowI w' a9 len c9 zs ∧ Touch W w' (fun _ => False)) := Lib.hid (fun a' c' W h => by
    refine (mdec_any a' L c' Y W h (by omega)).mono ?_
    rintro e w' ⟨a9, c9, he, hi, _, t⟩
    rw [d1, d2, d3, d4, hzl] at he
    rw [d4, hzl] at hi
    exact ⟨a9, c9, he, hi, t⟩)
  have HDB : RowKit.Hid (∀ a' c' N (qq : List Nat) W, RowB W a' N c' qq → N ≤ 300 → dmE qq ≠ 0 → Calls Tryd.prog 19 #[.slice a' N c'] W fun e w' => ∃ a9 c9 E9, e = .returned (.tuple #[.agg #[.int .i64 0, .int .i64 0, .slice a9 0 c9], .int .i64 (E9 : Nat)]) ∧ E9 ≠ 0 ∧ Touch W w' (fun _ => False)) := Lib.hid (fun a' c' N qq W h hn hne => by
    refine (mdec_any a' N c' qq W h (by omega)).mono ?_
    rintro e w' ⟨a9, c9, he, hi, _, t⟩
    have f1 : dmV qq = 0 := by unfold dmV; rw [if_neg hne]
    have f2 : dmN qq = 0 := by unfold dmN; rw [if_neg hne]
    have f3 : dmZ qq = [] := by unfold dmZ; rw [if_neg hne]
    rw [f1, f2, f3] at he
    exact ⟨a9, c9, dmE qq, he, hne, t⟩)
  clear e2 hY d1 d2 d3 d4 hm hL hzl
  -- the place, the segment
  obtain ⟨j, hj⟩ : ∃ j, u64N at_ % L = j := ⟨_, rfl⟩
  have hL0 : 0 < L := hml.1
  have hjl : j < L := by rw [← hj]; exact Nat.mod_lt _ hL0
  have hmod : ((u64N at_ : Nat) : Int).tmod (L : Int) = (j : Nat) := by
    rw [Int.tmod_eq_emod_of_nonneg (by omega), ← hj]; rfl
  have hw := u64N_wrap at_
  have hul := u64N_lt at_
  obtain ⟨sg, hsg⟩ : ∃ s, u64N seg % 999999 = s := ⟨_, rfl⟩
  have hs1 : sg < 999999 := by rw [← hsg]; exact Nat.mod_lt _ (by omega)
  have hmods : ((u64N seg : Nat) : Int).tmod 999999 = (sg : Nat) := by
    rw [Int.tmod_eq_emod_of_nonneg (by omega), ← hsg]; rfl
  have hws := u64N_wrap seg
  have huls := u64N_lt seg
  have HNA : RowKit.Hid (∀ W, Touch W1 W (fun _ => False) → Calls Tryd.prog 23 #[.int .i64 ((sg : Int) + 1)] W fun e w' => e = .returned (.string (mkS (nameM ((sg : Int) + 1)))) ∧ Touch W1 w' (fun _ => False)) := Lib.hid (fun W h => (mname_any _ W (by omega) (by omega) (HTB.out.touch h)).mono fun e w' k => ⟨k.1, h.trans k.2 (fun _ _ h => h)⟩)
  have hsn := seg_name ((sg : Int) + 1) (by omega) (by omega)
  have hnl : (nameM ((sg : Int) + 1)).length ≤ 7 := by
    have h9 := hsn.1
    unfold segB at h9
    simp only [Bool.and_eq_true, decide_eq_true_eq] at h9
    omega
  have HNU : RowKit.Hid (∀ W, Touch W1 W (fun _ => False) → Calls Tryd.prog 21 #[.string (mkS (nameM ((sg : Int) + 1)))] W fun e w' => e = .returned (.tuple #[.int .i64 ((sg : Int) + 1), .bool true]) ∧ Touch W1 w' (fun _ => False)) := Lib.hid (fun W h => by
    have h9 := mnum_any (nameM ((sg : Int) + 1)) W (by omega) (HTB.out.touch h) (HEB.out.touch h)
    rw [hsn.1, hsn.2] at h9
    exact h9.mono fun e w' k => ⟨k.1, h.trans k.2 (fun _ _ h => h)⟩)
  have hbs : (((sg : Int) + 1) == ((sg : Int) + 1)) = true := beq_self_eq_true _
  generalize mkS (nameM ((sg : Int) + 1)) = st at *
  clear hsn hnl hsg hj
  have hlb : L ≤ 278 := hml.2
  clear hml
  go_enter Tryd.func6, Tryd.ntmps6
  go_upto_region 1 with (fail)
  rw [HW1.out]
  go_upto_region 5 with (first
    | (refine load_rowH 24 (.tmp 4) rfl rfl w.heap.size rfl _ _ _ _ HG.out Tryd.underlying24 rfl HIM.out ?_)
    | (go_at_call 11; (with_reducible refine HE.out.mono ?_); rintro e w3 ⟨a3, c3, rfl, hf3⟩; have T3 := Lib.hid hf3.2; have HR3 := Lib.hid hf3.row'.2; clear hf3)
    | (go_at_call 19; (with_reducible refine (HD.out _ _ _ HR3.out).mono ?_); rintro e w4 ⟨a4, c4, rfl, hi4, t4⟩; have T4 := Lib.hid (T3.out.trans t4 (fun _ _ h => h)); have HR3 := Lib.hid (HR3.out.touch t4 (fun _ _ => .inr (fun h => h))); have RI4 := Lib.hid hi4; clear t4 hi4))
  obtain ⟨W5, hW5⟩ : ∃ W, w4.alloc (.cells #[.int .i64 v, .int .i64 n, .slice a4 len c4] 24) = W := ⟨_, rfl⟩
  have t5 : Touch w4 W5 (fun _ => False) := hW5 ▸ (Touch.refl _ _).alloc _
  have HX5 : RowKit.Hid (W5.heap[w4.heap.size]? = some (.cells #[.int .i64 v, .int .i64 n, .slice a4 len c4] 24 (0, 0))) := Lib.hid (hW5 ▸ heap_alloc_new w4 _)
  have HT5 := Lib.hid (T4.out.trans t5 (fun _ _ h => h))
  have HR3 := Lib.hid (HR3.out.touch t5 (fun _ _ => .inr (fun h => h)))
  have RI4 := Lib.hid (RI4.out.keep t5)
  have HG := Lib.hid (HT5.out.keeps HG.out (fun h => h))
  have RI0 := Lib.hid (HR.out.keep HT5.out)
  rw [hW5]
  clear t5 hW5 HE HD
  go_upto_region 7 with (first
    | (refine load_rowH 24 (.tmp 4) rfl rfl w.heap.size rfl _ _ _ _ HG.out Tryd.underlying24 rfl HIM.out ?_)
    | (refine load_rowH 24 (.tmp 11) rfl rfl w4.heap.size rfl _ _ _ _ HX5.out Tryd.underlying24 rfl HIM.out ?_)
    | (go_at_call 15; (with_reducible refine (HSA.out _ _ _ RI0.out RI4.out).mono ?_); rintro e w6 ⟨rfl, t6⟩; have HX5 := Lib.hid (t6.keeps HX5.out (fun h => h)); have HT6 := Lib.hid (HT5.out.trans t6 (fun _ _ h => h)); have RI4 := Lib.hid (RI4.out.keep t6); have HR3 := Lib.hid (HR3.out.touch t6 (fun _ _ => .inr (fun h => h))); clear t6)
    | (go_at_call 13; (with_reducible refine (HMA.out _ _ _ RI4.out).mono ?_); rintro e w7 ⟨rfl, t7⟩; have HT7 := Lib.hid (HT6.out.trans t7 (fun _ _ h => h)); have HR3 := Lib.hid (HR3.out.touch t7 (fun _ _ => .inr (fun h => h))); clear t7))
  clear HX5 HG RI4 RI0 HSA HMA
  have hcap := HR3.out.2.1
  have hcapm := HR3.out.2.2.1
  have hjI : (j : Int) ≤ c3 := by omega
  have hjL : (j : Int) < L := by omega
  obtain ⟨b3, o3, rfl⟩ := HR3.out.some (by omega)
  have HDC : RowKit.Hid (∀ W, Touch w7 W (fun _ => False) → Calls Tryd.prog 19 #[.slice (some ⟨b3, o3, none⟩) j c3] W fun e w' => ∃ a9 c9 E9, e = .returned (.tuple #[.agg #[.int .i64 0, .int .i64 0, .slice a9 0 c9], .int .i64 (E9 : Nat)]) ∧ E9 ≠ 0 ∧ Touch W w' (fun _ => False)) := Lib.hid (fun W h => HDB.out _ _ _ (Y.take j) W (rowB_take (HR3.out.touch h (fun _ _ => .inr (fun h => h))) j (by omega)) (by omega) (HCU.out j (by rw [HLY.out]; exact hjl)))
  by_cases hx0 : x = 0
  · subst hx0
    have hbx : (((0 : Nat) : Int) != 0) = false := rfl
    have HX9 := Lib.hid (Touch.refl w7 (fun _ => False))
    go_upto_region 14 with (first
      | (go_at_call 19; (with_reducible refine (HDC.out _ HX9.out).mono ?_); rintro e w10 ⟨a10, c10, E10, rfl, hE10, t10⟩; have HE10 := Lib.hid hE10; have hbe : ((E10 : Int) != 0) = true := bne_iff_ne.2 (by omega); clear hE10; have HTA := Lib.hid ((HT7.out.trans HX9.out (fun _ _ h => h)).trans t10 (fun _ _ h => h)); clear t10))
    obtain ⟨WA, hWA⟩ : ∃ W, w10.alloc (.cells #[.int .i64 0, .int .i64 0, .slice a10 0 c10] 24) = W := ⟨_, rfl⟩
    have HTA := Lib.hid (HTA.out.trans (hWA ▸ (Touch.refl w10 _).alloc _ : Touch w10 WA (fun _ => False)) (fun _ _ h => h))
    rw [hWA]
    clear hWA
    go_wp2_with (first
      | (go_at_call 23; (with_reducible refine (HNA.out _ HTA.out).mono ?_); rintro e w11 ⟨rfl, t11⟩; have HTN := Lib.hid t11; clear t11)
      | (go_at_call 21; (with_reducible refine (HNU.out _ HTN.out).mono ?_); rintro e w12 ⟨rfl, t12⟩; have HTU := Lib.hid t12; clear t12)
      | (go_at_call 17; (with_reducible refine (HAW.out _ HTU.out).mono ?_); rintro e w13 ⟨rfl, t13⟩; have HTV := Lib.hid t13; clear t13))
    go_ret
    exact ⟨rfl, HT0.out.trans HTV.out (fun _ _ h => h)⟩
  · have hbx : ((x : Int) != 0) = true := bne_iff_ne.2 (by omega)
    have hw1 : (w7.alloc (.cells #[] 5)).heap.size = w7.heap.size + 1 := by simp
    have HR3b := Lib.hid (HR3.out.touch ((Touch.refl w7 (fun _ => False)).alloc (.cells #[] 5)) (fun _ _ => .inr (fun h => h)))
    have HOW : RowKit.Hid (OwnB (w7.alloc (.cells #[] 5)) w7.heap.size 5 (.slice (some ⟨w7.heap.size, 0, none⟩) 0 0) []) := Lib.hid (OwnB.lit w7 _ rfl _ (Nat.le_refl _) _ _ _ _ rfl rfl (by decide) (by decide))
    have HBW : RowKit.Hid (Below w7.heap.size w7 (w7.alloc (.cells #[] 5))) := Lib.hid ((Below.refl _ _).alloc (Nat.le_refl _) _)
    go_upto_region 9 with (at_builtin; refine wpList_appendB rfl _ _ 25 rfl 5 Tryd.underlying25 infoB w7.heap.size _ [] rfl HOW.out _ _ _ Y rfl HR3b.out L Y rfl HLY.out (by omega) (by simp) w7.heap.size w7 HBW.out (Nat.le_refl _) ?_; intro a8 c8 w8 hown8 hrow8 hg8 hb8 hs8 hp8 hk8; have HO8 := Lib.hid hown8; have HX8 : RowKit.Hid (Touch w7 w8 (fun _ => False)) := Lib.hid (touch_under hb8); clear hown8 hrow8 hg8 hb8 hs8 hp8 hk8)
    obtain ⟨a9, c9, hv9, hr9, hp9⟩ := HO8.out.row
    rw [HLY.out] at hv9 hr9
    simp only [Value.slice.injEq, true_and] at hv9
    obtain ⟨rfl, rfl⟩ := hv9
    obtain ⟨b6, o6, rfl⟩ := hr9.some (by omega)
    obtain hp9 | ⟨g, hp9, hg1, hg2⟩ := hp9
    · cases hp9
    simp only [Option.some.injEq, Addr.mk.injEq] at hp9
    obtain ⟨rfl, rfl, -⟩ := hp9
    have hjy : j < Y.length := by rw [HLY.out]; exact hjl
    have cj := HO8.out.at HLY.out j hjl hjy
    have fj := HO8.out.free HLY.out j
    have hyb : Y[j] < 256 := HO8.out.small _ (List.getElem_mem hjy)
    have hxor := u8_xor_nat Y[j] x hyb hx8
    have hy2 : Y[j] ^^^ x < 256 := Nat.xor_lt_two_pow (n := 8) hyb hx8
    have ho14 := HO8.out.stored HLY.out j _ hy2
    have HBD := Lib.hid (HCH.out j x hjy hx8 hx0)
    rw [← hxor] at ho14
    have hl15 : (Y.set j (Y[j] ^^^ x)).length = L := by rw [List.length_set]; exact HLY.out
    obtain ⟨a15, c15, hv15, hr15, -⟩ := ho14.row
    rw [hl15] at hv15 hr15
    simp only [Value.slice.injEq, true_and] at hv15
    obtain ⟨rfl, rfl⟩ := hv15
    have HX9 := Lib.hid (HX8.out.setCell ⟨b6, j, none⟩ (.int .u8 (bits BinOp.xor IntKind.u8 (Y[j] : Int) (x : Int))) (fun hh => by have h9 : b6 < w7.heap.size := hh; omega))
    have HD9 := Lib.hid (HDB.out _ _ _ _ _ hr15 (by omega) HBD.out)
    clear hxor ho14 hy2 hr9 hr15 hg1 hg2 hl15 HOW HBW HR3b hw1
    go_upto_region 10 with (fail)
    generalize bits BinOp.xor IntKind.u8 (Y[j] : Int) (x : Int) = bx at *
    clear cj fj
    go_upto_region 11 with (go_at_call 19; (with_reducible refine HD9.out.mono ?_); rintro e w9 ⟨a19, c19, E19, rfl, hE19, t9⟩; have HX9 := Lib.hid (HX9.out.trans t9 (fun _ _ h => h)); have HE19 := Lib.hid hE19; have hbe9 : ((E19 : Int) == 0) = false := beq_eq_false_iff_ne.2 (by omega); clear hE19 t9)
    obtain ⟨WB, hWB⟩ : ∃ W, w9.alloc (.cells #[.int .i64 0, .int .i64 0, .slice a19 0 c19] 24) = W := ⟨_, rfl⟩
    have HX9 := Lib.hid (HX9.out.trans (hWB ▸ (Touch.refl w9 _).alloc _ : Touch w9 WB (fun _ => False)) (fun _ _ h => h))
    rw [hWB]
    clear hWB HD9
    go_upto_region 14 with (first
      | (go_at_call 19; (with_reducible refine (HDC.out _ HX9.out).mono ?_); rintro e w10 ⟨a10, c10, E10, rfl, hE10, t10⟩; have HE10 := Lib.hid hE10; have hbe : ((E10 : Int) != 0) = true := bne_iff_ne.2 (by omega); clear hE10; have HTA := Lib.hid ((HT7.out.trans HX9.out (fun _ _ h => h)).trans t10 (fun _ _ h => h)); clear t10))
    obtain ⟨WA, hWA⟩ : ∃ W, w10.alloc (.cells #[.int .i64 0, .int .i64 0, .slice a10 0 c10] 24) = W := ⟨_, rfl⟩
    have HTA := Lib.hid (HTA.out.trans (hWA ▸ (Touch.refl w10 _).alloc _ : Touch w10 WA (fun _ => False)) (fun _ _ h => h))
    rw [hWA]
    clear hWA
    go_wp2_with (first
      | (go_at_call 23; (with_reducible refine (HNA.out _ HTA.out).mono ?_); rintro e w11 ⟨rfl, t11⟩; have HTN := Lib.hid t11; clear t11)
      | (go_at_call 21; (with_reducible refine (HNU.out _ HTN.out).mono ?_); rintro e w12 ⟨rfl, t12⟩; have HTU := Lib.hid t12; clear t12)
      | (go_at_call 17; (with_reducible refine (HAW.out _ HTU.out).mono ?_); rintro e w13 ⟨rfl, t13⟩; have HTV := Lib.hid t13; clear t13))
    go_ret
    exact ⟨rfl, HT0.out.trans HTV.out (fun _ _ h => h)⟩
theorem manifestBack_holds : Rows.ManifestBackCardSaid := by
  refine manifestBack.said fun H enc W base v0 v1 v2 v3 d0 d1 d2 d3 p0 p1 p2 p3 h0 h1 h2 h3 hT hE hM => ?_
  obtain ⟨v, n, a, len, cap, zs, rfl, hr, _⟩ := h0.manD
  obtain ⟨place, rfl, _⟩ := h1.i64 Tryd.underlying3
  obtain ⟨x, rfl, hx⟩ := h2.u8 Tryd.underlying5
  obtain ⟨seg, rfl, _⟩ := h3.i64 Tryd.underlying3
  exact (mback_walk v n a len cap zs place x seg W hr hx hT hE).mono fun e w' h => ⟨h.1, h.2.under (Nat.le_refl _)⟩
end Go.Proofs.YtibpnlhdpdfhiaaDoor
