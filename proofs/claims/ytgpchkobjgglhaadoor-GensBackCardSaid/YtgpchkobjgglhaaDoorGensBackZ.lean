/- GensBack holds: what is written is read, where it may be; sorted it may be, if its weights and numbers may; what may be is sorted already. No condition. -/
import Derived.Test.YtgpchkobjgglhaaDoorGnAwakeZ
import Derived.Test.YtgpchkobjgglhaaDoorFrGensBackZ
import Derived.Test.YtgpchkobjgglhaaDoorGCZ
import Derived.Test.YtgpchkobjgglhaaDoorHAZ
import Derived.Deep.DeepCutAuto
set_option linter.unusedVariables false
set_option linter.unusedSimpArgs false
namespace Go.Proofs.YtgpchkobjgglhaaDoor
open Go.ChangeShapes Go.WideShapes Go.ChangeAt Go.RowKit

theorem enter_gmay (a : Value) (w : World) : (callFunc 8 #[a]).run Tryd.prog w = .ok (.enter 8 #[a]) w := by kernel_rfl
theorem enter_gsort (a : Value) (w : World) : (callFunc 7 #[a]).run Tryd.prog w = .ok (.enter 7 #[a]) w := by kernel_rfl
theorem enter_gsame (a b : Value) (w : World) : (callFunc 9 #[a, b]).run Tryd.prog w = .ok (.enter 9 #[a, b]) w := by kernel_rfl
theorem geI_bool (a b : Int) (c : Bool) (h : decide (a ≥ b) = c) (x y : Operand) (W : World) :
    (do eqGuard BinOp.geq 3 x y (.int .i64 a) (.int .i64 b); binOp BinOp.geq 3 (.int .i64 a) (.int .i64 b) : Sem Value).run Tryd.prog W = .ok (.bool c) W := by
  subst h
  go_simp
theorem leI_bool (a b : Int) (c : Bool) (h : decide (a ≤ b) = c) (x y : Operand) (W : World) :
    (do eqGuard BinOp.leq 3 x y (.int .i64 a) (.int .i64 b); binOp BinOp.leq 3 (.int .i64 a) (.int .i64 b) : Sem Value).run Tryd.prog W = .ok (.bool c) W := by
  subst h
  go_simp
theorem mayK_dec (b : BkD) : mayKB b = decide ((0 ≤ b.id ∧ b.id ≤ 65535) ∧ 1 ≤ b.weight ∧ b.weight ≤ 10) := rfl
def fineF (bs : List BkD) : Bool := bs.all mayKB
theorem fineF_snoc (bs : List BkD) (b : BkD) : fineF (bs ++ [b]) = (fineF bs && mayKB b) := by unfold fineF; simp
set_option maxRecDepth 20000 in
set_option maxHeartbeats 16000000 in
theorem gback_walk (a : Option Addr) (cap : Nat) (bs : List BkD) (w : World) (hr : RowK w a bs.length cap bs) (hok : ∀ b ∈ bs, BkOk b) (hT : TabW w) (hE : ErrW w) (hM : MaxW w) :
    Calls Tryd.prog 3 #[.slice a bs.length cap] w fun e w' => e = .returned (.bool true) ∧ Touch w w' (fun _ => False) := by
  have HAW : RowKit.Hid (∀ W, Touch w W (fun _ => False) → Calls Tryd.prog 6 #[] W fun e w' => e = .returned (.bool true) ∧ Touch W w' (fun _ => False)) := Lib.hid (fun W t => awake13 W (hT.touch t) (hE.touch t) (hM.touch t))
  have HTB := Lib.hid hT
  have HER := Lib.hid hE
  have HMX := Lib.hid hM
  have HR := Lib.hid hr
  have HOK := Lib.hid hok
  have hcap1 := hr.hcap
  have hmax1 := hr.hmax
  have HBK : RowKit.Hid (∀ b ∈ bs, i64D b.id) := Lib.hid (fun b hb => (hok b hb).id)
  clear hT hE hM hr hok
  by_cases h60 : 60 < bs.length
  · have hzz : (60 : Int) < bs.length := by omega
    clear HR HBK HOK
    generalize bs.length = n at *
    go_enter Tryd.func3, Tryd.ntmps3
    go_wp2_with (go_at_call 6; (with_reducible refine (HAW.out _ (Touch.refl _ _)).mono ?_); rintro e w9 ⟨rfl, t9⟩)
    go_ret
    exact ⟨rfl, t9⟩
  have hzz : ¬ (60 : Int) < bs.length := by omega
  have h61 : bs.length ≤ 60 := by omega
  have HS1 := Lib.hid (gsort_any a bs.length cap bs w HR.out HBK.out)
  have HAD : RowKit.Hid (∀ x ∈ bs, adrOk x) := Lib.hid (fun x hx => (HOK.out x hx).addr)
  obtain ⟨n, hn⟩ : ∃ n, bs.length = n := ⟨_, rfl⟩
  have HN := Lib.hid hn
  rw [hn] at HR HS1 hcap1 h60 hzz h61 ⊢
  have hgl := gsort_len bs
  obtain ⟨m, hm⟩ : ∃ m, (gsortF bs).length = m := ⟨_, rfl⟩
  have HML := Lib.hid hm
  rw [hm] at HS1 hgl
  clear hn hm
  go_enter Tryd.func3, Tryd.ntmps3
  go_wp2_with fail
  refine HS1.out.mono ?_
  rintro e w2 ⟨sa, sc, rfl, o2, t2⟩
  have HT2 := Lib.hid t2
  have HRS := Lib.hid (OwnK.row o2).2.1
  have hmc := (OwnK.row o2).2.1.hcap
  have hmm := (OwnK.row o2).2.1.hmax
  clear o2 t2
  go_wp2_with fail
  go_loopw [4, 17] (fun s4 s17 wr => ∃ (k : Nat) (l : Bool), k ≤ n ∧ s17 = .int .i64 k ∧ s4 = .bool l ∧ l = fineF ((bs.take 16).take k) ∧ Touch w2 wr (fun _ => False)) (fun _ s17 _ => n - (RowKit.intOf s17).toNat)
  case atStart => exact ⟨0, true, Nat.zero_le _, rfl, rfl, rfl, Touch.refl _ _⟩
  case round =>
    obtain ⟨k, l, hk, rfl, rfl, hlv, ht⟩ := hrel
    have HLV := Lib.hid hlv
    have HT := Lib.hid ht
    clear hlv ht
    by_cases hlt : k < n
    case pos =>
      have hr := HR.out.still (HT2.out.trans HT.out (fun _ _ h => h))
      obtain ⟨b, off, rfl⟩ := hr.some (by omega)
      have hk1 : k < bs.length := by rw [HN.out]; exact hlt
      obtain ⟨c0, c1, c2⟩ := hr.cells k hk1
      have HSN : RowKit.Hid (k < 16 → fineF ((bs.take 16).take (k + 1)) = (fineF ((bs.take 16).take k) && mayKB bs[k])) := Lib.hid (fun h => by
        rw [List.take_take, List.take_take, Nat.min_eq_left (by omega), Nat.min_eq_left (by omega), List.take_succ_eq_append_getElem hk1, fineF_snoc])
      have HSO : RowKit.Hid (¬ k < 16 → fineF ((bs.take 16).take (k + 1)) = fineF ((bs.take 16).take k)) := Lib.hid (fun h => by
        have e : ∀ j, 16 ≤ j → (bs.take 16).take j = bs.take 16 := fun j hj => List.take_of_length_le (by rw [List.length_take]; omega)
        rw [e _ (by omega), e _ (by omega)])
      generalize bs[k] = f at *
      obtain ⟨W3, hW3⟩ : ∃ W, wr.alloc (.cells #[.int .i64 f.id, .int .u32 f.addr, .int .i64 f.weight] 27) = W := ⟨_, rfl⟩
      obtain ⟨KC, hKC⟩ : ∃ b, wr.heap.size = b := ⟨_, rfl⟩
      have t3 : Touch wr W3 (fun _ => False) := hW3 ▸ (Touch.refl wr _).alloc _
      have g3 : W3.heap[KC]? = some (.cells #[.int .i64 f.id, .int .u32 f.addr, .int .i64 f.weight] 27 (0, 0)) := hKC ▸ hW3 ▸ heap_alloc_new ..
      have HT3 := Lib.hid (HT.out.trans t3 (fun _ _ h => h))
      have HCB : RowKit.Hid (∀ W, Touch W3 W (fun _ => False) → W.cell? ⟨KC, 0, none⟩ = some (.int .i64 f.id) ∧ W.cell? ⟨KC, 2, none⟩ = some (.int .i64 f.weight)) := Lib.hid (fun W t => ⟨cell_of_cells (t.keeps g3 (fun h => h)) 0, cell_of_cells (t.keeps g3 (fun h => h)) 2⟩)
      have HW3 := Lib.hid (And.intro hW3 hKC)
      have hlI : (k : Int) < n := by omega
      clear hr t3 g3 hW3 hKC
      go_upto_region 8 with (fail)
      rw [HW3.out.1, HW3.out.2]
      clear c0 c1 c2
      obtain ⟨wz, hwz⟩ : ∃ W, W3 = W := ⟨_, rfl⟩
      rw [hwz] at HT3 HCB ⊢
      clear hwz
      have HEND : RowKit.Hid (∀ (l' : Bool) (wx : World), l' = fineF ((bs.take 16).take (k + 1)) → Touch wz wx (fun _ => False) → ∃ (k' : Nat) (l : Bool), k' ≤ n ∧ Value.int .i64 ((k : Int) + 1) = .int .i64 k' ∧ Value.bool l' = .bool l ∧ l = fineF ((bs.take 16).take k') ∧ Touch w2 wx (fun _ => False)) := Lib.hid (fun l' wx h t => ⟨k + 1, l', hlt, by go_num, rfl, h, HT3.out.trans t (fun _ _ h => h)⟩)
      by_cases hk16 : k < 16
      case neg =>
        have hkI : ¬ (k : Int) < 16 := by omega
        have HXX := Lib.hid (HEND.out l wz (by rw [HSO.out hk16]; exact HLV.out) (Touch.refl _ _))
        go_wp2_with fail
        exact ⟨HXX.out, by simp [RowKit.intOf]; omega⟩
      case pos =>
        have hkI : (k : Int) < 16 := by omega
        have HS' := HSN.out hk16
        rw [← HLV.out] at HS'
        cases l with
        | false =>
          have HX : RowKit.Hid (false = fineF ((bs.take 16).take (k + 1))) := Lib.hid (by rw [HS']; rfl)
          clear HS'
          go_wp2_with fail
          exact ⟨HEND.out _ _ HX.out (Touch.refl _ _), by simp [RowKit.intOf]; omega⟩
        | true =>
          obtain ⟨y0, y2⟩ := HCB.out wz (Touch.refl _ _)
          have HX : RowKit.Hid (mayKB f = fineF ((bs.take 16).take (k + 1))) := Lib.hid (by rw [HS', Bool.true_and])
          clear HS'
          have HXT : RowKit.Hid (((0 ≤ f.id ∧ f.id ≤ 65535) ∧ 1 ≤ f.weight ∧ f.weight ≤ 10) → true = fineF ((bs.take 16).take (k + 1))) := Lib.hid (fun h => by rw [← HX.out, mayK_dec]; exact (decide_eq_true h).symm)
          have HXF : RowKit.Hid (¬ ((0 ≤ f.id ∧ f.id ≤ 65535) ∧ 1 ≤ f.weight ∧ f.weight ≤ 10) → false = fineF ((bs.take 16).take (k + 1))) := Lib.hid (fun h => by rw [← HX.out, mayK_dec]; exact (decide_eq_false h).symm)
          by_cases h1 : 0 ≤ f.id <;> by_cases h2 : f.id ≤ 65535 <;> by_cases h3 : 1 ≤ f.weight <;> by_cases h4 : f.weight ≤ 10
          all_goals first
            | (exfalso; omega)
            | skip
          all_goals
            go_wp2_with fail
            first
              | exact ⟨HEND.out true _ (HXT.out ⟨⟨by assumption, by assumption⟩, by assumption, by assumption⟩) (Touch.refl _ _), by simp [RowKit.intOf]; omega⟩
              | exact ⟨HEND.out false _ (HXF.out (by omega)) (Touch.refl _ _), by simp [RowKit.intOf]; omega⟩
    case neg =>
      obtain rfl : k = n := by omega
      have hlI : ¬ (k : Int) < k := by omega
      have HL2 : RowKit.Hid (l = fineF (bs.take 16)) := Lib.hid (by
        have h := HLV.out
        rwa [List.take_of_length_le (by rw [List.length_take]; have := HN.out; omega)] at h)
      obtain ⟨gm, hgm⟩ : ∃ gm, gmay (gsortF bs) = gm := ⟨_, rfl⟩
      have HGF : RowKit.Hid (l = true → gm = true) := Lib.hid (fun h => by
        rw [← hgm]
        refine gsort_may (fun x hx => ?_)
        rw [HL2.out] at h
        exact List.all_eq_true.1 h x hx)
      have hrs := HRS.out.still HT.out
      have HMY : RowKit.Hid (∀ W, Touch wr W (fun _ => False) → Calls Tryd.prog 8 #[.slice sa m sc] W fun e w' => e = .returned (.bool gm) ∧ Touch W w' (fun _ => False)) := Lib.hid (fun W t => hgm ▸ gmay_any sa m sc (gsortF bs) W (hrs.still t))
      have HS2 : RowKit.Hid (∀ W, Touch wr W (fun _ => False) → Calls Tryd.prog 7 #[.slice sa m sc] W fun e w' => ∃ a' c', e = .returned (.slice a' m c') ∧ OwnK w' W.heap.size (.slice a' m c') (gsortF bs) ∧ Touch W w' (fun _ => False)) := Lib.hid (fun W t => by
        have h := gsort_any sa m sc (gsortF bs) W (hrs.still t) (fun x hx => HBK.out x (List.mem_of_mem_take (gsort_mem hx)))
        rw [gsort_self (gsort_up bs) (by have := HML.out; omega), HML.out] at h
        exact h)
      have HSM : RowKit.Hid (∀ W a2 c2, Touch wr W (fun _ => False) → RowK W a2 m c2 (gsortF bs) → Calls Tryd.prog 9 #[.slice a2 m c2, .slice sa m sc] W fun e w' => e = .returned (.bool true) ∧ Touch W w' (fun _ => False)) := Lib.hid (fun W a2 c2 t r => by
        have h := gsame_any a2 m c2 (gsortF bs) sa m sc (gsortF bs) W r (hrs.still t)
        rwa [(sameK_eq _ _).2 rfl] at h)
      have HTA := Lib.hid (HT2.out.trans HT.out (fun _ _ h => h))
      have hm16 : ¬ (16 : Int) < m := by omega
      have hm17 : m ≤ 16 := hgl
      clear hgm hrs
      obtain ⟨wy, hwy⟩ : ∃ W, wr = W := ⟨_, rfl⟩
      rw [hwy] at HMY HS2 HSM HTA HT ⊢
      clear hwy
      go_upto_region 11 with (fail)
      go_cut [63] (fun s wx => s = .bool false ∧ Touch wy wx (fun _ => False))
      case first =>
        cases l with
        | true =>
          rw [HGF.out rfl] at HMY
          go_wp2_with (first
            | (go_at_call 8; (with_reducible refine (HMY.out _ (Touch.refl _ _)).mono ?_); rintro e y1 ⟨rfl, u1⟩; have U1 := Lib.hid u1; clear u1)
            | (go_at_call 7; (with_reducible refine (HS2.out _ U1.out).mono ?_); rintro e y2 ⟨a9, c9, rfl, o9, u2⟩; have HR9 := Lib.hid (OwnK.row o9).2.1; have U2 := Lib.hid ((U1.out).trans u2 (fun _ _ h => h)); clear u2 o9)
            | (go_at_call 9; (with_reducible refine (HSM.out _ _ _ U2.out HR9.out).mono ?_); rintro e y3 ⟨rfl, u3⟩; have U3 := Lib.hid (U2.out.trans u3 (fun _ _ h => h)); clear u3))
          go_meet
          exact ⟨by first | rfl | simp [hm16], U3.out⟩
        | false =>
          go_wp2_with (first
            | (go_at_call 7; (with_reducible refine (HS2.out _ (Touch.refl wy (fun _ => False))).mono ?_); rintro e y2 ⟨a9, c9, rfl, o9, u2⟩; have HR9 := Lib.hid (OwnK.row o9).2.1; have U2 := Lib.hid ((Touch.refl wy (fun _ => False)).trans u2 (fun _ _ h => h)); clear u2 o9)
            | (go_at_call 9; (with_reducible refine (HSM.out _ _ _ U2.out HR9.out).mono ?_); rintro e y3 ⟨rfl, u3⟩; have U3 := Lib.hid (U2.out.trans u3 (fun _ _ h => h)); clear u3))
          go_meet
          exact ⟨by first | rfl | simp [hm16], U3.out⟩
      case rest =>
        obtain ⟨rfl, tx⟩ := hcut
        obtain ⟨wz, hwz⟩ : ∃ W, wc = W := ⟨_, rfl⟩
        rw [hwz] at tx ⊢
        have HTZ := Lib.hid (HTA.out.trans tx (fun _ _ h => h))
        have HRL : RowKit.Hid (∀ W, Touch wz W (fun _ => False) → RowK W a k cap bs) := Lib.hid (fun W t => HR.out.still (HTZ.out.trans t (fun _ _ h => h)))
        have HTX := Lib.hid (gtext_any a k cap bs wz (HRL.out wz (Touch.refl _ _)) HOK.out (by omega) (HTB.out.touch HTZ.out))
        have hbl := bksL_len bs HOK.out
        rw [HN.out] at hbl
        have HPR : RowKit.Hid (∀ W, Touch wz W (fun _ => False) → Calls Tryd.prog 10 #[.string (mkS (bksL bs))] W fun e w' => ParIs W w' (bksL bs) e ∧ Touch W w' (fun _ => False)) := Lib.hid (fun W t => gparse_any (bksL bs) W (by omega) (HTB.out.touch (HTZ.out.trans t (fun _ _ h => h))) (HER.out.touch (HTZ.out.trans t (fun _ _ h => h))) (HMX.out.touch (HTZ.out.trans t (fun _ _ h => h))))
        have HPB : RowKit.Hid (gparB (bksL bs) = gmay bs ∧ (gmay bs = true → gparL (bksL bs) = bs)) := Lib.hid (by
          cases h : gmay bs with
          | true => exact ⟨gparB_text h HAD.out, fun _ => gparL_text h HAD.out⟩
          | false => exact ⟨gparB_not h HAD.out, fun h => by cases h⟩)
        have HML2 : RowKit.Hid (gmay bs = true → gsortF bs = bs) := Lib.hid (fun h => gsort_self ((gmayK_iff bs).1 h).2.2 ((gmayK_iff bs).1 h).1)
        have HMB : RowKit.Hid (∀ W, Touch wz W (fun _ => False) → Calls Tryd.prog 8 #[.slice a k cap] W fun e w' => e = .returned (.bool (gmay bs)) ∧ Touch W w' (fun _ => False)) := Lib.hid (fun W t => gmay_any a k cap bs W (HRL.out W t))
        have HTW := Lib.hid tx
        clear tx hwz HMY HS2 HSM hbl
        generalize bksL bs = tl at *
        generalize mkS tl = ts at *
        go_wp2_with fail
        refine HTX.out.mono ?_
        rintro e x1 ⟨rfl, t1⟩
        have X1 := Lib.hid t1
        clear t1
        go_wp2_with fail
        refine (HPR.out _ X1.out).mono ?_
        rintro e x2 ⟨hp, t2⟩
        have X2 := Lib.hid (X1.out.trans t2 (fun _ _ h => h))
        rcases hp with ⟨hb, a2, c2, rfl, ho⟩ | ⟨hb, rfl⟩
        · rw [HPB.out.1] at hb
          rw [hb] at HMB
          have hgl9 := HPB.out.2 hb
          rw [hgl9] at ho ⊢
          have hse := HML2.out hb
          have hrow2 := (OwnK.row ho).2.1
          have hll : bs.length = k := HN.out
          have hmk : m = k := by have := HML.out; rw [hse] at this; omega
          subst hmk
          rw [hll] at hrow2 ⊢
          have HSA : RowKit.Hid (∀ W, Touch x2 W (fun _ => False) → Calls Tryd.prog 9 #[.slice a m cap, .slice a2 m c2] W fun e w' => e = .returned (.bool true) ∧ Touch W w' (fun _ => False)) := Lib.hid (fun W t => by
            have h := gsame_any a m cap bs a2 m c2 bs W (HRL.out W (X2.out.trans t (fun _ _ h => h))) (hrow2.still t)
            rwa [(sameK_eq _ _).2 rfl] at h)
          have HSB : RowKit.Hid (∀ W, Touch x2 W (fun _ => False) → Calls Tryd.prog 9 #[.slice a m cap, .slice sa m sc] W fun e w' => e = .returned (.bool true) ∧ Touch W w' (fun _ => False)) := Lib.hid (fun W t => by
            have hr9 := HRS.out
            rw [hse] at hr9
            have h := gsame_any a m cap bs sa m sc bs W (HRL.out W (X2.out.trans t (fun _ _ h => h))) (hr9.still (HT.out.trans (HTW.out.trans (X2.out.trans t (fun _ _ h => h)) (fun _ _ h => h)) (fun _ _ h => h)))
            rwa [(sameK_eq _ _).2 rfl] at h)
          clear hb hgl9 ho hse hrow2 hll t2
          go_wp2_with (first
            | (go_at_call 8; (with_reducible refine (HMB.out _ X2.out).mono ?_); rintro e x3 ⟨rfl, t3⟩; have X3 := Lib.hid t3; clear t3)
            | (go_at_call 9; (with_reducible refine (HSA.out _ X3.out).mono ?_); rintro e x4 ⟨rfl, t4⟩; have X4 := Lib.hid (X3.out.trans t4 (fun _ _ h => h)); clear t4)
            | (go_at_call 9; (with_reducible refine (HSB.out _ X4.out).mono ?_); rintro e x5 ⟨rfl, t5⟩; have X5 := Lib.hid (X4.out.trans t5 (fun _ _ h => h)); clear t5)
            | (go_at_call 6; (with_reducible refine (HAW.out _ (HTZ.out.trans (X2.out.trans X5.out (fun _ _ h => h)) (fun _ _ h => h))).mono ?_); rintro e x6 ⟨rfl, t6⟩))
          go_ret
          exact ⟨rfl, (HTZ.out.trans (X2.out.trans X5.out (fun _ _ h => h)) (fun _ _ h => h)).trans t6 (fun _ _ h => h)⟩
        · rw [HPB.out.1] at hb
          rw [hb] at HMB
          clear hb t2
          go_wp2_with (first
            | (go_at_call 8; (with_reducible refine (HMB.out _ X2.out).mono ?_); rintro e x3 ⟨rfl, t3⟩; have X3 := Lib.hid t3; clear t3)
            | (go_at_call 6; (with_reducible refine (HAW.out _ (HTZ.out.trans (X2.out.trans X3.out (fun _ _ h => h)) (fun _ _ h => h))).mono ?_); rintro e x6 ⟨rfl, t6⟩))
          go_ret
          exact ⟨rfl, (HTZ.out.trans (X2.out.trans X3.out (fun _ _ h => h)) (fun _ _ h => h)).trans t6 (fun _ _ h => h)⟩
set_option maxRecDepth 20000 in
theorem gensBack_holds : Rows.GensBackCardSaid := by
  refine gensBack.said fun H enc W base v0 d0 p0 h0 hT hE hM => ?_
  obtain ⟨a, cap, bs, hv, hr, hok⟩ := h0.tr.backs
  obtain ⟨a', len', cap', rfl⟩ := okWide_slice Tryd.underlying22 h0.ok
  simp only [Value.cells, List.cons.injEq, Value.slice.injEq, and_true] at hv
  obtain ⟨rfl, rfl, rfl⟩ := hv
  exact (gback_walk a' cap' bs W hr hok hT hE hM).mono fun e w' h => ⟨h.1, h.2.below (fun _ _ h => h.elim) (Nat.le_refl _)⟩
end Go.Proofs.YtgpchkobjgglhaaDoor
