/- GensFinds holds: each of a sorted set is found, the last of its number; who is out is not among the others, who is not stays. No condition. -/
import Derived.Test.YtgpchkobjgglhaaDoorGnAwakeZ
import Derived.Test.YtgpchkobjgglhaaDoorFrGensFindsZ
import Derived.Test.YtgpchkobjgglhaaDoorGCZ
import Derived.Test.YtgpchkobjgglhaaDoorHCZ
import Derived.Test.YtgpchkobjgglhaaDoorHAZ
import Derived.Deep.DeepCutAuto
set_option linter.unusedVariables false
set_option linter.unusedSimpArgs false
namespace Go.Proofs.YtgpchkobjgglhaaDoor
open Go.ChangeShapes Go.WideShapes Go.ChangeAt Go.RowKit

theorem neI_bool (a b : Int) (c : Bool) (h : (a != b) = c) (x y : Operand) (W : World) :
    (do eqGuard BinOp.neq 3 x y (.int .i64 a) (.int .i64 b); binOp BinOp.neq 3 (.int .i64 a) (.int .i64 b) : Sem Value).run Tryd.prog W = .ok (.bool c) W := by
  subst h
  go_simp
theorem neBk_same (a b c : Int) (x y : Operand) (W : World) :
    (do eqGuard BinOp.neq 27 x y (.agg #[.int .i64 a, .int .u32 b, .int .i64 c]) (.agg #[.int .i64 a, .int .u32 b, .int .i64 c]); binOp BinOp.neq 27 (.agg #[.int .i64 a, .int .u32 b, .int .i64 c]) (.agg #[.int .i64 a, .int .u32 b, .int .i64 c]) : Sem Value).run Tryd.prog W = .ok (.bool false) W := by
  go_simp
theorem rowK_rest {w : World} {g off n c : Nat} {bs : List BkD} (h : RowK w (some ⟨g, off, none⟩) n c bs) (i : Nat) (hi : i ≤ n) : RowK w (if c = i then some ⟨g, off, none⟩ else some ⟨g, off + i * 3, none⟩) (n - i) (c - i) (bs.drop i) := by
  have hl := h.len
  have hc1 := h.hcap
  have hc2 := h.hmax
  by_cases hci : c = i
  · rw [if_pos hci]
    have e : n - i = 0 := by omega
    have hd : bs.drop i = [] := List.drop_eq_nil_of_le (by omega)
    rw [e, hd]
    exact RowS.nil _ _ _ _ (by omega)
  · rw [if_neg hci]
    refine ⟨by simp; omega, by omega, by omega, fun x hx => by obtain ⟨b, _, rfl⟩ := List.mem_map.1 hx; rfl, ?_⟩
    rcases h.at_ with h0 | ⟨b, o, e, hlt, hc⟩
    · exact .inl (by omega)
    · injection e with e
      injection e with e1 e2
      subst e1; subst e2
      refine .inr ⟨g, off + i * 3, rfl, hlt, fun j hj m u hu => ?_⟩
      have hj2 : j < (bs.drop i).length := by simpa using hj
      rw [List.length_drop] at hj2
      have := hc (i + j) (by simp; omega) m u (by
        rw [List.getElem_map] at hu ⊢
        rw [List.getElem_drop] at hu
        exact hu)
      rw [show off + i * 3 + j * 3 + m = off + (i + j) * 3 + m by omega]
      exact this
set_option maxRecDepth 20000 in
theorem fclo_any (g : Nat) (o id : Int) (w : World) (hg : w.cell? ⟨g, 0, none⟩ = some (.int .i64 o)) :
    Calls Tryd.prog 14 #[.int .i64 id, .pointer (some ⟨g, 0, none⟩)] w fun e w' => e = .returned (.bool (id == o)) ∧ w = w' := by
  go_enter Tryd.func14, Tryd.ntmps14
  go_wp2
  go_ret
  exact ⟨rfl, rfl⟩
theorem says_clo (g : Nat) (o id : Int) (w : World) (hg : w.cell? ⟨g, 0, none⟩ = some (.int .i64 o)) :
    Calls Tryd.prog 30 #[.func (.func 14) #[] #[.pointer (some ⟨g, 0, none⟩)], .int .i64 id] w fun e w' => e = .returned (.bool (id == o)) ∧ Touch w w' (fun _ => False) := by
  have t1 := (Touch.refl w (fun _ => False)).alloc (.cells #[.bool false] 4)
  have HG := Lib.hid (fclo_any g o id (w.alloc (.cells #[.bool false] 4)) ((t1.cell (block_lt_of_cell hg) (fun h => h)).trans hg))
  have hnf : ∀ W : World, (binOp BinOp.neq 36 (.func (.func 14) #[] #[.pointer (some ⟨g, 0, none⟩)]) Value.nilFunc).run Tryd.prog W = .ok (.bool true) W := fun W => by kernel_rfl
  clear hg
  generalize (id == o) = x at *
  go_enter_defers Tryd.func30, Tryd.ntmps30
  go_wp2_with (go_at_call 14; (with_reducible refine HG.out.mono ?_); rintro e w9 ⟨rfl, rfl⟩)
  refine leaves_cons (f := 42) (args := #[.pointer (some ⟨w.heap.size, 0, none⟩)]) (by simp) (by simp [go_sem]) ?_
  refine (catch_idle ⟨w.heap.size, 0, none⟩ _).mono ?_
  rintro e u' w'' ⟨rfl, rfl, rfl⟩
  simp [Leaves, settle, results, Tryd.results30, go_sem]
  exact (Touch.refl w _).alloc _
theorem findF_memK : ∀ {bs : List BkD}, bs.Pairwise (fun a b => a.id < b.id) → ∀ {b : BkD}, b ∈ bs → findF bs b.id = some b
  | [], _, _, h => by simp at h
  | c :: bs, hp, b, h => by
    unfold findF
    rw [List.find?_cons]
    by_cases hc : c.id = b.id
    · have : (c.id == b.id) = true := beq_iff_eq.2 hc
      rw [this]
      rcases List.mem_cons.1 h with rfl | h1
      · rfl
      · have := (List.pairwise_cons.1 hp).1 b h1; omega
    · have : (c.id == b.id) = false := beq_eq_false_iff_ne.2 hc
      rw [this]
      rcases List.mem_cons.1 h with rfl | h1
      · exact absurd rfl hc
      · exact findF_memK (List.pairwise_cons.1 hp).2 h1
/-- What Find tells of a sorted set: of a number that there was, one of it; the last one, if none comes behind. -/
theorem find_sorted {bs : List BkD} (hl : bs.length ≤ 16) (i : Nat) (hi : i < bs.length) (last : Bool) (hla : last = decide (bs[i].id ∉ (bs.drop (i + 1)).map BkD.id)) : ∃ c, findF (gsortF bs) bs[i].id = some c ∧ (last = true → c = bs[i]) := by
  have h1 := findF_has (gsort_has hl (List.getElem_mem hi))
  obtain ⟨c, hc⟩ := Option.isSome_iff_exists.1 h1
  refine ⟨c, hc, fun h => ?_⟩
  rw [hla] at h
  have h2 := of_decide_eq_true h
  have e : bs = bs.take i ++ bs[i] :: bs.drop (i + 1) := by rw [List.getElem_cons_drop hi, List.take_append_drop]
  have h3 := gsort_last (p := bs.take i) (r := bs.drop (i + 1)) (b := bs[i]) (by rw [← e]; exact hl) h2
  rw [← e] at h3
  have h4 := findF_memK (gsort_up bs) h3
  rw [hc] at h4
  injection h4
set_option maxRecDepth 20000 in
set_option maxHeartbeats 16000000 in
theorem gfinds_walk (a : Option Addr) (cap : Nat) (bs : List BkD) (o : Int) (w : World) (hr : RowK w a bs.length cap bs) (hok : ∀ b ∈ bs, BkOk b) (hT : TabW w) (hE : ErrW w) (hM : MaxW w) :
    Calls Tryd.prog 4 #[.slice a bs.length cap, .int .i64 o] w fun e w' => e = .returned (.bool true) ∧ Touch w w' (fun _ => False) := by
  have HAW : RowKit.Hid (∀ W, Touch w W (fun _ => False) → Calls Tryd.prog 6 #[] W fun e w' => e = .returned (.bool true) ∧ Touch W w' (fun _ => False)) := Lib.hid (fun W t => awake13 W (hT.touch t) (hE.touch t) (hM.touch t))
  have HR := Lib.hid hr
  have hcap1 := hr.hcap
  have hmax1 := hr.hmax
  have HBK : RowKit.Hid (∀ b ∈ bs, i64D b.id) := Lib.hid (fun b hb => (hok b hb).id)
  clear hT hE hM hr hok
  obtain ⟨W1, hW1⟩ : ∃ W, w.alloc (.cells #[.int .i64 o] 3) = W := ⟨_, rfl⟩
  obtain ⟨KO, hKO⟩ : ∃ b, w.heap.size = b := ⟨_, rfl⟩
  have t1 : Touch w W1 (fun _ => False) := hW1 ▸ (Touch.refl w _).alloc _
  have HCO : RowKit.Hid (∀ W, Touch W1 W (fun _ => False) → W.cell? ⟨KO, 0, none⟩ = some (.int .i64 o)) := Lib.hid (fun W t => cell_of_cells (t.keeps (hKO ▸ hW1 ▸ heap_alloc_new w (.cells #[.int .i64 o] 3)) (fun h => h)) 0)
  have HT1 := Lib.hid t1
  have HW1 := Lib.hid (And.intro hW1 hKO)
  clear t1 hW1 hKO
  by_cases h16 : 16 < bs.length
  · have hzz : (16 : Int) < bs.length := by omega
    clear HR HBK
    generalize bs.length = n at *
    go_enter Tryd.func4, Tryd.ntmps4
    go_upto_region 1 with (fail)
    rw [HW1.out.1]
    go_wp2_with (go_at_call 6; (with_reducible refine (HAW.out _ HT1.out).mono ?_); rintro e w9 ⟨rfl, t9⟩)
    go_ret
    exact ⟨rfl, HT1.out.trans t9 (fun _ _ h => h)⟩
  have hzz : ¬ (16 : Int) < bs.length := by omega
  have h17 : bs.length ≤ 16 := by omega
  obtain ⟨n, hn⟩ : ∃ n, bs.length = n := ⟨_, rfl⟩
  have HN := Lib.hid hn
  rw [hn] at HR hcap1 h16 hzz h17 ⊢
  clear hn
  have HS1 := Lib.hid (gsort_any a n cap bs W1 (HR.out.still HT1.out) HBK.out)
  have hgl := gsort_len bs
  obtain ⟨m, hm⟩ : ∃ m, (gsortF bs).length = m := ⟨_, rfl⟩
  have HM := Lib.hid hm
  rw [hm] at HS1 hgl
  clear hm
  go_enter Tryd.func4, Tryd.ntmps4
  go_upto_region 1 with (fail)
  rw [HW1.out.1, HW1.out.2]
  go_wp2_with fail
  refine HS1.out.mono ?_
  rintro e w2 ⟨sa, sc, rfl, o2, t2⟩
  have HT2 := Lib.hid t2
  have HRS := Lib.hid (OwnK.row o2).2.1
  have hmc := (OwnK.row o2).2.1.hcap
  have hmm := (OwnK.row o2).2.1.hmax
  clear o2 t2
  go_wp2_with fail
  go_loopw [6] (fun s wr => ∃ k : Nat, k ≤ n ∧ s = .int .i64 ((k : Int) - 1) ∧ Touch w2 wr (fun _ => False)) (fun s _ => (RowKit.intOf s + 1).toNat)
  case atStart => exact ⟨n, Nat.le_refl _, by go_num, Touch.refl _ _⟩
  case round =>
    obtain ⟨k, hk, rfl, ht⟩ := hrel
    have HT := Lib.hid ht
    clear ht
    cases k with
    | succ i =>
      have hsub : ((i + 1 : Nat) : Int) - 1 = (i : Int) := by omega
      rw [hsub]
      have hi0 : (0 : Int) ≤ i := by omega
      have hin : i < n := by omega
      have hinI : (i : Int) < n := by omega
      have hr := HR.out.still (HT1.out.trans (HT2.out.trans HT.out (fun _ _ h => h)) (fun _ _ h => h))
      obtain ⟨b, off, rfl⟩ := hr.some (by omega)
      have hi1 : i < bs.length := by rw [HN.out]; exact hin
      have HLAST := Lib.hid (fun last hla => find_sorted (by have := HN.out; omega) i hi1 last hla)
      have HRW : RowKit.Hid (∀ W, Touch wr W (fun _ => False) → RowK W (some ⟨b, off, none⟩) n cap bs) := Lib.hid (fun W t => hr.still t)
      have HCI3 : RowKit.Hid (∀ W, Touch wr W (fun _ => False) → W.cell? ⟨b, off + i * 3, none⟩ = some (.int .i64 bs[i].id) ∧ W.cell? ⟨b, off + i * 3 + 1, none⟩ = some (.int .u32 bs[i].addr) ∧ W.cell? ⟨b, off + i * 3 + 2, none⟩ = some (.int .i64 bs[i].weight)) := Lib.hid (fun W t => (HRW.out W t).cells i hi1)
      have HRT : RowKit.Hid (∀ W, Touch wr W (fun _ => False) → RowK W (if cap = i + 1 then some ⟨b, off, none⟩ else some ⟨b, off + (i + 1) * 3, none⟩) (n - (i + 1)) (cap - (i + 1)) (bs.drop (i + 1))) := Lib.hid (fun W t => rowK_rest (HRW.out W t) (i + 1) (by omega))
      have HDL : RowKit.Hid ((bs.drop (i + 1)).length = n - (i + 1)) := Lib.hid (by rw [List.length_drop, HN.out])
      obtain ⟨ra, hra⟩ : ∃ ra, (if cap = i + 1 then some ⟨b, off, none⟩ else some ⟨b, off + (i + 1) * 3, none⟩ : Option Addr) = ra := ⟨_, rfl⟩
      rw [hra] at HRT
      generalize bs.drop (i + 1) = rest at *
      generalize bs[i] = f at *
      have hle1 : i + 1 ≤ n := by omega
      have hle2 : i + 1 ≤ cap := by omega
      have hle3 : (i : Int) + 1 ≤ n := by omega
      clear hr hsub
      have HLE : RowKit.Hid (rest.length = n - (i + 1)) := Lib.hid HDL.out
      obtain ⟨q, hq⟩ : ∃ q, n - (i + 1) = q := ⟨_, rfl⟩
      rw [hq] at HRT HLE
      have HQ := Lib.hid hq
      go_upto_region 9 with (fail)
      try rw [hq]
      clear hq HDL hra
      obtain ⟨Wo, rfl⟩ : ∃ Wo, Wo = wr := ⟨_, rfl⟩
      go_wp2_with fail
      go_loopw [7, 36] (fun s7 s36 wx => ∃ (j : Nat) (l : Bool), j ≤ q ∧ s36 = .int .i64 j ∧ s7 = .bool l ∧ l = decide (f.id ∉ (rest.take j).map BkD.id) ∧ Touch Wo wx (fun _ => False)) (fun _ s36 _ => q - (RowKit.intOf s36).toNat)
      case atStart => exact ⟨0, true, Nat.zero_le _, rfl, rfl, by simp, by first | exact Touch.refl _ _⟩
      case round =>
        obtain ⟨j, l, hj, rfl, rfl, hlv, hti⟩ := hrel
        have HLV := Lib.hid hlv
        have HTI := Lib.hid hti
        clear hlv hti
        by_cases hlj : j < q
        case pos =>
          have hrr := HRT.out wr HTI.out
          obtain ⟨rb, ro, hra⟩ := hrr.some (by omega)
          rw [hra] at hrr ⊢
          have hj1 : j < rest.length := by rw [HLE.out]; exact hlj
          obtain ⟨c0, c1, c2⟩ := hrr.cells j hj1
          have HSJ : RowKit.Hid ((rest.take (j + 1)).map BkD.id = (rest.take j).map BkD.id ++ [rest[j].id]) := Lib.hid (by rw [List.take_succ_eq_append_getElem hj1, List.map_append]; rfl)
          have hrc := hrr.hcap
          have hrm := hrr.hmax
          generalize rest[j] = g at *
          obtain ⟨W3, hW3⟩ : ∃ W, wr.alloc (.cells #[.int .i64 g.id, .int .u32 g.addr, .int .i64 g.weight] 27) = W := ⟨_, rfl⟩
          obtain ⟨KC, hKC⟩ : ∃ b, wr.heap.size = b := ⟨_, rfl⟩
          have t3 : Touch wr W3 (fun _ => False) := hW3 ▸ (Touch.refl wr _).alloc _
          have g3 : W3.heap[KC]? = some (.cells #[.int .i64 g.id, .int .u32 g.addr, .int .i64 g.weight] 27 (0, 0)) := hKC ▸ hW3 ▸ heap_alloc_new ..
          have HT3 := Lib.hid (HTI.out.trans t3 (fun _ _ h => h))
          have HCB : RowKit.Hid (∀ W, Touch W3 W (fun _ => False) → W.cell? ⟨KC, 0, none⟩ = some (.int .i64 g.id)) := Lib.hid (fun W t => cell_of_cells (t.keeps g3 (fun h => h)) 0)
          have HW3 := Lib.hid (And.intro hW3 hKC)
          have hljI : (j : Int) < q := by omega
          clear hrr t3 g3 hW3 hKC
          go_upto_region 11 with (fail)
          rw [HW3.out.1, HW3.out.2]
          clear c0 c1 c2
          obtain ⟨wz, hwz⟩ : ∃ W, W3 = W := ⟨_, rfl⟩
          rw [hwz] at HT3 HCB ⊢
          have HCI : RowKit.Hid (∀ W, Touch wz W (fun _ => False) → W.cell? ⟨b, off + i * 3, none⟩ = some (.int .i64 f.id)) := Lib.hid (fun W t => (HCI3.out W (HT3.out.trans t (fun _ _ h => h))).1)
          clear hwz
          have HEND : RowKit.Hid (∀ (l' : Bool) (wx : World), l' = decide (f.id ∉ (rest.take (j + 1)).map BkD.id) → Touch wz wx (fun _ => False) → ∃ (j' : Nat) (l : Bool), j' ≤ q ∧ Value.int .i64 ((j : Int) + 1) = .int .i64 j' ∧ Value.bool l' = .bool l ∧ l = decide (f.id ∉ (rest.take j').map BkD.id) ∧ Touch Wo wx (fun _ => False)) := Lib.hid (fun l' wx h t => ⟨j + 1, l', hlj, by go_num, rfl, h, HT3.out.trans t (fun _ _ h => h)⟩)
          cases l with
          | false =>
            have HX : RowKit.Hid (false = decide (f.id ∉ (rest.take (j + 1)).map BkD.id)) := Lib.hid (by
              have h := of_decide_eq_false HLV.out.symm
              have h9 : ¬ (f.id ∉ (rest.take (j + 1)).map BkD.id) := by
                rw [HSJ.out]
                exact fun h2 => h (fun h3 => h2 (List.mem_append_left _ h3))
              exact (decide_eq_false h9).symm)
            go_wp2_with fail
            have hS := (Touch.refl wz (fun _ => False)).drew
            refine wp_region_sched (fun w' => Touch wz w' (fun _ => False)) [(0, true), (1, true), (2, true), (3, true), (4, true), (5, true), (6, true), (7, true), (8, true), (9, true), (10, true), (11, true)] (by kernel_rfl) (by kernel_rfl) rfl (by kernel_rfl) hS ?_
            (refine walkS_take (v := ?_) (some 40) rfl rfl (fun _ _ _ h => h) (by rfl) ?_ ?_; rotate_left; (focus (intro w' hw'; go_simp; (try with_reducible rfl))); (try simp only [Act.put, List.setIfInBounds_toArray, List.set_cons_zero, List.set_cons_succ]))
            (refine walkS_take (v := ?_) (some 41) rfl rfl (fun _ _ _ h => h) (by rfl) ?_ ?_; rotate_left; (focus (intro w' hw'; go_simp; (try with_reducible rfl))); (try simp only [Act.put, List.setIfInBounds_toArray, List.set_cons_zero, List.set_cons_succ]))
            first | (refine walkS_skip (some 42) rfl rfl (by rfl) (fun _ _ _ h => h) hS ?_; (try simp only [Act.put, List.setIfInBounds_toArray, List.set_cons_zero, List.set_cons_succ])) | (refine walkS_take (v := ?_) (some 42) rfl rfl (fun _ _ _ h => h) (by rfl) ?_ ?_; rotate_left; (focus (intro w' hw'; go_simp; (try with_reducible rfl))); (try simp only [Act.put, List.setIfInBounds_toArray, List.set_cons_zero, List.set_cons_succ]))
            first | (refine walkS_skip (some 43) rfl rfl (by rfl) (fun _ _ _ h => h) hS ?_; (try simp only [Act.put, List.setIfInBounds_toArray, List.set_cons_zero, List.set_cons_succ])) | (refine walkS_take (v := ?_) (some 43) rfl rfl (fun _ _ _ h => h) (by rfl) ?_ ?_; rotate_left; (focus (intro w' hw'; go_simp; (try with_reducible rfl))); (try simp only [Act.put, List.setIfInBounds_toArray, List.set_cons_zero, List.set_cons_succ]))
            first | (refine walkS_skip (some 44) rfl rfl (by rfl) (fun _ _ _ h => h) hS ?_; (try simp only [Act.put, List.setIfInBounds_toArray, List.set_cons_zero, List.set_cons_succ])) | (refine walkS_take (v := ?_) (some 44) rfl rfl (fun _ _ _ h => h) (by rfl) ?_ ?_; rotate_left; (focus (intro w' hw'; go_simp; (try with_reducible rfl))); (try simp only [Act.put, List.setIfInBounds_toArray, List.set_cons_zero, List.set_cons_succ]))
            first | (refine walkS_skip (some 45) rfl rfl (by rfl) (fun _ _ _ h => h) hS ?_; (try simp only [Act.put, List.setIfInBounds_toArray, List.set_cons_zero, List.set_cons_succ])) | (refine walkS_take (v := ?_) (some 45) rfl rfl (fun _ _ _ h => h) (by rfl) ?_ ?_; rotate_left; (focus (intro w' hw'; go_simp; (try with_reducible rfl))); (try simp only [Act.put, List.setIfInBounds_toArray, List.set_cons_zero, List.set_cons_succ]))
            first | (refine walkS_skip (some 46) rfl rfl (by rfl) (fun _ _ _ h => h) hS ?_; (try simp only [Act.put, List.setIfInBounds_toArray, List.set_cons_zero, List.set_cons_succ])) | (refine walkS_take (v := ?_) (some 46) rfl rfl (fun _ _ _ h => h) (by rfl) ?_ ?_; rotate_left; (focus (intro w' hw'; go_simp; (try with_reducible rfl))); (try simp only [Act.put, List.setIfInBounds_toArray, List.set_cons_zero, List.set_cons_succ]))
            first | (refine walkS_skip (some 47) rfl rfl (by rfl) (fun _ _ _ h => h) hS ?_; (try simp only [Act.put, List.setIfInBounds_toArray, List.set_cons_zero, List.set_cons_succ])) | (refine walkS_take (v := ?_) (some 47) rfl rfl (fun _ _ _ h => h) (by rfl) ?_ ?_; rotate_left; (focus (intro w' hw'; go_simp; (try with_reducible rfl))); (try simp only [Act.put, List.setIfInBounds_toArray, List.set_cons_zero, List.set_cons_succ]))
            first | (refine walkS_skip (some 48) rfl rfl (by rfl) (fun _ _ _ h => h) hS ?_; (try simp only [Act.put, List.setIfInBounds_toArray, List.set_cons_zero, List.set_cons_succ])) | (refine walkS_take (v := ?_) (some 48) rfl rfl (fun _ _ _ h => h) (by rfl) ?_ ?_; rotate_left; (focus (intro w' hw'; go_simp; (try with_reducible rfl))); (try simp only [Act.put, List.setIfInBounds_toArray, List.set_cons_zero, List.set_cons_succ]))
            first | (refine walkS_skip (some 49) rfl rfl (by rfl) (fun _ _ _ h => h) hS ?_; (try simp only [Act.put, List.setIfInBounds_toArray, List.set_cons_zero, List.set_cons_succ])) | (refine walkS_take (v := ?_) (some 49) rfl rfl (fun _ _ _ h => h) (by rfl) ?_ ?_; rotate_left; (focus (intro w' hw'; go_simp; (try with_reducible rfl))); (try simp only [Act.put, List.setIfInBounds_toArray, List.set_cons_zero, List.set_cons_succ]))
            (refine walkS_take (v := ?_) (some 50) rfl rfl (fun _ _ _ h => h) (by rfl) ?_ ?_; rotate_left; (focus (intro w' hw'; go_simp; (try with_reducible rfl))); (try simp only [Act.put, List.setIfInBounds_toArray, List.set_cons_zero, List.set_cons_succ]))
            (refine walkS_take (v := ?_) (some 7) rfl rfl (fun _ _ _ h => h) (by rfl) ?_ ?_; rotate_left; (focus (intro w' hw'; go_simp; (try with_reducible rfl))); (try simp only [Act.put, List.setIfInBounds_toArray, List.set_cons_zero, List.set_cons_succ]))
            refine walkS_done ?_
            have HXX := Lib.hid (HEND.out _ _ HX.out hS)
            go_wp2_with fail
            exact ⟨HXX.out, by simp [RowKit.intOf]; omega⟩
          | true =>
            by_cases he : g.id = f.id
            · have HX : RowKit.Hid (false = decide (f.id ∉ (rest.take (j + 1)).map BkD.id)) := Lib.hid (by
                have h9 : ¬ (f.id ∉ (rest.take (j + 1)).map BkD.id) := by
                  rw [HSJ.out, he]
                  exact fun h2 => h2 (List.mem_append_right _ (List.mem_singleton.2 rfl))
                exact (decide_eq_false h9).symm)
              go_wp2_with fail
              have hS := (Touch.refl wz (fun _ => False)).drew
              refine wp_region_sched (fun w' => Touch wz w' (fun _ => False)) [(0, true), (1, true), (2, true), (3, true), (4, true), (5, true), (6, true), (7, true), (8, true), (9, true), (10, true), (11, true)] (by kernel_rfl) (by kernel_rfl) rfl (by kernel_rfl) hS ?_
              (refine walkS_take (v := ?_) (some 40) rfl rfl (fun _ _ _ h => h) (by rfl) ?_ ?_; rotate_left; (focus (intro w' hw'; go_simp; (try with_reducible rfl))); (try simp only [Act.put, List.setIfInBounds_toArray, List.set_cons_zero, List.set_cons_succ]))
              (refine walkS_take (v := ?_) (some 41) rfl rfl (fun _ _ _ h => h) (by rfl) ?_ ?_; rotate_left; (focus (intro w' hw'; go_simp; (try with_reducible rfl))); (try simp only [Act.put, List.setIfInBounds_toArray, List.set_cons_zero, List.set_cons_succ]))
              (refine walkS_take (v := ?_) (some 42) rfl rfl (fun _ _ _ h => h) (by rfl) ?_ ?_; rotate_left; (focus (intro w' hw'; go_simp; (try with_reducible rfl))); (try simp only [Act.put, List.setIfInBounds_toArray, List.set_cons_zero, List.set_cons_succ]))
              (refine walkS_take (v := ?_) (some 43) rfl rfl (fun _ _ _ h => h) (by rfl) ?_ ?_; rotate_left; (focus (intro w' hw'; have y0 := HCB.out w' hw'; go_simp; (try with_reducible rfl))); (try simp only [Act.put, List.setIfInBounds_toArray, List.set_cons_zero, List.set_cons_succ]))
              (refine walkS_take (v := ?_) (some 44) rfl rfl (fun _ _ _ h => h) (by rfl) ?_ ?_; rotate_left; (focus (intro w' hw'; go_simp; (try with_reducible rfl))); (try simp only [Act.put, List.setIfInBounds_toArray, List.set_cons_zero, List.set_cons_succ]))
              (refine walkS_take (v := ?_) (some 45) rfl rfl (fun _ _ _ h => h) (by rfl) ?_ ?_; rotate_left; (focus (intro w' hw'; go_simp; (try with_reducible rfl))); (try simp only [Act.put, List.setIfInBounds_toArray, List.set_cons_zero, List.set_cons_succ]))
              (refine walkS_take (v := ?_) (some 46) rfl rfl (fun _ _ _ h => h) (by rfl) ?_ ?_; rotate_left; (focus (intro w' hw'; go_simp; (try with_reducible rfl))); (try simp only [Act.put, List.setIfInBounds_toArray, List.set_cons_zero, List.set_cons_succ]))
              (refine walkS_take (v := ?_) (some 47) rfl rfl (fun _ _ _ h => h) (by rfl) ?_ ?_; rotate_left; (focus (intro w' hw'; go_simp; (try with_reducible rfl))); (try simp only [Act.put, List.setIfInBounds_toArray, List.set_cons_zero, List.set_cons_succ]))
              (refine walkS_take (v := ?_) (some 48) rfl rfl (fun _ _ _ h => h) (by rfl) ?_ ?_; rotate_left; (focus (intro w' hw'; have z0 := HCI.out w' hw'; go_simp; (try with_reducible rfl))); (try simp only [Act.put, List.setIfInBounds_toArray, List.set_cons_zero, List.set_cons_succ]))
              (refine walkS_bin (some 49) _ _ _ _ _ _ _ _ (neI_bool _ _ false (by simp [he])) rfl rfl rfl rfl rfl (fun _ _ _ h => h) (by rfl) ?_; (try simp only [Act.put, List.setIfInBounds_toArray, List.set_cons_zero, List.set_cons_succ]))
              (refine walkS_take (v := ?_) (some 50) rfl rfl (fun _ _ _ h => h) (by rfl) ?_ ?_; rotate_left; (focus (intro w' hw'; go_simp; (try with_reducible rfl))); (try simp only [Act.put, List.setIfInBounds_toArray, List.set_cons_zero, List.set_cons_succ]))
              (refine walkS_take (v := ?_) (some 7) rfl rfl (fun _ _ _ h => h) (by rfl) ?_ ?_; rotate_left; (focus (intro w' hw'; go_simp; (try with_reducible rfl))); (try simp only [Act.put, List.setIfInBounds_toArray, List.set_cons_zero, List.set_cons_succ]))
              refine walkS_done ?_
              have HXX := Lib.hid (HEND.out _ _ HX.out hS)
              go_wp2_with fail
              exact ⟨HXX.out, by simp [RowKit.intOf]; omega⟩
            · have HX : RowKit.Hid (true = decide (f.id ∉ (rest.take (j + 1)).map BkD.id)) := Lib.hid (by
                have h := of_decide_eq_true HLV.out.symm
                have h9 : f.id ∉ (rest.take (j + 1)).map BkD.id := by
                  rw [HSJ.out]
                  intro h2
                  rcases List.mem_append.1 h2 with h3 | h3
                  · exact h h3
                  · exact he (List.mem_singleton.1 h3).symm
                exact (decide_eq_true h9).symm)
              go_wp2_with fail
              have hS := (Touch.refl wz (fun _ => False)).drew
              refine wp_region_sched (fun w' => Touch wz w' (fun _ => False)) [(0, true), (1, true), (2, true), (3, true), (4, true), (5, true), (6, true), (7, true), (8, true), (9, true), (10, true), (11, true)] (by kernel_rfl) (by kernel_rfl) rfl (by kernel_rfl) hS ?_
              (refine walkS_take (v := ?_) (some 40) rfl rfl (fun _ _ _ h => h) (by rfl) ?_ ?_; rotate_left; (focus (intro w' hw'; go_simp; (try with_reducible rfl))); (try simp only [Act.put, List.setIfInBounds_toArray, List.set_cons_zero, List.set_cons_succ]))
              (refine walkS_take (v := ?_) (some 41) rfl rfl (fun _ _ _ h => h) (by rfl) ?_ ?_; rotate_left; (focus (intro w' hw'; go_simp; (try with_reducible rfl))); (try simp only [Act.put, List.setIfInBounds_toArray, List.set_cons_zero, List.set_cons_succ]))
              (refine walkS_take (v := ?_) (some 42) rfl rfl (fun _ _ _ h => h) (by rfl) ?_ ?_; rotate_left; (focus (intro w' hw'; go_simp; (try with_reducible rfl))); (try simp only [Act.put, List.setIfInBounds_toArray, List.set_cons_zero, List.set_cons_succ]))
              (refine walkS_take (v := ?_) (some 43) rfl rfl (fun _ _ _ h => h) (by rfl) ?_ ?_; rotate_left; (focus (intro w' hw'; have y0 := HCB.out w' hw'; go_simp; (try with_reducible rfl))); (try simp only [Act.put, List.setIfInBounds_toArray, List.set_cons_zero, List.set_cons_succ]))
              (refine walkS_take (v := ?_) (some 44) rfl rfl (fun _ _ _ h => h) (by rfl) ?_ ?_; rotate_left; (focus (intro w' hw'; go_simp; (try with_reducible rfl))); (try simp only [Act.put, List.setIfInBounds_toArray, List.set_cons_zero, List.set_cons_succ]))
              (refine walkS_take (v := ?_) (some 45) rfl rfl (fun _ _ _ h => h) (by rfl) ?_ ?_; rotate_left; (focus (intro w' hw'; go_simp; (try with_reducible rfl))); (try simp only [Act.put, List.setIfInBounds_toArray, List.set_cons_zero, List.set_cons_succ]))
              (refine walkS_take (v := ?_) (some 46) rfl rfl (fun _ _ _ h => h) (by rfl) ?_ ?_; rotate_left; (focus (intro w' hw'; go_simp; (try with_reducible rfl))); (try simp only [Act.put, List.setIfInBounds_toArray, List.set_cons_zero, List.set_cons_succ]))
              (refine walkS_take (v := ?_) (some 47) rfl rfl (fun _ _ _ h => h) (by rfl) ?_ ?_; rotate_left; (focus (intro w' hw'; go_simp; (try with_reducible rfl))); (try simp only [Act.put, List.setIfInBounds_toArray, List.set_cons_zero, List.set_cons_succ]))
              (refine walkS_take (v := ?_) (some 48) rfl rfl (fun _ _ _ h => h) (by rfl) ?_ ?_; rotate_left; (focus (intro w' hw'; have z0 := HCI.out w' hw'; go_simp; (try with_reducible rfl))); (try simp only [Act.put, List.setIfInBounds_toArray, List.set_cons_zero, List.set_cons_succ]))
              (refine walkS_bin (some 49) _ _ _ _ _ _ _ _ (neI_bool _ _ true (by simpa using he)) rfl rfl rfl rfl rfl (fun _ _ _ h => h) (by rfl) ?_; (try simp only [Act.put, List.setIfInBounds_toArray, List.set_cons_zero, List.set_cons_succ]))
              (refine walkS_take (v := ?_) (some 50) rfl rfl (fun _ _ _ h => h) (by rfl) ?_ ?_; rotate_left; (focus (intro w' hw'; go_simp; (try with_reducible rfl))); (try simp only [Act.put, List.setIfInBounds_toArray, List.set_cons_zero, List.set_cons_succ]))
              (refine walkS_take (v := ?_) (some 7) rfl rfl (fun _ _ _ h => h) (by rfl) ?_ ?_; rotate_left; (focus (intro w' hw'; go_simp; (try with_reducible rfl))); (try simp only [Act.put, List.setIfInBounds_toArray, List.set_cons_zero, List.set_cons_succ]))
              refine walkS_done ?_
              have HXX := Lib.hid (HEND.out _ _ HX.out hS)
              go_wp2_with fail
              exact ⟨HXX.out, by simp [RowKit.intOf]; omega⟩
        case neg =>
          obtain rfl : j = q := by omega
          have hlj' : ¬ (j : Int) < j := by omega
          have HLW : RowKit.Hid (l = decide (f.id ∉ rest.map BkD.id)) := Lib.hid (by have h := HLV.out; rwa [← HLE.out, List.take_length] at h)
          obtain ⟨c, hc, hcl⟩ := HLAST.out l HLW.out
          have hfa := find_any sa m sc (gsortF bs) f.id wr (HRS.out.still (HT.out.trans HTI.out (fun _ _ h => h)))
          rw [show findV (gsortF bs) f.id = .tuple #[bkV' c, .bool true] by unfold findV; rw [hc]] at hfa
          simp only [bkV'] at hfa
          have HFA := Lib.hid hfa
          have HCL := Lib.hid hcl
          have z0 := (HCI3.out wr HTI.out).1
          clear hc hcl hfa
          go_wp2_with fail
          refine HFA.out.mono ?_
          rintro e w4 ⟨rfl, t4⟩
          obtain ⟨W5, hW5⟩ : ∃ W, w4.alloc (.cells #[.int .i64 c.id, .int .u32 c.addr, .int .i64 c.weight] 27) = W := ⟨_, rfl⟩
          obtain ⟨KD, hKD⟩ : ∃ b, w4.heap.size = b := ⟨_, rfl⟩
          have t5 : Touch w4 W5 (fun _ => False) := hW5 ▸ (Touch.refl w4 _).alloc _
          have g5 : W5.heap[KD]? = some (.cells #[.int .i64 c.id, .int .u32 c.addr, .int .i64 c.weight] 27 (0, 0)) := hKD ▸ hW5 ▸ heap_alloc_new ..
          have HT5 := Lib.hid (HTI.out.trans (t4.trans t5 (fun _ _ h => h)) (fun _ _ h => h))
          have HW5 := Lib.hid (And.intro hW5 hKD)
          have HGD : RowKit.Hid (∀ W, Touch W5 W (fun _ => False) → W.heap[KD]? = some (.cells #[.int .i64 c.id, .int .u32 c.addr, .int .i64 c.weight] 27 (0, 0))) := Lib.hid (fun W t => t.keeps g5 (fun h => h))
          clear t4 t5 g5 hW5 hKD z0
          go_upto_region 14 with (fail)
          rw [HW5.out.1, HW5.out.2]
          obtain ⟨wz, hwz⟩ : ∃ W, W5 = W := ⟨_, rfl⟩
          rw [hwz] at HT5 HGD ⊢
          have HCI4 : RowKit.Hid (∀ W, Touch wz W (fun _ => False) → W.cell? ⟨b, off + i * 3, none⟩ = some (.int .i64 f.id) ∧ W.cell? ⟨b, off + i * 3 + 1, none⟩ = some (.int .u32 f.addr) ∧ W.cell? ⟨b, off + i * 3 + 2, none⟩ = some (.int .i64 f.weight)) := Lib.hid (fun W t => HCI3.out W (HT5.out.trans t (fun _ _ h => h)))
          have HCI3 := HCI4
          clear hwz
          have HXX : RowKit.Hid (∀ wx, Touch wz wx (fun _ => False) → ∃ k' : Nat, k' ≤ n ∧ Value.int .i64 ((i : Int) - 1) = .int .i64 ((k' : Int) - 1) ∧ Touch w2 wx (fun _ => False)) := Lib.hid (fun wx t => ⟨i, by omega, rfl, HT.out.trans (HT5.out.trans t (fun _ _ h => h)) (fun _ _ h => h)⟩)
          cases l with
          | false =>
            go_cut [74] (fun s wx => s = .bool false ∧ Touch wz wx (fun _ => False))
            case first =>
              go_wp2_with fail
              have hS := (Touch.refl wz (fun _ => False)).drew
              refine wp_region_sched (fun w' => Touch wz w' (fun _ => False)) [(0, true), (1, true), (2, true), (3, true), (4, true), (5, true), (6, true), (7, true), (8, true), (9, true), (10, true), (11, true), (12, true)] (by kernel_rfl) (by kernel_rfl) rfl (by kernel_rfl) hS ?_
              (refine walkS_take (v := ?_) (some 62) rfl rfl (fun _ _ _ h => h) (by rfl) ?_ ?_; rotate_left; (focus (intro w' hw'; go_simp; (try with_reducible rfl))); (try simp only [Act.put, List.setIfInBounds_toArray, List.set_cons_zero, List.set_cons_succ]))
              (refine walkS_take (v := ?_) (some 63) rfl rfl (fun _ _ _ h => h) (by rfl) ?_ ?_; rotate_left; (focus (intro w' hw'; go_simp; (try with_reducible rfl))); (try simp only [Act.put, List.setIfInBounds_toArray, List.set_cons_zero, List.set_cons_succ]))
              (refine walkS_take (v := ?_) (some 64) rfl rfl (fun _ _ _ h => h) (by rfl) ?_ ?_; rotate_left; (focus (intro w' hw'; go_simp; (try with_reducible rfl))); (try simp only [Act.put, List.setIfInBounds_toArray, List.set_cons_zero, List.set_cons_succ]))
              first | (refine walkS_skip (some 65) rfl rfl (by rfl) (fun _ _ _ h => h) hS ?_; (try simp only [Act.put, List.setIfInBounds_toArray, List.set_cons_zero, List.set_cons_succ])) | (refine walkS_take (v := ?_) (some 65) rfl rfl (fun _ _ _ h => h) (by rfl) ?_ ?_; rotate_left; (focus (intro w' hw'; go_simp; (try with_reducible rfl))); (try simp only [Act.put, List.setIfInBounds_toArray, List.set_cons_zero, List.set_cons_succ]))
              first | (refine walkS_skip (some 66) rfl rfl (by rfl) (fun _ _ _ h => h) hS ?_; (try simp only [Act.put, List.setIfInBounds_toArray, List.set_cons_zero, List.set_cons_succ])) | (refine walkS_take (v := ?_) (some 66) rfl rfl (fun _ _ _ h => h) (by rfl) ?_ ?_; rotate_left; (focus (intro w' hw'; go_simp; (try with_reducible rfl))); (try simp only [Act.put, List.setIfInBounds_toArray, List.set_cons_zero, List.set_cons_succ]))
              first | (refine walkS_skip (some 67) rfl rfl (by rfl) (fun _ _ _ h => h) hS ?_; (try simp only [Act.put, List.setIfInBounds_toArray, List.set_cons_zero, List.set_cons_succ])) | (refine walkS_take (v := ?_) (some 67) rfl rfl (fun _ _ _ h => h) (by rfl) ?_ ?_; rotate_left; (focus (intro w' hw'; go_simp; (try with_reducible rfl))); (try simp only [Act.put, List.setIfInBounds_toArray, List.set_cons_zero, List.set_cons_succ]))
              first | (refine walkS_skip (some 68) rfl rfl (by rfl) (fun _ _ _ h => h) hS ?_; (try simp only [Act.put, List.setIfInBounds_toArray, List.set_cons_zero, List.set_cons_succ])) | (refine walkS_take (v := ?_) (some 68) rfl rfl (fun _ _ _ h => h) (by rfl) ?_ ?_; rotate_left; (focus (intro w' hw'; go_simp; (try with_reducible rfl))); (try simp only [Act.put, List.setIfInBounds_toArray, List.set_cons_zero, List.set_cons_succ]))
              first | (refine walkS_skip (some 69) rfl rfl (by rfl) (fun _ _ _ h => h) hS ?_; (try simp only [Act.put, List.setIfInBounds_toArray, List.set_cons_zero, List.set_cons_succ])) | (refine walkS_take (v := ?_) (some 69) rfl rfl (fun _ _ _ h => h) (by rfl) ?_ ?_; rotate_left; (focus (intro w' hw'; go_simp; (try with_reducible rfl))); (try simp only [Act.put, List.setIfInBounds_toArray, List.set_cons_zero, List.set_cons_succ]))
              first | (refine walkS_skip (some 70) rfl rfl (by rfl) (fun _ _ _ h => h) hS ?_; (try simp only [Act.put, List.setIfInBounds_toArray, List.set_cons_zero, List.set_cons_succ])) | (refine walkS_take (v := ?_) (some 70) rfl rfl (fun _ _ _ h => h) (by rfl) ?_ ?_; rotate_left; (focus (intro w' hw'; go_simp; (try with_reducible rfl))); (try simp only [Act.put, List.setIfInBounds_toArray, List.set_cons_zero, List.set_cons_succ]))
              first | (refine walkS_skip (some 71) rfl rfl (by rfl) (fun _ _ _ h => h) hS ?_; (try simp only [Act.put, List.setIfInBounds_toArray, List.set_cons_zero, List.set_cons_succ])) | (refine walkS_take (v := ?_) (some 71) rfl rfl (fun _ _ _ h => h) (by rfl) ?_ ?_; rotate_left; (focus (intro w' hw'; go_simp; (try with_reducible rfl))); (try simp only [Act.put, List.setIfInBounds_toArray, List.set_cons_zero, List.set_cons_succ]))
              first | (refine walkS_skip (some 72) rfl rfl (by rfl) (fun _ _ _ h => h) hS ?_; (try simp only [Act.put, List.setIfInBounds_toArray, List.set_cons_zero, List.set_cons_succ])) | (refine walkS_take (v := ?_) (some 72) rfl rfl (fun _ _ _ h => h) (by rfl) ?_ ?_; rotate_left; (focus (intro w' hw'; go_simp; (try with_reducible rfl))); (try simp only [Act.put, List.setIfInBounds_toArray, List.set_cons_zero, List.set_cons_succ]))
              first | (refine walkS_skip (some 73) rfl rfl (by rfl) (fun _ _ _ h => h) hS ?_; (try simp only [Act.put, List.setIfInBounds_toArray, List.set_cons_zero, List.set_cons_succ])) | (refine walkS_take (v := ?_) (some 73) rfl rfl (fun _ _ _ h => h) (by rfl) ?_ ?_; rotate_left; (focus (intro w' hw'; go_simp; (try with_reducible rfl))); (try simp only [Act.put, List.setIfInBounds_toArray, List.set_cons_zero, List.set_cons_succ]))
              (refine walkS_take (v := ?_) (some 74) rfl rfl (fun _ _ _ h => h) (by rfl) ?_ ?_; rotate_left; (focus (intro w' hw'; go_simp; (try with_reducible rfl))); (try simp only [Act.put, List.setIfInBounds_toArray, List.set_cons_zero, List.set_cons_succ]))
              refine walkS_done ?_
              go_wp2_with fail
              go_meet
              exact ⟨rfl, hS⟩
            case rest =>
              obtain ⟨rfl, tx⟩ := hcut
              have HX9 := Lib.hid (HXX.out _ tx)
              go_wp2_with fail
              exact ⟨HX9.out, by simp [RowKit.intOf]⟩
          | true =>
            obtain rfl := HCL.out rfl
            go_cut [74] (fun s wx => s = .bool false ∧ Touch wz wx (fun _ => False))
            case first =>
              go_wp2_with fail
              have hS := (Touch.refl wz (fun _ => False)).drew
              refine wp_region_sched (fun w' => Touch wz w' (fun _ => False)) [(0, true), (1, true), (2, true), (3, true), (4, true), (5, true), (6, true), (7, true), (8, true), (9, true), (10, true), (11, true), (12, true)] (by kernel_rfl) (by kernel_rfl) rfl (by kernel_rfl) hS ?_
              (refine walkS_take (v := ?_) (some 62) rfl rfl (fun _ _ _ h => h) (by rfl) ?_ ?_; rotate_left; (focus (intro w' hw'; go_simp; (try with_reducible rfl))); (try simp only [Act.put, List.setIfInBounds_toArray, List.set_cons_zero, List.set_cons_succ]))
              (refine walkS_take (v := ?_) (some 63) rfl rfl (fun _ _ _ h => h) (by rfl) ?_ ?_; rotate_left; (focus (intro w' hw'; go_simp; (try with_reducible rfl))); (try simp only [Act.put, List.setIfInBounds_toArray, List.set_cons_zero, List.set_cons_succ]))
              (refine walkS_take (v := ?_) (some 64) rfl rfl (fun _ _ _ h => h) (by rfl) ?_ ?_; rotate_left; (focus (intro w' hw'; go_simp; (try with_reducible rfl))); (try simp only [Act.put, List.setIfInBounds_toArray, List.set_cons_zero, List.set_cons_succ]))
              (refine walkS_take (v := ?_) (some 65) rfl rfl (fun _ _ _ h => h) (by rfl) ?_ ?_; rotate_left; (focus (intro w' hw'; go_simp; (try with_reducible rfl))); (try simp only [Act.put, List.setIfInBounds_toArray, List.set_cons_zero, List.set_cons_succ]))
              (refine walkS_take (v := ?_) (some 66) rfl rfl (fun _ _ _ h => h) (by rfl) ?_ ?_; rotate_left; (focus (intro w' hw'; go_simp; (try with_reducible rfl))); (try simp only [Act.put, List.setIfInBounds_toArray, List.set_cons_zero, List.set_cons_succ]))
              (refine walkS_row (some 67) rfl rfl 27 (.tmp 10) rfl (KD) rfl _ _ _ _ (fun w' h => HGD.out w' h) Tryd.underlying27 rfl infoBkP (fun _ _ _ h => h) (by rfl) ?_; (try simp only [Act.put, List.setIfInBounds_toArray, List.set_cons_zero, List.set_cons_succ]))
              (refine walkS_take (v := ?_) (some 68) rfl rfl (fun _ _ _ h => h) (by rfl) ?_ ?_; rotate_left; (focus (intro w' hw'; go_simp; (try with_reducible rfl))); (try simp only [Act.put, List.setIfInBounds_toArray, List.set_cons_zero, List.set_cons_succ]))
              (refine walkS_take (v := ?_) (some 69) rfl rfl (fun _ _ _ h => h) (by rfl) ?_ ?_; rotate_left; (focus (intro w' hw'; go_simp; (try with_reducible rfl))); (try simp only [Act.put, List.setIfInBounds_toArray, List.set_cons_zero, List.set_cons_succ]))
              (refine walkS_take (v := ?_) (some 70) rfl rfl (fun _ _ _ h => h) (by rfl) ?_ ?_; rotate_left; (focus (intro w' hw'; go_simp; (try with_reducible rfl))); (try simp only [Act.put, List.setIfInBounds_toArray, List.set_cons_zero, List.set_cons_succ]))
              (refine walkS_take (v := ?_) (some 71) rfl rfl (fun _ _ _ h => h) (by rfl) ?_ ?_; rotate_left; (focus (intro w' hw'; obtain ⟨z0, z1, z2⟩ := HCI3.out w' hw'; go_simp; (try with_reducible rfl))); (try simp only [Act.put, List.setIfInBounds_toArray, List.set_cons_zero, List.set_cons_succ]))
              (refine walkS_bin (some 72) _ _ _ _ _ _ _ _ (neBk_same c.id c.addr c.weight) rfl rfl rfl rfl rfl (fun _ _ _ h => h) (by rfl) ?_; (try simp only [Act.put, List.setIfInBounds_toArray, List.set_cons_zero, List.set_cons_succ]))
              (refine walkS_take (v := ?_) (some 73) rfl rfl (fun _ _ _ h => h) (by rfl) ?_ ?_; rotate_left; (focus (intro w' hw'; go_simp; (try with_reducible rfl))); (try simp only [Act.put, List.setIfInBounds_toArray, List.set_cons_zero, List.set_cons_succ]))
              (refine walkS_take (v := ?_) (some 74) rfl rfl (fun _ _ _ h => h) (by rfl) ?_ ?_; rotate_left; (focus (intro w' hw'; go_simp; (try with_reducible rfl))); (try simp only [Act.put, List.setIfInBounds_toArray, List.set_cons_zero, List.set_cons_succ]))
              refine walkS_done ?_
              go_wp2_with fail
              go_meet
              exact ⟨rfl, hS⟩
            case rest =>
              obtain ⟨rfl, tx⟩ := hcut
              have HX9 := Lib.hid (HXX.out _ tx)
              go_wp2_with fail
              exact ⟨HX9.out, by simp [RowKit.intOf]⟩
    | zero =>
      have hsub : ((0 : Nat) : Int) - 1 = -1 := by omega
      rw [hsub]
      have HTA := Lib.hid (HT1.out.trans (HT2.out.trans HT.out (fun _ _ h => h)) (fun _ _ h => h))
      obtain ⟨kf1, kf2⟩ := keepF_out (gsort_up bs) o
      have HWI := Lib.hid (without_says 14 #[] #[.pointer (some ⟨KO, 0, none⟩)] (fun x => x == o) sa m sc (gsortF bs) wr (HRS.out.still HT.out) (by omega) (fun W id t => says_clo KO o id W (HCO.out W (HT2.out.trans (HT.out.trans t (fun _ _ h => h)) (fun _ _ h => h)))))
      rw [HM.out] at kf1
      obtain ⟨kl, hkl⟩ : ∃ kl, keepF (fun x => x == o) (gsortF bs) = kl := ⟨_, rfl⟩
      rw [hkl] at kf1 kf2 HWI
      have HK1 := Lib.hid kf1
      have HK2 := Lib.hid kf2
      clear hkl kf1 kf2 hsub
      go_wp2_with fail
      refine HWI.out.mono ?_
      rintro e x3 ⟨a3, c3, rfl, o3, t3⟩
      have HX3 := Lib.hid (HT.out.trans t3 (fun _ _ h => h))
      have hfa := find_any a3 kl.length c3 kl o x3 (OwnK.row o3).2.1
      rw [show findV kl o = .tuple #[bkV' bkZ, .bool false] by unfold findV; rw [HK2.out]] at hfa
      simp only [bkV', bkZ] at hfa
      have HFA := Lib.hid hfa
      have z0 := HCO.out x3 (HT2.out.trans HX3.out (fun _ _ h => h))
      have hc3 := (OwnK.row o3).2.1.hcap
      have hm3 := (OwnK.row o3).2.1.hmax
      clear hfa o3 t3
      go_wp2_with fail
      refine HFA.out.mono ?_
      rintro e x4 ⟨rfl, t4⟩
      obtain ⟨X5, hX5⟩ : ∃ W, x4.alloc (.cells #[.int .i64 0, .int .u32 0, .int .i64 0] 27) = W := ⟨_, rfl⟩
      have t5 : Touch x4 X5 (fun _ => False) := hX5 ▸ (Touch.refl x4 _).alloc _
      have HX5 := Lib.hid (HX3.out.trans (t4.trans t5 (fun _ _ h => h)) (fun _ _ h => h))
      have HXE := Lib.hid hX5
      have HFS := Lib.hid (find_any sa m sc (gsortF bs) o X5 (HRS.out.still HX5.out))
      have HZ0 := Lib.hid (HCO.out X5 (HT2.out.trans HX5.out (fun _ _ h => h)))
      clear t4 t5 hX5 z0
      go_upto_region 18 with (fail)
      rw [HXE.out]
      have z0 := HZ0.out
      obtain ⟨kln, hkln⟩ : ∃ x, kl.length = x := ⟨_, rfl⟩
      rw [hkln] at HK1 hc3 ⊢
      clear hkln
      cases hfo : findF (gsortF bs) o with
      | none =>
        rw [show findV (gsortF bs) o = .tuple #[bkV' bkZ, .bool false] by unfold findV; rw [hfo]] at HFS
        simp only [bkV', bkZ] at HFS
        have hk1 : kln = m := by have h := HK1.out; rw [hfo] at h; simpa using h
        have hkI : ((kln : Int) == (m : Int) - 0) = true := by simp [hk1]
        have hkJ : (kln : Int) = m := by omega
        clear hfo
        go_wp2_with (first
          | (go_at_call 12; (with_reducible refine HFS.out.mono ?_); rintro e x6 ⟨rfl, t6⟩; have T6 := Lib.hid ((t6.alloc (.cells #[.int .i64 0, .int .u32 0, .int .i64 0] 27))); clear t6)
          | (go_at_call 6; (with_reducible refine (HAW.out _ (HT1.out.trans (HT2.out.trans (HX5.out.trans T6.out (fun _ _ h => h)) (fun _ _ h => h)) (fun _ _ h => h))).mono ?_); rintro e x7 ⟨rfl, t7⟩))
        go_ret
        exact ⟨rfl, (HT1.out.trans (HT2.out.trans (HX5.out.trans T6.out (fun _ _ h => h)) (fun _ _ h => h)) (fun _ _ h => h)).trans t7 (fun _ _ h => h)⟩
      | some c =>
        rw [show findV (gsortF bs) o = .tuple #[bkV' c, .bool true] by unfold findV; rw [hfo]] at HFS
        simp only [bkV'] at HFS
        have hk1 : kln + 1 = m := by have h := HK1.out; rw [hfo] at h; simpa using h
        have hkI : ((kln : Int) == (m : Int) - 1) = true := by simp; omega
        have hkJ : (m : Int) - 1 = kln := by omega
        clear hfo
        go_wp2_with (first
          | (go_at_call 12; (with_reducible refine HFS.out.mono ?_); rintro e x6 ⟨rfl, t6⟩; have T6 := Lib.hid ((t6.alloc (.cells #[.int .i64 c.id, .int .u32 c.addr, .int .i64 c.weight] 27))); clear t6)
          | (go_at_call 6; (with_reducible refine (HAW.out _ (HT1.out.trans (HT2.out.trans (HX5.out.trans T6.out (fun _ _ h => h)) (fun _ _ h => h)) (fun _ _ h => h))).mono ?_); rintro e x7 ⟨rfl, t7⟩))
        go_ret
        exact ⟨rfl, (HT1.out.trans (HT2.out.trans (HX5.out.trans T6.out (fun _ _ h => h)) (fun _ _ h => h)) (fun _ _ h => h)).trans t7 (fun _ _ h => h)⟩
set_option maxRecDepth 20000 in
theorem gensFinds_holds : Rows.GensFindsCardSaid := by
  refine gensFinds.said fun H enc W base v0 v1 d0 d1 p0 p1 h0 h1 hT hE hM => ?_
  obtain ⟨a, cap, bs, hv, hr, hok⟩ := h0.tr.backs
  obtain ⟨a', len', cap', rfl⟩ := okWide_slice Tryd.underlying22 h0.ok
  simp only [Value.cells, List.cons.injEq, Value.slice.injEq, and_true] at hv
  obtain ⟨rfl, rfl, rfl⟩ := hv
  obtain ⟨y, rfl, _⟩ := h1.i64 Tryd.underlying3
  exact (gfinds_walk a' cap' bs y W hr hok hT hE hM).mono fun e w' h => ⟨h.1, h.2.below (fun _ _ h => h.elim) (Nat.le_refl _)⟩
end Go.Proofs.YtgpchkobjgglhaaDoor
