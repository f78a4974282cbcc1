/- GensSorted holds: in whatever order a few of unlike numbers come, sorted they are the same; their weights together too. No condition. -/
import Derived.Test.YtgpchkobjgglhaaDoorGnAwakeZ
import Derived.Test.YtgpchkobjgglhaaDoorFrGensSortedZ
import Derived.Test.YtgpchkobjgglhaaDoorGCZ
import Derived.Test.YtgpchkobjgglhaaDoorCalm3Z
import Derived.Deep.DeepCutAuto
set_option linter.unusedVariables false
set_option linter.unusedSimpArgs false
namespace Go.Proofs.YtgpchkobjgglhaaDoor
open Go.ChangeShapes Go.WideShapes Go.ChangeAt Go.RowKit

theorem rowK_front {w : World} {a : Option Addr} {n c : Nat} {bs : List BkD} (h : RowK w a n c bs) (i : Nat) (hi : i ≤ n) : RowK w a i c (bs.take i) := by
  have := RowS.take h i hi
  unfold RowK
  rwa [← List.map_take] at this
theorem rowK_back {w : World} {g off n c : Nat} {bs : List BkD} (h : RowK w (some ⟨g, off, none⟩) n c bs) (i : Nat) (hi : i < n) : RowK w (some ⟨g, off + i * 3, none⟩) (n - i) (c - i) (bs.drop i) := by
  have hl := h.len
  have hc1 := h.hcap
  have hc2 := h.hmax
  refine ⟨by simp; omega, by omega, by omega, fun x hx => by obtain ⟨b, _, rfl⟩ := List.mem_map.1 hx; rfl, ?_⟩
  rcases h.at_ with h0 | ⟨b, o, e, hlt, hc⟩
  · omega
  · injection e with e
    injection e with e1 e2
    subst e1; subst e2
    refine .inr ⟨g, off + i * 3, rfl, hlt, fun j hj m u hu => ?_⟩
    have hj2 : j < (bs.drop i).length := by simpa using hj
    rw [List.length_drop] at hj2
    have := hc (i + j) (by simp; omega) m u (by
      rw [List.getElem_map] at hu ⊢
      rw [List.getElem_drop] at hu
      exact hu)
    rw [show off + i * 3 + j * 3 + m = off + (i + j) * 3 + m by omega]
    exact this
theorem turn_perm (bs : List BkD) (N : Nat) : (bs.drop N ++ bs.take N).Perm bs := by
  refine List.perm_append_comm.trans ?_
  rw [List.take_append_drop]
set_option maxRecDepth 20000 in
set_option maxHeartbeats 8000000 in
theorem gsorted_walk (a : Option Addr) (cap : Nat) (bs : List BkD) (y : Int) (w : World) (hr : RowK w a bs.length cap bs) (hok : ∀ b ∈ bs, BkOk b) (hT : TabW w) (hE : ErrW w) (hM : MaxW w) :
    Calls Tryd.prog 5 #[.slice a bs.length cap, .int .i64 y] w fun e w' => e = .returned (.bool true) ∧ Touch w w' (fun _ => False) := by
  have HAW : RowKit.Hid (∀ W, Touch w W (fun _ => False) → Calls Tryd.prog 6 #[] W fun e w' => e = .returned (.bool true) ∧ Touch W w' (fun _ => False)) := Lib.hid (fun W t => awake13 W (hT.touch t) (hE.touch t) (hM.touch t))
  have HR := Lib.hid hr
  have hcap1 := hr.hcap
  have hmax1 := hr.hmax
  have HBK : RowKit.Hid (∀ b ∈ bs, i64D b.id) := Lib.hid (fun b hb => (hok b hb).id)
  clear hT hE hM hr hok
  by_cases h0 : bs.length = 0
  · have hz : ((bs.length : Int) == 0) = true := by simpa using h0
    clear HR HBK
    generalize bs.length = n at *
    go_enter Tryd.func5, Tryd.ntmps5
    go_wp2_with (go_at_call 6; (with_reducible refine (HAW.out _ (Touch.refl _ _)).mono ?_); rintro e w9 ⟨rfl, t9⟩; have HT9 := Lib.hid (((Touch.refl w (fun _ => False))).trans t9 (fun _ _ h => h)); clear t9)
    go_ret
    exact ⟨rfl, HT9.out⟩
  have hz : ((bs.length : Int) == 0) = false := by simpa using h0
  by_cases h16 : 16 < bs.length
  · have hzz : (16 : Int) < bs.length := by omega
    clear HR HBK
    generalize bs.length = n at *
    go_enter Tryd.func5, Tryd.ntmps5
    go_wp2_with (go_at_call 6; (with_reducible refine (HAW.out _ (Touch.refl _ _)).mono ?_); rintro e w9 ⟨rfl, t9⟩; have HT9 := Lib.hid (((Touch.refl w (fun _ => False))).trans t9 (fun _ _ h => h)); clear t9)
    go_ret
    exact ⟨rfl, HT9.out⟩
  have hzz : ¬ (16 : Int) < bs.length := by omega
  have h17 : bs.length ≤ 16 := by omega
  obtain ⟨b, off, rfl⟩ := HR.out.some (by omega)
  obtain ⟨n, hn⟩ : ∃ n, bs.length = n := ⟨_, rfl⟩
  have HN := Lib.hid hn
  rw [hn] at HR hcap1 h0 hz h16 hzz h17 ⊢
  clear hn
  go_enter Tryd.func5, Tryd.ntmps5
  go_wp2_with fail
  go_loopw [22] (fun s wr => ∃ k : Nat, k ≤ n ∧ s = .int .i64 k ∧ ((bs.take k).map BkD.id).Nodup ∧ Touch w wr (fun _ => False)) (fun s _ => n - (RowKit.intOf s).toNat)
  case atStart => exact ⟨0, Nat.zero_le _, rfl, List.nodup_nil, Touch.refl _ _⟩
  case round =>
    obtain ⟨k, hk, rfl, hnd, ht⟩ := hrel
    have HND := Lib.hid hnd
    have HT := Lib.hid ht
    clear hnd ht
    by_cases hlt : k < n
    case pos =>
      have hr := HR.out.still HT.out
      have hk1 : k < bs.length := by rw [HN.out]; exact hlt
      obtain ⟨c0, c1, c2⟩ := hr.cells k hk1
      have HS : RowKit.Hid ((bs.take (k + 1)).map BkD.id = (bs.take k).map BkD.id ++ [bs[k].id]) := Lib.hid (by rw [List.take_succ_eq_append_getElem hk1, List.map_append]; rfl)
      generalize bs[k] = f at *
      obtain ⟨W2, hW2⟩ : ∃ W, wr.alloc (.cells #[.int .i64 f.id, .int .u32 f.addr, .int .i64 f.weight] 27) = W := ⟨_, rfl⟩
      obtain ⟨KB, hKB⟩ : ∃ b, wr.heap.size = b := ⟨_, rfl⟩
      have t1 : Touch wr W2 (fun _ => False) := hW2 ▸ (Touch.refl wr _).alloc _
      have g2 : W2.heap[KB]? = some (.cells #[.int .i64 f.id, .int .u32 f.addr, .int .i64 f.weight] 27 (0, 0)) := hKB ▸ hW2 ▸ heap_alloc_new ..
      have HT2 := Lib.hid (HT.out.trans t1 (fun _ _ h => h))
      have HG2 := Lib.hid g2
      have HW2 := Lib.hid (And.intro hW2 hKB)
      have hlI : (k : Int) < n := by omega
      clear hr t1 g2 hW2 hKB
      go_upto_region 6 with (fail)
      rw [HW2.out.1, HW2.out.2]
      clear c0 c1 c2
      obtain ⟨Wo, hWo⟩ : ∃ Wo, Wo = wr := ⟨_, rfl⟩
      clear hWo
      go_wp2_with fail
      go_loopw [31] (fun s wr => ∃ j : Nat, j ≤ k ∧ s = .int .i64 j ∧ f.id ∉ (bs.take j).map BkD.id ∧ Touch W2 wr (fun _ => False)) (fun s _ => k - (RowKit.intOf s).toNat)
      case atStart => exact ⟨0, Nat.zero_le _, rfl, by simp, Touch.refl _ _⟩
      case round =>
        obtain ⟨j, hj, rfl, hni, hti⟩ := hrel
        have HNI := Lib.hid hni
        have HTI := Lib.hid hti
        clear hni hti
        by_cases hlj : j < k
        case pos =>
          have hr := HR.out.still (HT2.out.trans HTI.out (fun _ _ h => h))
          have hj1 : j < bs.length := by rw [HN.out]; omega
          obtain ⟨c0, c1, c2⟩ := hr.cells j hj1
          have HSJ : RowKit.Hid ((bs.take (j + 1)).map BkD.id = (bs.take j).map BkD.id ++ [bs[j].id]) := Lib.hid (by rw [List.take_succ_eq_append_getElem hj1, List.map_append]; rfl)
          generalize bs[j] = q at *
          obtain ⟨W3, hW3⟩ : ∃ W, wr.alloc (.cells #[.int .i64 q.id, .int .u32 q.addr, .int .i64 q.weight] 27) = W := ⟨_, rfl⟩
          obtain ⟨KC, hKC⟩ : ∃ b, wr.heap.size = b := ⟨_, rfl⟩
          have t3 : Touch wr W3 (fun _ => False) := hW3 ▸ (Touch.refl wr _).alloc _
          have g3 : W3.heap[KC]? = some (.cells #[.int .i64 q.id, .int .u32 q.addr, .int .i64 q.weight] 27 (0, 0)) := hKC ▸ hW3 ▸ heap_alloc_new ..
          have HT3 := Lib.hid (HTI.out.trans t3 (fun _ _ h => h))
          have HG3 := Lib.hid g3
          have HW3 := Lib.hid (And.intro hW3 hKC)
          have hljI : (j : Int) < k := by omega
          clear hr t3 g3 hW3 hKC
          go_upto_region 9 with (fail)
          rw [HW3.out.1, HW3.out.2]
          clear c0 c1 c2
          have x0 : W3.cell? ⟨KB, 0, none⟩ = some (.int .i64 f.id) := cell_of_cells (HT3.out.keeps HG2.out (fun h => h)) 0
          have y0 : W3.cell? ⟨KC, 0, none⟩ = some (.int .i64 q.id) := cell_of_cells HG3.out 0
          by_cases he : f.id = q.id
          · have heb : (f.id == q.id) = true := by simpa using he
            go_wp2_with (go_at_call 6; (with_reducible refine (HAW.out _ (HT2.out.trans HT3.out (fun _ _ h => h))).mono ?_); rintro e w9 ⟨rfl, t9⟩; have HT9 := Lib.hid (((HT2.out.trans HT3.out (fun _ _ h => h))).trans t9 (fun _ _ h => h)); clear t9)
            go_ret
            exact ⟨rfl, HT9.out⟩
          · have heb : (f.id == q.id) = false := by simpa using he
            have HX : RowKit.Hid (f.id ∉ (bs.take (j + 1)).map BkD.id) := Lib.hid (by
              rw [HSJ.out, List.mem_append]
              rintro (h | h)
              · exact HNI.out h
              · exact he (List.mem_singleton.1 h))
            clear he
            go_wp2_with fail
            exact ⟨⟨j + 1, hlj, by go_num, HX.out, HT3.out⟩, by simp [RowKit.intOf]; omega⟩
        case neg =>
          obtain rfl : j = k := by omega
          have hlj' : ¬ (j : Int) < j := by omega
          have HX : RowKit.Hid (((bs.take (j + 1)).map BkD.id).Nodup) := Lib.hid (by
            rw [HS.out, List.nodup_append]
            refine ⟨HND.out, by simp, fun x hx z hz e => ?_⟩
            subst e
            rw [List.mem_singleton.1 hz] at hx
            exact HNI.out hx)
          have HT5 := Lib.hid (HT2.out.trans HTI.out (fun _ _ h => h))
          go_wp2_with fail
          exact ⟨⟨j + 1, hlt, by go_num, HX.out, HT5.out⟩, by simp [RowKit.intOf]; omega⟩
    case neg =>
      obtain rfl : k = n := by omega
      have hlI : ¬ (k : Int) < k := by omega
      have HNDA : RowKit.Hid ((bs.map BkD.id).Nodup) := Lib.hid (by have h := HND.out; rwa [← HN.out, List.take_length] at h)
      have hk0 : 0 < k := by omega
      obtain ⟨N, hN, hN1⟩ : ∃ N : Nat, wrap64 ((IntKind.u64.wrap y).tmod (k : Int)) = (N : Int) ∧ (N : Int) < k := by
        have hu : 0 ≤ IntKind.u64.wrap y := by simp only [IntKind.wrap_u64]; omega
        have h2 : (IntKind.u64.wrap y).tmod (k : Int) = (IntKind.u64.wrap y) % (k : Int) := Int.tmod_eq_emod_of_nonneg hu
        have h3 := Int.emod_nonneg (IntKind.u64.wrap y) (show (k : Int) ≠ 0 by omega)
        have h4 := Int.emod_lt_of_pos (IntKind.u64.wrap y) (show (0 : Int) < k by omega)
        rw [h2]
        generalize (IntKind.u64.wrap y) % (k : Int) = z at *
        refine ⟨z.toNat, ?_, by omega⟩
        unfold wrap64
        omega
      have HGN := Lib.hid hN
      clear hN
      go_upto_region 14 with (fail)
      rw [HGN.out]
      obtain ⟨wz, hwz⟩ : ∃ W, wr = W := ⟨_, rfl⟩
      rw [hwz] at HT ⊢
      clear hwz
      have hci : ¬ cap = N := by omega
      have hNk : N < k := by omega
      have hNle : N ≤ cap := by omega
      have hNk2 : N ≤ k := by omega
      have HRB : RowKit.Hid (∀ W, Touch wz W (fun _ => False) → RowS W (some ⟨b, off + N * 3, none⟩) (k - N) (cap - N) 3 ((bs.drop N).map BkD.cells)) := Lib.hid (fun W t => rowK_back (HR.out.still (HT.out.trans t (fun _ _ h => h))) N hNk)
      have HRF : RowKit.Hid (∀ W, Touch wz W (fun _ => False) → RowS W (some ⟨b, off, none⟩) N cap 3 ((bs.take N).map BkD.cells)) := Lib.hid (fun W t => rowK_front (HR.out.still (HT.out.trans t (fun _ _ h => h))) N (by omega))
      have HLD : RowKit.Hid ((bs.drop N).length = k - N) := Lib.hid (by rw [List.length_drop, HN.out])
      have HLA : RowKit.Hid ((bs.drop N ++ bs.take N).length = k) := Lib.hid (by rw [(turn_perm bs N).length_eq, HN.out])
      go_cut [9] (fun s wx => ∃ a9 c9, s = .slice a9 k c9 ∧ OwnK wx wz.heap.size (.slice a9 k c9) (bs.drop N ++ bs.take N) ∧ Touch wz wx (fun _ => False))
      case first =>
        go_wp2_with fail
        have hS := (Touch.refl wz (fun _ => False)).drew
        refine wp_region_tree3 (fun w' => Touch wz w' (fun _ => False)) (.take 0 (.take 1 (.take 2 (.take 4 (.take 5 (.take 6 (.one 3 (.one 7 (.take 8 .fin))))))))) (by kernel_rfl) (by kernel_rfl) (by kernel_rfl) (by kernel_rfl) hS ?_
        refine walk3_take ?_
        (refine takeN_take (v := ?_) (some 50) rfl rfl (fun _ _ _ h => h) (by rfl) ?_ ?_; rotate_left; (focus (intro w' hw'; go_simp; (try with_reducible rfl))); (try simp only [Act.put, List.setIfInBounds_toArray, List.set_cons_zero, List.set_cons_succ]))
        refine walk3_take ?_
        (refine takeN_take (v := ?_) (some 51) rfl rfl (fun _ _ _ h => h) (by rfl) ?_ ?_; rotate_left; (focus (intro w' hw'; go_simp; (try with_reducible rfl))); (try simp only [Act.put, List.setIfInBounds_toArray, List.set_cons_zero, List.set_cons_succ]))
        refine walk3_take ?_
        (refine takeN_take (v := ?_) (some 52) rfl rfl (fun _ _ _ h => h) (by rfl) ?_ ?_; rotate_left; (focus (intro w' hw'; go_simp; (try simp only [hci, hNk2, if_false, if_true]); (try with_reducible rfl))); (try simp only [Act.put, List.setIfInBounds_toArray, List.set_cons_zero, List.set_cons_succ]))
        refine walk3_take ?_
        (refine takeN_take (v := ?_) (some 54) rfl rfl (fun _ _ _ h => h) (by rfl) ?_ ?_; rotate_left; (focus (intro w' hw'; go_simp; (try with_reducible rfl))); (try simp only [Act.put, List.setIfInBounds_toArray, List.set_cons_zero, List.set_cons_succ]))
        refine walk3_take ?_
        (refine takeN_take (v := ?_) (some 55) rfl rfl (fun _ _ _ h => h) (by rfl) ?_ ?_; rotate_left; (focus (intro w' hw'; go_simp; (try with_reducible rfl))); (try simp only [Act.put, List.setIfInBounds_toArray, List.set_cons_zero, List.set_cons_succ]))
        refine walk3_take ?_
        (refine takeN_take (v := ?_) (some 56) rfl rfl (fun _ _ _ h => h) (by rfl) ?_ ?_; rotate_left; (focus (intro w' hw'; go_simp; (try with_reducible rfl))); (try simp only [Act.put, List.setIfInBounds_toArray, List.set_cons_zero, List.set_cons_succ]))
        refine walk3_one ?_
        (refine runN_appS 53 (.const (.slice none 0 0)) (.tmp 52) _ rfl rfl rfl (by rfl) 27 Tryd.underlying22 _ 3 24 infoBk rfl (by decide) wz.heap.size _ _ rfl (OwnS.nil _ _ _ _) _ _ _ _ rfl (HRB.out _ hS) (bk_one _) (k - N) ((bs.drop N).map BkD.cells) (by simp) (by simp) (by simp only [maxLen]; omega) (by omega) hS.size ?_; intro a3 c3 w3 how9 hg9 hp9; have t9 := (Touch.refl _ (fun q => wz.heap.size ≤ q)).grown hg9 (fun q hq _ => by cases hq); have hS := hS.trans t9 (fun q h1 h2 => by have h2 : wz.heap.size ≤ q := h2; omega); refine ⟨hS, fun _ => ?_⟩; have HO3 := Lib.hid how9; clear how9 hg9 hp9 t9; (try simp only [Act.put, List.setIfInBounds_toArray, List.set_cons_zero, List.set_cons_succ]))
        refine walk3_one ?_
        (refine runN_appS 57 (.tmp 53) (.tmp 56) _ rfl rfl rfl (by rfl) 27 Tryd.underlying22 _ 3 24 infoBk rfl (by decide) wz.heap.size _ _ rfl HO3.out _ _ _ _ rfl (HRF.out _ hS) (bk_one _) (k) ((bs.drop N ++ bs.take N).map BkD.cells) (by rw [List.map_append]) (by rw [List.length_map, HLD.out]; omega) (by simp only [maxLen]; omega) (by omega) hS.size ?_; intro a7 c7 w7 how9 hg9 hp9; have t9 := (Touch.refl _ (fun q => wz.heap.size ≤ q)).grown hg9 (fun q hq _ => (HO3.out.own.lt q hq).1); have hS := hS.trans t9 (fun q h1 h2 => by have h2 : wz.heap.size ≤ q := h2; omega); refine ⟨hS, fun _ => ?_⟩; have HO7 := Lib.hid how9; clear how9 hg9 hp9 t9; (try simp only [Act.put, List.setIfInBounds_toArray, List.set_cons_zero, List.set_cons_succ]))
        refine walk3_take ?_
        (refine takeN_take (v := ?_) (some 9) rfl rfl (fun _ _ _ h => h) (by rfl) ?_ ?_; rotate_left; (focus (intro w' hw'; go_simp; (try with_reducible rfl))); (try simp only [Act.put, List.setIfInBounds_toArray, List.set_cons_zero, List.set_cons_succ]))
        refine walk3_fin ?_
        go_wp2_with fail
        go_meet
        exact ⟨_, _, rfl, HO7.out, hS⟩
      case rest =>
        obtain ⟨a9, c9, rfl, ho9, t9⟩ := hcut
        have hrow9 := (OwnK.row ho9).2.1
        have HT9 := Lib.hid (HT.out.trans t9 (fun _ _ h => h))
        obtain ⟨wy, hwy⟩ : ∃ W, wc = W := ⟨_, rfl⟩
        rw [hwy] at HT9 hrow9 ⊢
        have HR1 := Lib.hid (HR.out.still HT9.out)
        have HR2 := Lib.hid hrow9
        have HS1 := Lib.hid (gsort_any (some ⟨b, off, none⟩) k cap bs wy HR1.out HBK.out)
        have hp := turn_perm bs N
        have HS2 : RowKit.Hid (∀ W, Touch wy W (fun _ => False) → Calls Tryd.prog 7 #[.slice a9 k c9] W fun e w' => ∃ a' c', e = .returned (.slice a' (gsortF bs).length c') ∧ OwnK w' W.heap.size (.slice a' (gsortF bs).length c') (gsortF bs) ∧ Touch W w' (fun _ => False)) := Lib.hid (fun W t => by
          have h := gsort_any a9 k c9 (bs.drop N ++ bs.take N) W (HR2.out.still t) (fun x hx => HBK.out x (hp.mem_iff.1 hx))
          rwa [gsort_turn (by have := HN.out; omega) HNDA.out hp] at h)
        have HLS : RowKit.Hid ((gsortF bs).length = k) := Lib.hid (by rw [(gsort_nd (by have := HN.out; omega) HNDA.out).length_eq, HN.out])
        have HWQ : RowKit.Hid (weightF (gsortF bs) = weightF bs) := Lib.hid (weightF_perm (gsort_nd (by have := HN.out; omega) HNDA.out))
        rw [HLS.out] at HS1 HS2
        clear ho9 t9 hwy hrow9 hp hci hNk hNle
        go_wp2_with fail
        refine HS1.out.mono ?_
        rintro e x1 ⟨a1, c1, rfl, o1, t1⟩
        have HO1 := Lib.hid o1
        have HX1 := Lib.hid t1
        clear o1 t1
        go_wp2_with fail
        refine (HS2.out _ HX1.out).mono ?_
        rintro e x2 ⟨a2, c2, rfl, o2, t2⟩
        have HX2 := Lib.hid (HX1.out.trans t2 (fun _ _ h => h))
        have HRA := Lib.hid ((OwnK.row HO1.out).2.1.still t2)
        have HRB2 := Lib.hid (OwnK.row o2).2.1
        have HSM := Lib.hid (rsameK_any a1 k c1 (gsortF bs) a2 k c2 (gsortF bs) x2 HRA.out HRB2.out)
        rw [(sameK_eq _ _).2 rfl] at HSM
        have HW1 : RowKit.Hid (∀ W, Touch x2 W (fun _ => False) → Calls Tryd.prog 16 #[.slice (some ⟨b, off, none⟩) k cap] W fun e w' => e = .returned (.int .i64 (weightF bs)) ∧ Touch W w' (fun _ => False)) := Lib.hid (fun W t => gweight_any _ _ _ bs W (HR1.out.still (HX2.out.trans t (fun _ _ h => h))) (by omega))
        have HW2 : RowKit.Hid (∀ W, Touch x2 W (fun _ => False) → Calls Tryd.prog 16 #[.slice a1 k c1] W fun e w' => e = .returned (.int .i64 (weightF bs)) ∧ Touch W w' (fun _ => False)) := Lib.hid (fun W t => by
          have h := gweight_any a1 k c1 (gsortF bs) W (HRA.out.still t) (by omega)
          rwa [HWQ.out] at h)
        clear o2 t2
        generalize weightF bs = wt at *
        go_wp2_with (first
          | (go_at_call 15; (with_reducible refine HSM.out.mono ?_); rintro e x3 ⟨rfl, m3, rfl⟩; have T3 := Lib.hid ((Touch.refl x2 (fun _ => False)).drewN m3))
          | (go_at_call 16; (with_reducible refine (HW1.out _ T3.out).mono ?_); rintro e x4 ⟨rfl, t4⟩; have T4 := Lib.hid (T3.out.trans t4 (fun _ _ h => h)); clear t4)
          | (go_at_call 16; (with_reducible refine (HW2.out _ T4.out).mono ?_); rintro e x5 ⟨rfl, t5⟩; have T5 := Lib.hid (T4.out.trans t5 (fun _ _ h => h)); clear t5)
          | (go_at_call 6; (with_reducible refine (HAW.out _ (HT9.out.trans (HX2.out.trans T5.out (fun _ _ h => h)) (fun _ _ h => h))).mono ?_); rintro e x6 ⟨rfl, t6⟩))
        go_ret
        exact ⟨rfl, (HT9.out.trans (HX2.out.trans T5.out (fun _ _ h => h)) (fun _ _ h => h)).trans t6 (fun _ _ h => h)⟩
set_option maxRecDepth 20000 in
theorem gensSorted_holds : Rows.GensSortedCardSaid := by
  refine gensSorted.said fun H enc W base v0 v1 d0 d1 p0 p1 h0 h1 hT hE hM => ?_
  obtain ⟨a, cap, bs, hv, hr, hok⟩ := h0.tr.backs
  obtain ⟨a', len', cap', rfl⟩ := okWide_slice Tryd.underlying22 h0.ok
  simp only [Value.cells, List.cons.injEq, Value.slice.injEq, and_true] at hv
  obtain ⟨rfl, rfl, rfl⟩ := hv
  obtain ⟨y, rfl, _⟩ := h1.i64 Tryd.underlying3
  exact (gsorted_walk a' cap' bs y W hr hok hT hE hM).mono fun e w' h => ⟨h.1, h.2.below (fun _ _ h => h.elim) (Nat.le_refl _)⟩
end Go.Proofs.YtgpchkobjgglhaaDoor
