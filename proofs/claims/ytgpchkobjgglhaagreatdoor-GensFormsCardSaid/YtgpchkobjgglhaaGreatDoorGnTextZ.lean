/- A set of backends as text: Text. -/
import Derived.Test.YtgpchkobjgglhaaGreatDoorGnTextMZ
import Derived.Test.YtgpchkobjgglhaaGreatDoorGnMZ
import Derived.Test.YtgpchkobjgglhaaGreatDoorCalm3Z
set_option linter.unusedVariables false
set_option linter.unusedSimpArgs false
namespace Go.Proofs.YtgpchkobjgglhaaGreatDoor
open Go.RowKit

theorem catS_run (a b : List UInt8) (h : a.length + b.length ≤ 1000) (x y : Operand) (W : World) :
    (do eqGuard BinOp.add 9 x y (.string (mkS a)) (.string (mkS b)); binOp BinOp.add 9 (.string (mkS a)) (.string (mkS b)) : Sem Value).run Tryz.prog W = .ok (.string (mkS (a ++ b))) W := by
  rw [← mkS_append]
  have h1 : (mkS a).size + (mkS b).size ≤ 1000 := by rw [mkS_size, mkS_size]; exact h
  generalize mkS a = s at *
  generalize mkS b = t at *
  have h2 : s.size + t.size ≤ 9223372036854775807 := by omega
  go_simp
theorem enter_itoa (a : Value) (w : World) : (callFunc 37 #[a]).run Tryz.prog w = .ok (.enter 37 #[a]) w := by kernel_rfl
theorem enter_addr (a : Value) (w : World) : (callFunc 38 #[a]).run Tryz.prog w = .ok (.enter 38 #[a]) w := by kernel_rfl
def sL (b : BkD) : List Value := [.string (mkS (bkL b))]
theorem sL_flat (bs : List BkD) : (bs.map sL).flatten = strs (bs.map bkL) := by
  induction bs with
  | nil => rfl
  | cons b r ih => simp only [List.map_cons, List.flatten_cons, ih]; rfl
set_option maxRecDepth 20000 in
set_option maxHeartbeats 4000000 in
theorem gtext_any (a : Option Addr) (len cap : Nat) (bs : List BkD) (w : World) (hr : RowK w a len cap bs) (hok : ∀ b ∈ bs, BkOk b) (hlen : len ≤ 100) (hT : TabW w) :
    Calls Tryz.prog 20 #[.slice a len cap] w fun e w' => e = .returned (.string (mkS (bksL bs))) ∧ Touch w w' (fun _ => False) := by
  have hl := hr.len
  by_cases h0 : len = 0
  · subst h0
    have hb : bs = [] := List.eq_nil_of_length_eq_zero hl
    subst hb
    clear hr hok
    go_enter Tryz.func20, Tryz.ntmps20
    go_wp2
    go_ret
    exact ⟨rfl, Touch.refl _ _⟩
  · have hcap := hr.hmax
    have hcap1 := hr.hcap
    have HR := Lib.hid hr
    have HL := Lib.hid hl
    have HOKS := Lib.hid hok
    have HTAB := Lib.hid hT
    have hz0 : ((len : Int) == 0) = false := by simpa using h0
    clear hr hok hl hT
    go_enter Tryz.func20, Tryz.ntmps20
    go_wp2_with fail
    go_loopw [3, 11] (fun s i wr => ∃ (k : Nat) (a' : Option Addr) (c' : Nat), k ≤ len ∧ i = .int .i64 k ∧ s = .slice a' k c' ∧ OwnS wr w.heap.size 9 1 (.slice a' k c') ((bs.take k).map sL) ∧ Touch w wr (fun _ => False)) (fun _ i _ => len - (RowKit.intOf i).toNat)
    case atStart => exact ⟨0, none, 0, Nat.zero_le _, rfl, rfl, OwnS.nil _ _ _ _, Touch.refl _ _⟩
    case round =>
      obtain ⟨k, a', c', hk, rfl, rfl, ho, ht⟩ := hrel
      have HO := Lib.hid ho
      have HT := Lib.hid ht
      clear ho ht
      by_cases hlt : k < len
      case neg =>
        obtain rfl : len = k := by omega
        have hlt' : ¬ (len : Int) < len := by omega
        have e : bs.take len = bs := by rw [← HL.out, List.take_length]
        have ho := HO.out.own
        rw [e, sL_flat] at ho
        have hls : (bs.map sL).length = len := by rw [List.length_map]; exact HL.out
        rw [hls] at ho
        obtain ⟨g, rfl, hg, hcells, hc2⟩ := strs_row ho (by omega)
        have hbl := bksL_len bs HOKS.out
        have hne : bs ≠ [] := fun e => by rw [e] at HL; exact h0 HL.out.symm
        have hjn := Tryz.strings_Join g 0 c' ((bs.map bkL).map mkS) (mkS [44]) wr (fun j y hy => by rw [Nat.zero_add]; exact hcells j y hy) hg (by simp only [List.length_map]; have := HL.out; omega) (by simp only [List.length_map]; have := HL.out; omega) (by
          rw [map_mkS, mkS_data]
          unfold bksL at hbl
          rw [if_neg hne] at hbl
          have := HL.out
          exact Nat.le_trans hbl (by omega))
        rw [map_mkS, mkS_data] at hjn
        have hjl : ((bs.map bkL).map mkS).length = len := by simp only [List.length_map]; exact HL.out
        rw [hjl] at hjn
        have HJ := Lib.hid hjn
        have HE : RowKit.Hid (bksL bs = Lib.join (bs.map bkL) [44]) := Lib.hid (by unfold bksL; rw [if_neg hne])
        clear hjn hcells ho hbl hjl
        go_wp2_with fail
        refine HJ.out.mono ?_
        rintro e9 w4 ⟨rfl, hb⟩
        go_wp2_with fail
        go_ret
        exact ⟨by rw [HE.out]; rfl, HT.out.trans (Touch.ofBelow (S := fun _ => False) hb (fun k h1 h2 => by omega)) (fun _ _ h => h)⟩
      case pos =>
      have hr := HR.out.still HT.out
      obtain ⟨b, off, rfl⟩ := hr.some (by omega)
      have hk1 : k < bs.length := by rw [HL.out]; exact hlt
      obtain ⟨c0, c1, c2⟩ := hr.cells k hk1
      have HOK := Lib.hid (HOKS.out _ (List.getElem_mem hk1))
      have HSN : RowKit.Hid ((bs.take k).map sL ++ [sL bs[k]] = (bs.take (k + 1)).map sL) := Lib.hid (by rw [List.take_succ_eq_append_getElem hk1, List.map_append]; rfl)
      have HKL : RowKit.Hid ((bs.take k).length = k) := Lib.hid (by rw [List.length_take]; omega)
      generalize bs[k] = f at *
      obtain ⟨W2, hW2⟩ : ∃ W, wr.alloc (.cells #[.int .i64 f.id, .int .u32 f.addr, .int .i64 f.weight] 27) = W := ⟨_, rfl⟩
      obtain ⟨KB, hKB⟩ : ∃ b, wr.heap.size = b := ⟨_, rfl⟩
      have t1 : Touch wr W2 (fun _ => False) := hW2 ▸ (Touch.refl wr _).alloc _
      have g2 : W2.heap[KB]? = some (.cells #[.int .i64 f.id, .int .u32 f.addr, .int .i64 f.weight] 27 (0, 0)) := hKB ▸ hW2 ▸ heap_alloc_new ..
      have HT2 := Lib.hid (HT.out.trans t1 (fun _ _ h => h))
      have HO2 := Lib.hid (OwnS.still HO.out t1)
      have HNO : RowKit.Hid (∀ q, (Value.slice a' k c').ownBlock = some q → ¬ q < w.heap.size) := Lib.hid (fun q hq h => by have := (HO.out.own.lt q hq).1; omega)
      have HNK : RowKit.Hid (∀ q, (Value.slice a' k c').ownBlock = some q → q ≠ KB) := Lib.hid (fun q hq h => by have := (HO.out.own.lt q hq).2; omega)
      have HCB : RowKit.Hid (∀ w', Touch W2 w' (fun q => (Value.slice a' k c').ownBlock = some q) → w'.cell? ⟨KB, 0, none⟩ = some (.int .i64 f.id) ∧ w'.cell? ⟨KB, 1, none⟩ = some (.int .u32 f.addr) ∧ w'.cell? ⟨KB, 2, none⟩ = some (.int .i64 f.weight)) := Lib.hid (fun w' t => by
        have h := t.keeps g2 (fun e => HNK.out _ e rfl)
        exact ⟨cell_of_cells h 0, cell_of_cells h 1, cell_of_cells h 2⟩)
      have HTW : RowKit.Hid (∀ w', Touch W2 w' (fun q => (Value.slice a' k c').ownBlock = some q) → TabW w') := Lib.hid (fun w' t => HTAB.out.touch (HT2.out.trans t (fun q hq e => HNO.out q e hq)))
      have HS0 : RowKit.Hid (Touch W2 W2.drew (fun q => (Value.slice a' k c').ownBlock = some q)) := Lib.hid (Touch.refl _ _).drew
      have HOW : RowKit.Hid (OwnS W2.drew w.heap.size 9 1 (.slice a' k c') ((bs.take k).map sL)) := Lib.hid (OwnS.still HO2.out (Touch.refl W2 _).drew)
      have HW2 := Lib.hid (And.intro hW2 hKB)
      have hlI : (k : Int) < len := by omega
      clear hr t1 g2 hW2 hKB
      go_upto_region 7 with (fail)
      rw [HW2.out.1, HW2.out.2]
      have hS := HS0.out
      refine wp_region_tree3 (fun w' => Touch W2 w' (fun q => (Value.slice a' k c').ownBlock = some q)) (.take 0 (.take 1 (.take 2 (.take 5 (.take 6 (.take 10 (.take 11 (.one 3 (.take 4 (.one 7 (.take 8 (.take 9 (.one 12 (.take 13 (.one 14 (.one 15 (.take 16 .fin))))))))))))))))) (by kernel_rfl) (by kernel_rfl) (by kernel_rfl) (by kernel_rfl) hS ?_
      refine walk3_take ?_
      (refine takeN_take (v := ?_) (some 15) rfl rfl (fun _ _ _ h => h) (by rfl) ?_ ?_; rotate_left; (focus (intro w' hw'; go_simp; (try with_reducible rfl))); (try simp only [Act.put, List.setIfInBounds_toArray, List.set_cons_zero, List.set_cons_succ]))
      refine walk3_take ?_
      (refine takeN_take (v := ?_) (some 16) rfl rfl (fun _ _ _ h => h) (by rfl) ?_ ?_; rotate_left; (focus (intro w' hw'; go_simp; (try with_reducible rfl))); (try simp only [Act.put, List.setIfInBounds_toArray, List.set_cons_zero, List.set_cons_succ]))
      refine walk3_take ?_
      (refine takeN_take (v := ?_) (some 17) rfl rfl (fun _ _ _ h => h) (by rfl) ?_ ?_; rotate_left; (focus (intro w' hw'; obtain ⟨y0, y1, y2⟩ := HCB.out w' hw'; go_simp; (try with_reducible rfl))); (try simp only [Act.put, List.setIfInBounds_toArray, List.set_cons_zero, List.set_cons_succ]))
      refine walk3_take ?_
      (refine takeN_take (v := ?_) (some 20) rfl rfl (fun _ _ _ h => h) (by rfl) ?_ ?_; rotate_left; (focus (intro w' hw'; go_simp; (try with_reducible rfl))); (try simp only [Act.put, List.setIfInBounds_toArray, List.set_cons_zero, List.set_cons_succ]))
      refine walk3_take ?_
      (refine takeN_take (v := ?_) (some 21) rfl rfl (fun _ _ _ h => h) (by rfl) ?_ ?_; rotate_left; (focus (intro w' hw'; obtain ⟨y0, y1, y2⟩ := HCB.out w' hw'; go_simp; (try with_reducible rfl))); (try simp only [Act.put, List.setIfInBounds_toArray, List.set_cons_zero, List.set_cons_succ]))
      refine walk3_take ?_
      (refine takeN_take (v := ?_) (some 25) rfl rfl (fun _ _ _ h => h) (by rfl) ?_ ?_; rotate_left; (focus (intro w' hw'; go_simp; (try with_reducible rfl))); (try simp only [Act.put, List.setIfInBounds_toArray, List.set_cons_zero, List.set_cons_succ]))
      refine walk3_take ?_
      (refine takeN_take (v := ?_) (some 26) rfl rfl (fun _ _ _ h => h) (by rfl) ?_ ?_; rotate_left; (focus (intro w' hw'; obtain ⟨y0, y1, y2⟩ := HCB.out w' hw'; go_simp; (try with_reducible rfl))); (try simp only [Act.put, List.setIfInBounds_toArray, List.set_cons_zero, List.set_cons_succ]))
      refine walk3_one ?_
      (refine runN_call 18 37 _ _ _ (itoa_call f.id _ HOK.out.id.1 HOK.out.id.2 (HTW.out _ hS)) rfl rfl rfl (by rfl) rfl (enter_itoa _ _) ?_; rintro e x9 ⟨rfl, t9⟩; have HOW := Lib.hid (HOW.out.still t9); have hS := hS.trans t9 (fun _ _ h => h.elim); refine ⟨_, rfl, hS, fun hS => ?_⟩; clear t9; (try simp only [Act.put, List.setIfInBounds_toArray, List.set_cons_zero, List.set_cons_succ]))
      refine walk3_take ?_
      (refine takeN_bin (some 19) _ _ _ _ _ _ _ _ (catS_run (Lib.itoa f.id) [64] (by have := Lib.itoa_length_le f.id HOK.out.id.1 HOK.out.id.2; simp; omega)) rfl rfl rfl rfl rfl (fun _ _ _ h => h) (by rfl) ?_; (try simp only [Act.put, List.setIfInBounds_toArray, List.set_cons_zero, List.set_cons_succ]))
      refine walk3_one ?_
      (refine runN_call 22 38 _ _ _ (addr_any f.addr _ HOK.out.addr.1 HOK.out.addr.2 (HTW.out _ hS)) rfl rfl rfl (by rfl) rfl (enter_addr _ _) ?_; rintro e x9 ⟨rfl, t9⟩; have HOW := Lib.hid (HOW.out.still t9); have hS := hS.trans t9 (fun _ _ h => h.elim); refine ⟨_, rfl, hS, fun hS => ?_⟩; clear t9; (try simp only [Act.put, List.setIfInBounds_toArray, List.set_cons_zero, List.set_cons_succ]))
      refine walk3_take ?_
      (refine takeN_bin (some 23) _ _ _ _ _ _ _ _ (catS_run (Lib.itoa f.id ++ [64]) (addrL f.addr) (by have := Lib.itoa_length_le f.id HOK.out.id.1 HOK.out.id.2; have := addrL_len f.addr HOK.out.addr.1 HOK.out.addr.2; simp; omega)) rfl rfl rfl rfl rfl (fun _ _ _ h => h) (by rfl) ?_; (try simp only [Act.put, List.setIfInBounds_toArray, List.set_cons_zero, List.set_cons_succ]))
      refine walk3_take ?_
      (refine takeN_bin (some 24) _ _ _ _ _ _ _ _ (catS_run (Lib.itoa f.id ++ [64] ++ addrL f.addr) [42] (by have := Lib.itoa_length_le f.id HOK.out.id.1 HOK.out.id.2; have := addrL_len f.addr HOK.out.addr.1 HOK.out.addr.2; simp; omega)) rfl rfl rfl rfl rfl (fun _ _ _ h => h) (by rfl) ?_; (try simp only [Act.put, List.setIfInBounds_toArray, List.set_cons_zero, List.set_cons_succ]))
      refine walk3_one ?_
      (refine runN_call 27 37 _ _ _ (itoa_call f.weight _ HOK.out.weight.1 HOK.out.weight.2 (HTW.out _ hS)) rfl rfl rfl (by rfl) rfl (enter_itoa _ _) ?_; rintro e x9 ⟨rfl, t9⟩; have HOW := Lib.hid (HOW.out.still t9); have hS := hS.trans t9 (fun _ _ h => h.elim); refine ⟨_, rfl, hS, fun hS => ?_⟩; clear t9; (try simp only [Act.put, List.setIfInBounds_toArray, List.set_cons_zero, List.set_cons_succ]))
      refine walk3_take ?_
      (refine takeN_bin (some 28) _ _ _ _ _ _ _ _ (catS_run (Lib.itoa f.id ++ [64] ++ addrL f.addr ++ [42]) (Lib.itoa f.weight) (by have := Lib.itoa_length_le f.id HOK.out.id.1 HOK.out.id.2; have := addrL_len f.addr HOK.out.addr.1 HOK.out.addr.2; have := Lib.itoa_length_le f.weight HOK.out.weight.1 HOK.out.weight.2; simp; omega)) rfl rfl rfl rfl rfl (fun _ _ _ h => h) (by rfl) ?_; (try simp only [Act.put, List.setIfInBounds_toArray, List.set_cons_zero, List.set_cons_succ]))
      refine walk3_one ?_
      (refine runN_new 29 (fun W => .slice (some ⟨W.heap.size, 0, none⟩) 1 1) #[.string (mkS (Lib.itoa f.id ++ [64] ++ addrL f.addr ++ [42] ++ Lib.itoa f.weight))] 9 rfl rfl (by rfl) (by intro W; go_simp <;> first | with_reducible rfl | rfl | exact ⟨rfl, rfl⟩) ?_; intro w7 hw7 hM7 hs7 t9; have HOW := Lib.hid (HOW.out.still t9); have hS := hS.trans t9 (fun _ _ h => h.elim); refine ⟨hS, fun _ => ?_⟩; have HNW := Lib.hid (show RowS w7 _ 1 1 1 [[.string (mkS (bkL f))]] by rw [hw7]; exact ((OwnS.lit _ _ (Nat.le_refl _) 9 1 1 [[.string (mkS (bkL f))]] _ rfl rfl (by simp) (by decide)).row').2.1); clear hw7 hM7 hs7 t9; (try simp only [Act.put, List.setIfInBounds_toArray, List.set_cons_zero, List.set_cons_succ]))
      refine walk3_one ?_
      (have HON := HOW.out; refine runN_appS 30 (.tmp 15) (.tmp 29) _ rfl rfl rfl (by rfl) 9 Tryz.underlying41 (.string ByteArray.empty) 1 16 infoStr rfl (by decide) w.heap.size _ _ rfl HON _ 1 1 _ rfl HNW.out (by simp [Value.oneCell']) (k + 1) ((bs.take (k + 1)).map sL) HSN.out (by rw [List.length_map]; have := HKL.out; omega) (by simp only [maxLen]; omega) (by omega) (Nat.le_trans HT2.out.size hS.size) ?_; intro a6 c6 w6 ho6 hg6 hp6; have t6 := (Touch.refl _ (fun q => (Value.slice a' k c').ownBlock = some q)).grown hg6 (fun x hx _ => hx); have HO6 := Lib.hid ho6; have HT6 : RowKit.Hid (Touch w w6 (fun _ => False)) := Lib.hid (HT2.out.trans (hS.trans t6 (fun q hq e => e)) (fun q hq e => HNO.out q e hq)); have hS2 : Touch W2 w6 (fun q => (Value.slice a' k c').ownBlock = some q) := hS.trans t6 (fun _ _ h => h); refine ⟨hS2, fun _ => ?_⟩; clear ho6 hg6 hp6 t6 hS2; (try simp only [Act.put, List.setIfInBounds_toArray, List.set_cons_zero, List.set_cons_succ]))
      refine walk3_take ?_
      (refine takeN_take (v := ?_) (some 3) rfl rfl (fun _ _ _ h => h) (by rfl) ?_ ?_; rotate_left; (focus (intro w' hw'; go_simp; (try with_reducible rfl))); (try simp only [Act.put, List.setIfInBounds_toArray, List.set_cons_zero, List.set_cons_succ]))
      refine walk3_fin ?_
      go_wp2_with fail
      exact ⟨⟨k + 1, a6, c6, hlt, by go_num, rfl, HO6.out, HT6.out⟩, by simp [RowKit.intOf]; omega⟩
end Go.Proofs.YtgpchkobjgglhaaGreatDoor
