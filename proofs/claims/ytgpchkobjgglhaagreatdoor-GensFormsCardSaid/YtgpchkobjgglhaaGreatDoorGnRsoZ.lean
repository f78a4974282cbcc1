/- The reference's SortBackends. -/
import Derived.Test.YtgpchkobjgglhaaGreatDoorGnRwZ
import Derived.Test.YtgpchkobjgglhaaGreatDoorCalm3Z
import Derived.Test.YtgpchkobjgglhaaGreatDoorHAZ
import Derived.Deep.CutBlock
import Derived.Deep.DeepCutAuto
set_option linter.unusedVariables false
set_option linter.unusedSimpArgs false
namespace Go.Proofs.YtgpchkobjgglhaaGreatDoor
open Go.RowKit

theorem infoBkN : (Tryz.prog.info? 27).map (·.size) = some 3 := by kernel_rfl
theorem one_bkK (L : List BkD) : ∀ l ∈ L.map BkD.cells, ∀ u ∈ l, u.oneCell' = true := by
  intro l hl u hu
  obtain ⟨f, _, rfl⟩ := List.mem_map.1 hl
  simp only [BkD.cells, List.mem_cons, List.not_mem_nil, or_false] at hu
  rcases hu with rfl | rfl | rfl <;> rfl
theorem row_back3 {w : World} {g off n c : Nat} {L : List BkD} (h : RowS w (some ⟨g, off, none⟩) n c 3 (L.map BkD.cells)) (i : Nat) (hi : i ≤ n) : RowS w (if c = i then some ⟨g, off, none⟩ else some ⟨g, off + i * 3, none⟩) (n - i) (c - i) 3 ((L.drop i).map BkD.cells) := by
  have hl : L.length = n := by have := h.hlen; simpa using this
  have hc1 := h.hcap
  have hc2 := h.hmax
  by_cases hci : c = i
  · rw [if_pos hci]
    have e : n - i = 0 := by omega
    have hd : L.drop i = [] := List.drop_eq_nil_of_le (by omega)
    rw [e, hd]
    exact RowS.nil _ _ _ _ (by omega)
  · rw [if_neg hci]
    refine ⟨by simp; omega, by omega, by omega, fun x hx => by obtain ⟨b, _, rfl⟩ := List.mem_map.1 hx; rfl, ?_⟩
    rcases h.at_ with h0 | ⟨b, o, e, hlt, hc⟩
    · exact .inl (by omega)
    · injection e with e
      injection e with e1 e2
      subst e1; subst e2
      refine .inr ⟨g, off + i * 3, rfl, hlt, fun j hj m u hu => ?_⟩
      have hj2 : j < (L.drop i).length := by simpa using hj
      rw [List.length_drop] at hj2
      have := hc (i + j) (by simp; omega) m u (by
        rw [List.getElem_map] at hu ⊢
        rw [List.getElem_drop] at hu
        exact hu)
      rw [show off + i * 3 + j * 3 + m = off + (i + j) * 3 + m by omega]
      exact this
theorem row_front3 {w : World} {a : Option Addr} {n c : Nat} {L : List BkD} (h : RowS w a n c 3 (L.map BkD.cells)) (i : Nat) (hi : i ≤ n) : RowS w a i c 3 ((L.take i).map BkD.cells) := by
  have := RowS.take h i hi
  rwa [← List.map_take] at this
theorem own_lay {w : World} {base g n cap : Nat} {O : List BkD} (h : OwnS w base 27 3 (.slice (some ⟨g, 0, none⟩) n cap) (O.map BkD.cells)) (i : Nat) (hi : i < O.length) (f : BkD) :
    OwnS (((w.setCell ⟨g, i * 3, none⟩ (.int .i64 f.id)).setCell ⟨g, i * 3 + 1, none⟩ (.int .u32 f.addr)).setCell ⟨g, i * 3 + 2, none⟩ (.int .i64 f.weight)) base 27 3 (.slice (some ⟨g, 0, none⟩) n cap) ((O.set i f).map BkD.cells) := by
  have hi0 : i < (O.map BkD.cells).length := by simpa using hi
  have h1 := h.stored i hi0 0 (by decide) (.int .i64 f.id)
  have h2 := h1.stored i (by simpa using hi) 1 (by decide) (.int .u32 f.addr)
  have h3 := h2.stored i (by simpa using hi) 2 (by decide) (.int .i64 f.weight)
  have e : (O.set i f).map BkD.cells = (O.map BkD.cells).set i f.cells := List.map_set
  rw [e]
  simpa [BkD.cells] using h3
def tailK : List BkD → BkD → List BkD
  | [], _ => []
  | x :: r, b => if x.id = b.id then r else x :: r
theorem lay_at (L : List BkD) (b : BkD) (i : Nat) (hi : i ≤ L.length) (h1 : ∀ x ∈ L.take i, x.id < b.id) (h2 : ∀ x, (L.drop i).head? = some x → ¬ x.id < b.id) : layK b L = L.take i ++ b :: tailK (L.drop i) b := by
  rw [layK_at L b i hi h1 h2]
  cases L.drop i <;> rfl
theorem rfoldK_len (l : List BkD) : (rfoldK l).length ≤ l.length := by
  have h := (rfoldK_ok l.reverse).1.length_eq
  rw [List.reverse_reverse] at h
  rw [h]
  exact Nat.le_trans (metF_len _ _) (by simp)
theorem rfoldK_up (l : List BkD) : UpK (rfoldK l) := by
  have h := (rfoldK_ok l.reverse).2
  rwa [List.reverse_reverse] at h
theorem rfoldK_next {bs : List BkD} {k : Nat} (hk : k < bs.length) : rfoldK (bs.take (k + 1)) = layK bs[k] (rfoldK (bs.take k)) := by
  rw [List.take_succ_eq_append_getElem hk, rfoldK_snoc]
set_option maxRecDepth 20000 in
set_option maxHeartbeats 8000000 in
theorem rsort_any (a : Option Addr) (len cap : Nat) (bs : List BkD) (w : World) (hr : RowK w a len cap bs) :
    Calls Tryz.prog 14 #[.slice a len cap] w fun e w' => ∃ a' c', e = .returned (.slice a' (gsortF bs).length c') ∧ OwnK w' w.heap.size (.slice a' (gsortF bs).length c') (gsortF bs) ∧ Touch w w' (fun _ => False) := by
  have hl := hr.len
  have hcap := hr.hmax
  have hcap1 := hr.hcap
  have HR := Lib.hid hr
  have HL := Lib.hid hl
  clear hr hl
  go_enter Tryz.func14, Tryz.ntmps14
  go_wp2_with fail
  go_loopw [3, 9] (fun s3 s9 wr => ∃ (k : Nat) (a' : Option Addr) (c' : Nat), k ≤ len ∧ k ≤ 16 ∧ s9 = .int .i64 k ∧ s3 = .slice a' (rfoldK (bs.take k)).length c' ∧ OwnS wr w.heap.size 27 3 (.slice a' (rfoldK (bs.take k)).length c') ((rfoldK (bs.take k)).map BkD.cells) ∧ Touch w wr (fun _ => False)) (fun _ s9 _ => len - (RowKit.intOf s9).toNat)
  case atStart => exact ⟨0, none, 0, Nat.zero_le _, by omega, rfl, rfl, OwnS.nil _ _ _ _, Touch.refl _ _⟩
  case round =>
    obtain ⟨k, a', c', hk, hk16, rfl, rfl, ho, ht⟩ := hrel
    have HO := Lib.hid ho
    have HT := Lib.hid ht
    clear ho ht
    have HGS : RowKit.Hid (k = 16 ∨ k = len → rfoldK (bs.take k) = gsortF bs) := Lib.hid (fun h => by
      rw [← rsort_is]
      rcases h with rfl | rfl
      · rfl
      · rw [← HL.out, List.take_of_length_le (Nat.le_refl _), List.take_of_length_le (by rw [HL.out]; exact hk16)])
    by_cases hlt : k < len
    case neg =>
      obtain rfl : len = k := by omega
      have hlt' : ¬ (len : Int) < len := by omega
      have hg := HGS.out (.inr rfl)
      rw [hg] at HO ⊢
      clear hg
      go_wp2_with fail
      go_ret
      exact ⟨_, _, rfl, HO.out, HT.out⟩
    case pos =>
    have hr := HR.out.still HT.out
    obtain ⟨b, off, rfl⟩ := hr.some (by omega)
    have hk1 : k < bs.length := by rw [HL.out]; exact hlt
    obtain ⟨c0, c1, c2⟩ := hr.cells k hk1
    have HNX := Lib.hid (rfoldK_next hk1)
    have HOL : RowKit.Hid ((rfoldK (bs.take k)).length ≤ k) := Lib.hid (Nat.le_trans (rfoldK_len _) (by rw [List.length_take]; omega))
    have HUP := Lib.hid (rfoldK_up (bs.take k))
    generalize bs[k] = f at *
    obtain ⟨W2, hW2⟩ : ∃ W, wr.alloc (.cells #[.int .i64 f.id, .int .u32 f.addr, .int .i64 f.weight] 27) = W := ⟨_, rfl⟩
    obtain ⟨KB, hKB⟩ : ∃ b, wr.heap.size = b := ⟨_, rfl⟩
    have t1 : Touch wr W2 (fun _ => False) := hW2 ▸ (Touch.refl wr _).alloc _
    have g2 : W2.heap[KB]? = some (.cells #[.int .i64 f.id, .int .u32 f.addr, .int .i64 f.weight] 27 (0, 0)) := hKB ▸ hW2 ▸ heap_alloc_new ..
    have HT2 := Lib.hid (HT.out.trans t1 (fun _ _ h => h))
    have HG2 := Lib.hid g2
    have HO2 := Lib.hid (HO.out.still t1)
    have HW2 := Lib.hid (And.intro hW2 hKB)
    have hlI : (k : Int) < len := by omega
    have HKB := Lib.hid hKB
    clear hr t1 g2 hW2 hKB
    by_cases h16 : (16 : Int) ≤ k
    case pos =>
      have hg := HGS.out (.inl (by omega))
      rw [hg] at HO2 ⊢
      clear hg
      go_upto_region 5 with (fail)
      rw [HW2.out.1, HW2.out.2]
      clear c0 c1 c2
      go_wp2_with fail
      go_ret
      exact ⟨_, _, rfl, HO2.out, HT2.out⟩
    case neg =>
    obtain ⟨O, hO⟩ : ∃ O, rfoldK (bs.take k) = O := ⟨_, rfl⟩
    obtain ⟨m, hm⟩ : ∃ m, O.length = m := ⟨_, rfl⟩
    rw [hO] at HNX HOL HUP HO2 ⊢
    rw [hm] at HOL HO2 ⊢
    have HM := Lib.hid hm
    have hm16 : m ≤ 16 := by have := HOL.out; omega
    have hrow := HO2.out.row'.2.1
    have hcapO := hrow.hcap
    have hmaxO := hrow.hmax
    have HRO := Lib.hid hrow
    have HLT := Lib.hid HO2.out.row'.2.2
    clear hrow hO hm
    go_upto_region 5 with (fail)
    rw [HW2.out.1, HW2.out.2]
    clear c0 c1 c2
    have HXC2 : RowKit.Hid (∀ W, Touch W2 W (fun _ => False) → W.cell? ⟨KB, 0, none⟩ = some (.int .i64 f.id)) := Lib.hid (fun W t => cell_of_cells (t.keeps HG2.out (fun h => h)) 0)
    obtain ⟨W0, hW0⟩ : ∃ W0, W0 = wr := ⟨_, rfl⟩
    rw [← hW0] at HW2 HT HO HKB
    clear hW0
    go_upto_block 2 with fail
    go_cut [6] (fun s6 wx => ∃ i : Nat, i ≤ m ∧ s6 = .int .i64 i ∧ (∀ x ∈ O.take i, x.id < f.id) ∧ (∀ x, (O.drop i).head? = some x → ¬ x.id < f.id) ∧ Touch W2 wx (fun _ => False))
    case first =>
      go_wp2_with fail
      go_loopw [6] (fun s6 wr => ∃ i : Nat, i ≤ m ∧ s6 = .int .i64 i ∧ (∀ x ∈ O.take i, x.id < f.id) ∧ Touch W2 wr (fun _ => False)) (fun s6 _ => m - (RowKit.intOf s6).toNat)
      case atStart => exact ⟨0, Nat.zero_le _, rfl, fun x hx => by simp at hx, Touch.refl _ _⟩
      case round =>
        obtain ⟨i, hi, rfl, hls, hti⟩ := hrel
        have HLS := Lib.hid hls
        have HTI := Lib.hid hti
        clear hls hti
        by_cases hlti : i < m
        case neg =>
          obtain rfl : m = i := by omega
          have hmI : ¬ (m : Int) < m := by omega
          have HEX : RowKit.Hid (∀ x, (O.drop m).head? = some x → ¬ x.id < f.id) := Lib.hid (fun x hx => by rw [List.drop_eq_nil_of_le (by have := HM.out; omega)] at hx; cases hx)
          go_upto_region 7 with (fail)
          have hS := (Touch.refl wr (fun _ => False)).drew
          refine wp_region_sched (fun w' => Touch wr w' (fun _ => False)) [(0, true), (1, true), (2, true), (3, true), (4, true), (5, true), (6, true), (7, true), (8, true), (9, true), (10, true), (11, true), (12, true), (13, true)] (by kernel_rfl) (by kernel_rfl) rfl (by kernel_rfl) hS ?_
          (refine walkS_take (v := ?_) (some 16) rfl rfl (fun _ _ _ h => h) (by rfl) ?_ ?_; rotate_left; (focus (intro w' hw'; go_simp; (try with_reducible rfl))); (try simp only [Act.put, List.setIfInBounds_toArray, List.set_cons_zero, List.set_cons_succ]))
          (refine walkS_take (v := ?_) (some 17) rfl rfl (fun _ _ _ h => h) (by rfl) ?_ ?_; rotate_left; (focus (intro w' hw'; go_simp; (try with_reducible rfl))); (try simp only [Act.put, List.setIfInBounds_toArray, List.set_cons_zero, List.set_cons_succ]))
          (refine walkS_take (v := ?_) (some 18) rfl rfl (fun _ _ _ h => h) (by rfl) ?_ ?_; rotate_left; (focus (intro w' hw'; go_simp; (try with_reducible rfl))); (try simp only [Act.put, List.setIfInBounds_toArray, List.set_cons_zero, List.set_cons_succ]))
          (refine walkS_take (v := ?_) (some 19) rfl rfl (fun _ _ _ h => h) (by rfl) ?_ ?_; rotate_left; (focus (intro w' hw'; go_simp; (try with_reducible rfl))); (try simp only [Act.put, List.setIfInBounds_toArray, List.set_cons_zero, List.set_cons_succ]))
          (refine walkS_take (v := ?_) (some 20) rfl rfl (fun _ _ _ h => h) (by rfl) ?_ ?_; rotate_left; (focus (intro w' hw'; go_simp; (try with_reducible rfl))); (try simp only [Act.put, List.setIfInBounds_toArray, List.set_cons_zero, List.set_cons_succ]))
          first | (refine walkS_skip (some 21) rfl rfl (by rfl) (fun _ _ _ h => h) hS ?_; (try simp only [Act.put, List.setIfInBounds_toArray, List.set_cons_zero, List.set_cons_succ])) | (refine walkS_take (v := ?_) (some 21) rfl rfl (fun _ _ _ h => h) (by rfl) ?_ ?_; rotate_left; (focus (intro w' hw'; go_simp; (try with_reducible rfl))); (try simp only [Act.put, List.setIfInBounds_toArray, List.set_cons_zero, List.set_cons_succ]))
          first | (refine walkS_skip (some 22) rfl rfl (by rfl) (fun _ _ _ h => h) hS ?_; (try simp only [Act.put, List.setIfInBounds_toArray, List.set_cons_zero, List.set_cons_succ])) | (refine walkS_take (v := ?_) (some 22) rfl rfl (fun _ _ _ h => h) (by rfl) ?_ ?_; rotate_left; (focus (intro w' hw'; go_simp; (try with_reducible rfl))); (try simp only [Act.put, List.setIfInBounds_toArray, List.set_cons_zero, List.set_cons_succ]))
          first | (refine walkS_skip (some 23) rfl rfl (by rfl) (fun _ _ _ h => h) hS ?_; (try simp only [Act.put, List.setIfInBounds_toArray, List.set_cons_zero, List.set_cons_succ])) | (refine walkS_take (v := ?_) (some 23) rfl rfl (fun _ _ _ h => h) (by rfl) ?_ ?_; rotate_left; (focus (intro w' hw'; go_simp; (try with_reducible rfl))); (try simp only [Act.put, List.setIfInBounds_toArray, List.set_cons_zero, List.set_cons_succ]))
          first | (refine walkS_skip (some 24) rfl rfl (by rfl) (fun _ _ _ h => h) hS ?_; (try simp only [Act.put, List.setIfInBounds_toArray, List.set_cons_zero, List.set_cons_succ])) | (refine walkS_take (v := ?_) (some 24) rfl rfl (fun _ _ _ h => h) (by rfl) ?_ ?_; rotate_left; (focus (intro w' hw'; go_simp; (try with_reducible rfl))); (try simp only [Act.put, List.setIfInBounds_toArray, List.set_cons_zero, List.set_cons_succ]))
          first | (refine walkS_skip (some 25) rfl rfl (by rfl) (fun _ _ _ h => h) hS ?_; (try simp only [Act.put, List.setIfInBounds_toArray, List.set_cons_zero, List.set_cons_succ])) | (refine walkS_take (v := ?_) (some 25) rfl rfl (fun _ _ _ h => h) (by rfl) ?_ ?_; rotate_left; (focus (intro w' hw'; go_simp; (try with_reducible rfl))); (try simp only [Act.put, List.setIfInBounds_toArray, List.set_cons_zero, List.set_cons_succ]))
          first | (refine walkS_skip (some 26) rfl rfl (by rfl) (fun _ _ _ h => h) hS ?_; (try simp only [Act.put, List.setIfInBounds_toArray, List.set_cons_zero, List.set_cons_succ])) | (refine walkS_take (v := ?_) (some 26) rfl rfl (fun _ _ _ h => h) (by rfl) ?_ ?_; rotate_left; (focus (intro w' hw'; go_simp; (try with_reducible rfl))); (try simp only [Act.put, List.setIfInBounds_toArray, List.set_cons_zero, List.set_cons_succ]))
          first | (refine walkS_skip (some 27) rfl rfl (by rfl) (fun _ _ _ h => h) hS ?_; (try simp only [Act.put, List.setIfInBounds_toArray, List.set_cons_zero, List.set_cons_succ])) | (refine walkS_take (v := ?_) (some 27) rfl rfl (fun _ _ _ h => h) (by rfl) ?_ ?_; rotate_left; (focus (intro w' hw'; go_simp; (try with_reducible rfl))); (try simp only [Act.put, List.setIfInBounds_toArray, List.set_cons_zero, List.set_cons_succ]))
          first | (refine walkS_skip (some 28) rfl rfl (by rfl) (fun _ _ _ h => h) hS ?_; (try simp only [Act.put, List.setIfInBounds_toArray, List.set_cons_zero, List.set_cons_succ])) | (refine walkS_take (v := ?_) (some 28) rfl rfl (fun _ _ _ h => h) (by rfl) ?_ ?_; rotate_left; (focus (intro w' hw'; go_simp; (try with_reducible rfl))); (try simp only [Act.put, List.setIfInBounds_toArray, List.set_cons_zero, List.set_cons_succ]))
          (refine walkS_take (v := ?_) (some 29) rfl rfl (fun _ _ _ h => h) (by rfl) ?_ ?_; rotate_left; (focus (intro w' hw'; go_simp; (try with_reducible rfl))); (try simp only [Act.put, List.setIfInBounds_toArray, List.set_cons_zero, List.set_cons_succ]))
          refine walkS_done ?_
          go_wp2_with fail
          go_meet
          exact ⟨m, Nat.le_refl _, rfl, HLS.out, HEX.out, HTI.out.trans hS (fun _ _ h => h)⟩
        case pos =>
          have hrow := HRO.out.still HTI.out
          obtain ⟨g, og, ea⟩ := hrow.some (by omega)
          subst ea
          have hi1 : i < O.length := by rw [HM.out]; exact hlti
          have HOC : RowKit.Hid (∀ W, Touch wr W (fun _ => False) → W.cell? ⟨g, og + i * 3, none⟩ = some (.int .i64 O[i].id)) := Lib.hid (fun W t => (RowK.cells (show RowK W _ m c' O from hrow.still t) i hi1).1)
          have HXC : RowKit.Hid (∀ W, Touch wr W (fun _ => False) → W.cell? ⟨KB, 0, none⟩ = some (.int .i64 f.id)) := Lib.hid (fun W t => HXC2.out W (HTI.out.trans t (fun _ _ h => h)))
          have HSN : RowKit.Hid (O.take (i + 1) = O.take i ++ [O[i]]) := Lib.hid (List.take_succ_eq_append_getElem hi1)
          have HDH : RowKit.Hid ((O.drop i).head? = some O[i]) := Lib.hid (by rw [List.drop_eq_getElem_cons hi1]; rfl)
          have hlI2 : (i : Int) < m := by omega
          clear hrow
          generalize O[i] = q at *
          by_cases hq : q.id < f.id
          · have HX : RowKit.Hid (∀ x ∈ O.take (i + 1), x.id < f.id) := Lib.hid (fun x hx => by
              rw [HSN.out] at hx
              rcases List.mem_append.1 hx with h | h
              · exact HLS.out x h
              · obtain rfl := List.mem_singleton.1 h; exact hq)
            go_upto_region 7 with (fail)
            have hS := (Touch.refl wr (fun _ => False)).drew
            refine wp_region_sched (fun w' => Touch wr w' (fun _ => False)) [(0, true), (1, true), (2, true), (3, true), (4, true), (5, true), (6, true), (7, true), (8, true), (9, true), (10, true), (11, true), (12, true), (13, true)] (by kernel_rfl) (by kernel_rfl) rfl (by kernel_rfl) hS ?_
            (refine walkS_take (v := ?_) (some 16) rfl rfl (fun _ _ _ h => h) (by rfl) ?_ ?_; rotate_left; (focus (intro w' hw'; have y0 := HOC.out w' hw'; have y1 := HXC.out w' hw'; go_simp; (try with_reducible rfl))); (try simp only [Act.put, List.setIfInBounds_toArray, List.set_cons_zero, List.set_cons_succ]))
            (refine walkS_take (v := ?_) (some 17) rfl rfl (fun _ _ _ h => h) (by rfl) ?_ ?_; rotate_left; (focus (intro w' hw'; have y0 := HOC.out w' hw'; have y1 := HXC.out w' hw'; go_simp; (try with_reducible rfl))); (try simp only [Act.put, List.setIfInBounds_toArray, List.set_cons_zero, List.set_cons_succ]))
            (refine walkS_take (v := ?_) (some 18) rfl rfl (fun _ _ _ h => h) (by rfl) ?_ ?_; rotate_left; (focus (intro w' hw'; have y0 := HOC.out w' hw'; have y1 := HXC.out w' hw'; go_simp; (try with_reducible rfl))); (try simp only [Act.put, List.setIfInBounds_toArray, List.set_cons_zero, List.set_cons_succ]))
            (refine walkS_take (v := ?_) (some 19) rfl rfl (fun _ _ _ h => h) (by rfl) ?_ ?_; rotate_left; (focus (intro w' hw'; have y0 := HOC.out w' hw'; have y1 := HXC.out w' hw'; go_simp; (try with_reducible rfl))); (try simp only [Act.put, List.setIfInBounds_toArray, List.set_cons_zero, List.set_cons_succ]))
            (refine walkS_take (v := ?_) (some 20) rfl rfl (fun _ _ _ h => h) (by rfl) ?_ ?_; rotate_left; (focus (intro w' hw'; have y0 := HOC.out w' hw'; have y1 := HXC.out w' hw'; go_simp; (try with_reducible rfl))); (try simp only [Act.put, List.setIfInBounds_toArray, List.set_cons_zero, List.set_cons_succ]))
            (refine walkS_take (v := ?_) (some 21) rfl rfl (fun _ _ _ h => h) (by rfl) ?_ ?_; rotate_left; (focus (intro w' hw'; have y0 := HOC.out w' hw'; have y1 := HXC.out w' hw'; go_simp; (try with_reducible rfl))); (try simp only [Act.put, List.setIfInBounds_toArray, List.set_cons_zero, List.set_cons_succ]))
            (refine walkS_take (v := ?_) (some 22) rfl rfl (fun _ _ _ h => h) (by rfl) ?_ ?_; rotate_left; (focus (intro w' hw'; have y0 := HOC.out w' hw'; have y1 := HXC.out w' hw'; go_simp; (try with_reducible rfl))); (try simp only [Act.put, List.setIfInBounds_toArray, List.set_cons_zero, List.set_cons_succ]))
            (refine walkS_take (v := ?_) (some 23) rfl rfl (fun _ _ _ h => h) (by rfl) ?_ ?_; rotate_left; (focus (intro w' hw'; have y0 := HOC.out w' hw'; have y1 := HXC.out w' hw'; go_simp; (try with_reducible rfl))); (try simp only [Act.put, List.setIfInBounds_toArray, List.set_cons_zero, List.set_cons_succ]))
            (refine walkS_take (v := ?_) (some 24) rfl rfl (fun _ _ _ h => h) (by rfl) ?_ ?_; rotate_left; (focus (intro w' hw'; have y0 := HOC.out w' hw'; have y1 := HXC.out w' hw'; go_simp; (try with_reducible rfl))); (try simp only [Act.put, List.setIfInBounds_toArray, List.set_cons_zero, List.set_cons_succ]))
            (refine walkS_take (v := ?_) (some 25) rfl rfl (fun _ _ _ h => h) (by rfl) ?_ ?_; rotate_left; (focus (intro w' hw'; have y0 := HOC.out w' hw'; have y1 := HXC.out w' hw'; go_simp; (try with_reducible rfl))); (try simp only [Act.put, List.setIfInBounds_toArray, List.set_cons_zero, List.set_cons_succ]))
            (refine walkS_take (v := ?_) (some 26) rfl rfl (fun _ _ _ h => h) (by rfl) ?_ ?_; rotate_left; (focus (intro w' hw'; have y0 := HOC.out w' hw'; have y1 := HXC.out w' hw'; go_simp; (try with_reducible rfl))); (try simp only [Act.put, List.setIfInBounds_toArray, List.set_cons_zero, List.set_cons_succ]))
            (refine walkS_take (v := ?_) (some 27) rfl rfl (fun _ _ _ h => h) (by rfl) ?_ ?_; rotate_left; (focus (intro w' hw'; have y0 := HOC.out w' hw'; have y1 := HXC.out w' hw'; go_simp; (try with_reducible rfl))); (try simp only [Act.put, List.setIfInBounds_toArray, List.set_cons_zero, List.set_cons_succ]))
            (refine walkS_take (v := ?_) (some 28) rfl rfl (fun _ _ _ h => h) (by rfl) ?_ ?_; rotate_left; (focus (intro w' hw'; have y0 := HOC.out w' hw'; have y1 := HXC.out w' hw'; go_simp; (try with_reducible rfl))); (try simp only [Act.put, List.setIfInBounds_toArray, List.set_cons_zero, List.set_cons_succ]))
            (refine walkS_take (v := ?_) (some 29) rfl rfl (fun _ _ _ h => h) (by rfl) ?_ ?_; rotate_left; (focus (intro w' hw'; have y0 := HOC.out w' hw'; have y1 := HXC.out w' hw'; go_simp; (try with_reducible rfl))); (try simp only [Act.put, List.setIfInBounds_toArray, List.set_cons_zero, List.set_cons_succ]))
            refine walkS_done ?_
            have HY : RowKit.Hid (∀ W, Touch wr W (fun _ => False) → ∃ i' : Nat, i' ≤ m ∧ Value.int .i64 ((i : Int) + 1) = .int .i64 i' ∧ (∀ x ∈ O.take i', x.id < f.id) ∧ Touch W2 W (fun _ => False)) := Lib.hid (fun W t => ⟨i + 1, by omega, by go_num, HX.out, HTI.out.trans t (fun _ _ h => h)⟩)
            have HY2 := Lib.hid (HY.out _ hS)
            clear hS
            go_wp2_with fail
            go_roundw
            · exact HY2.out
            · simp only [RowKit.intOf]; omega
          · have HX : RowKit.Hid (∀ x, (O.drop i).head? = some x → ¬ x.id < f.id) := Lib.hid (fun x hx => by rw [HDH.out] at hx; injection hx with hx; rw [← hx]; exact hq)
            go_upto_region 7 with (fail)
            have hS := (Touch.refl wr (fun _ => False)).drew
            refine wp_region_sched (fun w' => Touch wr w' (fun _ => False)) [(0, true), (1, true), (2, true), (3, true), (4, true), (5, true), (6, true), (7, true), (8, true), (9, true), (10, true), (11, true), (12, true), (13, true)] (by kernel_rfl) (by kernel_rfl) rfl (by kernel_rfl) hS ?_
            (refine walkS_take (v := ?_) (some 16) rfl rfl (fun _ _ _ h => h) (by rfl) ?_ ?_; rotate_left; (focus (intro w' hw'; have y0 := HOC.out w' hw'; have y1 := HXC.out w' hw'; go_simp; (try with_reducible rfl))); (try simp only [Act.put, List.setIfInBounds_toArray, List.set_cons_zero, List.set_cons_succ]))
            (refine walkS_take (v := ?_) (some 17) rfl rfl (fun _ _ _ h => h) (by rfl) ?_ ?_; rotate_left; (focus (intro w' hw'; have y0 := HOC.out w' hw'; have y1 := HXC.out w' hw'; go_simp; (try with_reducible rfl))); (try simp only [Act.put, List.setIfInBounds_toArray, List.set_cons_zero, List.set_cons_succ]))
            (refine walkS_take (v := ?_) (some 18) rfl rfl (fun _ _ _ h => h) (by rfl) ?_ ?_; rotate_left; (focus (intro w' hw'; have y0 := HOC.out w' hw'; have y1 := HXC.out w' hw'; go_simp; (try with_reducible rfl))); (try simp only [Act.put, List.setIfInBounds_toArray, List.set_cons_zero, List.set_cons_succ]))
            (refine walkS_take (v := ?_) (some 19) rfl rfl (fun _ _ _ h => h) (by rfl) ?_ ?_; rotate_left; (focus (intro w' hw'; have y0 := HOC.out w' hw'; have y1 := HXC.out w' hw'; go_simp; (try with_reducible rfl))); (try simp only [Act.put, List.setIfInBounds_toArray, List.set_cons_zero, List.set_cons_succ]))
            (refine walkS_take (v := ?_) (some 20) rfl rfl (fun _ _ _ h => h) (by rfl) ?_ ?_; rotate_left; (focus (intro w' hw'; have y0 := HOC.out w' hw'; have y1 := HXC.out w' hw'; go_simp; (try with_reducible rfl))); (try simp only [Act.put, List.setIfInBounds_toArray, List.set_cons_zero, List.set_cons_succ]))
            (refine walkS_take (v := ?_) (some 21) rfl rfl (fun _ _ _ h => h) (by rfl) ?_ ?_; rotate_left; (focus (intro w' hw'; have y0 := HOC.out w' hw'; have y1 := HXC.out w' hw'; go_simp; (try with_reducible rfl))); (try simp only [Act.put, List.setIfInBounds_toArray, List.set_cons_zero, List.set_cons_succ]))
            (refine walkS_take (v := ?_) (some 22) rfl rfl (fun _ _ _ h => h) (by rfl) ?_ ?_; rotate_left; (focus (intro w' hw'; have y0 := HOC.out w' hw'; have y1 := HXC.out w' hw'; go_simp; (try with_reducible rfl))); (try simp only [Act.put, List.setIfInBounds_toArray, List.set_cons_zero, List.set_cons_succ]))
            (refine walkS_take (v := ?_) (some 23) rfl rfl (fun _ _ _ h => h) (by rfl) ?_ ?_; rotate_left; (focus (intro w' hw'; have y0 := HOC.out w' hw'; have y1 := HXC.out w' hw'; go_simp; (try with_reducible rfl))); (try simp only [Act.put, List.setIfInBounds_toArray, List.set_cons_zero, List.set_cons_succ]))
            (refine walkS_take (v := ?_) (some 24) rfl rfl (fun _ _ _ h => h) (by rfl) ?_ ?_; rotate_left; (focus (intro w' hw'; have y0 := HOC.out w' hw'; have y1 := HXC.out w' hw'; go_simp; (try with_reducible rfl))); (try simp only [Act.put, List.setIfInBounds_toArray, List.set_cons_zero, List.set_cons_succ]))
            (refine walkS_take (v := ?_) (some 25) rfl rfl (fun _ _ _ h => h) (by rfl) ?_ ?_; rotate_left; (focus (intro w' hw'; have y0 := HOC.out w' hw'; have y1 := HXC.out w' hw'; go_simp; (try with_reducible rfl))); (try simp only [Act.put, List.setIfInBounds_toArray, List.set_cons_zero, List.set_cons_succ]))
            (refine walkS_take (v := ?_) (some 26) rfl rfl (fun _ _ _ h => h) (by rfl) ?_ ?_; rotate_left; (focus (intro w' hw'; have y0 := HOC.out w' hw'; have y1 := HXC.out w' hw'; go_simp; (try with_reducible rfl))); (try simp only [Act.put, List.setIfInBounds_toArray, List.set_cons_zero, List.set_cons_succ]))
            (refine walkS_take (v := ?_) (some 27) rfl rfl (fun _ _ _ h => h) (by rfl) ?_ ?_; rotate_left; (focus (intro w' hw'; have y0 := HOC.out w' hw'; have y1 := HXC.out w' hw'; go_simp; (try with_reducible rfl))); (try simp only [Act.put, List.setIfInBounds_toArray, List.set_cons_zero, List.set_cons_succ]))
            (refine walkS_take (v := ?_) (some 28) rfl rfl (fun _ _ _ h => h) (by rfl) ?_ ?_; rotate_left; (focus (intro w' hw'; have y0 := HOC.out w' hw'; have y1 := HXC.out w' hw'; go_simp; (try with_reducible rfl))); (try simp only [Act.put, List.setIfInBounds_toArray, List.set_cons_zero, List.set_cons_succ]))
            (refine walkS_take (v := ?_) (some 29) rfl rfl (fun _ _ _ h => h) (by rfl) ?_ ?_; rotate_left; (focus (intro w' hw'; have y0 := HOC.out w' hw'; have y1 := HXC.out w' hw'; go_simp; (try with_reducible rfl))); (try simp only [Act.put, List.setIfInBounds_toArray, List.set_cons_zero, List.set_cons_succ]))
            refine walkS_done ?_
            go_wp2_with fail
            go_meet
            exact ⟨i, by omega, rfl, HLS.out, HX.out, HTI.out.trans hS (fun _ _ h => h)⟩
    case rest =>
      obtain ⟨i, hi, rfl, hls, hex, htc⟩ := hcut
      have HLS := Lib.hid hls
      have HEX := Lib.hid hex
      obtain ⟨wz, hwz⟩ : ∃ W, wc = W := ⟨_, rfl⟩
      rw [hwz] at htc ⊢
      have HTC := Lib.hid htc
      have HLA : RowKit.Hid (layK f O = O.take i ++ f :: tailK (O.drop i) f) := Lib.hid (lay_at O f i (by rw [HM.out]; exact hi) hls hex)
      have HTL : RowKit.Hid ((O.take i).length = i) := Lib.hid (by rw [List.length_take]; have := HM.out; omega)
      have HXC : RowKit.Hid (∀ W, Touch wz W (fun _ => False) → W.cell? ⟨KB, 0, none⟩ = some (.int .i64 f.id)) := Lib.hid (fun W t => HXC2.out W (HTC.out.trans t (fun _ _ h => h)))
      have HCK : RowKit.Hid (∀ W, Touch wz W (fun _ => False) → W.heap[KB]? = some (.cells #[.int .i64 f.id, .int .u32 f.addr, .int .i64 f.weight] 27 (0, 0))) := Lib.hid (fun W t => t.keeps (HTC.out.keeps HG2.out (fun h => h)) (fun h => h))
      have HZW : RowKit.Hid (Touch w wz (fun _ => False)) := Lib.hid (HT2.out.trans htc (fun _ _ h => h))
      have HOZ := Lib.hid (HO2.out.still htc)
      have HEND : RowKit.Hid (∀ (a8 : Option Addr) (c8 k8 : Nat) (w8 : World), (layK f O).length = k8 → OwnS w8 w.heap.size 27 3 (.slice a8 k8 c8) ((layK f O).map BkD.cells) → Touch w w8 (fun _ => False) → ∃ (k' : Nat) (a' : Option Addr) (c' : Nat), k' ≤ len ∧ k' ≤ 16 ∧ Value.int .i64 ((k : Int) + 1) = .int .i64 k' ∧ Value.slice a8 k8 c8 = .slice a' (rfoldK (bs.take k')).length c' ∧ OwnS w8 w.heap.size 27 3 (.slice a' (rfoldK (bs.take k')).length c') ((rfoldK (bs.take k')).map BkD.cells) ∧ Touch w w8 (fun _ => False)) := Lib.hid (fun a8 c8 k8 w8 hk o t => ⟨k + 1, a8, c8, by omega, by omega, by go_num, by rw [HNX.out, hk], by rw [HNX.out, hk]; exact o, t⟩)
      clear hls hex htc hwz
      rcases HO2.out.own.2 with ⟨hv, -⟩ | ⟨g, cc, cur, hv, -⟩
      · simp only [Value.slice.injEq] at hv
        obtain ⟨rfl, rfl, rfl⟩ := hv
        obtain rfl : O = [] := List.eq_nil_of_length_eq_zero HM.out
        obtain rfl : i = 0 := by omega
        have HK8 : RowKit.Hid ((layK f []).length = 1) := Lib.hid rfl
        go_upto_region 9 with (fail)
        have hS := (Touch.refl wz (fun _ => False)).drew
        refine wp_region_sched (fun w' => Touch wz w' (fun _ => False)) [(0, true), (1, true), (2, true), (3, true), (4, true), (5, true), (6, true), (7, true), (8, true), (9, true), (10, true), (11, true), (12, true), (13, true)] (by kernel_rfl) (by kernel_rfl) rfl (by kernel_rfl) hS ?_
        (refine walkS_take (v := ?_) (some 32) rfl rfl (fun _ _ _ h => h) (by rfl) ?_ ?_; rotate_left; (focus (intro w' hw'; go_simp; (try with_reducible rfl))); (try simp only [Act.put, List.setIfInBounds_toArray, List.set_cons_zero, List.set_cons_succ]))
        (refine walkS_take (v := ?_) (some 33) rfl rfl (fun _ _ _ h => h) (by rfl) ?_ ?_; rotate_left; (focus (intro w' hw'; go_simp; (try with_reducible rfl))); (try simp only [Act.put, List.setIfInBounds_toArray, List.set_cons_zero, List.set_cons_succ]))
        (refine walkS_take (v := ?_) (some 34) rfl rfl (fun _ _ _ h => h) (by rfl) ?_ ?_; rotate_left; (focus (intro w' hw'; go_simp; (try with_reducible rfl))); (try simp only [Act.put, List.setIfInBounds_toArray, List.set_cons_zero, List.set_cons_succ]))
        (refine walkS_take (v := ?_) (some 35) rfl rfl (fun _ _ _ h => h) (by rfl) ?_ ?_; rotate_left; (focus (intro w' hw'; go_simp; (try with_reducible rfl))); (try simp only [Act.put, List.setIfInBounds_toArray, List.set_cons_zero, List.set_cons_succ]))
        (refine walkS_take (v := ?_) (some 36) rfl rfl (fun _ _ _ h => h) (by rfl) ?_ ?_; rotate_left; (focus (intro w' hw'; go_simp; (try with_reducible rfl))); (try simp only [Act.put, List.setIfInBounds_toArray, List.set_cons_zero, List.set_cons_succ]))
        first | (refine walkS_skip (some 37) rfl rfl (by rfl) (fun _ _ _ h => h) hS ?_; (try simp only [Act.put, List.setIfInBounds_toArray, List.set_cons_zero, List.set_cons_succ])) | (refine walkS_take (v := ?_) (some 37) rfl rfl (fun _ _ _ h => h) (by rfl) ?_ ?_; rotate_left; (focus (intro w' hw'; go_simp; (try with_reducible rfl))); (try simp only [Act.put, List.setIfInBounds_toArray, List.set_cons_zero, List.set_cons_succ]))
        first | (refine walkS_skip (some 38) rfl rfl (by rfl) (fun _ _ _ h => h) hS ?_; (try simp only [Act.put, List.setIfInBounds_toArray, List.set_cons_zero, List.set_cons_succ])) | (refine walkS_take (v := ?_) (some 38) rfl rfl (fun _ _ _ h => h) (by rfl) ?_ ?_; rotate_left; (focus (intro w' hw'; go_simp; (try with_reducible rfl))); (try simp only [Act.put, List.setIfInBounds_toArray, List.set_cons_zero, List.set_cons_succ]))
        first | (refine walkS_skip (some 39) rfl rfl (by rfl) (fun _ _ _ h => h) hS ?_; (try simp only [Act.put, List.setIfInBounds_toArray, List.set_cons_zero, List.set_cons_succ])) | (refine walkS_take (v := ?_) (some 39) rfl rfl (fun _ _ _ h => h) (by rfl) ?_ ?_; rotate_left; (focus (intro w' hw'; go_simp; (try with_reducible rfl))); (try simp only [Act.put, List.setIfInBounds_toArray, List.set_cons_zero, List.set_cons_succ]))
        first | (refine walkS_skip (some 40) rfl rfl (by rfl) (fun _ _ _ h => h) hS ?_; (try simp only [Act.put, List.setIfInBounds_toArray, List.set_cons_zero, List.set_cons_succ])) | (refine walkS_take (v := ?_) (some 40) rfl rfl (fun _ _ _ h => h) (by rfl) ?_ ?_; rotate_left; (focus (intro w' hw'; go_simp; (try with_reducible rfl))); (try simp only [Act.put, List.setIfInBounds_toArray, List.set_cons_zero, List.set_cons_succ]))
        first | (refine walkS_skip (some 41) rfl rfl (by rfl) (fun _ _ _ h => h) hS ?_; (try simp only [Act.put, List.setIfInBounds_toArray, List.set_cons_zero, List.set_cons_succ])) | (refine walkS_take (v := ?_) (some 41) rfl rfl (fun _ _ _ h => h) (by rfl) ?_ ?_; rotate_left; (focus (intro w' hw'; go_simp; (try with_reducible rfl))); (try simp only [Act.put, List.setIfInBounds_toArray, List.set_cons_zero, List.set_cons_succ]))
        first | (refine walkS_skip (some 42) rfl rfl (by rfl) (fun _ _ _ h => h) hS ?_; (try simp only [Act.put, List.setIfInBounds_toArray, List.set_cons_zero, List.set_cons_succ])) | (refine walkS_take (v := ?_) (some 42) rfl rfl (fun _ _ _ h => h) (by rfl) ?_ ?_; rotate_left; (focus (intro w' hw'; go_simp; (try with_reducible rfl))); (try simp only [Act.put, List.setIfInBounds_toArray, List.set_cons_zero, List.set_cons_succ]))
        first | (refine walkS_skip (some 43) rfl rfl (by rfl) (fun _ _ _ h => h) hS ?_; (try simp only [Act.put, List.setIfInBounds_toArray, List.set_cons_zero, List.set_cons_succ])) | (refine walkS_take (v := ?_) (some 43) rfl rfl (fun _ _ _ h => h) (by rfl) ?_ ?_; rotate_left; (focus (intro w' hw'; go_simp; (try with_reducible rfl))); (try simp only [Act.put, List.setIfInBounds_toArray, List.set_cons_zero, List.set_cons_succ]))
        first | (refine walkS_skip (some 44) rfl rfl (by rfl) (fun _ _ _ h => h) hS ?_; (try simp only [Act.put, List.setIfInBounds_toArray, List.set_cons_zero, List.set_cons_succ])) | (refine walkS_take (v := ?_) (some 44) rfl rfl (fun _ _ _ h => h) (by rfl) ?_ ?_; rotate_left; (focus (intro w' hw'; go_simp; (try with_reducible rfl))); (try simp only [Act.put, List.setIfInBounds_toArray, List.set_cons_zero, List.set_cons_succ]))
        (refine walkS_take (v := ?_) (some 45) rfl rfl (fun _ _ _ h => h) (by rfl) ?_ ?_; rotate_left; (focus (intro w' hw'; go_simp; (try with_reducible rfl))); (try simp only [Act.put, List.setIfInBounds_toArray, List.set_cons_zero, List.set_cons_succ]))
        refine walkS_done ?_
        go_upto_region 11 with (fail)
        have hS := hS.drew
        refine wp_region_tree3 (fun w' => Touch wz w' (fun _ => False)) (.take 0 (.take 1 (.take 2 (.take 4 (.take 7 (.take 8 (.take 9 (.two 3 5 (.one 5 (.one 6 (.one 10 (.take 11 .fin)))) (.one 3 (.one 6 (.one 10 (.take 11 .fin)))))))))))) (by kernel_rfl) (by kernel_rfl) (by kernel_rfl) (by kernel_rfl) hS ?_
        refine walk3_take ?_
        (refine takeN_take (v := ?_) (some 50) rfl rfl (fun _ _ _ h => h) (by rfl) ?_ ?_; rotate_left; (focus (intro w' hw'; go_simp; (try with_reducible rfl))); (try simp only [Act.put, List.setIfInBounds_toArray, List.set_cons_zero, List.set_cons_succ]))
        refine walk3_take ?_
        (refine takeN_take (v := ?_) (some 51) rfl rfl (fun _ _ _ h => h) (by rfl) ?_ ?_; rotate_left; (focus (intro w' hw'; go_simp; (try with_reducible rfl))); (try simp only [Act.put, List.setIfInBounds_toArray, List.set_cons_zero, List.set_cons_succ]))
        refine walk3_take ?_
        (refine takeN_take (v := ?_) (some 52) rfl rfl (fun _ _ _ h => h) (by rfl) ?_ ?_; rotate_left; (focus (intro w' hw'; go_simp; (try with_reducible rfl))); (try simp only [Act.put, List.setIfInBounds_toArray, List.set_cons_zero, List.set_cons_succ]))
        refine walk3_take ?_
        (refine takeN_row (some 54) rfl rfl 27 (.tmp 5) rfl (KB) rfl _ _ _ _ (fun w' h => HCK.out w' h) Tryz.underlying27 rfl infoBkN (fun _ _ _ h => h) (by rfl) ?_; (try simp only [Act.put, List.setIfInBounds_toArray, List.set_cons_zero, List.set_cons_succ]))
        refine walk3_take ?_
        (refine takeN_take (v := ?_) (some 57) rfl rfl (fun _ _ _ h => h) (by rfl) ?_ ?_; rotate_left; (focus (intro w' hw'; go_simp; (try with_reducible rfl))); (try simp only [Act.put, List.setIfInBounds_toArray, List.set_cons_zero, List.set_cons_succ]))
        refine walk3_take ?_
        (refine takeN_take (v := ?_) (some 58) rfl rfl (fun _ _ _ h => h) (by rfl) ?_ ?_; rotate_left; (focus (intro w' hw'; go_simp; (try with_reducible rfl))); (try simp only [Act.put, List.setIfInBounds_toArray, List.set_cons_zero, List.set_cons_succ]))
        refine walk3_take ?_
        (refine takeN_take (v := ?_) (some 59) rfl rfl (fun _ _ _ h => h) (by rfl) ?_ ?_; rotate_left; (focus (intro w' hw'; go_simp; (try with_reducible rfl))); (try simp only [Act.put, List.setIfInBounds_toArray, List.set_cons_zero, List.set_cons_succ]))
        refine walk3_two ?_ ?_
        · (refine runN_appS 53 (.const (.slice none 0 0)) (.tmp 52) _ rfl rfl rfl (by rfl) 27 Tryz.underlying22 _ 3 24 infoBk rfl (by decide) wz.heap.size _ _ rfl (OwnS.nil _ _ _ _) _ _ _ _ rfl (RowS.nil _ _ _ _ (by omega)) (fun l hl => by cases hl) (0) (([] : List BkD).map BkD.cells) (by simp) (by simp) (by simp only [maxLen]; omega) (by omega) hS.size ?_; intro a3 c3 w3 how9 hg9 hp9; have t9 := (Touch.refl _ (fun q => wz.heap.size ≤ q)).grown hg9 (fun q hq _ => by cases hq); have hS := hS.trans t9 (fun q h1 h2 => by have h2 : wz.heap.size ≤ q := h2; omega); refine ⟨hS, fun _ => ?_⟩; (try have HNW := Lib.hid (HNW.out.touch ((Touch.refl _ (fun _ => False)).grown hg9 (fun q hq _ => by cases hq)) (fun _ _ => .inr (fun h => h)))); have HO3 := Lib.hid how9; clear how9 hg9 hp9 t9; (try simp only [Act.put, List.setIfInBounds_toArray, List.set_cons_zero, List.set_cons_succ]))
          refine walk3_one ?_
          (refine runN_new 55 (fun W => .slice (some ⟨W.heap.size, 0, none⟩) 1 1) #[.int .i64 f.id, .int .u32 f.addr, .int .i64 f.weight] 27 rfl rfl (by rfl) (by intro W; go_simp <;> first | with_reducible rfl | rfl | exact ⟨rfl, rfl⟩) ?_; intro w7 hw7 hM7 hs7 t9; have hS := hS.trans t9 (fun _ _ h => h.elim); refine ⟨hS, fun _ => ?_⟩; have HNW := Lib.hid (show RowS w7 _ 1 1 3 [f.cells] by rw [hw7]; exact ((OwnS.lit _ _ (Nat.le_refl _) 27 3 1 [f.cells] _ rfl rfl (by simp [BkD.cells]) (by decide)).row').2.1); (try have HO3 := Lib.hid (HO3.out.still t9)); clear hw7 hM7 hs7 t9; (try simp only [Act.put, List.setIfInBounds_toArray, List.set_cons_zero, List.set_cons_succ]))
          refine walk3_one ?_
          (refine runN_appS 56 (.tmp 53) (.tmp 55) _ rfl rfl rfl (by rfl) 27 Tryz.underlying22 _ 3 24 infoBk rfl (by decide) wz.heap.size _ _ rfl HO3.out _ _ _ _ rfl HNW.out (one_bkK [f]) (1) (([] : List BkD).map BkD.cells ++ [f.cells]) (rfl) (by rfl) (by simp only [maxLen]; omega) (by omega) hS.size ?_; intro a6 c6 w6 how9 hg9 hp9; have t9 := (Touch.refl _ (fun q => wz.heap.size ≤ q)).grown hg9 (fun q hq _ => (HO3.out.own.lt q hq).1); have hS := hS.trans t9 (fun q h1 h2 => by have h2 : wz.heap.size ≤ q := h2; omega); refine ⟨hS, fun _ => ?_⟩; have HO6 := Lib.hid how9; clear how9 hg9 hp9 t9; (try simp only [Act.put, List.setIfInBounds_toArray, List.set_cons_zero, List.set_cons_succ]))
          refine walk3_one ?_
          (refine runN_appS 60 (.tmp 56) (.tmp 59) _ rfl rfl rfl (by rfl) 27 Tryz.underlying22 _ 3 24 infoBk rfl (by decide) wz.heap.size _ _ rfl HO6.out _ _ _ _ rfl (RowS.nil _ _ _ _ (by omega)) (fun l hl => by cases hl) (1) ([f.cells]) (by simp) (by simp) (by simp only [maxLen]; omega) (by omega) hS.size ?_; intro a8 c8 w8 how9 hg9 hp9; have t9 := (Touch.refl _ (fun q => wz.heap.size ≤ q)).grown hg9 (fun q hq _ => (HO6.out.own.lt q hq).1); have hS := hS.trans t9 (fun q h1 h2 => by have h2 : wz.heap.size ≤ q := h2; omega); refine ⟨hS, fun _ => ?_⟩; have HO8 := Lib.hid how9; clear how9 hg9 hp9 t9; (try simp only [Act.put, List.setIfInBounds_toArray, List.set_cons_zero, List.set_cons_succ]))
          refine walk3_take ?_
          (refine takeN_take (v := ?_) (some 3) rfl rfl (fun _ _ _ h => h) (by rfl) ?_ ?_; rotate_left; (focus (intro w' hw'; go_simp; (try with_reducible rfl))); (try simp only [Act.put, List.setIfInBounds_toArray, List.set_cons_zero, List.set_cons_succ]))
          refine walk3_fin ?_
          have HY := Lib.hid (HEND.out _ _ _ _ HK8.out (HO8.out.rebase (fun x hx => Nat.le_trans HZW.out.size (HO8.out.own.lt x hx).1)) (HZW.out.trans hS (fun _ _ h => h)))
          go_wp2_with fail
          go_roundw
          · exact HY.out
          · simp only [RowKit.intOf]; omega
        · (refine runN_new 55 (fun W => .slice (some ⟨W.heap.size, 0, none⟩) 1 1) #[.int .i64 f.id, .int .u32 f.addr, .int .i64 f.weight] 27 rfl rfl (by rfl) (by intro W; go_simp <;> first | with_reducible rfl | rfl | exact ⟨rfl, rfl⟩) ?_; intro w7 hw7 hM7 hs7 t9; have hS := hS.trans t9 (fun _ _ h => h.elim); refine ⟨hS, fun _ => ?_⟩; have HNW := Lib.hid (show RowS w7 _ 1 1 3 [f.cells] by rw [hw7]; exact ((OwnS.lit _ _ (Nat.le_refl _) 27 3 1 [f.cells] _ rfl rfl (by simp [BkD.cells]) (by decide)).row').2.1); (try have HO3 := Lib.hid (HO3.out.still t9)); clear hw7 hM7 hs7 t9; (try simp only [Act.put, List.setIfInBounds_toArray, List.set_cons_zero, List.set_cons_succ]))
          refine walk3_one ?_
          (refine runN_appS 53 (.const (.slice none 0 0)) (.tmp 52) _ rfl rfl rfl (by rfl) 27 Tryz.underlying22 _ 3 24 infoBk rfl (by decide) wz.heap.size _ _ rfl (OwnS.nil _ _ _ _) _ _ _ _ rfl (RowS.nil _ _ _ _ (by omega)) (fun l hl => by cases hl) (0) (([] : List BkD).map BkD.cells) (by simp) (by simp) (by simp only [maxLen]; omega) (by omega) hS.size ?_; intro a3 c3 w3 how9 hg9 hp9; have t9 := (Touch.refl _ (fun q => wz.heap.size ≤ q)).grown hg9 (fun q hq _ => by cases hq); have hS := hS.trans t9 (fun q h1 h2 => by have h2 : wz.heap.size ≤ q := h2; omega); refine ⟨hS, fun _ => ?_⟩; (try have HNW := Lib.hid (HNW.out.touch ((Touch.refl _ (fun _ => False)).grown hg9 (fun q hq _ => by cases hq)) (fun _ _ => .inr (fun h => h)))); have HO3 := Lib.hid how9; clear how9 hg9 hp9 t9; (try simp only [Act.put, List.setIfInBounds_toArray, List.set_cons_zero, List.set_cons_succ]))
          refine walk3_one ?_
          (refine runN_appS 56 (.tmp 53) (.tmp 55) _ rfl rfl rfl (by rfl) 27 Tryz.underlying22 _ 3 24 infoBk rfl (by decide) wz.heap.size _ _ rfl HO3.out _ _ _ _ rfl HNW.out (one_bkK [f]) (1) (([] : List BkD).map BkD.cells ++ [f.cells]) (rfl) (by rfl) (by simp only [maxLen]; omega) (by omega) hS.size ?_; intro a6 c6 w6 how9 hg9 hp9; have t9 := (Touch.refl _ (fun q => wz.heap.size ≤ q)).grown hg9 (fun q hq _ => (HO3.out.own.lt q hq).1); have hS := hS.trans t9 (fun q h1 h2 => by have h2 : wz.heap.size ≤ q := h2; omega); refine ⟨hS, fun _ => ?_⟩; have HO6 := Lib.hid how9; clear how9 hg9 hp9 t9; (try simp only [Act.put, List.setIfInBounds_toArray, List.set_cons_zero, List.set_cons_succ]))
          refine walk3_one ?_
          (refine runN_appS 60 (.tmp 56) (.tmp 59) _ rfl rfl rfl (by rfl) 27 Tryz.underlying22 _ 3 24 infoBk rfl (by decide) wz.heap.size _ _ rfl HO6.out _ _ _ _ rfl (RowS.nil _ _ _ _ (by omega)) (fun l hl => by cases hl) (1) ([f.cells]) (by simp) (by simp) (by simp only [maxLen]; omega) (by omega) hS.size ?_; intro a8 c8 w8 how9 hg9 hp9; have t9 := (Touch.refl _ (fun q => wz.heap.size ≤ q)).grown hg9 (fun q hq _ => (HO6.out.own.lt q hq).1); have hS := hS.trans t9 (fun q h1 h2 => by have h2 : wz.heap.size ≤ q := h2; omega); refine ⟨hS, fun _ => ?_⟩; have HO8 := Lib.hid how9; clear how9 hg9 hp9 t9; (try simp only [Act.put, List.setIfInBounds_toArray, List.set_cons_zero, List.set_cons_succ]))
          refine walk3_take ?_
          (refine takeN_take (v := ?_) (some 3) rfl rfl (fun _ _ _ h => h) (by rfl) ?_ ?_; rotate_left; (focus (intro w' hw'; go_simp; (try with_reducible rfl))); (try simp only [Act.put, List.setIfInBounds_toArray, List.set_cons_zero, List.set_cons_succ]))
          refine walk3_fin ?_
          have HY := Lib.hid (HEND.out _ _ _ _ HK8.out (HO8.out.rebase (fun x hx => Nat.le_trans HZW.out.size (HO8.out.own.lt x hx).1)) (HZW.out.trans hS (fun _ _ h => h)))
          go_wp2_with fail
          go_roundw
          · exact HY.out
          · simp only [RowKit.intOf]; omega
      · simp only [Value.slice.injEq] at hv
        obtain ⟨rfl, -, rfl⟩ := hv
        have HRZ : RowKit.Hid (∀ W, Touch wz W (fun _ => False) → RowS W (some ⟨g, 0, none⟩) m c' 3 (O.map BkD.cells)) := Lib.hid (fun W t => HOZ.out.row'.2.1.still t)
        have HRF : RowKit.Hid (∀ W, Touch wz W (fun _ => False) → RowS W (some ⟨g, 0, none⟩) i c' 3 ((O.take i).map BkD.cells)) := Lib.hid (fun W t => row_front3 (HRZ.out W t) i hi)
        have HRT : RowKit.Hid (∀ W, Touch wz W (fun _ => False) → RowS W (if c' = i then some ⟨g, 0, none⟩ else some ⟨g, i * 3, none⟩) (m - i) (c' - i) 3 ((O.drop i).map BkD.cells)) := Lib.hid (fun W t => by have h := row_back3 (HRZ.out W t) i hi; rwa [Nat.zero_add] at h)
        obtain ⟨ra, hra⟩ : ∃ ra, (if c' = i then some ⟨g, 0, none⟩ else some ⟨g, i * 3, none⟩ : Option Addr) = ra := ⟨_, rfl⟩
        rw [hra] at HRT
        have hic : i ≤ c' := by omega
        obtain ⟨q, hq⟩ : ∃ q, m - i = q := ⟨_, rfl⟩
        obtain ⟨d, hd⟩ : ∃ d, c' - i = d := ⟨_, rfl⟩
        rw [hq, hd] at HRT
        have hqd : q ≤ d := by omega
        have hdm : d ≤ 9223372036854775807 := by omega
        have hqn : i + q = m := by omega
        by_cases hlm : i < m
        case neg =>
          obtain rfl : i = m := by omega
          have HDN : RowKit.Hid (O.drop i = []) := Lib.hid (List.drop_eq_nil_of_le (by rw [HM.out]; exact Nat.le_refl _))
          have hmI : ¬ (i : Int) < i := by omega
          rw [HDN.out] at HLA
          simp only [tailK] at HLA
          have HK8 : RowKit.Hid ((layK f O).length = i + 1 + q) := Lib.hid (by rw [HLA.out, List.length_append, HTL.out, List.length_cons, List.length_nil]; omega)
          have HPL : RowKit.Hid ((O.take i).map BkD.cells ++ [f.cells] ++ (O.drop i).map BkD.cells = (layK f O).map BkD.cells) := Lib.hid (by rw [HLA.out, HDN.out, List.map_append]; simp)
          go_upto_region 9 with (fail)
          have hS := (Touch.refl wz (fun _ => False)).drew
          refine wp_region_sched (fun w' => Touch wz w' (fun _ => False)) [(0, true), (1, true), (2, true), (3, true), (4, true), (5, true), (6, true), (7, true), (8, true), (9, true), (10, true), (11, true), (12, true), (13, true)] (by kernel_rfl) (by kernel_rfl) rfl (by kernel_rfl) hS ?_
          (refine walkS_take (v := ?_) (some 32) rfl rfl (fun _ _ _ h => h) (by rfl) ?_ ?_; rotate_left; (focus (intro w' hw'; go_simp; (try with_reducible rfl))); (try simp only [Act.put, List.setIfInBounds_toArray, List.set_cons_zero, List.set_cons_succ]))
          (refine walkS_take (v := ?_) (some 33) rfl rfl (fun _ _ _ h => h) (by rfl) ?_ ?_; rotate_left; (focus (intro w' hw'; go_simp; (try with_reducible rfl))); (try simp only [Act.put, List.setIfInBounds_toArray, List.set_cons_zero, List.set_cons_succ]))
          (refine walkS_take (v := ?_) (some 34) rfl rfl (fun _ _ _ h => h) (by rfl) ?_ ?_; rotate_left; (focus (intro w' hw'; go_simp; (try with_reducible rfl))); (try simp only [Act.put, List.setIfInBounds_toArray, List.set_cons_zero, List.set_cons_succ]))
          (refine walkS_take (v := ?_) (some 35) rfl rfl (fun _ _ _ h => h) (by rfl) ?_ ?_; rotate_left; (focus (intro w' hw'; go_simp; (try with_reducible rfl))); (try simp only [Act.put, List.setIfInBounds_toArray, List.set_cons_zero, List.set_cons_succ]))
          (refine walkS_take (v := ?_) (some 36) rfl rfl (fun _ _ _ h => h) (by rfl) ?_ ?_; rotate_left; (focus (intro w' hw'; go_simp; (try with_reducible rfl))); (try simp only [Act.put, List.setIfInBounds_toArray, List.set_cons_zero, List.set_cons_succ]))
          first | (refine walkS_skip (some 37) rfl rfl (by rfl) (fun _ _ _ h => h) hS ?_; (try simp only [Act.put, List.setIfInBounds_toArray, List.set_cons_zero, List.set_cons_succ])) | (refine walkS_take (v := ?_) (some 37) rfl rfl (fun _ _ _ h => h) (by rfl) ?_ ?_; rotate_left; (focus (intro w' hw'; go_simp; (try with_reducible rfl))); (try simp only [Act.put, List.setIfInBounds_toArray, List.set_cons_zero, List.set_cons_succ]))
          first | (refine walkS_skip (some 38) rfl rfl (by rfl) (fun _ _ _ h => h) hS ?_; (try simp only [Act.put, List.setIfInBounds_toArray, List.set_cons_zero, List.set_cons_succ])) | (refine walkS_take (v := ?_) (some 38) rfl rfl (fun _ _ _ h => h) (by rfl) ?_ ?_; rotate_left; (focus (intro w' hw'; go_simp; (try with_reducible rfl))); (try simp only [Act.put, List.setIfInBounds_toArray, List.set_cons_zero, List.set_cons_succ]))
          first | (refine walkS_skip (some 39) rfl rfl (by rfl) (fun _ _ _ h => h) hS ?_; (try simp only [Act.put, List.setIfInBounds_toArray, List.set_cons_zero, List.set_cons_succ])) | (refine walkS_take (v := ?_) (some 39) rfl rfl (fun _ _ _ h => h) (by rfl) ?_ ?_; rotate_left; (focus (intro w' hw'; go_simp; (try with_reducible rfl))); (try simp only [Act.put, List.setIfInBounds_toArray, List.set_cons_zero, List.set_cons_succ]))
          first | (refine walkS_skip (some 40) rfl rfl (by rfl) (fun _ _ _ h => h) hS ?_; (try simp only [Act.put, List.setIfInBounds_toArray, List.set_cons_zero, List.set_cons_succ])) | (refine walkS_take (v := ?_) (some 40) rfl rfl (fun _ _ _ h => h) (by rfl) ?_ ?_; rotate_left; (focus (intro w' hw'; go_simp; (try with_reducible rfl))); (try simp only [Act.put, List.setIfInBounds_toArray, List.set_cons_zero, List.set_cons_succ]))
          first | (refine walkS_skip (some 41) rfl rfl (by rfl) (fun _ _ _ h => h) hS ?_; (try simp only [Act.put, List.setIfInBounds_toArray, List.set_cons_zero, List.set_cons_succ])) | (refine walkS_take (v := ?_) (some 41) rfl rfl (fun _ _ _ h => h) (by rfl) ?_ ?_; rotate_left; (focus (intro w' hw'; go_simp; (try with_reducible rfl))); (try simp only [Act.put, List.setIfInBounds_toArray, List.set_cons_zero, List.set_cons_succ]))
          first | (refine walkS_skip (some 42) rfl rfl (by rfl) (fun _ _ _ h => h) hS ?_; (try simp only [Act.put, List.setIfInBounds_toArray, List.set_cons_zero, List.set_cons_succ])) | (refine walkS_take (v := ?_) (some 42) rfl rfl (fun _ _ _ h => h) (by rfl) ?_ ?_; rotate_left; (focus (intro w' hw'; go_simp; (try with_reducible rfl))); (try simp only [Act.put, List.setIfInBounds_toArray, List.set_cons_zero, List.set_cons_succ]))
          first | (refine walkS_skip (some 43) rfl rfl (by rfl) (fun _ _ _ h => h) hS ?_; (try simp only [Act.put, List.setIfInBounds_toArray, List.set_cons_zero, List.set_cons_succ])) | (refine walkS_take (v := ?_) (some 43) rfl rfl (fun _ _ _ h => h) (by rfl) ?_ ?_; rotate_left; (focus (intro w' hw'; go_simp; (try with_reducible rfl))); (try simp only [Act.put, List.setIfInBounds_toArray, List.set_cons_zero, List.set_cons_succ]))
          first | (refine walkS_skip (some 44) rfl rfl (by rfl) (fun _ _ _ h => h) hS ?_; (try simp only [Act.put, List.setIfInBounds_toArray, List.set_cons_zero, List.set_cons_succ])) | (refine walkS_take (v := ?_) (some 44) rfl rfl (fun _ _ _ h => h) (by rfl) ?_ ?_; rotate_left; (focus (intro w' hw'; go_simp; (try with_reducible rfl))); (try simp only [Act.put, List.setIfInBounds_toArray, List.set_cons_zero, List.set_cons_succ]))
          (refine walkS_take (v := ?_) (some 45) rfl rfl (fun _ _ _ h => h) (by rfl) ?_ ?_; rotate_left; (focus (intro w' hw'; go_simp; (try with_reducible rfl))); (try simp only [Act.put, List.setIfInBounds_toArray, List.set_cons_zero, List.set_cons_succ]))
          refine walkS_done ?_
          go_upto_region 11 with (fail)
          have hS := hS.drew
          refine wp_region_tree3 (fun w' => Touch wz w' (fun _ => False)) (.take 0 (.take 1 (.take 2 (.take 4 (.take 7 (.take 8 (.take 9 (.two 3 5 (.one 5 (.one 6 (.one 10 (.take 11 .fin)))) (.one 3 (.one 6 (.one 10 (.take 11 .fin)))))))))))) (by kernel_rfl) (by kernel_rfl) (by kernel_rfl) (by kernel_rfl) hS ?_
          refine walk3_take ?_
          (refine takeN_take (v := ?_) (some 50) rfl rfl (fun _ _ _ h => h) (by rfl) ?_ ?_; rotate_left; (focus (intro w' hw'; go_simp; (try with_reducible rfl))); (try simp only [Act.put, List.setIfInBounds_toArray, List.set_cons_zero, List.set_cons_succ]))
          refine walk3_take ?_
          (refine takeN_take (v := ?_) (some 51) rfl rfl (fun _ _ _ h => h) (by rfl) ?_ ?_; rotate_left; (focus (intro w' hw'; go_simp; (try with_reducible rfl))); (try simp only [Act.put, List.setIfInBounds_toArray, List.set_cons_zero, List.set_cons_succ]))
          refine walk3_take ?_
          (refine takeN_take (v := ?_) (some 52) rfl rfl (fun _ _ _ h => h) (by rfl) ?_ ?_; rotate_left; (focus (intro w' hw'; go_simp; (try with_reducible rfl))); (try simp only [Act.put, List.setIfInBounds_toArray, List.set_cons_zero, List.set_cons_succ]))
          refine walk3_take ?_
          (refine takeN_row (some 54) rfl rfl 27 (.tmp 5) rfl (KB) rfl _ _ _ _ (fun w' h => HCK.out w' h) Tryz.underlying27 rfl infoBkN (fun _ _ _ h => h) (by rfl) ?_; (try simp only [Act.put, List.setIfInBounds_toArray, List.set_cons_zero, List.set_cons_succ]))
          refine walk3_take ?_
          (refine takeN_take (v := ?_) (some 57) rfl rfl (fun _ _ _ h => h) (by rfl) ?_ ?_; rotate_left; (focus (intro w' hw'; go_simp; (try with_reducible rfl))); (try simp only [Act.put, List.setIfInBounds_toArray, List.set_cons_zero, List.set_cons_succ]))
          refine walk3_take ?_
          (refine takeN_take (v := ?_) (some 58) rfl rfl (fun _ _ _ h => h) (by rfl) ?_ ?_; rotate_left; (focus (intro w' hw'; go_simp; (try with_reducible rfl))); (try simp only [Act.put, List.setIfInBounds_toArray, List.set_cons_zero, List.set_cons_succ]))
          refine walk3_take ?_
          (refine takeN_take (v := ?_) (some 59) rfl rfl (fun _ _ _ h => h) (by rfl) ?_ ?_; rotate_left; (focus (intro w' hw'; go_simp; (try with_reducible rfl))); (try simp only [Act.put, List.setIfInBounds_toArray, List.set_cons_zero, List.set_cons_succ]))
          refine walk3_two ?_ ?_
          · (refine runN_appS 53 (.const (.slice none 0 0)) (.tmp 52) _ rfl rfl rfl (by rfl) 27 Tryz.underlying22 _ 3 24 infoBk rfl (by decide) wz.heap.size _ _ rfl (OwnS.nil _ _ _ _) _ _ _ _ rfl (HRF.out _ hS) (one_bkK _) (i) ((O.take i).map BkD.cells) (by simp) (by simp) (by simp only [maxLen]; omega) (by omega) hS.size ?_; intro a3 c3 w3 how9 hg9 hp9; have t9 := (Touch.refl _ (fun q => wz.heap.size ≤ q)).grown hg9 (fun q hq _ => by cases hq); have hS := hS.trans t9 (fun q h1 h2 => by have h2 : wz.heap.size ≤ q := h2; omega); refine ⟨hS, fun _ => ?_⟩; (try have HNW := Lib.hid (HNW.out.touch ((Touch.refl _ (fun _ => False)).grown hg9 (fun q hq _ => by cases hq)) (fun _ _ => .inr (fun h => h)))); have HO3 := Lib.hid how9; clear how9 hg9 hp9 t9; (try simp only [Act.put, List.setIfInBounds_toArray, List.set_cons_zero, List.set_cons_succ]))
            refine walk3_one ?_
            (refine runN_new 55 (fun W => .slice (some ⟨W.heap.size, 0, none⟩) 1 1) #[.int .i64 f.id, .int .u32 f.addr, .int .i64 f.weight] 27 rfl rfl (by rfl) (by intro W; go_simp <;> first | with_reducible rfl | rfl | exact ⟨rfl, rfl⟩) ?_; intro w7 hw7 hM7 hs7 t9; have hS := hS.trans t9 (fun _ _ h => h.elim); refine ⟨hS, fun _ => ?_⟩; have HNW := Lib.hid (show RowS w7 _ 1 1 3 [f.cells] by rw [hw7]; exact ((OwnS.lit _ _ (Nat.le_refl _) 27 3 1 [f.cells] _ rfl rfl (by simp [BkD.cells]) (by decide)).row').2.1); (try have HO3 := Lib.hid (HO3.out.still t9)); clear hw7 hM7 hs7 t9; (try simp only [Act.put, List.setIfInBounds_toArray, List.set_cons_zero, List.set_cons_succ]))
            refine walk3_one ?_
            (refine runN_appS 56 (.tmp 53) (.tmp 55) _ rfl rfl rfl (by rfl) 27 Tryz.underlying22 _ 3 24 infoBk rfl (by decide) wz.heap.size _ _ rfl HO3.out _ _ _ _ rfl HNW.out (one_bkK [f]) (i + 1) ((O.take i).map BkD.cells ++ [f.cells]) (rfl) (by rw [List.length_map, HTL.out]) (by simp only [maxLen]; omega) (by omega) hS.size ?_; intro a6 c6 w6 how9 hg9 hp9; have t9 := (Touch.refl _ (fun q => wz.heap.size ≤ q)).grown hg9 (fun q hq _ => (HO3.out.own.lt q hq).1); have hS := hS.trans t9 (fun q h1 h2 => by have h2 : wz.heap.size ≤ q := h2; omega); refine ⟨hS, fun _ => ?_⟩; have HO6 := Lib.hid how9; clear how9 hg9 hp9 t9; (try simp only [Act.put, List.setIfInBounds_toArray, List.set_cons_zero, List.set_cons_succ]))
            refine walk3_one ?_
            (refine runN_appS 60 (.tmp 56) (.tmp 59) _ rfl rfl rfl (by rfl) 27 Tryz.underlying22 _ 3 24 infoBk rfl (by decide) wz.heap.size _ _ rfl HO6.out _ _ _ _ rfl (HRT.out _ hS) (one_bkK _) (i + 1 + q) ((layK f O).map BkD.cells) (HPL.out) (by rw [List.length_append, List.length_map, HTL.out]; simp) (by simp only [maxLen]; omega) (by omega) hS.size ?_; intro a8 c8 w8 how9 hg9 hp9; have t9 := (Touch.refl _ (fun q => wz.heap.size ≤ q)).grown hg9 (fun q hq _ => (HO6.out.own.lt q hq).1); have hS := hS.trans t9 (fun q h1 h2 => by have h2 : wz.heap.size ≤ q := h2; omega); refine ⟨hS, fun _ => ?_⟩; have HO8 := Lib.hid how9; clear how9 hg9 hp9 t9; (try simp only [Act.put, List.setIfInBounds_toArray, List.set_cons_zero, List.set_cons_succ]))
            refine walk3_take ?_
            (refine takeN_take (v := ?_) (some 3) rfl rfl (fun _ _ _ h => h) (by rfl) ?_ ?_; rotate_left; (focus (intro w' hw'; go_simp; (try with_reducible rfl))); (try simp only [Act.put, List.setIfInBounds_toArray, List.set_cons_zero, List.set_cons_succ]))
            refine walk3_fin ?_
            have HY := Lib.hid (HEND.out _ _ _ _ HK8.out (HO8.out.rebase (fun x hx => Nat.le_trans HZW.out.size (HO8.out.own.lt x hx).1)) (HZW.out.trans hS (fun _ _ h => h)))
            go_wp2_with fail
            go_roundw
            · exact HY.out
            · simp only [RowKit.intOf]; omega
          · (refine runN_new 55 (fun W => .slice (some ⟨W.heap.size, 0, none⟩) 1 1) #[.int .i64 f.id, .int .u32 f.addr, .int .i64 f.weight] 27 rfl rfl (by rfl) (by intro W; go_simp <;> first | with_reducible rfl | rfl | exact ⟨rfl, rfl⟩) ?_; intro w7 hw7 hM7 hs7 t9; have hS := hS.trans t9 (fun _ _ h => h.elim); refine ⟨hS, fun _ => ?_⟩; have HNW := Lib.hid (show RowS w7 _ 1 1 3 [f.cells] by rw [hw7]; exact ((OwnS.lit _ _ (Nat.le_refl _) 27 3 1 [f.cells] _ rfl rfl (by simp [BkD.cells]) (by decide)).row').2.1); (try have HO3 := Lib.hid (HO3.out.still t9)); clear hw7 hM7 hs7 t9; (try simp only [Act.put, List.setIfInBounds_toArray, List.set_cons_zero, List.set_cons_succ]))
            refine walk3_one ?_
            (refine runN_appS 53 (.const (.slice none 0 0)) (.tmp 52) _ rfl rfl rfl (by rfl) 27 Tryz.underlying22 _ 3 24 infoBk rfl (by decide) wz.heap.size _ _ rfl (OwnS.nil _ _ _ _) _ _ _ _ rfl (HRF.out _ hS) (one_bkK _) (i) ((O.take i).map BkD.cells) (by simp) (by simp) (by simp only [maxLen]; omega) (by omega) hS.size ?_; intro a3 c3 w3 how9 hg9 hp9; have t9 := (Touch.refl _ (fun q => wz.heap.size ≤ q)).grown hg9 (fun q hq _ => by cases hq); have hS := hS.trans t9 (fun q h1 h2 => by have h2 : wz.heap.size ≤ q := h2; omega); refine ⟨hS, fun _ => ?_⟩; (try have HNW := Lib.hid (HNW.out.touch ((Touch.refl _ (fun _ => False)).grown hg9 (fun q hq _ => by cases hq)) (fun _ _ => .inr (fun h => h)))); have HO3 := Lib.hid how9; clear how9 hg9 hp9 t9; (try simp only [Act.put, List.setIfInBounds_toArray, List.set_cons_zero, List.set_cons_succ]))
            refine walk3_one ?_
            (refine runN_appS 56 (.tmp 53) (.tmp 55) _ rfl rfl rfl (by rfl) 27 Tryz.underlying22 _ 3 24 infoBk rfl (by decide) wz.heap.size _ _ rfl HO3.out _ _ _ _ rfl HNW.out (one_bkK [f]) (i + 1) ((O.take i).map BkD.cells ++ [f.cells]) (rfl) (by rw [List.length_map, HTL.out]) (by simp only [maxLen]; omega) (by omega) hS.size ?_; intro a6 c6 w6 how9 hg9 hp9; have t9 := (Touch.refl _ (fun q => wz.heap.size ≤ q)).grown hg9 (fun q hq _ => (HO3.out.own.lt q hq).1); have hS := hS.trans t9 (fun q h1 h2 => by have h2 : wz.heap.size ≤ q := h2; omega); refine ⟨hS, fun _ => ?_⟩; have HO6 := Lib.hid how9; clear how9 hg9 hp9 t9; (try simp only [Act.put, List.setIfInBounds_toArray, List.set_cons_zero, List.set_cons_succ]))
            refine walk3_one ?_
            (refine runN_appS 60 (.tmp 56) (.tmp 59) _ rfl rfl rfl (by rfl) 27 Tryz.underlying22 _ 3 24 infoBk rfl (by decide) wz.heap.size _ _ rfl HO6.out _ _ _ _ rfl (HRT.out _ hS) (one_bkK _) (i + 1 + q) ((layK f O).map BkD.cells) (HPL.out) (by rw [List.length_append, List.length_map, HTL.out]; simp) (by simp only [maxLen]; omega) (by omega) hS.size ?_; intro a8 c8 w8 how9 hg9 hp9; have t9 := (Touch.refl _ (fun q => wz.heap.size ≤ q)).grown hg9 (fun q hq _ => (HO6.out.own.lt q hq).1); have hS := hS.trans t9 (fun q h1 h2 => by have h2 : wz.heap.size ≤ q := h2; omega); refine ⟨hS, fun _ => ?_⟩; have HO8 := Lib.hid how9; clear how9 hg9 hp9 t9; (try simp only [Act.put, List.setIfInBounds_toArray, List.set_cons_zero, List.set_cons_succ]))
            refine walk3_take ?_
            (refine takeN_take (v := ?_) (some 3) rfl rfl (fun _ _ _ h => h) (by rfl) ?_ ?_; rotate_left; (focus (intro w' hw'; go_simp; (try with_reducible rfl))); (try simp only [Act.put, List.setIfInBounds_toArray, List.set_cons_zero, List.set_cons_succ]))
            refine walk3_fin ?_
            have HY := Lib.hid (HEND.out _ _ _ _ HK8.out (HO8.out.rebase (fun x hx => Nat.le_trans HZW.out.size (HO8.out.own.lt x hx).1)) (HZW.out.trans hS (fun _ _ h => h)))
            go_wp2_with fail
            go_roundw
            · exact HY.out
            · simp only [RowKit.intOf]; omega
        case pos =>
          have hi1 : i < O.length := by rw [HM.out]; exact hlm
          have HOC : RowKit.Hid (∀ W, Touch wz W (fun _ => False) → W.cell? ⟨g, i * 3, none⟩ = some (.int .i64 O[i].id)) := Lib.hid (fun W t => by have h := (RowK.cells (show RowK W _ m c' O from HRZ.out W t) i hi1).1; rwa [Nat.zero_add] at h)
          have HDC : RowKit.Hid (O.drop i = O[i] :: O.drop (i + 1)) := Lib.hid (List.drop_eq_getElem_cons hi1)
          have HST : RowKit.Hid (O.set i f = O.take i ++ f :: O.drop (i + 1)) := Lib.hid (List.set_eq_take_append_cons_drop.trans (if_pos hi1))
          have hlI2 : (i : Int) < m := by omega
          by_cases he : O[i].id = f.id
          · rw [HDC.out] at HLA
            simp only [tailK, he, if_true] at HLA
            have HLS2 : RowKit.Hid (layK f O = O.set i f) := Lib.hid (HLA.out.trans HST.out.symm)
            rw [he] at HOC
            clear he
            go_upto_region 9 with (fail)
            have hS := (Touch.refl wz (fun _ => False)).drew
            refine wp_region_sched (fun w' => Touch wz w' (fun _ => False)) [(0, true), (1, true), (2, true), (3, true), (4, true), (5, true), (6, true), (7, true), (8, true), (9, true), (10, true), (11, true), (12, true), (13, true)] (by kernel_rfl) (by kernel_rfl) rfl (by kernel_rfl) hS ?_
            (refine walkS_take (v := ?_) (some 32) rfl rfl (fun _ _ _ h => h) (by rfl) ?_ ?_; rotate_left; (focus (intro w' hw'; have y0 := HOC.out w' hw'; have y1 := HXC.out w' hw'; go_simp; (try with_reducible rfl))); (try simp only [Act.put, List.setIfInBounds_toArray, List.set_cons_zero, List.set_cons_succ]))
            (refine walkS_take (v := ?_) (some 33) rfl rfl (fun _ _ _ h => h) (by rfl) ?_ ?_; rotate_left; (focus (intro w' hw'; have y0 := HOC.out w' hw'; have y1 := HXC.out w' hw'; go_simp; (try with_reducible rfl))); (try simp only [Act.put, List.setIfInBounds_toArray, List.set_cons_zero, List.set_cons_succ]))
            (refine walkS_take (v := ?_) (some 34) rfl rfl (fun _ _ _ h => h) (by rfl) ?_ ?_; rotate_left; (focus (intro w' hw'; have y0 := HOC.out w' hw'; have y1 := HXC.out w' hw'; go_simp; (try with_reducible rfl))); (try simp only [Act.put, List.setIfInBounds_toArray, List.set_cons_zero, List.set_cons_succ]))
            (refine walkS_take (v := ?_) (some 35) rfl rfl (fun _ _ _ h => h) (by rfl) ?_ ?_; rotate_left; (focus (intro w' hw'; have y0 := HOC.out w' hw'; have y1 := HXC.out w' hw'; go_simp; (try with_reducible rfl))); (try simp only [Act.put, List.setIfInBounds_toArray, List.set_cons_zero, List.set_cons_succ]))
            (refine walkS_take (v := ?_) (some 36) rfl rfl (fun _ _ _ h => h) (by rfl) ?_ ?_; rotate_left; (focus (intro w' hw'; have y0 := HOC.out w' hw'; have y1 := HXC.out w' hw'; go_simp; (try with_reducible rfl))); (try simp only [Act.put, List.setIfInBounds_toArray, List.set_cons_zero, List.set_cons_succ]))
            (refine walkS_take (v := ?_) (some 37) rfl rfl (fun _ _ _ h => h) (by rfl) ?_ ?_; rotate_left; (focus (intro w' hw'; have y0 := HOC.out w' hw'; have y1 := HXC.out w' hw'; go_simp; (try with_reducible rfl))); (try simp only [Act.put, List.setIfInBounds_toArray, List.set_cons_zero, List.set_cons_succ]))
            (refine walkS_take (v := ?_) (some 38) rfl rfl (fun _ _ _ h => h) (by rfl) ?_ ?_; rotate_left; (focus (intro w' hw'; have y0 := HOC.out w' hw'; have y1 := HXC.out w' hw'; go_simp; (try with_reducible rfl))); (try simp only [Act.put, List.setIfInBounds_toArray, List.set_cons_zero, List.set_cons_succ]))
            (refine walkS_take (v := ?_) (some 39) rfl rfl (fun _ _ _ h => h) (by rfl) ?_ ?_; rotate_left; (focus (intro w' hw'; have y0 := HOC.out w' hw'; have y1 := HXC.out w' hw'; go_simp; (try with_reducible rfl))); (try simp only [Act.put, List.setIfInBounds_toArray, List.set_cons_zero, List.set_cons_succ]))
            (refine walkS_take (v := ?_) (some 40) rfl rfl (fun _ _ _ h => h) (by rfl) ?_ ?_; rotate_left; (focus (intro w' hw'; have y0 := HOC.out w' hw'; have y1 := HXC.out w' hw'; go_simp; (try with_reducible rfl))); (try simp only [Act.put, List.setIfInBounds_toArray, List.set_cons_zero, List.set_cons_succ]))
            (refine walkS_take (v := ?_) (some 41) rfl rfl (fun _ _ _ h => h) (by rfl) ?_ ?_; rotate_left; (focus (intro w' hw'; have y0 := HOC.out w' hw'; have y1 := HXC.out w' hw'; go_simp; (try with_reducible rfl))); (try simp only [Act.put, List.setIfInBounds_toArray, List.set_cons_zero, List.set_cons_succ]))
            (refine walkS_take (v := ?_) (some 42) rfl rfl (fun _ _ _ h => h) (by rfl) ?_ ?_; rotate_left; (focus (intro w' hw'; have y0 := HOC.out w' hw'; have y1 := HXC.out w' hw'; go_simp; (try with_reducible rfl))); (try simp only [Act.put, List.setIfInBounds_toArray, List.set_cons_zero, List.set_cons_succ]))
            (refine walkS_take (v := ?_) (some 43) rfl rfl (fun _ _ _ h => h) (by rfl) ?_ ?_; rotate_left; (focus (intro w' hw'; have y0 := HOC.out w' hw'; have y1 := HXC.out w' hw'; go_simp; (try with_reducible rfl))); (try simp only [Act.put, List.setIfInBounds_toArray, List.set_cons_zero, List.set_cons_succ]))
            (refine walkS_take (v := ?_) (some 44) rfl rfl (fun _ _ _ h => h) (by rfl) ?_ ?_; rotate_left; (focus (intro w' hw'; have y0 := HOC.out w' hw'; have y1 := HXC.out w' hw'; go_simp; (try with_reducible rfl))); (try simp only [Act.put, List.setIfInBounds_toArray, List.set_cons_zero, List.set_cons_succ]))
            (refine walkS_take (v := ?_) (some 45) rfl rfl (fun _ _ _ h => h) (by rfl) ?_ ?_; rotate_left; (focus (intro w' hw'; have y0 := HOC.out w' hw'; have y1 := HXC.out w' hw'; go_simp; (try with_reducible rfl))); (try simp only [Act.put, List.setIfInBounds_toArray, List.set_cons_zero, List.set_cons_succ]))
            refine walkS_done ?_
            have HK8 : RowKit.Hid ((layK f O).length = m) := Lib.hid (by rw [HLS2.out, List.length_set, HM.out])
            obtain ⟨wy, hwy⟩ : ∃ W, wz.drew = W := ⟨_, rfl⟩
            rw [hwy] at hS ⊢
            have HSY := Lib.hid hS
            have g9 := HCK.out _ hS
            have x0 : wy.cell? ⟨KB, 0, none⟩ = some (.int .i64 f.id) := cell_of_cells g9 0
            have x1 : wy.cell? ⟨KB, 1, none⟩ = some (.int .u32 f.addr) := cell_of_cells g9 1
            have x2 : wy.cell? ⟨KB, 2, none⟩ = some (.int .i64 f.weight) := cell_of_cells g9 2
            have o9 := HOZ.out.still hS
            obtain ⟨c0, c1, c2⟩ := RowK.cells (show RowK wy _ m c' O from HRZ.out _ hS) i hi1
            simp only [Nat.zero_add] at c0 c1 c2
            have f0 := o9.free (i * 3)
            have f1 := o9.free (i * 3 + 1)
            have f2 := o9.free (i * 3 + 2)
            have hwg : w.heap.size ≤ g := (HOZ.out.row'.2.2 _ rfl).1
            have HY := Lib.hid (HEND.out _ _ _ _ HK8.out (HLS2.out ▸ own_lay o9 i hi1 f) ((((HZW.out.trans hS (fun _ _ h => h)).setCell ⟨g, i * 3, none⟩ (.int .i64 f.id) (fun h => absurd h (by simp only; omega))).setCell ⟨g, i * 3 + 1, none⟩ (.int .u32 f.addr) (fun h => absurd h (by simp only; omega))).setCell ⟨g, i * 3 + 2, none⟩ (.int .i64 f.weight) (fun h => absurd h (by simp only; omega))))
            clear o9 g9 hS hwg hwy
            go_wp2_with fail
            go_roundw
            · exact HY.out
            · simp only [RowKit.intOf]; omega
          · rw [HDC.out] at HLA
            simp only [tailK, he, if_false] at HLA
            have HK8 : RowKit.Hid ((layK f O).length = i + 1 + q) := Lib.hid (by rw [HLA.out, List.length_append, HTL.out, ← HDC.out, List.length_cons, List.length_drop, HM.out]; omega)
            have HPL : RowKit.Hid ((O.take i).map BkD.cells ++ [f.cells] ++ (O.drop i).map BkD.cells = (layK f O).map BkD.cells) := Lib.hid (by rw [HLA.out, ← HDC.out, List.map_append]; simp)
            have hne : (O[i].id == f.id) = false := by simpa using he
            generalize O[i] = x at *
            go_upto_region 9 with (fail)
            have hS := (Touch.refl wz (fun _ => False)).drew
            refine wp_region_sched (fun w' => Touch wz w' (fun _ => False)) [(0, true), (1, true), (2, true), (3, true), (4, true), (5, true), (6, true), (7, true), (8, true), (9, true), (10, true), (11, true), (12, true), (13, true)] (by kernel_rfl) (by kernel_rfl) rfl (by kernel_rfl) hS ?_
            (refine walkS_take (v := ?_) (some 32) rfl rfl (fun _ _ _ h => h) (by rfl) ?_ ?_; rotate_left; (focus (intro w' hw'; have y0 := HOC.out w' hw'; have y1 := HXC.out w' hw'; go_simp; (try with_reducible rfl))); (try simp only [Act.put, List.setIfInBounds_toArray, List.set_cons_zero, List.set_cons_succ]))
            (refine walkS_take (v := ?_) (some 33) rfl rfl (fun _ _ _ h => h) (by rfl) ?_ ?_; rotate_left; (focus (intro w' hw'; have y0 := HOC.out w' hw'; have y1 := HXC.out w' hw'; go_simp; (try with_reducible rfl))); (try simp only [Act.put, List.setIfInBounds_toArray, List.set_cons_zero, List.set_cons_succ]))
            (refine walkS_take (v := ?_) (some 34) rfl rfl (fun _ _ _ h => h) (by rfl) ?_ ?_; rotate_left; (focus (intro w' hw'; have y0 := HOC.out w' hw'; have y1 := HXC.out w' hw'; go_simp; (try with_reducible rfl))); (try simp only [Act.put, List.setIfInBounds_toArray, List.set_cons_zero, List.set_cons_succ]))
            (refine walkS_take (v := ?_) (some 35) rfl rfl (fun _ _ _ h => h) (by rfl) ?_ ?_; rotate_left; (focus (intro w' hw'; have y0 := HOC.out w' hw'; have y1 := HXC.out w' hw'; go_simp; (try with_reducible rfl))); (try simp only [Act.put, List.setIfInBounds_toArray, List.set_cons_zero, List.set_cons_succ]))
            (refine walkS_take (v := ?_) (some 36) rfl rfl (fun _ _ _ h => h) (by rfl) ?_ ?_; rotate_left; (focus (intro w' hw'; have y0 := HOC.out w' hw'; have y1 := HXC.out w' hw'; go_simp; (try with_reducible rfl))); (try simp only [Act.put, List.setIfInBounds_toArray, List.set_cons_zero, List.set_cons_succ]))
            (refine walkS_take (v := ?_) (some 37) rfl rfl (fun _ _ _ h => h) (by rfl) ?_ ?_; rotate_left; (focus (intro w' hw'; have y0 := HOC.out w' hw'; have y1 := HXC.out w' hw'; go_simp; (try with_reducible rfl))); (try simp only [Act.put, List.setIfInBounds_toArray, List.set_cons_zero, List.set_cons_succ]))
            (refine walkS_take (v := ?_) (some 38) rfl rfl (fun _ _ _ h => h) (by rfl) ?_ ?_; rotate_left; (focus (intro w' hw'; have y0 := HOC.out w' hw'; have y1 := HXC.out w' hw'; go_simp; (try with_reducible rfl))); (try simp only [Act.put, List.setIfInBounds_toArray, List.set_cons_zero, List.set_cons_succ]))
            (refine walkS_take (v := ?_) (some 39) rfl rfl (fun _ _ _ h => h) (by rfl) ?_ ?_; rotate_left; (focus (intro w' hw'; have y0 := HOC.out w' hw'; have y1 := HXC.out w' hw'; go_simp; (try with_reducible rfl))); (try simp only [Act.put, List.setIfInBounds_toArray, List.set_cons_zero, List.set_cons_succ]))
            (refine walkS_take (v := ?_) (some 40) rfl rfl (fun _ _ _ h => h) (by rfl) ?_ ?_; rotate_left; (focus (intro w' hw'; have y0 := HOC.out w' hw'; have y1 := HXC.out w' hw'; go_simp; (try with_reducible rfl))); (try simp only [Act.put, List.setIfInBounds_toArray, List.set_cons_zero, List.set_cons_succ]))
            (refine walkS_take (v := ?_) (some 41) rfl rfl (fun _ _ _ h => h) (by rfl) ?_ ?_; rotate_left; (focus (intro w' hw'; have y0 := HOC.out w' hw'; have y1 := HXC.out w' hw'; go_simp; (try with_reducible rfl))); (try simp only [Act.put, List.setIfInBounds_toArray, List.set_cons_zero, List.set_cons_succ]))
            (refine walkS_take (v := ?_) (some 42) rfl rfl (fun _ _ _ h => h) (by rfl) ?_ ?_; rotate_left; (focus (intro w' hw'; have y0 := HOC.out w' hw'; have y1 := HXC.out w' hw'; go_simp; (try with_reducible rfl))); (try simp only [Act.put, List.setIfInBounds_toArray, List.set_cons_zero, List.set_cons_succ]))
            (refine walkS_take (v := ?_) (some 43) rfl rfl (fun _ _ _ h => h) (by rfl) ?_ ?_; rotate_left; (focus (intro w' hw'; have y0 := HOC.out w' hw'; have y1 := HXC.out w' hw'; go_simp; (try with_reducible rfl))); (try simp only [Act.put, List.setIfInBounds_toArray, List.set_cons_zero, List.set_cons_succ]))
            (refine walkS_take (v := ?_) (some 44) rfl rfl (fun _ _ _ h => h) (by rfl) ?_ ?_; rotate_left; (focus (intro w' hw'; have y0 := HOC.out w' hw'; have y1 := HXC.out w' hw'; go_simp; (try with_reducible rfl))); (try simp only [Act.put, List.setIfInBounds_toArray, List.set_cons_zero, List.set_cons_succ]))
            (refine walkS_take (v := ?_) (some 45) rfl rfl (fun _ _ _ h => h) (by rfl) ?_ ?_; rotate_left; (focus (intro w' hw'; have y0 := HOC.out w' hw'; have y1 := HXC.out w' hw'; go_simp; (try with_reducible rfl))); (try simp only [Act.put, List.setIfInBounds_toArray, List.set_cons_zero, List.set_cons_succ]))
            refine walkS_done ?_
            go_upto_region 11 with (fail)
            have hS := hS.drew
            refine wp_region_tree3 (fun w' => Touch wz w' (fun _ => False)) (.take 0 (.take 1 (.take 2 (.take 4 (.take 7 (.take 8 (.take 9 (.two 3 5 (.one 5 (.one 6 (.one 10 (.take 11 .fin)))) (.one 3 (.one 6 (.one 10 (.take 11 .fin)))))))))))) (by kernel_rfl) (by kernel_rfl) (by kernel_rfl) (by kernel_rfl) hS ?_
            refine walk3_take ?_
            (refine takeN_take (v := ?_) (some 50) rfl rfl (fun _ _ _ h => h) (by rfl) ?_ ?_; rotate_left; (focus (intro w' hw'; go_simp; (try with_reducible rfl))); (try simp only [Act.put, List.setIfInBounds_toArray, List.set_cons_zero, List.set_cons_succ]))
            refine walk3_take ?_
            (refine takeN_take (v := ?_) (some 51) rfl rfl (fun _ _ _ h => h) (by rfl) ?_ ?_; rotate_left; (focus (intro w' hw'; go_simp; (try with_reducible rfl))); (try simp only [Act.put, List.setIfInBounds_toArray, List.set_cons_zero, List.set_cons_succ]))
            refine walk3_take ?_
            (refine takeN_take (v := ?_) (some 52) rfl rfl (fun _ _ _ h => h) (by rfl) ?_ ?_; rotate_left; (focus (intro w' hw'; go_simp; (try with_reducible rfl))); (try simp only [Act.put, List.setIfInBounds_toArray, List.set_cons_zero, List.set_cons_succ]))
            refine walk3_take ?_
            (refine takeN_row (some 54) rfl rfl 27 (.tmp 5) rfl (KB) rfl _ _ _ _ (fun w' h => HCK.out w' h) Tryz.underlying27 rfl infoBkN (fun _ _ _ h => h) (by rfl) ?_; (try simp only [Act.put, List.setIfInBounds_toArray, List.set_cons_zero, List.set_cons_succ]))
            refine walk3_take ?_
            (refine takeN_take (v := ?_) (some 57) rfl rfl (fun _ _ _ h => h) (by rfl) ?_ ?_; rotate_left; (focus (intro w' hw'; go_simp; (try with_reducible rfl))); (try simp only [Act.put, List.setIfInBounds_toArray, List.set_cons_zero, List.set_cons_succ]))
            refine walk3_take ?_
            (refine takeN_take (v := ?_) (some 58) rfl rfl (fun _ _ _ h => h) (by rfl) ?_ ?_; rotate_left; (focus (intro w' hw'; go_simp; (try with_reducible rfl))); (try simp only [Act.put, List.setIfInBounds_toArray, List.set_cons_zero, List.set_cons_succ]))
            refine walk3_take ?_
            (refine takeN_take (v := ?_) (some 59) rfl rfl (fun _ _ _ h => h) (by rfl) ?_ ?_; rotate_left; (focus (intro w' hw'; go_simp; (try with_reducible rfl))); (try simp only [Act.put, List.setIfInBounds_toArray, List.set_cons_zero, List.set_cons_succ]))
            refine walk3_two ?_ ?_
            · (refine runN_appS 53 (.const (.slice none 0 0)) (.tmp 52) _ rfl rfl rfl (by rfl) 27 Tryz.underlying22 _ 3 24 infoBk rfl (by decide) wz.heap.size _ _ rfl (OwnS.nil _ _ _ _) _ _ _ _ rfl (HRF.out _ hS) (one_bkK _) (i) ((O.take i).map BkD.cells) (by simp) (by simp) (by simp only [maxLen]; omega) (by omega) hS.size ?_; intro a3 c3 w3 how9 hg9 hp9; have t9 := (Touch.refl _ (fun q => wz.heap.size ≤ q)).grown hg9 (fun q hq _ => by cases hq); have hS := hS.trans t9 (fun q h1 h2 => by have h2 : wz.heap.size ≤ q := h2; omega); refine ⟨hS, fun _ => ?_⟩; (try have HNW := Lib.hid (HNW.out.touch ((Touch.refl _ (fun _ => False)).grown hg9 (fun q hq _ => by cases hq)) (fun _ _ => .inr (fun h => h)))); have HO3 := Lib.hid how9; clear how9 hg9 hp9 t9; (try simp only [Act.put, List.setIfInBounds_toArray, List.set_cons_zero, List.set_cons_succ]))
              refine walk3_one ?_
              (refine runN_new 55 (fun W => .slice (some ⟨W.heap.size, 0, none⟩) 1 1) #[.int .i64 f.id, .int .u32 f.addr, .int .i64 f.weight] 27 rfl rfl (by rfl) (by intro W; go_simp <;> first | with_reducible rfl | rfl | exact ⟨rfl, rfl⟩) ?_; intro w7 hw7 hM7 hs7 t9; have hS := hS.trans t9 (fun _ _ h => h.elim); refine ⟨hS, fun _ => ?_⟩; have HNW := Lib.hid (show RowS w7 _ 1 1 3 [f.cells] by rw [hw7]; exact ((OwnS.lit _ _ (Nat.le_refl _) 27 3 1 [f.cells] _ rfl rfl (by simp [BkD.cells]) (by decide)).row').2.1); (try have HO3 := Lib.hid (HO3.out.still t9)); clear hw7 hM7 hs7 t9; (try simp only [Act.put, List.setIfInBounds_toArray, List.set_cons_zero, List.set_cons_succ]))
              refine walk3_one ?_
              (refine runN_appS 56 (.tmp 53) (.tmp 55) _ rfl rfl rfl (by rfl) 27 Tryz.underlying22 _ 3 24 infoBk rfl (by decide) wz.heap.size _ _ rfl HO3.out _ _ _ _ rfl HNW.out (one_bkK [f]) (i + 1) ((O.take i).map BkD.cells ++ [f.cells]) (rfl) (by rw [List.length_map, HTL.out]) (by simp only [maxLen]; omega) (by omega) hS.size ?_; intro a6 c6 w6 how9 hg9 hp9; have t9 := (Touch.refl _ (fun q => wz.heap.size ≤ q)).grown hg9 (fun q hq _ => (HO3.out.own.lt q hq).1); have hS := hS.trans t9 (fun q h1 h2 => by have h2 : wz.heap.size ≤ q := h2; omega); refine ⟨hS, fun _ => ?_⟩; have HO6 := Lib.hid how9; clear how9 hg9 hp9 t9; (try simp only [Act.put, List.setIfInBounds_toArray, List.set_cons_zero, List.set_cons_succ]))
              refine walk3_one ?_
              (refine runN_appS 60 (.tmp 56) (.tmp 59) _ rfl rfl rfl (by rfl) 27 Tryz.underlying22 _ 3 24 infoBk rfl (by decide) wz.heap.size _ _ rfl HO6.out _ _ _ _ rfl (HRT.out _ hS) (one_bkK _) (i + 1 + q) ((layK f O).map BkD.cells) (HPL.out) (by rw [List.length_append, List.length_map, HTL.out]; simp) (by simp only [maxLen]; omega) (by omega) hS.size ?_; intro a8 c8 w8 how9 hg9 hp9; have t9 := (Touch.refl _ (fun q => wz.heap.size ≤ q)).grown hg9 (fun q hq _ => (HO6.out.own.lt q hq).1); have hS := hS.trans t9 (fun q h1 h2 => by have h2 : wz.heap.size ≤ q := h2; omega); refine ⟨hS, fun _ => ?_⟩; have HO8 := Lib.hid how9; clear how9 hg9 hp9 t9; (try simp only [Act.put, List.setIfInBounds_toArray, List.set_cons_zero, List.set_cons_succ]))
              refine walk3_take ?_
              (refine takeN_take (v := ?_) (some 3) rfl rfl (fun _ _ _ h => h) (by rfl) ?_ ?_; rotate_left; (focus (intro w' hw'; go_simp; (try with_reducible rfl))); (try simp only [Act.put, List.setIfInBounds_toArray, List.set_cons_zero, List.set_cons_succ]))
              refine walk3_fin ?_
              have HY := Lib.hid (HEND.out _ _ _ _ HK8.out (HO8.out.rebase (fun x hx => Nat.le_trans HZW.out.size (HO8.out.own.lt x hx).1)) (HZW.out.trans hS (fun _ _ h => h)))
              go_wp2_with fail
              go_roundw
              · exact HY.out
              · simp only [RowKit.intOf]; omega
            · (refine runN_new 55 (fun W => .slice (some ⟨W.heap.size, 0, none⟩) 1 1) #[.int .i64 f.id, .int .u32 f.addr, .int .i64 f.weight] 27 rfl rfl (by rfl) (by intro W; go_simp <;> first | with_reducible rfl | rfl | exact ⟨rfl, rfl⟩) ?_; intro w7 hw7 hM7 hs7 t9; have hS := hS.trans t9 (fun _ _ h => h.elim); refine ⟨hS, fun _ => ?_⟩; have HNW := Lib.hid (show RowS w7 _ 1 1 3 [f.cells] by rw [hw7]; exact ((OwnS.lit _ _ (Nat.le_refl _) 27 3 1 [f.cells] _ rfl rfl (by simp [BkD.cells]) (by decide)).row').2.1); (try have HO3 := Lib.hid (HO3.out.still t9)); clear hw7 hM7 hs7 t9; (try simp only [Act.put, List.setIfInBounds_toArray, List.set_cons_zero, List.set_cons_succ]))
              refine walk3_one ?_
              (refine runN_appS 53 (.const (.slice none 0 0)) (.tmp 52) _ rfl rfl rfl (by rfl) 27 Tryz.underlying22 _ 3 24 infoBk rfl (by decide) wz.heap.size _ _ rfl (OwnS.nil _ _ _ _) _ _ _ _ rfl (HRF.out _ hS) (one_bkK _) (i) ((O.take i).map BkD.cells) (by simp) (by simp) (by simp only [maxLen]; omega) (by omega) hS.size ?_; intro a3 c3 w3 how9 hg9 hp9; have t9 := (Touch.refl _ (fun q => wz.heap.size ≤ q)).grown hg9 (fun q hq _ => by cases hq); have hS := hS.trans t9 (fun q h1 h2 => by have h2 : wz.heap.size ≤ q := h2; omega); refine ⟨hS, fun _ => ?_⟩; (try have HNW := Lib.hid (HNW.out.touch ((Touch.refl _ (fun _ => False)).grown hg9 (fun q hq _ => by cases hq)) (fun _ _ => .inr (fun h => h)))); have HO3 := Lib.hid how9; clear how9 hg9 hp9 t9; (try simp only [Act.put, List.setIfInBounds_toArray, List.set_cons_zero, List.set_cons_succ]))
              refine walk3_one ?_
              (refine runN_appS 56 (.tmp 53) (.tmp 55) _ rfl rfl rfl (by rfl) 27 Tryz.underlying22 _ 3 24 infoBk rfl (by decide) wz.heap.size _ _ rfl HO3.out _ _ _ _ rfl HNW.out (one_bkK [f]) (i + 1) ((O.take i).map BkD.cells ++ [f.cells]) (rfl) (by rw [List.length_map, HTL.out]) (by simp only [maxLen]; omega) (by omega) hS.size ?_; intro a6 c6 w6 how9 hg9 hp9; have t9 := (Touch.refl _ (fun q => wz.heap.size ≤ q)).grown hg9 (fun q hq _ => (HO3.out.own.lt q hq).1); have hS := hS.trans t9 (fun q h1 h2 => by have h2 : wz.heap.size ≤ q := h2; omega); refine ⟨hS, fun _ => ?_⟩; have HO6 := Lib.hid how9; clear how9 hg9 hp9 t9; (try simp only [Act.put, List.setIfInBounds_toArray, List.set_cons_zero, List.set_cons_succ]))
              refine walk3_one ?_
              (refine runN_appS 60 (.tmp 56) (.tmp 59) _ rfl rfl rfl (by rfl) 27 Tryz.underlying22 _ 3 24 infoBk rfl (by decide) wz.heap.size _ _ rfl HO6.out _ _ _ _ rfl (HRT.out _ hS) (one_bkK _) (i + 1 + q) ((layK f O).map BkD.cells) (HPL.out) (by rw [List.length_append, List.length_map, HTL.out]; simp) (by simp only [maxLen]; omega) (by omega) hS.size ?_; intro a8 c8 w8 how9 hg9 hp9; have t9 := (Touch.refl _ (fun q => wz.heap.size ≤ q)).grown hg9 (fun q hq _ => (HO6.out.own.lt q hq).1); have hS := hS.trans t9 (fun q h1 h2 => by have h2 : wz.heap.size ≤ q := h2; omega); refine ⟨hS, fun _ => ?_⟩; have HO8 := Lib.hid how9; clear how9 hg9 hp9 t9; (try simp only [Act.put, List.setIfInBounds_toArray, List.set_cons_zero, List.set_cons_succ]))
              refine walk3_take ?_
              (refine takeN_take (v := ?_) (some 3) rfl rfl (fun _ _ _ h => h) (by rfl) ?_ ?_; rotate_left; (focus (intro w' hw'; go_simp; (try with_reducible rfl))); (try simp only [Act.put, List.setIfInBounds_toArray, List.set_cons_zero, List.set_cons_succ]))
              refine walk3_fin ?_
              have HY := Lib.hid (HEND.out _ _ _ _ HK8.out (HO8.out.rebase (fun x hx => Nat.le_trans HZW.out.size (HO8.out.own.lt x hx).1)) (HZW.out.trans hS (fun _ _ h => h)))
              go_wp2_with fail
              go_roundw
              · exact HY.out
              · simp only [RowKit.intOf]; omega
end Go.Proofs.YtgpchkobjgglhaaGreatDoor
