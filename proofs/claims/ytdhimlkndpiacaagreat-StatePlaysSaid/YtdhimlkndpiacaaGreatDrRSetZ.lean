/- The reference's drains: Put. -/
import Derived.Test.YtdhimlkndpiacaaGreatDrRefZ
import Derived.Test.YtdhimlkndpiacaaGreatCalm3Z
import Derived.Deep.CutBlock
import Derived.Deep.DeepCutAuto
set_option linter.unusedVariables false
set_option linter.unusedSimpArgs false
namespace Go.Proofs.YtdhimlkndpiacaaGreat
open Go.RowKit

def ltD (a b : DR) : Bool := decide (a.b < b.b)
def insD (r : DR) : List DR → List DR
  | [] => [r]
  | x :: l => if ltD x r = true then x :: insD r l else r :: x :: l
def putG (M : List DR) (b u : Int) : List DR := if setDE M b u = 0 then insD ⟨b, u⟩ (delD M b) else M
theorem rtimeD_any (w : World) (t : Int) : Calls Tryz.prog 65 #[.int .i64 t] w fun e w' => e = .returned (.bool (decide (0 ≤ t ∧ t ≤ 1099511627776))) ∧ w = w' := by
  by_cases h0 : 0 ≤ t
  · by_cases h1 : t ≤ 1099511627776
    · have hd : decide (0 ≤ t ∧ t ≤ 1099511627776) = true := by simp [h0, h1]
      rw [hd]
      go_enter Tryz.func65, Tryz.ntmps65
      go_wp2_with fail
      go_ret
      exact ⟨rfl, rfl⟩
    · have hd : decide (0 ≤ t ∧ t ≤ 1099511627776) = false := by simp [h1]
      rw [hd]
      go_enter Tryz.func65, Tryz.ntmps65
      go_wp2_with fail
      go_ret
      exact ⟨rfl, rfl⟩
  · have hd : decide (0 ≤ t ∧ t ≤ 1099511627776) = false := by simp [h0]
    rw [hd]
    go_enter Tryz.func65, Tryz.ntmps65
    go_wp2_with fail
    go_ret
    exact ⟨rfl, rfl⟩
theorem row_oneD (w : World) (r : DR) : RowS (w.alloc (.cells #[.int .i64 r.b, .int .i64 r.u] 93)) (some ⟨w.heap.size, 0, none⟩) 1 1 2 [dcl r] :=
  ((OwnS.lit w w.heap.size (Nat.le_refl _) 93 2 1 [dcl r] #[.int .i64 r.b, .int .i64 r.u] rfl rfl (by simp [dcl]) (by omega)).row').2.1
theorem row_frontD {w : World} {g off n c : Nat} {D : List DR} (h : RowS w (some ⟨g, off, none⟩) n c 2 (D.map dcl)) (i : Nat) (hi : i ≤ n) : RowS w (some ⟨g, off, none⟩) i c 2 ((D.take i).map dcl) := by
  have hl : D.length = n := by have := h.hlen; simpa using this
  refine ⟨by simp; omega, Nat.le_trans hi h.hcap, h.hmax, fun x hx => h.each x (by rw [List.map_take] at hx; exact List.mem_of_mem_take hx), ?_⟩
  rcases h.at_ with h0 | ⟨b, o, e, hlt, hc⟩
  · exact .inl (by omega)
  · refine .inr ⟨b, o, e, hlt, fun j hj m u hu => ?_⟩
    refine hc j (by simp at hj ⊢; omega) m u ?_
    simpa using hu
theorem row_backD {w : World} {g off n c : Nat} {D : List DR} (h : RowS w (some ⟨g, off, none⟩) n c 2 (D.map dcl)) (i : Nat) (hi : i ≤ n) : RowS w (if c = i then some ⟨g, off, none⟩ else some ⟨g, off + i * 2, none⟩) (n - i) (c - i) 2 ((D.drop i).map dcl) := by
  have hl : D.length = n := by have := h.hlen; simpa using this
  have hc1 := h.hcap
  have hc2 := h.hmax
  by_cases hci : c = i
  · rw [if_pos hci]
    have : n - i = 0 := by omega
    rw [this]
    have hd : D.drop i = [] := List.drop_eq_nil_of_le (by omega)
    rw [hd]
    exact RowS.nil _ _ _ _ (by omega)
  · rw [if_neg hci]
    refine ⟨by simp; omega, by omega, by omega, fun x hx => h.each x (by rw [List.map_drop] at hx; exact List.mem_of_mem_drop hx), ?_⟩
    rcases h.at_ with h0 | ⟨b, o, e, hlt, hc⟩
    · exact .inl (by omega)
    · simp only [Option.some.injEq, Addr.mk.injEq, and_true] at e
      obtain ⟨rfl, rfl⟩ := e
      refine .inr ⟨g, off + i * 2, rfl, hlt, fun j hj m u hu => ?_⟩
      have := hc (i + j) (by simp at hj ⊢; omega) m u (by simpa using hu)
      rw [Nat.add_mul, ← Nat.add_assoc] at this
      exact this
theorem one_dclD (l : List DR) : ∀ x ∈ l.map dcl, ∀ u ∈ x, u.oneCell' = true := by
  intro x hx u hu
  obtain ⟨r, _, rfl⟩ := List.mem_map.1 hx
  simp only [dcl, List.mem_cons, List.not_mem_nil, or_false] at hu
  rcases hu with rfl | rfl <;> rfl
theorem rd_end {w wc x : World} {b n c2 c9 : Nat} {a2 a9 : Option Addr} {D Z : List DR} {v0 : Value} (h2 : RD wc b a2 c2 D) (t2 : Touch w wc (fun k => k = b)) (hS : Touch wc (x.setCell ⟨b, 0, none⟩ (.slice a9 (n + 1) c9)) (fun k => k = b))
    (hh : x.heap[b]? = some (.cells #[v0] 78 (0, 0))) (ho : OwnS x wc.heap.size 93 2 (.slice a9 (n + 1) c9) (Z.map dcl)) (hn : Z.length = n + 1) {a0 : Option Addr} : RDStep w (x.setCell ⟨b, 0, none⟩ (.slice a9 (n + 1) c9)) b a0 Z := by
  have hb := heap_lt h2.head
  obtain ⟨_, hr, h3⟩ := ho.row'
  have t9 : Touch x (x.setCell ⟨b, 0, none⟩ (.slice a9 (n + 1) c9)) (fun k => k = b) := (Touch.refl x (fun k => k = b)).setCell _ _ (fun _ => rfl)
  refine ⟨a9, c9, ⟨?_, ?_, fun y hy => .inr (by have := (h3 y hy).1; omega), own_plD ho, fun y hy => .inr (Nat.lt_of_lt_of_le (h3 y hy).2 t9.size)⟩, t2.trans hS (fun _ _ h => h), fun y hy => .inl ⟨Nat.le_trans t2.size (h3 y hy).1, Nat.lt_of_lt_of_le (h3 y hy).2 t9.size⟩⟩
  · rw [hn]; exact heap_setCell_same x b 0 _ _ _ hh
  · rw [hn]
    exact hr.touch t9 (fun y hy => .inr (fun e => by have := (h3 y hy).1; have e : y.block = b := e; omega))
theorem insD_at : ∀ (D : List DR) (r : DR) (i : Nat), i ≤ D.length → (∀ j, j < i → ltD (gd D j) r = true) → (i = D.length ∨ ltD (gd D i) r = false) → insD r D = D.take i ++ r :: D.drop i
  | [], r, i, hi, _, _ => by
    have : i = 0 := by simpa using hi
    subst this; rfl
  | x :: D, r, 0, _, _, h => by
    have hx : ltD x r = false := by
      rcases h with h | h
      · simp at h
      · exact h
    unfold insD
    rw [hx]; rfl
  | x :: D, r, i + 1, hi, hl, h => by
    have hx : ltD x r = true := hl 0 (by omega)
    unfold insD
    rw [if_pos hx, List.take_succ_cons, List.drop_succ_cons, List.cons_append]
    congr 1
    refine insD_at D r i (by simpa using hi) (fun j hj => hl (j + 1) (by omega)) ?_
    rcases h with h | h
    · exact .inl (by simpa using h)
    · exact .inr h
set_option maxRecDepth 20000 in
set_option maxHeartbeats 8000000 in
theorem rdput_any (w : World) (b : Nat) (a : Option Addr) (c : Nat) (L : List DR) (q : RD w b a c L) (hl : L.length ≤ 1024) (hnd : (L.map DR.b).Nodup) (k t : Int) :
    Calls Tryz.prog 32 #[.pointer (some ⟨b, 0, none⟩), .int .i64 k, .int .i64 t] w fun e w' => e = .returned (.int .i64 (setDE L k t)) ∧ RDStep w w' b a (putG L k t) := by
  have HQ := Lib.hid q
  have HSELF : RowKit.Hid (RDStep w w b a L) := Lib.hid ⟨a, c, q, Touch.refl _ _, fun y hy => .inr ⟨y, hy, rfl⟩⟩
  have HTI := Lib.hid (rtimeD_any w t)
  have HAT := Lib.hid (runtil_any w b a c L q hl k)
  by_cases hin : inN k
  case neg =>
    have e1 : setDE L k t = 1 := by unfold setDE; rw [if_pos hin]
    have e2 : putG L k t = L := by unfold putG; rw [e1, if_neg (by omega)]
    rw [e1, e2]
    clear q e1 e2 HTI HAT
    by_cases h0 : k < 0
    · clear hin
      go_enter Tryz.func32, Tryz.ntmps32
      go_wp2_with fail
      go_ret
      exact ⟨rfl, HSELF.out⟩
    · have h1 : 65535 < k := by
        rcases Int.lt_or_le 65535 k with h | h
        · exact h
        · exact absurd ⟨by omega, h⟩ hin
      clear hin
      go_enter Tryz.func32, Tryz.ntmps32
      go_wp2_with fail
      go_ret
      exact ⟨rfl, HSELF.out⟩
  have hk0 : ¬ k < 0 := by have := hin.1; omega
  have hk1 : ¬ 65535 < k := by have := hin.2; omega
  have HIN := Lib.hid hin
  clear hin
  by_cases ht : t < 0 ∨ 1099511627776 < t
  · have e1 : setDE L k t = 1 := by unfold setDE; rw [if_neg (fun h => h HIN.out), if_pos ht]
    have e2 : putG L k t = L := by unfold putG; rw [e1, if_neg (by omega)]
    have hd : decide (0 ≤ t ∧ t ≤ 1099511627776) = false := by rw [decide_eq_false_iff_not]; omega
    rw [e1, e2]
    rw [hd] at HTI
    clear q e1 e2 hd ht HAT
    go_enter Tryz.func32, Tryz.ntmps32
    go_wp2_with fail
    (with_reducible refine HTI.out.mono ?_)
    rintro e w' ⟨rfl, rfl⟩
    go_wp2_with fail
    go_ret
    exact ⟨rfl, HSELF.out⟩
  have hd : decide (0 ≤ t ∧ t ≤ 1099511627776) = true := by rw [decide_eq_true_iff]; omega
  rw [hd] at HTI
  clear hd
  by_cases hfull : hasD L k = false ∧ 1024 ≤ L.length
  · have e1 : setDE L k t = 9 := by unfold setDE; rw [if_neg (fun h => h HIN.out), if_neg ht, hfull.1, if_neg (by decide), if_pos hfull.2]
    have e2 : putG L k t = L := by unfold putG; rw [e1, if_neg (by omega)]
    rw [e1, e2]
    rw [hfull.1] at HAT
    have hfI : (1024 : Int) ≤ L.length := by omega
    clear q e1 e2 hfull
    go_enter Tryz.func32, Tryz.ntmps32
    go_wp2_with fail
    (with_reducible refine HTI.out.mono ?_)
    rintro e w' ⟨rfl, rfl⟩
    go_wp2_with fail
    (with_reducible refine HAT.out.mono ?_)
    rintro e w1 ⟨rfl, t1⟩
    have c0 : w1.cell? ⟨b, 0, none⟩ = some (.slice a L.length c) := cell_of_cells (t1.keeps HQ.out.head (fun h => h)) 0
    have HST : RowKit.Hid (RDStep w w1 b a L) := Lib.hid ⟨a, c, HQ.out.still t1, t1.mono (fun _ _ h => h.elim), fun y hy => .inr ⟨y, hy, rfl⟩⟩
    clear t1
    go_wp2_with fail
    go_ret
    exact ⟨rfl, HST.out⟩
  have e1 : setDE L k t = 0 := by
    unfold setDE
    rw [if_neg (fun h => h HIN.out), if_neg ht]
    cases hh : hasD L k with
    | true => rfl
    | false =>
      have : ¬ 1024 ≤ L.length := fun h => hfull ⟨hh, h⟩
      simp [this]
  have e2 : putG L k t = insD ⟨k, t⟩ (delD L k) := by unfold putG; rw [if_pos e1]
  rw [e1, e2]
  clear e1 e2 q
  have hdl : (delD L k).length ≤ 1024 := Nat.le_trans (List.length_filter_le _ _) hl
  have HFU := Lib.hid hfull
  clear hfull ht
  go_enter Tryz.func32, Tryz.ntmps32
  go_wp2_with fail
  (with_reducible refine HTI.out.mono ?_)
  rintro e w' ⟨rfl, rfl⟩
  go_wp2_with fail
  (with_reducible refine HAT.out.mono ?_)
  rintro e w1 ⟨rfl, t1⟩
  have HT1' := Lib.hid t1
  clear t1
  go_upto_region 4 with (fail)
  go_cut [8, 36] (fun s8 s36 wx => s36 = .bool false ∧ w1 = wx)
  case first =>
    have c0 : w1.cell? ⟨b, 0, none⟩ = some (.slice a L.length c) := cell_of_cells (HT1'.out.keeps HQ.out.head (fun h => h)) 0
    cases hh : hasD L k with
    | true =>
      go_wp2_with fail
      go_meet
      exact ⟨rfl, rfl⟩
    | false =>
      have hfI : ¬ (1024 : Int) ≤ L.length := fun h => HFU.out ⟨hh, by omega⟩
      go_wp2_with fail
      go_meet
      exact ⟨rfl, rfl⟩
  case rest =>
  obtain ⟨rfl, rfl⟩ := hcut

  have HDR := Lib.hid (rclear_any w1 b a c L (HQ.out.still HT1'.out) hl hnd k)
  have HT1 := Lib.hid (HT1'.out.mono (T := fun k => k = b) (fun _ _ h => h.elim))
  clear HT1'
  go_wp2_with fail
  (with_reducible refine HDR.out.mono ?_)
  rintro e x2 ⟨rfl, a2, c2, hq2, t2, -⟩
  have HT2 := Lib.hid (HT1.out.trans t2 (fun _ _ h => h))
  obtain ⟨D, hD⟩ : ∃ D, delD L k = D := ⟨_, rfl⟩
  rw [hD] at hq2 hdl
  have HDL := Lib.hid hD
  clear hD
  obtain ⟨n, hn⟩ : ∃ n, D.length = n := ⟨_, rfl⟩
  have HN := Lib.hid hn
  have HR2 := Lib.hid hq2
  have x0 : x2.cell? ⟨b, 0, none⟩ = some (.slice a2 D.length c2) := cell_of_cells hq2.head 0
  have f0 := free_of_cells hq2.head 0
  have hcap := hq2.row.hcap
  have hmax := hq2.row.hmax
  rw [hn] at x0 hcap hdl
  clear hn hq2 t2
  go_upto_block 0 with fail
  go_cut [9] (fun s9 wx => ∃ i : Nat, i ≤ n ∧ s9 = .int .i64 i ∧ (∀ j, j < i → ltD (gd D j) ⟨k, t⟩ = true) ∧ (i = D.length ∨ ltD (gd D i) ⟨k, t⟩ = false) ∧ wx = x2)
  case first =>
    go_wp2_with fail
    go_loopw [9] (fun s9 wr => ∃ i : Nat, i ≤ n ∧ s9 = .int .i64 i ∧ (∀ j, j < i → ltD (gd D j) ⟨k, t⟩ = true) ∧ wr = x2) (fun s9 _ => n - (RowKit.intOf s9).toNat)
    case atStart => exact ⟨0, Nat.zero_le _, rfl, fun j hj => by omega, rfl⟩
    case round =>
      obtain ⟨i, hi, rfl, hls, rfl⟩ := hrel
      have HLS := Lib.hid hls
      clear hls
      by_cases hlt : i < n
      case neg =>
        obtain rfl : n = i := by omega
        go_wp2_with fail
        go_meet
        exact ⟨n, Nat.le_refl _, rfl, HLS.out, .inl HN.out.symm, rfl⟩
      case pos =>
        obtain ⟨g, off, rfl⟩ := HR2.out.row.some (by rw [HN.out]; omega)
        obtain ⟨d0, d1⟩ := HR2.out.cell2 i (by rw [HN.out]; exact hlt)
        have hlI : (i : Int) < n := by omega
        by_cases hb : (gd D i).b < k
        · have HX : RowKit.Hid (∃ i' : Nat, i' ≤ n ∧ Value.int .i64 ((i : Int) + 1) = .int .i64 i' ∧ (∀ j, j < i' → ltD (gd D j) ⟨k, t⟩ = true) ∧ True) := Lib.hid ⟨i + 1, by omega, by go_num, fun j hj => by
            by_cases hji : j = i
            · rw [hji]; exact decide_eq_true hb
            · exact HLS.out j (by omega), trivial⟩
          generalize (gd D i).b = kk at *
          go_wp2_with fail
          go_roundw
          · exact HX.out
          · simp only [RowKit.intOf]; omega
        · have HEX : RowKit.Hid (ltD (gd D i) ⟨k, t⟩ = false) := Lib.hid (decide_eq_false hb)
          obtain ⟨kk, hkk⟩ : ∃ kk, (gd D i).b = kk := ⟨_, rfl⟩
          rw [hkk] at d0 hb
          clear hkk
          go_wp2_with fail
          go_meet
          exact ⟨i, by omega, rfl, HLS.out, .inr HEX.out, rfl⟩
  case rest =>
    obtain ⟨i, hi, rfl, hls, hex, rfl⟩ := hcut
    have HLS := Lib.hid hls
    have HEX := Lib.hid hex
    clear hls hex
    have HIN := Lib.hid (insD_at D ⟨k, t⟩ i (by rw [HN.out]; exact hi) HLS.out HEX.out)
    go_upto_region 10 with (fail)
    obtain hnone | ⟨g, off, hsome⟩ := HR2.out.pl
    · subst hnone
      obtain rfl : D = [] := by
        cases D with
        | nil => rfl
        | cons y D => obtain ⟨_, _, e⟩ := HR2.out.row.some (by simp); cases e
      obtain rfl : n = 0 := HN.out.symm
      obtain rfl : i = 0 := by omega
      have HHD : RowKit.Hid (wc.drew.heap[b]? = some (.cells #[.slice none 0 c2] 78 (0, 0))) := Lib.hid HR2.out.head
      have HRW : RowKit.Hid (RowS wc.drew none 0 c2 2 (([] : List DR).map dcl)) := Lib.hid (HR2.out.row.still ((Touch.refl wc (fun _ => False)).drew))
      have hS := (Touch.refl wc (fun k => k = b)).drew
      refine wp_region_tree3 (fun w' => Touch wc w' (fun k => k = b)) (.take 0 (.take 1 (.take 2 (.take 3 (.take 5 (.take 8 (.take 9 (.take 10 (.take 13 (.take 14 (.take 15 (.take 17 (.three 4 11 16 (.take 6 (.three 7 11 16 (.two 11 16 (.two 12 16 (.one 16 (.take 18 (.one 19 (.take 20 (.take 21 (.one 22 .fin)))))) (.take 18 (.one 12 (.one 19 (.take 20 (.take 21 (.one 22 .fin))))))) (.take 18 (.one 11 (.one 12 (.one 19 (.take 20 (.take 21 (.one 22 .fin)))))))) (.two 7 16 (.two 12 16 (.one 16 (.take 18 (.one 19 (.take 20 (.take 21 (.one 22 .fin)))))) (.take 18 (.one 12 (.one 19 (.take 20 (.take 21 (.one 22 .fin))))))) (.take 18 (.one 7 (.one 12 (.one 19 (.take 20 (.take 21 (.one 22 .fin)))))))) (.take 18 (.two 7 11 (.one 11 (.one 12 (.one 19 (.take 20 (.take 21 (.one 22 .fin)))))) (.one 7 (.one 12 (.one 19 (.take 20 (.take 21 (.one 22 .fin)))))))))) (.two 4 16 (.take 6 (.two 7 16 (.two 12 16 (.one 16 (.take 18 (.one 19 (.take 20 (.take 21 (.one 22 .fin)))))) (.take 18 (.one 12 (.one 19 (.take 20 (.take 21 (.one 22 .fin))))))) (.take 18 (.one 7 (.one 12 (.one 19 (.take 20 (.take 21 (.one 22 .fin))))))))) (.take 18 (.one 4 (.take 6 (.one 7 (.one 12 (.one 19 (.take 20 (.take 21 (.one 22 .fin)))))))))) (.take 18 (.two 4 11 (.take 6 (.two 7 11 (.one 11 (.one 12 (.one 19 (.take 20 (.take 21 (.one 22 .fin)))))) (.one 7 (.one 12 (.one 19 (.take 20 (.take 21 (.one 22 .fin)))))))) (.one 4 (.take 6 (.one 7 (.one 12 (.one 19 (.take 20 (.take 21 (.one 22 .fin))))))))))))))))))))))) (by kernel_rfl) (by kernel_rfl) (by kernel_rfl) (by kernel_rfl) hS ?_
      refine walk3_take ?_
      (refine takeN_take (v := ?_) (some 61) rfl rfl (fun _ _ _ h => h) (by rfl) ?_ ?_; rotate_left; (focus (intro w' hw'; go_simp; (try with_reducible rfl))); (try simp only [Act.put, List.setIfInBounds_toArray, List.set_cons_zero, List.set_cons_succ]))
      refine walk3_take ?_
      (refine takeN_take (v := ?_) (some 62) rfl rfl (fun _ _ _ h => h) (by rfl) ?_ ?_; rotate_left; (focus (intro w' hw'; go_simp; (try with_reducible rfl))); (try simp only [Act.put, List.setIfInBounds_toArray, List.set_cons_zero, List.set_cons_succ]))
      refine walk3_take ?_
      (refine takeN_take (v := ?_) (some 63) rfl rfl (fun _ _ _ h => h) (by rfl) ?_ ?_; rotate_left; (focus (intro w' hw'; go_simp; (try with_reducible rfl))); (try simp only [Act.put, List.setIfInBounds_toArray, List.set_cons_zero, List.set_cons_succ]))
      refine walk3_take ?_
      (refine takeN_take (v := ?_) (some 64) rfl rfl (fun _ _ _ h => h) (by rfl) ?_ ?_; rotate_left; (focus (intro w' hw'; go_simp; (try with_reducible rfl))); (try simp only [Act.put, List.setIfInBounds_toArray, List.set_cons_zero, List.set_cons_succ]))
      refine walk3_take ?_
      (refine takeN_take (v := ?_) (some 66) rfl rfl (fun _ _ _ h => h) (by rfl) ?_ ?_; rotate_left; (focus (intro w' hw'; go_simp; (try with_reducible rfl))); (try simp only [Act.put, List.setIfInBounds_toArray, List.set_cons_zero, List.set_cons_succ]))
      refine walk3_take ?_
      (refine takeN_take (v := ?_) (some 69) rfl rfl (fun _ _ _ h => h) (by rfl) ?_ ?_; rotate_left; (focus (intro w' hw'; go_simp; (try with_reducible rfl))); (try simp only [Act.put, List.setIfInBounds_toArray, List.set_cons_zero, List.set_cons_succ]))
      refine walk3_take ?_
      (refine takeN_take (v := ?_) (some 70) rfl rfl (fun _ _ _ h => h) (by rfl) ?_ ?_; rotate_left; (focus (intro w' hw'; go_simp; (try with_reducible rfl))); (try simp only [Act.put, List.setIfInBounds_toArray, List.set_cons_zero, List.set_cons_succ]))
      refine walk3_take ?_
      (refine takeN_take (v := ?_) (some 71) rfl rfl (fun _ _ _ h => h) (by rfl) ?_ ?_; rotate_left; (focus (intro w' hw'; go_simp; (try with_reducible rfl))); (try simp only [Act.put, List.setIfInBounds_toArray, List.set_cons_zero, List.set_cons_succ]))
      refine walk3_take ?_
      (refine takeN_take (v := ?_) (some 74) rfl rfl (fun _ _ _ h => h) (by rfl) ?_ ?_; rotate_left; (focus (intro w' hw'; go_simp; (try with_reducible rfl))); (try simp only [Act.put, List.setIfInBounds_toArray, List.set_cons_zero, List.set_cons_succ]))
      refine walk3_take ?_
      (refine takeN_take (v := ?_) (some 75) rfl rfl (fun _ _ _ h => h) (by rfl) ?_ ?_; rotate_left; (focus (intro w' hw'; go_simp; (try with_reducible rfl))); (try simp only [Act.put, List.setIfInBounds_toArray, List.set_cons_zero, List.set_cons_succ]))
      refine walk3_take ?_
      (refine takeN_take (v := ?_) (some 76) rfl rfl (fun _ _ _ h => h) (by rfl) ?_ ?_; rotate_left; (focus (intro w' hw'; go_simp; (try with_reducible rfl))); (try simp only [Act.put, List.setIfInBounds_toArray, List.set_cons_zero, List.set_cons_succ]))
      refine walk3_take ?_
      (refine takeN_take (v := ?_) (some 78) rfl rfl (fun _ _ _ h => h) (by rfl) ?_ ?_; rotate_left; (focus (intro w' hw'; go_simp; (try with_reducible rfl))); (try simp only [Act.put, List.setIfInBounds_toArray, List.set_cons_zero, List.set_cons_succ]))
      refine walk3_three ?_ ?_ ?_
      · (have cc := cell_of_cells HHD.out 0; refine runN_do (v := .slice none 0 c2) (w' := _) (some 65) rfl rfl (by rfl) (by go_simp; (try with_reducible rfl)) hS (fun hS => ?_); clear cc; (try simp only [Act.put, List.setIfInBounds_toArray, List.set_cons_zero, List.set_cons_succ]))
        refine walk3_take ?_
        (refine takeN_take (v := ?_) (some 67) rfl rfl (fun _ _ _ h => h) (by rfl) ?_ ?_; rotate_left; (focus (intro w' hw'; go_simp; (try with_reducible rfl))); (try simp only [Act.put, List.setIfInBounds_toArray, List.set_cons_zero, List.set_cons_succ]))
        refine walk3_three ?_ ?_ ?_
        · (refine runN_appS 68 (.const (.slice none 0 0)) (.tmp 67) _ rfl rfl rfl (by rfl) 93 Tryz.underlying32 (.agg #[.int .i64 0, .int .i64 0]) 2 16 infoDrain rfl (by decide) wc.heap.size _ _ rfl (OwnS.nil _ _ _ _) _ _ _ _ rfl (RowS.nil _ _ _ _ (by omega)) (by simp) (0) ((([] : List DR)).map dcl) (by simp) (by simp) (by simp only [maxLen]; omega) (by omega) hS.size ?_; intro a7 c7 w7 how9 hg9 hp9; have t9 := (Touch.refl _ (fun _ => False)).grown hg9 (fun k hk _ => by cases hk); have hS := hS.trans t9 (fun k h1 h2 => by first | exact h2.elim | (have h2 : wc.heap.size ≤ k := h2; omega)); refine ⟨hS, fun _ => ?_⟩; have HHD := Lib.hid (t9.keeps HHD.out (fun h => h)); have HRW := Lib.hid (HRW.out.still t9); (try have HNW := Lib.hid (HNW.out.still t9)); have HO1 := Lib.hid how9; clear how9 hg9 hp9 t9; (try simp only [Act.put, List.setIfInBounds_toArray, List.set_cons_zero, List.set_cons_succ]))
          refine walk3_two ?_ ?_
          · (refine runN_new 72 (fun W => .slice (some ⟨W.heap.size, 0, none⟩) 1 1) #[.int .i64 k, .int .i64 t] 93 rfl rfl (by rfl) (by intro W; go_simp <;> first | with_reducible rfl | rfl | exact ⟨rfl, rfl⟩) ?_; intro w7 hw7 hM7 hs7 t9; have hS := hS.trans t9 (fun _ _ h => h.elim); refine ⟨hS, fun _ => ?_⟩; have HNW := Lib.hid (show RowS w7 _ 1 1 2 [dcl ⟨k, t⟩] by rw [hw7]; exact row_oneD _ ⟨k, t⟩); have HHD := Lib.hid (t9.keeps HHD.out (fun h => h)); have HRW := Lib.hid (HRW.out.still t9); (try have HO1 := Lib.hid (HO1.out.still t9)); clear hw7 hM7 hs7 t9; (try simp only [Act.put, List.setIfInBounds_toArray, List.set_cons_zero, List.set_cons_succ]))
            refine walk3_two ?_ ?_
            · (refine runN_appS 73 (.tmp 68) (.tmp 72) _ rfl rfl rfl (by rfl) 93 Tryz.underlying32 (.agg #[.int .i64 0, .int .i64 0]) 2 16 infoDrain rfl (by decide) wc.heap.size _ _ rfl HO1.out _ _ _ _ rfl HNW.out (by simp [dcl, Value.oneCell']) 1 ((([] : List DR) ++ [(⟨k, t⟩ : DR)]).map dcl) (by simp) (by simp) (by simp only [maxLen]; omega) (by omega) hS.size ?_; intro a12 c12 w12 how9 hg9 hp9; have t9 := (Touch.refl _ (fun k => wc.heap.size ≤ k)).grown hg9 (fun k hk _ => (HO1.out.own.lt k hk).1); have hS := hS.trans t9 (fun k h1 h2 => by first | exact h2.elim | (have h2 : wc.heap.size ≤ k := h2; omega)); refine ⟨hS, fun _ => ?_⟩; have HHD := Lib.hid (t9.keeps HHD.out (fun h => by have := heap_lt HR2.out.head; have h : wc.heap.size ≤ b := h; omega)); have HRW := Lib.hid (HRW.out.touch t9 (fun y hy => by rcases HR2.out.lt y hy with h | h; exact .inl (HN.out ▸ h); exact .inr (fun h2 => by have h2 : wc.heap.size ≤ y.block := h2; omega))); have HO2 := Lib.hid how9; clear how9 hg9 hp9 t9; (try simp only [Act.put, List.setIfInBounds_toArray, List.set_cons_zero, List.set_cons_succ]))
              refine walk3_one ?_
              (have cc := cell_of_cells HHD.out 0; refine runN_do (v := .slice none 0 c2) (w' := _) (some 77) rfl rfl (by rfl) (by go_simp; (try with_reducible rfl)) hS (fun hS => ?_); clear cc; (try simp only [Act.put, List.setIfInBounds_toArray, List.set_cons_zero, List.set_cons_succ]))
              refine walk3_take ?_
              (refine takeN_take (v := ?_) (some 79) rfl rfl (fun _ _ _ h => h) (by rfl) ?_ ?_; rotate_left; (focus (intro w' hw'; go_simp; (try with_reducible rfl))); (try simp only [Act.put, List.setIfInBounds_toArray, List.set_cons_zero, List.set_cons_succ]))
              refine walk3_one ?_
              (refine runN_appS 80 (.tmp 73) (.tmp 79) _ rfl rfl rfl (by rfl) 93 Tryz.underlying32 (.agg #[.int .i64 0, .int .i64 0]) 2 16 infoDrain rfl (by decide) wc.heap.size _ _ rfl HO2.out _ _ _ _ rfl (RowS.nil _ _ _ _ (by omega)) (by simp) 1 ((([] : List DR) ++ (⟨k, t⟩ : DR) :: ([] : List DR)).map dcl) (by simp) (by simp) (by simp only [maxLen]; omega) (by omega) hS.size ?_; intro a19 c19 w19 how9 hg9 hp9; have t9 := (Touch.refl _ (fun k => wc.heap.size ≤ k)).grown hg9 (fun k hk _ => (HO2.out.own.lt k hk).1); have hS := hS.trans t9 (fun k h1 h2 => by first | exact h2.elim | (have h2 : wc.heap.size ≤ k := h2; omega)); refine ⟨hS, fun _ => ?_⟩; have HHD := Lib.hid (t9.keeps HHD.out (fun h => by have := heap_lt HR2.out.head; have h : wc.heap.size ≤ b := h; omega)); have HRW := Lib.hid (HRW.out.touch t9 (fun y hy => by rcases HR2.out.lt y hy with h | h; exact .inl (HN.out ▸ h); exact .inr (fun h2 => by have h2 : wc.heap.size ≤ y.block := h2; omega))); have HO3 := Lib.hid how9; clear how9 hg9 hp9 t9; (try simp only [Act.put, List.setIfInBounds_toArray, List.set_cons_zero, List.set_cons_succ]))
              refine walk3_take ?_
              (refine takeN_take (v := ?_) (some 81) rfl rfl (fun _ _ _ h => h) (by rfl) ?_ ?_; rotate_left; (focus (intro w' hw'; go_simp; (try with_reducible rfl))); (try simp only [Act.put, List.setIfInBounds_toArray, List.set_cons_zero, List.set_cons_succ]))
              refine walk3_take ?_
              (refine takeN_take (v := ?_) (some 82) rfl rfl (fun _ _ _ h => h) (by rfl) ?_ ?_; rotate_left; (focus (intro w' hw'; go_simp; (try with_reducible rfl))); (try simp only [Act.put, List.setIfInBounds_toArray, List.set_cons_zero, List.set_cons_succ]))
              refine walk3_one ?_
              (have cc := cell_of_cells HHD.out 0; have ff := free_of_cells HHD.out 0; refine runN_skip0 none rfl rfl (by rfl) (w' := World.setCell w19 ⟨b, 0, none⟩ (.slice a19 1 c19)) (by go_simp; (try with_reducible rfl)) ?_ ?_; (exact hS.setCell _ _ (fun _ => rfl)); clear cc ff; intro hS; (try simp only [Act.put, List.setIfInBounds_toArray, List.set_cons_zero, List.set_cons_succ]))
              refine walk3_fin ?_
              go_wp2_with fail
              all_goals (go_ret)
              all_goals exact ⟨rfl, by rw [HDL.out, HIN.out]; exact rd_end (n := 0) HR2.out HT2.out hS HHD.out HO3.out (by simp)⟩
            · (have cc := cell_of_cells HHD.out 0; refine runN_do (v := .slice none 0 c2) (w' := _) (some 77) rfl rfl (by rfl) (by go_simp; (try with_reducible rfl)) hS (fun hS => ?_); clear cc; (try simp only [Act.put, List.setIfInBounds_toArray, List.set_cons_zero, List.set_cons_succ]))
              refine walk3_take ?_
              (refine takeN_take (v := ?_) (some 79) rfl rfl (fun _ _ _ h => h) (by rfl) ?_ ?_; rotate_left; (focus (intro w' hw'; go_simp; (try with_reducible rfl))); (try simp only [Act.put, List.setIfInBounds_toArray, List.set_cons_zero, List.set_cons_succ]))
              refine walk3_one ?_
              (refine runN_appS 73 (.tmp 68) (.tmp 72) _ rfl rfl rfl (by rfl) 93 Tryz.underlying32 (.agg #[.int .i64 0, .int .i64 0]) 2 16 infoDrain rfl (by decide) wc.heap.size _ _ rfl HO1.out _ _ _ _ rfl HNW.out (by simp [dcl, Value.oneCell']) 1 ((([] : List DR) ++ [(⟨k, t⟩ : DR)]).map dcl) (by simp) (by simp) (by simp only [maxLen]; omega) (by omega) hS.size ?_; intro a12 c12 w12 how9 hg9 hp9; have t9 := (Touch.refl _ (fun k => wc.heap.size ≤ k)).grown hg9 (fun k hk _ => (HO1.out.own.lt k hk).1); have hS := hS.trans t9 (fun k h1 h2 => by first | exact h2.elim | (have h2 : wc.heap.size ≤ k := h2; omega)); refine ⟨hS, fun _ => ?_⟩; have HHD := Lib.hid (t9.keeps HHD.out (fun h => by have := heap_lt HR2.out.head; have h : wc.heap.size ≤ b := h; omega)); have HRW := Lib.hid (HRW.out.touch t9 (fun y hy => by rcases HR2.out.lt y hy with h | h; exact .inl (HN.out ▸ h); exact .inr (fun h2 => by have h2 : wc.heap.size ≤ y.block := h2; omega))); have HO2 := Lib.hid how9; clear how9 hg9 hp9 t9; (try simp only [Act.put, List.setIfInBounds_toArray, List.set_cons_zero, List.set_cons_succ]))
              refine walk3_one ?_
              (refine runN_appS 80 (.tmp 73) (.tmp 79) _ rfl rfl rfl (by rfl) 93 Tryz.underlying32 (.agg #[.int .i64 0, .int .i64 0]) 2 16 infoDrain rfl (by decide) wc.heap.size _ _ rfl HO2.out _ _ _ _ rfl (RowS.nil _ _ _ _ (by omega)) (by simp) 1 ((([] : List DR) ++ (⟨k, t⟩ : DR) :: ([] : List DR)).map dcl) (by simp) (by simp) (by simp only [maxLen]; omega) (by omega) hS.size ?_; intro a19 c19 w19 how9 hg9 hp9; have t9 := (Touch.refl _ (fun k => wc.heap.size ≤ k)).grown hg9 (fun k hk _ => (HO2.out.own.lt k hk).1); have hS := hS.trans t9 (fun k h1 h2 => by first | exact h2.elim | (have h2 : wc.heap.size ≤ k := h2; omega)); refine ⟨hS, fun _ => ?_⟩; have HHD := Lib.hid (t9.keeps HHD.out (fun h => by have := heap_lt HR2.out.head; have h : wc.heap.size ≤ b := h; omega)); have HRW := Lib.hid (HRW.out.touch t9 (fun y hy => by rcases HR2.out.lt y hy with h | h; exact .inl (HN.out ▸ h); exact .inr (fun h2 => by have h2 : wc.heap.size ≤ y.block := h2; omega))); have HO3 := Lib.hid how9; clear how9 hg9 hp9 t9; (try simp only [Act.put, List.setIfInBounds_toArray, List.set_cons_zero, List.set_cons_succ]))
              refine walk3_take ?_
              (refine takeN_take (v := ?_) (some 81) rfl rfl (fun _ _ _ h => h) (by rfl) ?_ ?_; rotate_left; (focus (intro w' hw'; go_simp; (try with_reducible rfl))); (try simp only [Act.put, List.setIfInBounds_toArray, List.set_cons_zero, List.set_cons_succ]))
              refine walk3_take ?_
              (refine takeN_take (v := ?_) (some 82) rfl rfl (fun _ _ _ h => h) (by rfl) ?_ ?_; rotate_left; (focus (intro w' hw'; go_simp; (try with_reducible rfl))); (try simp only [Act.put, List.setIfInBounds_toArray, List.set_cons_zero, List.set_cons_succ]))
              refine walk3_one ?_
              (have cc := cell_of_cells HHD.out 0; have ff := free_of_cells HHD.out 0; refine runN_skip0 none rfl rfl (by rfl) (w' := World.setCell w19 ⟨b, 0, none⟩ (.slice a19 1 c19)) (by go_simp; (try with_reducible rfl)) ?_ ?_; (exact hS.setCell _ _ (fun _ => rfl)); clear cc ff; intro hS; (try simp only [Act.put, List.setIfInBounds_toArray, List.set_cons_zero, List.set_cons_succ]))
              refine walk3_fin ?_
              go_wp2_with fail
              all_goals (go_ret)
              all_goals exact ⟨rfl, by rw [HDL.out, HIN.out]; exact rd_end (n := 0) HR2.out HT2.out hS HHD.out HO3.out (by simp)⟩
          · (have cc := cell_of_cells HHD.out 0; refine runN_do (v := .slice none 0 c2) (w' := _) (some 77) rfl rfl (by rfl) (by go_simp; (try with_reducible rfl)) hS (fun hS => ?_); clear cc; (try simp only [Act.put, List.setIfInBounds_toArray, List.set_cons_zero, List.set_cons_succ]))
            refine walk3_take ?_
            (refine takeN_take (v := ?_) (some 79) rfl rfl (fun _ _ _ h => h) (by rfl) ?_ ?_; rotate_left; (focus (intro w' hw'; go_simp; (try with_reducible rfl))); (try simp only [Act.put, List.setIfInBounds_toArray, List.set_cons_zero, List.set_cons_succ]))
            refine walk3_one ?_
            (refine runN_new 72 (fun W => .slice (some ⟨W.heap.size, 0, none⟩) 1 1) #[.int .i64 k, .int .i64 t] 93 rfl rfl (by rfl) (by intro W; go_simp <;> first | with_reducible rfl | rfl | exact ⟨rfl, rfl⟩) ?_; intro w7 hw7 hM7 hs7 t9; have hS := hS.trans t9 (fun _ _ h => h.elim); refine ⟨hS, fun _ => ?_⟩; have HNW := Lib.hid (show RowS w7 _ 1 1 2 [dcl ⟨k, t⟩] by rw [hw7]; exact row_oneD _ ⟨k, t⟩); have HHD := Lib.hid (t9.keeps HHD.out (fun h => h)); have HRW := Lib.hid (HRW.out.still t9); (try have HO1 := Lib.hid (HO1.out.still t9)); clear hw7 hM7 hs7 t9; (try simp only [Act.put, List.setIfInBounds_toArray, List.set_cons_zero, List.set_cons_succ]))
            refine walk3_one ?_
            (refine runN_appS 73 (.tmp 68) (.tmp 72) _ rfl rfl rfl (by rfl) 93 Tryz.underlying32 (.agg #[.int .i64 0, .int .i64 0]) 2 16 infoDrain rfl (by decide) wc.heap.size _ _ rfl HO1.out _ _ _ _ rfl HNW.out (by simp [dcl, Value.oneCell']) 1 ((([] : List DR) ++ [(⟨k, t⟩ : DR)]).map dcl) (by simp) (by simp) (by simp only [maxLen]; omega) (by omega) hS.size ?_; intro a12 c12 w12 how9 hg9 hp9; have t9 := (Touch.refl _ (fun k => wc.heap.size ≤ k)).grown hg9 (fun k hk _ => (HO1.out.own.lt k hk).1); have hS := hS.trans t9 (fun k h1 h2 => by first | exact h2.elim | (have h2 : wc.heap.size ≤ k := h2; omega)); refine ⟨hS, fun _ => ?_⟩; have HHD := Lib.hid (t9.keeps HHD.out (fun h => by have := heap_lt HR2.out.head; have h : wc.heap.size ≤ b := h; omega)); have HRW := Lib.hid (HRW.out.touch t9 (fun y hy => by rcases HR2.out.lt y hy with h | h; exact .inl (HN.out ▸ h); exact .inr (fun h2 => by have h2 : wc.heap.size ≤ y.block := h2; omega))); have HO2 := Lib.hid how9; clear how9 hg9 hp9 t9; (try simp only [Act.put, List.setIfInBounds_toArray, List.set_cons_zero, List.set_cons_succ]))
            refine walk3_one ?_
            (refine runN_appS 80 (.tmp 73) (.tmp 79) _ rfl rfl rfl (by rfl) 93 Tryz.underlying32 (.agg #[.int .i64 0, .int .i64 0]) 2 16 infoDrain rfl (by decide) wc.heap.size _ _ rfl HO2.out _ _ _ _ rfl (RowS.nil _ _ _ _ (by omega)) (by simp) 1 ((([] : List DR) ++ (⟨k, t⟩ : DR) :: ([] : List DR)).map dcl) (by simp) (by simp) (by simp only [maxLen]; omega) (by omega) hS.size ?_; intro a19 c19 w19 how9 hg9 hp9; have t9 := (Touch.refl _ (fun k => wc.heap.size ≤ k)).grown hg9 (fun k hk _ => (HO2.out.own.lt k hk).1); have hS := hS.trans t9 (fun k h1 h2 => by first | exact h2.elim | (have h2 : wc.heap.size ≤ k := h2; omega)); refine ⟨hS, fun _ => ?_⟩; have HHD := Lib.hid (t9.keeps HHD.out (fun h => by have := heap_lt HR2.out.head; have h : wc.heap.size ≤ b := h; omega)); have HRW := Lib.hid (HRW.out.touch t9 (fun y hy => by rcases HR2.out.lt y hy with h | h; exact .inl (HN.out ▸ h); exact .inr (fun h2 => by have h2 : wc.heap.size ≤ y.block := h2; omega))); have HO3 := Lib.hid how9; clear how9 hg9 hp9 t9; (try simp only [Act.put, List.setIfInBounds_toArray, List.set_cons_zero, List.set_cons_succ]))
            refine walk3_take ?_
            (refine takeN_take (v := ?_) (some 81) rfl rfl (fun _ _ _ h => h) (by rfl) ?_ ?_; rotate_left; (focus (intro w' hw'; go_simp; (try with_reducible rfl))); (try simp only [Act.put, List.setIfInBounds_toArray, List.set_cons_zero, List.set_cons_succ]))
            refine walk3_take ?_
            (refine takeN_take (v := ?_) (some 82) rfl rfl (fun _ _ _ h => h) (by rfl) ?_ ?_; rotate_left; (focus (intro w' hw'; go_simp; (try with_reducible rfl))); (try simp only [Act.put, List.setIfInBounds_toArray, List.set_cons_zero, List.set_cons_succ]))
            refine walk3_one ?_
            (have cc := cell_of_cells HHD.out 0; have ff := free_of_cells HHD.out 0; refine runN_skip0 none rfl rfl (by rfl) (w' := World.setCell w19 ⟨b, 0, none⟩ (.slice a19 1 c19)) (by go_simp; (try with_reducible rfl)) ?_ ?_; (exact hS.setCell _ _ (fun _ => rfl)); clear cc ff; intro hS; (try simp only [Act.put, List.setIfInBounds_toArray, List.set_cons_zero, List.set_cons_succ]))
            refine walk3_fin ?_
            go_wp2_with fail
            all_goals (go_ret)
            all_goals exact ⟨rfl, by rw [HDL.out, HIN.out]; exact rd_end (n := 0) HR2.out HT2.out hS HHD.out HO3.out (by simp)⟩
        · (refine runN_new 72 (fun W => .slice (some ⟨W.heap.size, 0, none⟩) 1 1) #[.int .i64 k, .int .i64 t] 93 rfl rfl (by rfl) (by intro W; go_simp <;> first | with_reducible rfl | rfl | exact ⟨rfl, rfl⟩) ?_; intro w7 hw7 hM7 hs7 t9; have hS := hS.trans t9 (fun _ _ h => h.elim); refine ⟨hS, fun _ => ?_⟩; have HNW := Lib.hid (show RowS w7 _ 1 1 2 [dcl ⟨k, t⟩] by rw [hw7]; exact row_oneD _ ⟨k, t⟩); have HHD := Lib.hid (t9.keeps HHD.out (fun h => h)); have HRW := Lib.hid (HRW.out.still t9); (try have HO1 := Lib.hid (HO1.out.still t9)); clear hw7 hM7 hs7 t9; (try simp only [Act.put, List.setIfInBounds_toArray, List.set_cons_zero, List.set_cons_succ]))
          refine walk3_two ?_ ?_
          · (refine runN_appS 68 (.const (.slice none 0 0)) (.tmp 67) _ rfl rfl rfl (by rfl) 93 Tryz.underlying32 (.agg #[.int .i64 0, .int .i64 0]) 2 16 infoDrain rfl (by decide) wc.heap.size _ _ rfl (OwnS.nil _ _ _ _) _ _ _ _ rfl (RowS.nil _ _ _ _ (by omega)) (by simp) (0) ((([] : List DR)).map dcl) (by simp) (by simp) (by simp only [maxLen]; omega) (by omega) hS.size ?_; intro a7 c7 w7 how9 hg9 hp9; have t9 := (Touch.refl _ (fun _ => False)).grown hg9 (fun k hk _ => by cases hk); have hS := hS.trans t9 (fun k h1 h2 => by first | exact h2.elim | (have h2 : wc.heap.size ≤ k := h2; omega)); refine ⟨hS, fun _ => ?_⟩; have HHD := Lib.hid (t9.keeps HHD.out (fun h => h)); have HRW := Lib.hid (HRW.out.still t9); (try have HNW := Lib.hid (HNW.out.still t9)); have HO1 := Lib.hid how9; clear how9 hg9 hp9 t9; (try simp only [Act.put, List.setIfInBounds_toArray, List.set_cons_zero, List.set_cons_succ]))
            refine walk3_two ?_ ?_
            · (refine runN_appS 73 (.tmp 68) (.tmp 72) _ rfl rfl rfl (by rfl) 93 Tryz.underlying32 (.agg #[.int .i64 0, .int .i64 0]) 2 16 infoDrain rfl (by decide) wc.heap.size _ _ rfl HO1.out _ _ _ _ rfl HNW.out (by simp [dcl, Value.oneCell']) 1 ((([] : List DR) ++ [(⟨k, t⟩ : DR)]).map dcl) (by simp) (by simp) (by simp only [maxLen]; omega) (by omega) hS.size ?_; intro a12 c12 w12 how9 hg9 hp9; have t9 := (Touch.refl _ (fun k => wc.heap.size ≤ k)).grown hg9 (fun k hk _ => (HO1.out.own.lt k hk).1); have hS := hS.trans t9 (fun k h1 h2 => by first | exact h2.elim | (have h2 : wc.heap.size ≤ k := h2; omega)); refine ⟨hS, fun _ => ?_⟩; have HHD := Lib.hid (t9.keeps HHD.out (fun h => by have := heap_lt HR2.out.head; have h : wc.heap.size ≤ b := h; omega)); have HRW := Lib.hid (HRW.out.touch t9 (fun y hy => by rcases HR2.out.lt y hy with h | h; exact .inl (HN.out ▸ h); exact .inr (fun h2 => by have h2 : wc.heap.size ≤ y.block := h2; omega))); have HO2 := Lib.hid how9; clear how9 hg9 hp9 t9; (try simp only [Act.put, List.setIfInBounds_toArray, List.set_cons_zero, List.set_cons_succ]))
              refine walk3_one ?_
              (have cc := cell_of_cells HHD.out 0; refine runN_do (v := .slice none 0 c2) (w' := _) (some 77) rfl rfl (by rfl) (by go_simp; (try with_reducible rfl)) hS (fun hS => ?_); clear cc; (try simp only [Act.put, List.setIfInBounds_toArray, List.set_cons_zero, List.set_cons_succ]))
              refine walk3_take ?_
              (refine takeN_take (v := ?_) (some 79) rfl rfl (fun _ _ _ h => h) (by rfl) ?_ ?_; rotate_left; (focus (intro w' hw'; go_simp; (try with_reducible rfl))); (try simp only [Act.put, List.setIfInBounds_toArray, List.set_cons_zero, List.set_cons_succ]))
              refine walk3_one ?_
              (refine runN_appS 80 (.tmp 73) (.tmp 79) _ rfl rfl rfl (by rfl) 93 Tryz.underlying32 (.agg #[.int .i64 0, .int .i64 0]) 2 16 infoDrain rfl (by decide) wc.heap.size _ _ rfl HO2.out _ _ _ _ rfl (RowS.nil _ _ _ _ (by omega)) (by simp) 1 ((([] : List DR) ++ (⟨k, t⟩ : DR) :: ([] : List DR)).map dcl) (by simp) (by simp) (by simp only [maxLen]; omega) (by omega) hS.size ?_; intro a19 c19 w19 how9 hg9 hp9; have t9 := (Touch.refl _ (fun k => wc.heap.size ≤ k)).grown hg9 (fun k hk _ => (HO2.out.own.lt k hk).1); have hS := hS.trans t9 (fun k h1 h2 => by first | exact h2.elim | (have h2 : wc.heap.size ≤ k := h2; omega)); refine ⟨hS, fun _ => ?_⟩; have HHD := Lib.hid (t9.keeps HHD.out (fun h => by have := heap_lt HR2.out.head; have h : wc.heap.size ≤ b := h; omega)); have HRW := Lib.hid (HRW.out.touch t9 (fun y hy => by rcases HR2.out.lt y hy with h | h; exact .inl (HN.out ▸ h); exact .inr (fun h2 => by have h2 : wc.heap.size ≤ y.block := h2; omega))); have HO3 := Lib.hid how9; clear how9 hg9 hp9 t9; (try simp only [Act.put, List.setIfInBounds_toArray, List.set_cons_zero, List.set_cons_succ]))
              refine walk3_take ?_
              (refine takeN_take (v := ?_) (some 81) rfl rfl (fun _ _ _ h => h) (by rfl) ?_ ?_; rotate_left; (focus (intro w' hw'; go_simp; (try with_reducible rfl))); (try simp only [Act.put, List.setIfInBounds_toArray, List.set_cons_zero, List.set_cons_succ]))
              refine walk3_take ?_
              (refine takeN_take (v := ?_) (some 82) rfl rfl (fun _ _ _ h => h) (by rfl) ?_ ?_; rotate_left; (focus (intro w' hw'; go_simp; (try with_reducible rfl))); (try simp only [Act.put, List.setIfInBounds_toArray, List.set_cons_zero, List.set_cons_succ]))
              refine walk3_one ?_
              (have cc := cell_of_cells HHD.out 0; have ff := free_of_cells HHD.out 0; refine runN_skip0 none rfl rfl (by rfl) (w' := World.setCell w19 ⟨b, 0, none⟩ (.slice a19 1 c19)) (by go_simp; (try with_reducible rfl)) ?_ ?_; (exact hS.setCell _ _ (fun _ => rfl)); clear cc ff; intro hS; (try simp only [Act.put, List.setIfInBounds_toArray, List.set_cons_zero, List.set_cons_succ]))
              refine walk3_fin ?_
              go_wp2_with fail
              all_goals (go_ret)
              all_goals exact ⟨rfl, by rw [HDL.out, HIN.out]; exact rd_end (n := 0) HR2.out HT2.out hS HHD.out HO3.out (by simp)⟩
            · (have cc := cell_of_cells HHD.out 0; refine runN_do (v := .slice none 0 c2) (w' := _) (some 77) rfl rfl (by rfl) (by go_simp; (try with_reducible rfl)) hS (fun hS => ?_); clear cc; (try simp only [Act.put, List.setIfInBounds_toArray, List.set_cons_zero, List.set_cons_succ]))
              refine walk3_take ?_
              (refine takeN_take (v := ?_) (some 79) rfl rfl (fun _ _ _ h => h) (by rfl) ?_ ?_; rotate_left; (focus (intro w' hw'; go_simp; (try with_reducible rfl))); (try simp only [Act.put, List.setIfInBounds_toArray, List.set_cons_zero, List.set_cons_succ]))
              refine walk3_one ?_
              (refine runN_appS 73 (.tmp 68) (.tmp 72) _ rfl rfl rfl (by rfl) 93 Tryz.underlying32 (.agg #[.int .i64 0, .int .i64 0]) 2 16 infoDrain rfl (by decide) wc.heap.size _ _ rfl HO1.out _ _ _ _ rfl HNW.out (by simp [dcl, Value.oneCell']) 1 ((([] : List DR) ++ [(⟨k, t⟩ : DR)]).map dcl) (by simp) (by simp) (by simp only [maxLen]; omega) (by omega) hS.size ?_; intro a12 c12 w12 how9 hg9 hp9; have t9 := (Touch.refl _ (fun k => wc.heap.size ≤ k)).grown hg9 (fun k hk _ => (HO1.out.own.lt k hk).1); have hS := hS.trans t9 (fun k h1 h2 => by first | exact h2.elim | (have h2 : wc.heap.size ≤ k := h2; omega)); refine ⟨hS, fun _ => ?_⟩; have HHD := Lib.hid (t9.keeps HHD.out (fun h => by have := heap_lt HR2.out.head; have h : wc.heap.size ≤ b := h; omega)); have HRW := Lib.hid (HRW.out.touch t9 (fun y hy => by rcases HR2.out.lt y hy with h | h; exact .inl (HN.out ▸ h); exact .inr (fun h2 => by have h2 : wc.heap.size ≤ y.block := h2; omega))); have HO2 := Lib.hid how9; clear how9 hg9 hp9 t9; (try simp only [Act.put, List.setIfInBounds_toArray, List.set_cons_zero, List.set_cons_succ]))
              refine walk3_one ?_
              (refine runN_appS 80 (.tmp 73) (.tmp 79) _ rfl rfl rfl (by rfl) 93 Tryz.underlying32 (.agg #[.int .i64 0, .int .i64 0]) 2 16 infoDrain rfl (by decide) wc.heap.size _ _ rfl HO2.out _ _ _ _ rfl (RowS.nil _ _ _ _ (by omega)) (by simp) 1 ((([] : List DR) ++ (⟨k, t⟩ : DR) :: ([] : List DR)).map dcl) (by simp) (by simp) (by simp only [maxLen]; omega) (by omega) hS.size ?_; intro a19 c19 w19 how9 hg9 hp9; have t9 := (Touch.refl _ (fun k => wc.heap.size ≤ k)).grown hg9 (fun k hk _ => (HO2.out.own.lt k hk).1); have hS := hS.trans t9 (fun k h1 h2 => by first | exact h2.elim | (have h2 : wc.heap.size ≤ k := h2; omega)); refine ⟨hS, fun _ => ?_⟩; have HHD := Lib.hid (t9.keeps HHD.out (fun h => by have := heap_lt HR2.out.head; have h : wc.heap.size ≤ b := h; omega)); have HRW := Lib.hid (HRW.out.touch t9 (fun y hy => by rcases HR2.out.lt y hy with h | h; exact .inl (HN.out ▸ h); exact .inr (fun h2 => by have h2 : wc.heap.size ≤ y.block := h2; omega))); have HO3 := Lib.hid how9; clear how9 hg9 hp9 t9; (try simp only [Act.put, List.setIfInBounds_toArray, List.set_cons_zero, List.set_cons_succ]))
              refine walk3_take ?_
              (refine takeN_take (v := ?_) (some 81) rfl rfl (fun _ _ _ h => h) (by rfl) ?_ ?_; rotate_left; (focus (intro w' hw'; go_simp; (try with_reducible rfl))); (try simp only [Act.put, List.setIfInBounds_toArray, List.set_cons_zero, List.set_cons_succ]))
              refine walk3_take ?_
              (refine takeN_take (v := ?_) (some 82) rfl rfl (fun _ _ _ h => h) (by rfl) ?_ ?_; rotate_left; (focus (intro w' hw'; go_simp; (try with_reducible rfl))); (try simp only [Act.put, List.setIfInBounds_toArray, List.set_cons_zero, List.set_cons_succ]))
              refine walk3_one ?_
              (have cc := cell_of_cells HHD.out 0; have ff := free_of_cells HHD.out 0; refine runN_skip0 none rfl rfl (by rfl) (w' := World.setCell w19 ⟨b, 0, none⟩ (.slice a19 1 c19)) (by go_simp; (try with_reducible rfl)) ?_ ?_; (exact hS.setCell _ _ (fun _ => rfl)); clear cc ff; intro hS; (try simp only [Act.put, List.setIfInBounds_toArray, List.set_cons_zero, List.set_cons_succ]))
              refine walk3_fin ?_
              go_wp2_with fail
              all_goals (go_ret)
              all_goals exact ⟨rfl, by rw [HDL.out, HIN.out]; exact rd_end (n := 0) HR2.out HT2.out hS HHD.out HO3.out (by simp)⟩
          · (have cc := cell_of_cells HHD.out 0; refine runN_do (v := .slice none 0 c2) (w' := _) (some 77) rfl rfl (by rfl) (by go_simp; (try with_reducible rfl)) hS (fun hS => ?_); clear cc; (try simp only [Act.put, List.setIfInBounds_toArray, List.set_cons_zero, List.set_cons_succ]))
            refine walk3_take ?_
            (refine takeN_take (v := ?_) (some 79) rfl rfl (fun _ _ _ h => h) (by rfl) ?_ ?_; rotate_left; (focus (intro w' hw'; go_simp; (try with_reducible rfl))); (try simp only [Act.put, List.setIfInBounds_toArray, List.set_cons_zero, List.set_cons_succ]))
            refine walk3_one ?_
            (refine runN_appS 68 (.const (.slice none 0 0)) (.tmp 67) _ rfl rfl rfl (by rfl) 93 Tryz.underlying32 (.agg #[.int .i64 0, .int .i64 0]) 2 16 infoDrain rfl (by decide) wc.heap.size _ _ rfl (OwnS.nil _ _ _ _) _ _ _ _ rfl (RowS.nil _ _ _ _ (by omega)) (by simp) (0) ((([] : List DR)).map dcl) (by simp) (by simp) (by simp only [maxLen]; omega) (by omega) hS.size ?_; intro a7 c7 w7 how9 hg9 hp9; have t9 := (Touch.refl _ (fun _ => False)).grown hg9 (fun k hk _ => by cases hk); have hS := hS.trans t9 (fun k h1 h2 => by first | exact h2.elim | (have h2 : wc.heap.size ≤ k := h2; omega)); refine ⟨hS, fun _ => ?_⟩; have HHD := Lib.hid (t9.keeps HHD.out (fun h => h)); have HRW := Lib.hid (HRW.out.still t9); (try have HNW := Lib.hid (HNW.out.still t9)); have HO1 := Lib.hid how9; clear how9 hg9 hp9 t9; (try simp only [Act.put, List.setIfInBounds_toArray, List.set_cons_zero, List.set_cons_succ]))
            refine walk3_one ?_
            (refine runN_appS 73 (.tmp 68) (.tmp 72) _ rfl rfl rfl (by rfl) 93 Tryz.underlying32 (.agg #[.int .i64 0, .int .i64 0]) 2 16 infoDrain rfl (by decide) wc.heap.size _ _ rfl HO1.out _ _ _ _ rfl HNW.out (by simp [dcl, Value.oneCell']) 1 ((([] : List DR) ++ [(⟨k, t⟩ : DR)]).map dcl) (by simp) (by simp) (by simp only [maxLen]; omega) (by omega) hS.size ?_; intro a12 c12 w12 how9 hg9 hp9; have t9 := (Touch.refl _ (fun k => wc.heap.size ≤ k)).grown hg9 (fun k hk _ => (HO1.out.own.lt k hk).1); have hS := hS.trans t9 (fun k h1 h2 => by first | exact h2.elim | (have h2 : wc.heap.size ≤ k := h2; omega)); refine ⟨hS, fun _ => ?_⟩; have HHD := Lib.hid (t9.keeps HHD.out (fun h => by have := heap_lt HR2.out.head; have h : wc.heap.size ≤ b := h; omega)); have HRW := Lib.hid (HRW.out.touch t9 (fun y hy => by rcases HR2.out.lt y hy with h | h; exact .inl (HN.out ▸ h); exact .inr (fun h2 => by have h2 : wc.heap.size ≤ y.block := h2; omega))); have HO2 := Lib.hid how9; clear how9 hg9 hp9 t9; (try simp only [Act.put, List.setIfInBounds_toArray, List.set_cons_zero, List.set_cons_succ]))
            refine walk3_one ?_
            (refine runN_appS 80 (.tmp 73) (.tmp 79) _ rfl rfl rfl (by rfl) 93 Tryz.underlying32 (.agg #[.int .i64 0, .int .i64 0]) 2 16 infoDrain rfl (by decide) wc.heap.size _ _ rfl HO2.out _ _ _ _ rfl (RowS.nil _ _ _ _ (by omega)) (by simp) 1 ((([] : List DR) ++ (⟨k, t⟩ : DR) :: ([] : List DR)).map dcl) (by simp) (by simp) (by simp only [maxLen]; omega) (by omega) hS.size ?_; intro a19 c19 w19 how9 hg9 hp9; have t9 := (Touch.refl _ (fun k => wc.heap.size ≤ k)).grown hg9 (fun k hk _ => (HO2.out.own.lt k hk).1); have hS := hS.trans t9 (fun k h1 h2 => by first | exact h2.elim | (have h2 : wc.heap.size ≤ k := h2; omega)); refine ⟨hS, fun _ => ?_⟩; have HHD := Lib.hid (t9.keeps HHD.out (fun h => by have := heap_lt HR2.out.head; have h : wc.heap.size ≤ b := h; omega)); have HRW := Lib.hid (HRW.out.touch t9 (fun y hy => by rcases HR2.out.lt y hy with h | h; exact .inl (HN.out ▸ h); exact .inr (fun h2 => by have h2 : wc.heap.size ≤ y.block := h2; omega))); have HO3 := Lib.hid how9; clear how9 hg9 hp9 t9; (try simp only [Act.put, List.setIfInBounds_toArray, List.set_cons_zero, List.set_cons_succ]))
            refine walk3_take ?_
            (refine takeN_take (v := ?_) (some 81) rfl rfl (fun _ _ _ h => h) (by rfl) ?_ ?_; rotate_left; (focus (intro w' hw'; go_simp; (try with_reducible rfl))); (try simp only [Act.put, List.setIfInBounds_toArray, List.set_cons_zero, List.set_cons_succ]))
            refine walk3_take ?_
            (refine takeN_take (v := ?_) (some 82) rfl rfl (fun _ _ _ h => h) (by rfl) ?_ ?_; rotate_left; (focus (intro w' hw'; go_simp; (try with_reducible rfl))); (try simp only [Act.put, List.setIfInBounds_toArray, List.set_cons_zero, List.set_cons_succ]))
            refine walk3_one ?_
            (have cc := cell_of_cells HHD.out 0; have ff := free_of_cells HHD.out 0; refine runN_skip0 none rfl rfl (by rfl) (w' := World.setCell w19 ⟨b, 0, none⟩ (.slice a19 1 c19)) (by go_simp; (try with_reducible rfl)) ?_ ?_; (exact hS.setCell _ _ (fun _ => rfl)); clear cc ff; intro hS; (try simp only [Act.put, List.setIfInBounds_toArray, List.set_cons_zero, List.set_cons_succ]))
            refine walk3_fin ?_
            go_wp2_with fail
            all_goals (go_ret)
            all_goals exact ⟨rfl, by rw [HDL.out, HIN.out]; exact rd_end (n := 0) HR2.out HT2.out hS HHD.out HO3.out (by simp)⟩
        · (have cc := cell_of_cells HHD.out 0; refine runN_do (v := .slice none 0 c2) (w' := _) (some 77) rfl rfl (by rfl) (by go_simp; (try with_reducible rfl)) hS (fun hS => ?_); clear cc; (try simp only [Act.put, List.setIfInBounds_toArray, List.set_cons_zero, List.set_cons_succ]))
          refine walk3_take ?_
          (refine takeN_take (v := ?_) (some 79) rfl rfl (fun _ _ _ h => h) (by rfl) ?_ ?_; rotate_left; (focus (intro w' hw'; go_simp; (try with_reducible rfl))); (try simp only [Act.put, List.setIfInBounds_toArray, List.set_cons_zero, List.set_cons_succ]))
          refine walk3_two ?_ ?_
          · (refine runN_appS 68 (.const (.slice none 0 0)) (.tmp 67) _ rfl rfl rfl (by rfl) 93 Tryz.underlying32 (.agg #[.int .i64 0, .int .i64 0]) 2 16 infoDrain rfl (by decide) wc.heap.size _ _ rfl (OwnS.nil _ _ _ _) _ _ _ _ rfl (RowS.nil _ _ _ _ (by omega)) (by simp) (0) ((([] : List DR)).map dcl) (by simp) (by simp) (by simp only [maxLen]; omega) (by omega) hS.size ?_; intro a7 c7 w7 how9 hg9 hp9; have t9 := (Touch.refl _ (fun _ => False)).grown hg9 (fun k hk _ => by cases hk); have hS := hS.trans t9 (fun k h1 h2 => by first | exact h2.elim | (have h2 : wc.heap.size ≤ k := h2; omega)); refine ⟨hS, fun _ => ?_⟩; have HHD := Lib.hid (t9.keeps HHD.out (fun h => h)); have HRW := Lib.hid (HRW.out.still t9); (try have HNW := Lib.hid (HNW.out.still t9)); have HO1 := Lib.hid how9; clear how9 hg9 hp9 t9; (try simp only [Act.put, List.setIfInBounds_toArray, List.set_cons_zero, List.set_cons_succ]))
            refine walk3_one ?_
            (refine runN_new 72 (fun W => .slice (some ⟨W.heap.size, 0, none⟩) 1 1) #[.int .i64 k, .int .i64 t] 93 rfl rfl (by rfl) (by intro W; go_simp <;> first | with_reducible rfl | rfl | exact ⟨rfl, rfl⟩) ?_; intro w7 hw7 hM7 hs7 t9; have hS := hS.trans t9 (fun _ _ h => h.elim); refine ⟨hS, fun _ => ?_⟩; have HNW := Lib.hid (show RowS w7 _ 1 1 2 [dcl ⟨k, t⟩] by rw [hw7]; exact row_oneD _ ⟨k, t⟩); have HHD := Lib.hid (t9.keeps HHD.out (fun h => h)); have HRW := Lib.hid (HRW.out.still t9); (try have HO1 := Lib.hid (HO1.out.still t9)); clear hw7 hM7 hs7 t9; (try simp only [Act.put, List.setIfInBounds_toArray, List.set_cons_zero, List.set_cons_succ]))
            refine walk3_one ?_
            (refine runN_appS 73 (.tmp 68) (.tmp 72) _ rfl rfl rfl (by rfl) 93 Tryz.underlying32 (.agg #[.int .i64 0, .int .i64 0]) 2 16 infoDrain rfl (by decide) wc.heap.size _ _ rfl HO1.out _ _ _ _ rfl HNW.out (by simp [dcl, Value.oneCell']) 1 ((([] : List DR) ++ [(⟨k, t⟩ : DR)]).map dcl) (by simp) (by simp) (by simp only [maxLen]; omega) (by omega) hS.size ?_; intro a12 c12 w12 how9 hg9 hp9; have t9 := (Touch.refl _ (fun k => wc.heap.size ≤ k)).grown hg9 (fun k hk _ => (HO1.out.own.lt k hk).1); have hS := hS.trans t9 (fun k h1 h2 => by first | exact h2.elim | (have h2 : wc.heap.size ≤ k := h2; omega)); refine ⟨hS, fun _ => ?_⟩; have HHD := Lib.hid (t9.keeps HHD.out (fun h => by have := heap_lt HR2.out.head; have h : wc.heap.size ≤ b := h; omega)); have HRW := Lib.hid (HRW.out.touch t9 (fun y hy => by rcases HR2.out.lt y hy with h | h; exact .inl (HN.out ▸ h); exact .inr (fun h2 => by have h2 : wc.heap.size ≤ y.block := h2; omega))); have HO2 := Lib.hid how9; clear how9 hg9 hp9 t9; (try simp only [Act.put, List.setIfInBounds_toArray, List.set_cons_zero, List.set_cons_succ]))
            refine walk3_one ?_
            (refine runN_appS 80 (.tmp 73) (.tmp 79) _ rfl rfl rfl (by rfl) 93 Tryz.underlying32 (.agg #[.int .i64 0, .int .i64 0]) 2 16 infoDrain rfl (by decide) wc.heap.size _ _ rfl HO2.out _ _ _ _ rfl (RowS.nil _ _ _ _ (by omega)) (by simp) 1 ((([] : List DR) ++ (⟨k, t⟩ : DR) :: ([] : List DR)).map dcl) (by simp) (by simp) (by simp only [maxLen]; omega) (by omega) hS.size ?_; intro a19 c19 w19 how9 hg9 hp9; have t9 := (Touch.refl _ (fun k => wc.heap.size ≤ k)).grown hg9 (fun k hk _ => (HO2.out.own.lt k hk).1); have hS := hS.trans t9 (fun k h1 h2 => by first | exact h2.elim | (have h2 : wc.heap.size ≤ k := h2; omega)); refine ⟨hS, fun _ => ?_⟩; have HHD := Lib.hid (t9.keeps HHD.out (fun h => by have := heap_lt HR2.out.head; have h : wc.heap.size ≤ b := h; omega)); have HRW := Lib.hid (HRW.out.touch t9 (fun y hy => by rcases HR2.out.lt y hy with h | h; exact .inl (HN.out ▸ h); exact .inr (fun h2 => by have h2 : wc.heap.size ≤ y.block := h2; omega))); have HO3 := Lib.hid how9; clear how9 hg9 hp9 t9; (try simp only [Act.put, List.setIfInBounds_toArray, List.set_cons_zero, List.set_cons_succ]))
            refine walk3_take ?_
            (refine takeN_take (v := ?_) (some 81) rfl rfl (fun _ _ _ h => h) (by rfl) ?_ ?_; rotate_left; (focus (intro w' hw'; go_simp; (try with_reducible rfl))); (try simp only [Act.put, List.setIfInBounds_toArray, List.set_cons_zero, List.set_cons_succ]))
            refine walk3_take ?_
            (refine takeN_take (v := ?_) (some 82) rfl rfl (fun _ _ _ h => h) (by rfl) ?_ ?_; rotate_left; (focus (intro w' hw'; go_simp; (try with_reducible rfl))); (try simp only [Act.put, List.setIfInBounds_toArray, List.set_cons_zero, List.set_cons_succ]))
            refine walk3_one ?_
            (have cc := cell_of_cells HHD.out 0; have ff := free_of_cells HHD.out 0; refine runN_skip0 none rfl rfl (by rfl) (w' := World.setCell w19 ⟨b, 0, none⟩ (.slice a19 1 c19)) (by go_simp; (try with_reducible rfl)) ?_ ?_; (exact hS.setCell _ _ (fun _ => rfl)); clear cc ff; intro hS; (try simp only [Act.put, List.setIfInBounds_toArray, List.set_cons_zero, List.set_cons_succ]))
            refine walk3_fin ?_
            go_wp2_with fail
            all_goals (go_ret)
            all_goals exact ⟨rfl, by rw [HDL.out, HIN.out]; exact rd_end (n := 0) HR2.out HT2.out hS HHD.out HO3.out (by simp)⟩
          · (refine runN_new 72 (fun W => .slice (some ⟨W.heap.size, 0, none⟩) 1 1) #[.int .i64 k, .int .i64 t] 93 rfl rfl (by rfl) (by intro W; go_simp <;> first | with_reducible rfl | rfl | exact ⟨rfl, rfl⟩) ?_; intro w7 hw7 hM7 hs7 t9; have hS := hS.trans t9 (fun _ _ h => h.elim); refine ⟨hS, fun _ => ?_⟩; have HNW := Lib.hid (show RowS w7 _ 1 1 2 [dcl ⟨k, t⟩] by rw [hw7]; exact row_oneD _ ⟨k, t⟩); have HHD := Lib.hid (t9.keeps HHD.out (fun h => h)); have HRW := Lib.hid (HRW.out.still t9); (try have HO1 := Lib.hid (HO1.out.still t9)); clear hw7 hM7 hs7 t9; (try simp only [Act.put, List.setIfInBounds_toArray, List.set_cons_zero, List.set_cons_succ]))
            refine walk3_one ?_
            (refine runN_appS 68 (.const (.slice none 0 0)) (.tmp 67) _ rfl rfl rfl (by rfl) 93 Tryz.underlying32 (.agg #[.int .i64 0, .int .i64 0]) 2 16 infoDrain rfl (by decide) wc.heap.size _ _ rfl (OwnS.nil _ _ _ _) _ _ _ _ rfl (RowS.nil _ _ _ _ (by omega)) (by simp) (0) ((([] : List DR)).map dcl) (by simp) (by simp) (by simp only [maxLen]; omega) (by omega) hS.size ?_; intro a7 c7 w7 how9 hg9 hp9; have t9 := (Touch.refl _ (fun _ => False)).grown hg9 (fun k hk _ => by cases hk); have hS := hS.trans t9 (fun k h1 h2 => by first | exact h2.elim | (have h2 : wc.heap.size ≤ k := h2; omega)); refine ⟨hS, fun _ => ?_⟩; have HHD := Lib.hid (t9.keeps HHD.out (fun h => h)); have HRW := Lib.hid (HRW.out.still t9); (try have HNW := Lib.hid (HNW.out.still t9)); have HO1 := Lib.hid how9; clear how9 hg9 hp9 t9; (try simp only [Act.put, List.setIfInBounds_toArray, List.set_cons_zero, List.set_cons_succ]))
            refine walk3_one ?_
            (refine runN_appS 73 (.tmp 68) (.tmp 72) _ rfl rfl rfl (by rfl) 93 Tryz.underlying32 (.agg #[.int .i64 0, .int .i64 0]) 2 16 infoDrain rfl (by decide) wc.heap.size _ _ rfl HO1.out _ _ _ _ rfl HNW.out (by simp [dcl, Value.oneCell']) 1 ((([] : List DR) ++ [(⟨k, t⟩ : DR)]).map dcl) (by simp) (by simp) (by simp only [maxLen]; omega) (by omega) hS.size ?_; intro a12 c12 w12 how9 hg9 hp9; have t9 := (Touch.refl _ (fun k => wc.heap.size ≤ k)).grown hg9 (fun k hk _ => (HO1.out.own.lt k hk).1); have hS := hS.trans t9 (fun k h1 h2 => by first | exact h2.elim | (have h2 : wc.heap.size ≤ k := h2; omega)); refine ⟨hS, fun _ => ?_⟩; have HHD := Lib.hid (t9.keeps HHD.out (fun h => by have := heap_lt HR2.out.head; have h : wc.heap.size ≤ b := h; omega)); have HRW := Lib.hid (HRW.out.touch t9 (fun y hy => by rcases HR2.out.lt y hy with h | h; exact .inl (HN.out ▸ h); exact .inr (fun h2 => by have h2 : wc.heap.size ≤ y.block := h2; omega))); have HO2 := Lib.hid how9; clear how9 hg9 hp9 t9; (try simp only [Act.put, List.setIfInBounds_toArray, List.set_cons_zero, List.set_cons_succ]))
            refine walk3_one ?_
            (refine runN_appS 80 (.tmp 73) (.tmp 79) _ rfl rfl rfl (by rfl) 93 Tryz.underlying32 (.agg #[.int .i64 0, .int .i64 0]) 2 16 infoDrain rfl (by decide) wc.heap.size _ _ rfl HO2.out _ _ _ _ rfl (RowS.nil _ _ _ _ (by omega)) (by simp) 1 ((([] : List DR) ++ (⟨k, t⟩ : DR) :: ([] : List DR)).map dcl) (by simp) (by simp) (by simp only [maxLen]; omega) (by omega) hS.size ?_; intro a19 c19 w19 how9 hg9 hp9; have t9 := (Touch.refl _ (fun k => wc.heap.size ≤ k)).grown hg9 (fun k hk _ => (HO2.out.own.lt k hk).1); have hS := hS.trans t9 (fun k h1 h2 => by first | exact h2.elim | (have h2 : wc.heap.size ≤ k := h2; omega)); refine ⟨hS, fun _ => ?_⟩; have HHD := Lib.hid (t9.keeps HHD.out (fun h => by have := heap_lt HR2.out.head; have h : wc.heap.size ≤ b := h; omega)); have HRW := Lib.hid (HRW.out.touch t9 (fun y hy => by rcases HR2.out.lt y hy with h | h; exact .inl (HN.out ▸ h); exact .inr (fun h2 => by have h2 : wc.heap.size ≤ y.block := h2; omega))); have HO3 := Lib.hid how9; clear how9 hg9 hp9 t9; (try simp only [Act.put, List.setIfInBounds_toArray, List.set_cons_zero, List.set_cons_succ]))
            refine walk3_take ?_
            (refine takeN_take (v := ?_) (some 81) rfl rfl (fun _ _ _ h => h) (by rfl) ?_ ?_; rotate_left; (focus (intro w' hw'; go_simp; (try with_reducible rfl))); (try simp only [Act.put, List.setIfInBounds_toArray, List.set_cons_zero, List.set_cons_succ]))
            refine walk3_take ?_
            (refine takeN_take (v := ?_) (some 82) rfl rfl (fun _ _ _ h => h) (by rfl) ?_ ?_; rotate_left; (focus (intro w' hw'; go_simp; (try with_reducible rfl))); (try simp only [Act.put, List.setIfInBounds_toArray, List.set_cons_zero, List.set_cons_succ]))
            refine walk3_one ?_
            (have cc := cell_of_cells HHD.out 0; have ff := free_of_cells HHD.out 0; refine runN_skip0 none rfl rfl (by rfl) (w' := World.setCell w19 ⟨b, 0, none⟩ (.slice a19 1 c19)) (by go_simp; (try with_reducible rfl)) ?_ ?_; (exact hS.setCell _ _ (fun _ => rfl)); clear cc ff; intro hS; (try simp only [Act.put, List.setIfInBounds_toArray, List.set_cons_zero, List.set_cons_succ]))
            refine walk3_fin ?_
            go_wp2_with fail
            all_goals (go_ret)
            all_goals exact ⟨rfl, by rw [HDL.out, HIN.out]; exact rd_end (n := 0) HR2.out HT2.out hS HHD.out HO3.out (by simp)⟩
      · (refine runN_new 72 (fun W => .slice (some ⟨W.heap.size, 0, none⟩) 1 1) #[.int .i64 k, .int .i64 t] 93 rfl rfl (by rfl) (by intro W; go_simp <;> first | with_reducible rfl | rfl | exact ⟨rfl, rfl⟩) ?_; intro w7 hw7 hM7 hs7 t9; have hS := hS.trans t9 (fun _ _ h => h.elim); refine ⟨hS, fun _ => ?_⟩; have HNW := Lib.hid (show RowS w7 _ 1 1 2 [dcl ⟨k, t⟩] by rw [hw7]; exact row_oneD _ ⟨k, t⟩); have HHD := Lib.hid (t9.keeps HHD.out (fun h => h)); have HRW := Lib.hid (HRW.out.still t9); (try have HO1 := Lib.hid (HO1.out.still t9)); clear hw7 hM7 hs7 t9; (try simp only [Act.put, List.setIfInBounds_toArray, List.set_cons_zero, List.set_cons_succ]))
        refine walk3_two ?_ ?_
        · (have cc := cell_of_cells HHD.out 0; refine runN_do (v := .slice none 0 c2) (w' := _) (some 65) rfl rfl (by rfl) (by go_simp; (try with_reducible rfl)) hS (fun hS => ?_); clear cc; (try simp only [Act.put, List.setIfInBounds_toArray, List.set_cons_zero, List.set_cons_succ]))
          refine walk3_take ?_
          (refine takeN_take (v := ?_) (some 67) rfl rfl (fun _ _ _ h => h) (by rfl) ?_ ?_; rotate_left; (focus (intro w' hw'; go_simp; (try with_reducible rfl))); (try simp only [Act.put, List.setIfInBounds_toArray, List.set_cons_zero, List.set_cons_succ]))
          refine walk3_two ?_ ?_
          · (refine runN_appS 68 (.const (.slice none 0 0)) (.tmp 67) _ rfl rfl rfl (by rfl) 93 Tryz.underlying32 (.agg #[.int .i64 0, .int .i64 0]) 2 16 infoDrain rfl (by decide) wc.heap.size _ _ rfl (OwnS.nil _ _ _ _) _ _ _ _ rfl (RowS.nil _ _ _ _ (by omega)) (by simp) (0) ((([] : List DR)).map dcl) (by simp) (by simp) (by simp only [maxLen]; omega) (by omega) hS.size ?_; intro a7 c7 w7 how9 hg9 hp9; have t9 := (Touch.refl _ (fun _ => False)).grown hg9 (fun k hk _ => by cases hk); have hS := hS.trans t9 (fun k h1 h2 => by first | exact h2.elim | (have h2 : wc.heap.size ≤ k := h2; omega)); refine ⟨hS, fun _ => ?_⟩; have HHD := Lib.hid (t9.keeps HHD.out (fun h => h)); have HRW := Lib.hid (HRW.out.still t9); (try have HNW := Lib.hid (HNW.out.still t9)); have HO1 := Lib.hid how9; clear how9 hg9 hp9 t9; (try simp only [Act.put, List.setIfInBounds_toArray, List.set_cons_zero, List.set_cons_succ]))
            refine walk3_two ?_ ?_
            · (refine runN_appS 73 (.tmp 68) (.tmp 72) _ rfl rfl rfl (by rfl) 93 Tryz.underlying32 (.agg #[.int .i64 0, .int .i64 0]) 2 16 infoDrain rfl (by decide) wc.heap.size _ _ rfl HO1.out _ _ _ _ rfl HNW.out (by simp [dcl, Value.oneCell']) 1 ((([] : List DR) ++ [(⟨k, t⟩ : DR)]).map dcl) (by simp) (by simp) (by simp only [maxLen]; omega) (by omega) hS.size ?_; intro a12 c12 w12 how9 hg9 hp9; have t9 := (Touch.refl _ (fun k => wc.heap.size ≤ k)).grown hg9 (fun k hk _ => (HO1.out.own.lt k hk).1); have hS := hS.trans t9 (fun k h1 h2 => by first | exact h2.elim | (have h2 : wc.heap.size ≤ k := h2; omega)); refine ⟨hS, fun _ => ?_⟩; have HHD := Lib.hid (t9.keeps HHD.out (fun h => by have := heap_lt HR2.out.head; have h : wc.heap.size ≤ b := h; omega)); have HRW := Lib.hid (HRW.out.touch t9 (fun y hy => by rcases HR2.out.lt y hy with h | h; exact .inl (HN.out ▸ h); exact .inr (fun h2 => by have h2 : wc.heap.size ≤ y.block := h2; omega))); have HO2 := Lib.hid how9; clear how9 hg9 hp9 t9; (try simp only [Act.put, List.setIfInBounds_toArray, List.set_cons_zero, List.set_cons_succ]))
              refine walk3_one ?_
              (have cc := cell_of_cells HHD.out 0; refine runN_do (v := .slice none 0 c2) (w' := _) (some 77) rfl rfl (by rfl) (by go_simp; (try with_reducible rfl)) hS (fun hS => ?_); clear cc; (try simp only [Act.put, List.setIfInBounds_toArray, List.set_cons_zero, List.set_cons_succ]))
              refine walk3_take ?_
              (refine takeN_take (v := ?_) (some 79) rfl rfl (fun _ _ _ h => h) (by rfl) ?_ ?_; rotate_left; (focus (intro w' hw'; go_simp; (try with_reducible rfl))); (try simp only [Act.put, List.setIfInBounds_toArray, List.set_cons_zero, List.set_cons_succ]))
              refine walk3_one ?_
              (refine runN_appS 80 (.tmp 73) (.tmp 79) _ rfl rfl rfl (by rfl) 93 Tryz.underlying32 (.agg #[.int .i64 0, .int .i64 0]) 2 16 infoDrain rfl (by decide) wc.heap.size _ _ rfl HO2.out _ _ _ _ rfl (RowS.nil _ _ _ _ (by omega)) (by simp) 1 ((([] : List DR) ++ (⟨k, t⟩ : DR) :: ([] : List DR)).map dcl) (by simp) (by simp) (by simp only [maxLen]; omega) (by omega) hS.size ?_; intro a19 c19 w19 how9 hg9 hp9; have t9 := (Touch.refl _ (fun k => wc.heap.size ≤ k)).grown hg9 (fun k hk _ => (HO2.out.own.lt k hk).1); have hS := hS.trans t9 (fun k h1 h2 => by first | exact h2.elim | (have h2 : wc.heap.size ≤ k := h2; omega)); refine ⟨hS, fun _ => ?_⟩; have HHD := Lib.hid (t9.keeps HHD.out (fun h => by have := heap_lt HR2.out.head; have h : wc.heap.size ≤ b := h; omega)); have HRW := Lib.hid (HRW.out.touch t9 (fun y hy => by rcases HR2.out.lt y hy with h | h; exact .inl (HN.out ▸ h); exact .inr (fun h2 => by have h2 : wc.heap.size ≤ y.block := h2; omega))); have HO3 := Lib.hid how9; clear how9 hg9 hp9 t9; (try simp only [Act.put, List.setIfInBounds_toArray, List.set_cons_zero, List.set_cons_succ]))
              refine walk3_take ?_
              (refine takeN_take (v := ?_) (some 81) rfl rfl (fun _ _ _ h => h) (by rfl) ?_ ?_; rotate_left; (focus (intro w' hw'; go_simp; (try with_reducible rfl))); (try simp only [Act.put, List.setIfInBounds_toArray, List.set_cons_zero, List.set_cons_succ]))
              refine walk3_take ?_
              (refine takeN_take (v := ?_) (some 82) rfl rfl (fun _ _ _ h => h) (by rfl) ?_ ?_; rotate_left; (focus (intro w' hw'; go_simp; (try with_reducible rfl))); (try simp only [Act.put, List.setIfInBounds_toArray, List.set_cons_zero, List.set_cons_succ]))
              refine walk3_one ?_
              (have cc := cell_of_cells HHD.out 0; have ff := free_of_cells HHD.out 0; refine runN_skip0 none rfl rfl (by rfl) (w' := World.setCell w19 ⟨b, 0, none⟩ (.slice a19 1 c19)) (by go_simp; (try with_reducible rfl)) ?_ ?_; (exact hS.setCell _ _ (fun _ => rfl)); clear cc ff; intro hS; (try simp only [Act.put, List.setIfInBounds_toArray, List.set_cons_zero, List.set_cons_succ]))
              refine walk3_fin ?_
              go_wp2_with fail
              all_goals (go_ret)
              all_goals exact ⟨rfl, by rw [HDL.out, HIN.out]; exact rd_end (n := 0) HR2.out HT2.out hS HHD.out HO3.out (by simp)⟩
            · (have cc := cell_of_cells HHD.out 0; refine runN_do (v := .slice none 0 c2) (w' := _) (some 77) rfl rfl (by rfl) (by go_simp; (try with_reducible rfl)) hS (fun hS => ?_); clear cc; (try simp only [Act.put, List.setIfInBounds_toArray, List.set_cons_zero, List.set_cons_succ]))
              refine walk3_take ?_
              (refine takeN_take (v := ?_) (some 79) rfl rfl (fun _ _ _ h => h) (by rfl) ?_ ?_; rotate_left; (focus (intro w' hw'; go_simp; (try with_reducible rfl))); (try simp only [Act.put, List.setIfInBounds_toArray, List.set_cons_zero, List.set_cons_succ]))
              refine walk3_one ?_
              (refine runN_appS 73 (.tmp 68) (.tmp 72) _ rfl rfl rfl (by rfl) 93 Tryz.underlying32 (.agg #[.int .i64 0, .int .i64 0]) 2 16 infoDrain rfl (by decide) wc.heap.size _ _ rfl HO1.out _ _ _ _ rfl HNW.out (by simp [dcl, Value.oneCell']) 1 ((([] : List DR) ++ [(⟨k, t⟩ : DR)]).map dcl) (by simp) (by simp) (by simp only [maxLen]; omega) (by omega) hS.size ?_; intro a12 c12 w12 how9 hg9 hp9; have t9 := (Touch.refl _ (fun k => wc.heap.size ≤ k)).grown hg9 (fun k hk _ => (HO1.out.own.lt k hk).1); have hS := hS.trans t9 (fun k h1 h2 => by first | exact h2.elim | (have h2 : wc.heap.size ≤ k := h2; omega)); refine ⟨hS, fun _ => ?_⟩; have HHD := Lib.hid (t9.keeps HHD.out (fun h => by have := heap_lt HR2.out.head; have h : wc.heap.size ≤ b := h; omega)); have HRW := Lib.hid (HRW.out.touch t9 (fun y hy => by rcases HR2.out.lt y hy with h | h; exact .inl (HN.out ▸ h); exact .inr (fun h2 => by have h2 : wc.heap.size ≤ y.block := h2; omega))); have HO2 := Lib.hid how9; clear how9 hg9 hp9 t9; (try simp only [Act.put, List.setIfInBounds_toArray, List.set_cons_zero, List.set_cons_succ]))
              refine walk3_one ?_
              (refine runN_appS 80 (.tmp 73) (.tmp 79) _ rfl rfl rfl (by rfl) 93 Tryz.underlying32 (.agg #[.int .i64 0, .int .i64 0]) 2 16 infoDrain rfl (by decide) wc.heap.size _ _ rfl HO2.out _ _ _ _ rfl (RowS.nil _ _ _ _ (by omega)) (by simp) 1 ((([] : List DR) ++ (⟨k, t⟩ : DR) :: ([] : List DR)).map dcl) (by simp) (by simp) (by simp only [maxLen]; omega) (by omega) hS.size ?_; intro a19 c19 w19 how9 hg9 hp9; have t9 := (Touch.refl _ (fun k => wc.heap.size ≤ k)).grown hg9 (fun k hk _ => (HO2.out.own.lt k hk).1); have hS := hS.trans t9 (fun k h1 h2 => by first | exact h2.elim | (have h2 : wc.heap.size ≤ k := h2; omega)); refine ⟨hS, fun _ => ?_⟩; have HHD := Lib.hid (t9.keeps HHD.out (fun h => by have := heap_lt HR2.out.head; have h : wc.heap.size ≤ b := h; omega)); have HRW := Lib.hid (HRW.out.touch t9 (fun y hy => by rcases HR2.out.lt y hy with h | h; exact .inl (HN.out ▸ h); exact .inr (fun h2 => by have h2 : wc.heap.size ≤ y.block := h2; omega))); have HO3 := Lib.hid how9; clear how9 hg9 hp9 t9; (try simp only [Act.put, List.setIfInBounds_toArray, List.set_cons_zero, List.set_cons_succ]))
              refine walk3_take ?_
              (refine takeN_take (v := ?_) (some 81) rfl rfl (fun _ _ _ h => h) (by rfl) ?_ ?_; rotate_left; (focus (intro w' hw'; go_simp; (try with_reducible rfl))); (try simp only [Act.put, List.setIfInBounds_toArray, List.set_cons_zero, List.set_cons_succ]))
              refine walk3_take ?_
              (refine takeN_take (v := ?_) (some 82) rfl rfl (fun _ _ _ h => h) (by rfl) ?_ ?_; rotate_left; (focus (intro w' hw'; go_simp; (try with_reducible rfl))); (try simp only [Act.put, List.setIfInBounds_toArray, List.set_cons_zero, List.set_cons_succ]))
              refine walk3_one ?_
              (have cc := cell_of_cells HHD.out 0; have ff := free_of_cells HHD.out 0; refine runN_skip0 none rfl rfl (by rfl) (w' := World.setCell w19 ⟨b, 0, none⟩ (.slice a19 1 c19)) (by go_simp; (try with_reducible rfl)) ?_ ?_; (exact hS.setCell _ _ (fun _ => rfl)); clear cc ff; intro hS; (try simp only [Act.put, List.setIfInBounds_toArray, List.set_cons_zero, List.set_cons_succ]))
              refine walk3_fin ?_
              go_wp2_with fail
              all_goals (go_ret)
              all_goals exact ⟨rfl, by rw [HDL.out, HIN.out]; exact rd_end (n := 0) HR2.out HT2.out hS HHD.out HO3.out (by simp)⟩
          · (have cc := cell_of_cells HHD.out 0; refine runN_do (v := .slice none 0 c2) (w' := _) (some 77) rfl rfl (by rfl) (by go_simp; (try with_reducible rfl)) hS (fun hS => ?_); clear cc; (try simp only [Act.put, List.setIfInBounds_toArray, List.set_cons_zero, List.set_cons_succ]))
            refine walk3_take ?_
            (refine takeN_take (v := ?_) (some 79) rfl rfl (fun _ _ _ h => h) (by rfl) ?_ ?_; rotate_left; (focus (intro w' hw'; go_simp; (try with_reducible rfl))); (try simp only [Act.put, List.setIfInBounds_toArray, List.set_cons_zero, List.set_cons_succ]))
            refine walk3_one ?_
            (refine runN_appS 68 (.const (.slice none 0 0)) (.tmp 67) _ rfl rfl rfl (by rfl) 93 Tryz.underlying32 (.agg #[.int .i64 0, .int .i64 0]) 2 16 infoDrain rfl (by decide) wc.heap.size _ _ rfl (OwnS.nil _ _ _ _) _ _ _ _ rfl (RowS.nil _ _ _ _ (by omega)) (by simp) (0) ((([] : List DR)).map dcl) (by simp) (by simp) (by simp only [maxLen]; omega) (by omega) hS.size ?_; intro a7 c7 w7 how9 hg9 hp9; have t9 := (Touch.refl _ (fun _ => False)).grown hg9 (fun k hk _ => by cases hk); have hS := hS.trans t9 (fun k h1 h2 => by first | exact h2.elim | (have h2 : wc.heap.size ≤ k := h2; omega)); refine ⟨hS, fun _ => ?_⟩; have HHD := Lib.hid (t9.keeps HHD.out (fun h => h)); have HRW := Lib.hid (HRW.out.still t9); (try have HNW := Lib.hid (HNW.out.still t9)); have HO1 := Lib.hid how9; clear how9 hg9 hp9 t9; (try simp only [Act.put, List.setIfInBounds_toArray, List.set_cons_zero, List.set_cons_succ]))
            refine walk3_one ?_
            (refine runN_appS 73 (.tmp 68) (.tmp 72) _ rfl rfl rfl (by rfl) 93 Tryz.underlying32 (.agg #[.int .i64 0, .int .i64 0]) 2 16 infoDrain rfl (by decide) wc.heap.size _ _ rfl HO1.out _ _ _ _ rfl HNW.out (by simp [dcl, Value.oneCell']) 1 ((([] : List DR) ++ [(⟨k, t⟩ : DR)]).map dcl) (by simp) (by simp) (by simp only [maxLen]; omega) (by omega) hS.size ?_; intro a12 c12 w12 how9 hg9 hp9; have t9 := (Touch.refl _ (fun k => wc.heap.size ≤ k)).grown hg9 (fun k hk _ => (HO1.out.own.lt k hk).1); have hS := hS.trans t9 (fun k h1 h2 => by first | exact h2.elim | (have h2 : wc.heap.size ≤ k := h2; omega)); refine ⟨hS, fun _ => ?_⟩; have HHD := Lib.hid (t9.keeps HHD.out (fun h => by have := heap_lt HR2.out.head; have h : wc.heap.size ≤ b := h; omega)); have HRW := Lib.hid (HRW.out.touch t9 (fun y hy => by rcases HR2.out.lt y hy with h | h; exact .inl (HN.out ▸ h); exact .inr (fun h2 => by have h2 : wc.heap.size ≤ y.block := h2; omega))); have HO2 := Lib.hid how9; clear how9 hg9 hp9 t9; (try simp only [Act.put, List.setIfInBounds_toArray, List.set_cons_zero, List.set_cons_succ]))
            refine walk3_one ?_
            (refine runN_appS 80 (.tmp 73) (.tmp 79) _ rfl rfl rfl (by rfl) 93 Tryz.underlying32 (.agg #[.int .i64 0, .int .i64 0]) 2 16 infoDrain rfl (by decide) wc.heap.size _ _ rfl HO2.out _ _ _ _ rfl (RowS.nil _ _ _ _ (by omega)) (by simp) 1 ((([] : List DR) ++ (⟨k, t⟩ : DR) :: ([] : List DR)).map dcl) (by simp) (by simp) (by simp only [maxLen]; omega) (by omega) hS.size ?_; intro a19 c19 w19 how9 hg9 hp9; have t9 := (Touch.refl _ (fun k => wc.heap.size ≤ k)).grown hg9 (fun k hk _ => (HO2.out.own.lt k hk).1); have hS := hS.trans t9 (fun k h1 h2 => by first | exact h2.elim | (have h2 : wc.heap.size ≤ k := h2; omega)); refine ⟨hS, fun _ => ?_⟩; have HHD := Lib.hid (t9.keeps HHD.out (fun h => by have := heap_lt HR2.out.head; have h : wc.heap.size ≤ b := h; omega)); have HRW := Lib.hid (HRW.out.touch t9 (fun y hy => by rcases HR2.out.lt y hy with h | h; exact .inl (HN.out ▸ h); exact .inr (fun h2 => by have h2 : wc.heap.size ≤ y.block := h2; omega))); have HO3 := Lib.hid how9; clear how9 hg9 hp9 t9; (try simp only [Act.put, List.setIfInBounds_toArray, List.set_cons_zero, List.set_cons_succ]))
            refine walk3_take ?_
            (refine takeN_take (v := ?_) (some 81) rfl rfl (fun _ _ _ h => h) (by rfl) ?_ ?_; rotate_left; (focus (intro w' hw'; go_simp; (try with_reducible rfl))); (try simp only [Act.put, List.setIfInBounds_toArray, List.set_cons_zero, List.set_cons_succ]))
            refine walk3_take ?_
            (refine takeN_take (v := ?_) (some 82) rfl rfl (fun _ _ _ h => h) (by rfl) ?_ ?_; rotate_left; (focus (intro w' hw'; go_simp; (try with_reducible rfl))); (try simp only [Act.put, List.setIfInBounds_toArray, List.set_cons_zero, List.set_cons_succ]))
            refine walk3_one ?_
            (have cc := cell_of_cells HHD.out 0; have ff := free_of_cells HHD.out 0; refine runN_skip0 none rfl rfl (by rfl) (w' := World.setCell w19 ⟨b, 0, none⟩ (.slice a19 1 c19)) (by go_simp; (try with_reducible rfl)) ?_ ?_; (exact hS.setCell _ _ (fun _ => rfl)); clear cc ff; intro hS; (try simp only [Act.put, List.setIfInBounds_toArray, List.set_cons_zero, List.set_cons_succ]))
            refine walk3_fin ?_
            go_wp2_with fail
            all_goals (go_ret)
            all_goals exact ⟨rfl, by rw [HDL.out, HIN.out]; exact rd_end (n := 0) HR2.out HT2.out hS HHD.out HO3.out (by simp)⟩
        · (have cc := cell_of_cells HHD.out 0; refine runN_do (v := .slice none 0 c2) (w' := _) (some 77) rfl rfl (by rfl) (by go_simp; (try with_reducible rfl)) hS (fun hS => ?_); clear cc; (try simp only [Act.put, List.setIfInBounds_toArray, List.set_cons_zero, List.set_cons_succ]))
          refine walk3_take ?_
          (refine takeN_take (v := ?_) (some 79) rfl rfl (fun _ _ _ h => h) (by rfl) ?_ ?_; rotate_left; (focus (intro w' hw'; go_simp; (try with_reducible rfl))); (try simp only [Act.put, List.setIfInBounds_toArray, List.set_cons_zero, List.set_cons_succ]))
          refine walk3_one ?_
          (have cc := cell_of_cells HHD.out 0; refine runN_do (v := .slice none 0 c2) (w' := _) (some 65) rfl rfl (by rfl) (by go_simp; (try with_reducible rfl)) hS (fun hS => ?_); clear cc; (try simp only [Act.put, List.setIfInBounds_toArray, List.set_cons_zero, List.set_cons_succ]))
          refine walk3_take ?_
          (refine takeN_take (v := ?_) (some 67) rfl rfl (fun _ _ _ h => h) (by rfl) ?_ ?_; rotate_left; (focus (intro w' hw'; go_simp; (try with_reducible rfl))); (try simp only [Act.put, List.setIfInBounds_toArray, List.set_cons_zero, List.set_cons_succ]))
          refine walk3_one ?_
          (refine runN_appS 68 (.const (.slice none 0 0)) (.tmp 67) _ rfl rfl rfl (by rfl) 93 Tryz.underlying32 (.agg #[.int .i64 0, .int .i64 0]) 2 16 infoDrain rfl (by decide) wc.heap.size _ _ rfl (OwnS.nil _ _ _ _) _ _ _ _ rfl (RowS.nil _ _ _ _ (by omega)) (by simp) (0) ((([] : List DR)).map dcl) (by simp) (by simp) (by simp only [maxLen]; omega) (by omega) hS.size ?_; intro a7 c7 w7 how9 hg9 hp9; have t9 := (Touch.refl _ (fun _ => False)).grown hg9 (fun k hk _ => by cases hk); have hS := hS.trans t9 (fun k h1 h2 => by first | exact h2.elim | (have h2 : wc.heap.size ≤ k := h2; omega)); refine ⟨hS, fun _ => ?_⟩; have HHD := Lib.hid (t9.keeps HHD.out (fun h => h)); have HRW := Lib.hid (HRW.out.still t9); (try have HNW := Lib.hid (HNW.out.still t9)); have HO1 := Lib.hid how9; clear how9 hg9 hp9 t9; (try simp only [Act.put, List.setIfInBounds_toArray, List.set_cons_zero, List.set_cons_succ]))
          refine walk3_one ?_
          (refine runN_appS 73 (.tmp 68) (.tmp 72) _ rfl rfl rfl (by rfl) 93 Tryz.underlying32 (.agg #[.int .i64 0, .int .i64 0]) 2 16 infoDrain rfl (by decide) wc.heap.size _ _ rfl HO1.out _ _ _ _ rfl HNW.out (by simp [dcl, Value.oneCell']) 1 ((([] : List DR) ++ [(⟨k, t⟩ : DR)]).map dcl) (by simp) (by simp) (by simp only [maxLen]; omega) (by omega) hS.size ?_; intro a12 c12 w12 how9 hg9 hp9; have t9 := (Touch.refl _ (fun k => wc.heap.size ≤ k)).grown hg9 (fun k hk _ => (HO1.out.own.lt k hk).1); have hS := hS.trans t9 (fun k h1 h2 => by first | exact h2.elim | (have h2 : wc.heap.size ≤ k := h2; omega)); refine ⟨hS, fun _ => ?_⟩; have HHD := Lib.hid (t9.keeps HHD.out (fun h => by have := heap_lt HR2.out.head; have h : wc.heap.size ≤ b := h; omega)); have HRW := Lib.hid (HRW.out.touch t9 (fun y hy => by rcases HR2.out.lt y hy with h | h; exact .inl (HN.out ▸ h); exact .inr (fun h2 => by have h2 : wc.heap.size ≤ y.block := h2; omega))); have HO2 := Lib.hid how9; clear how9 hg9 hp9 t9; (try simp only [Act.put, List.setIfInBounds_toArray, List.set_cons_zero, List.set_cons_succ]))
          refine walk3_one ?_
          (refine runN_appS 80 (.tmp 73) (.tmp 79) _ rfl rfl rfl (by rfl) 93 Tryz.underlying32 (.agg #[.int .i64 0, .int .i64 0]) 2 16 infoDrain rfl (by decide) wc.heap.size _ _ rfl HO2.out _ _ _ _ rfl (RowS.nil _ _ _ _ (by omega)) (by simp) 1 ((([] : List DR) ++ (⟨k, t⟩ : DR) :: ([] : List DR)).map dcl) (by simp) (by simp) (by simp only [maxLen]; omega) (by omega) hS.size ?_; intro a19 c19 w19 how9 hg9 hp9; have t9 := (Touch.refl _ (fun k => wc.heap.size ≤ k)).grown hg9 (fun k hk _ => (HO2.out.own.lt k hk).1); have hS := hS.trans t9 (fun k h1 h2 => by first | exact h2.elim | (have h2 : wc.heap.size ≤ k := h2; omega)); refine ⟨hS, fun _ => ?_⟩; have HHD := Lib.hid (t9.keeps HHD.out (fun h => by have := heap_lt HR2.out.head; have h : wc.heap.size ≤ b := h; omega)); have HRW := Lib.hid (HRW.out.touch t9 (fun y hy => by rcases HR2.out.lt y hy with h | h; exact .inl (HN.out ▸ h); exact .inr (fun h2 => by have h2 : wc.heap.size ≤ y.block := h2; omega))); have HO3 := Lib.hid how9; clear how9 hg9 hp9 t9; (try simp only [Act.put, List.setIfInBounds_toArray, List.set_cons_zero, List.set_cons_succ]))
          refine walk3_take ?_
          (refine takeN_take (v := ?_) (some 81) rfl rfl (fun _ _ _ h => h) (by rfl) ?_ ?_; rotate_left; (focus (intro w' hw'; go_simp; (try with_reducible rfl))); (try simp only [Act.put, List.setIfInBounds_toArray, List.set_cons_zero, List.set_cons_succ]))
          refine walk3_take ?_
          (refine takeN_take (v := ?_) (some 82) rfl rfl (fun _ _ _ h => h) (by rfl) ?_ ?_; rotate_left; (focus (intro w' hw'; go_simp; (try with_reducible rfl))); (try simp only [Act.put, List.setIfInBounds_toArray, List.set_cons_zero, List.set_cons_succ]))
          refine walk3_one ?_
          (have cc := cell_of_cells HHD.out 0; have ff := free_of_cells HHD.out 0; refine runN_skip0 none rfl rfl (by rfl) (w' := World.setCell w19 ⟨b, 0, none⟩ (.slice a19 1 c19)) (by go_simp; (try with_reducible rfl)) ?_ ?_; (exact hS.setCell _ _ (fun _ => rfl)); clear cc ff; intro hS; (try simp only [Act.put, List.setIfInBounds_toArray, List.set_cons_zero, List.set_cons_succ]))
          refine walk3_fin ?_
          go_wp2_with fail
          all_goals (go_ret)
          all_goals exact ⟨rfl, by rw [HDL.out, HIN.out]; exact rd_end (n := 0) HR2.out HT2.out hS HHD.out HO3.out (by simp)⟩
      · (have cc := cell_of_cells HHD.out 0; refine runN_do (v := .slice none 0 c2) (w' := _) (some 77) rfl rfl (by rfl) (by go_simp; (try with_reducible rfl)) hS (fun hS => ?_); clear cc; (try simp only [Act.put, List.setIfInBounds_toArray, List.set_cons_zero, List.set_cons_succ]))
        refine walk3_take ?_
        (refine takeN_take (v := ?_) (some 79) rfl rfl (fun _ _ _ h => h) (by rfl) ?_ ?_; rotate_left; (focus (intro w' hw'; go_simp; (try with_reducible rfl))); (try simp only [Act.put, List.setIfInBounds_toArray, List.set_cons_zero, List.set_cons_succ]))
        refine walk3_two ?_ ?_
        · (have cc := cell_of_cells HHD.out 0; refine runN_do (v := .slice none 0 c2) (w' := _) (some 65) rfl rfl (by rfl) (by go_simp; (try with_reducible rfl)) hS (fun hS => ?_); clear cc; (try simp only [Act.put, List.setIfInBounds_toArray, List.set_cons_zero, List.set_cons_succ]))
          refine walk3_take ?_
          (refine takeN_take (v := ?_) (some 67) rfl rfl (fun _ _ _ h => h) (by rfl) ?_ ?_; rotate_left; (focus (intro w' hw'; go_simp; (try with_reducible rfl))); (try simp only [Act.put, List.setIfInBounds_toArray, List.set_cons_zero, List.set_cons_succ]))
          refine walk3_two ?_ ?_
          · (refine runN_appS 68 (.const (.slice none 0 0)) (.tmp 67) _ rfl rfl rfl (by rfl) 93 Tryz.underlying32 (.agg #[.int .i64 0, .int .i64 0]) 2 16 infoDrain rfl (by decide) wc.heap.size _ _ rfl (OwnS.nil _ _ _ _) _ _ _ _ rfl (RowS.nil _ _ _ _ (by omega)) (by simp) (0) ((([] : List DR)).map dcl) (by simp) (by simp) (by simp only [maxLen]; omega) (by omega) hS.size ?_; intro a7 c7 w7 how9 hg9 hp9; have t9 := (Touch.refl _ (fun _ => False)).grown hg9 (fun k hk _ => by cases hk); have hS := hS.trans t9 (fun k h1 h2 => by first | exact h2.elim | (have h2 : wc.heap.size ≤ k := h2; omega)); refine ⟨hS, fun _ => ?_⟩; have HHD := Lib.hid (t9.keeps HHD.out (fun h => h)); have HRW := Lib.hid (HRW.out.still t9); (try have HNW := Lib.hid (HNW.out.still t9)); have HO1 := Lib.hid how9; clear how9 hg9 hp9 t9; (try simp only [Act.put, List.setIfInBounds_toArray, List.set_cons_zero, List.set_cons_succ]))
            refine walk3_one ?_
            (refine runN_new 72 (fun W => .slice (some ⟨W.heap.size, 0, none⟩) 1 1) #[.int .i64 k, .int .i64 t] 93 rfl rfl (by rfl) (by intro W; go_simp <;> first | with_reducible rfl | rfl | exact ⟨rfl, rfl⟩) ?_; intro w7 hw7 hM7 hs7 t9; have hS := hS.trans t9 (fun _ _ h => h.elim); refine ⟨hS, fun _ => ?_⟩; have HNW := Lib.hid (show RowS w7 _ 1 1 2 [dcl ⟨k, t⟩] by rw [hw7]; exact row_oneD _ ⟨k, t⟩); have HHD := Lib.hid (t9.keeps HHD.out (fun h => h)); have HRW := Lib.hid (HRW.out.still t9); (try have HO1 := Lib.hid (HO1.out.still t9)); clear hw7 hM7 hs7 t9; (try simp only [Act.put, List.setIfInBounds_toArray, List.set_cons_zero, List.set_cons_succ]))
            refine walk3_one ?_
            (refine runN_appS 73 (.tmp 68) (.tmp 72) _ rfl rfl rfl (by rfl) 93 Tryz.underlying32 (.agg #[.int .i64 0, .int .i64 0]) 2 16 infoDrain rfl (by decide) wc.heap.size _ _ rfl HO1.out _ _ _ _ rfl HNW.out (by simp [dcl, Value.oneCell']) 1 ((([] : List DR) ++ [(⟨k, t⟩ : DR)]).map dcl) (by simp) (by simp) (by simp only [maxLen]; omega) (by omega) hS.size ?_; intro a12 c12 w12 how9 hg9 hp9; have t9 := (Touch.refl _ (fun k => wc.heap.size ≤ k)).grown hg9 (fun k hk _ => (HO1.out.own.lt k hk).1); have hS := hS.trans t9 (fun k h1 h2 => by first | exact h2.elim | (have h2 : wc.heap.size ≤ k := h2; omega)); refine ⟨hS, fun _ => ?_⟩; have HHD := Lib.hid (t9.keeps HHD.out (fun h => by have := heap_lt HR2.out.head; have h : wc.heap.size ≤ b := h; omega)); have HRW := Lib.hid (HRW.out.touch t9 (fun y hy => by rcases HR2.out.lt y hy with h | h; exact .inl (HN.out ▸ h); exact .inr (fun h2 => by have h2 : wc.heap.size ≤ y.block := h2; omega))); have HO2 := Lib.hid how9; clear how9 hg9 hp9 t9; (try simp only [Act.put, List.setIfInBounds_toArray, List.set_cons_zero, List.set_cons_succ]))
            refine walk3_one ?_
            (refine runN_appS 80 (.tmp 73) (.tmp 79) _ rfl rfl rfl (by rfl) 93 Tryz.underlying32 (.agg #[.int .i64 0, .int .i64 0]) 2 16 infoDrain rfl (by decide) wc.heap.size _ _ rfl HO2.out _ _ _ _ rfl (RowS.nil _ _ _ _ (by omega)) (by simp) 1 ((([] : List DR) ++ (⟨k, t⟩ : DR) :: ([] : List DR)).map dcl) (by simp) (by simp) (by simp only [maxLen]; omega) (by omega) hS.size ?_; intro a19 c19 w19 how9 hg9 hp9; have t9 := (Touch.refl _ (fun k => wc.heap.size ≤ k)).grown hg9 (fun k hk _ => (HO2.out.own.lt k hk).1); have hS := hS.trans t9 (fun k h1 h2 => by first | exact h2.elim | (have h2 : wc.heap.size ≤ k := h2; omega)); refine ⟨hS, fun _ => ?_⟩; have HHD := Lib.hid (t9.keeps HHD.out (fun h => by have := heap_lt HR2.out.head; have h : wc.heap.size ≤ b := h; omega)); have HRW := Lib.hid (HRW.out.touch t9 (fun y hy => by rcases HR2.out.lt y hy with h | h; exact .inl (HN.out ▸ h); exact .inr (fun h2 => by have h2 : wc.heap.size ≤ y.block := h2; omega))); have HO3 := Lib.hid how9; clear how9 hg9 hp9 t9; (try simp only [Act.put, List.setIfInBounds_toArray, List.set_cons_zero, List.set_cons_succ]))
            refine walk3_take ?_
            (refine takeN_take (v := ?_) (some 81) rfl rfl (fun _ _ _ h => h) (by rfl) ?_ ?_; rotate_left; (focus (intro w' hw'; go_simp; (try with_reducible rfl))); (try simp only [Act.put, List.setIfInBounds_toArray, List.set_cons_zero, List.set_cons_succ]))
            refine walk3_take ?_
            (refine takeN_take (v := ?_) (some 82) rfl rfl (fun _ _ _ h => h) (by rfl) ?_ ?_; rotate_left; (focus (intro w' hw'; go_simp; (try with_reducible rfl))); (try simp only [Act.put, List.setIfInBounds_toArray, List.set_cons_zero, List.set_cons_succ]))
            refine walk3_one ?_
            (have cc := cell_of_cells HHD.out 0; have ff := free_of_cells HHD.out 0; refine runN_skip0 none rfl rfl (by rfl) (w' := World.setCell w19 ⟨b, 0, none⟩ (.slice a19 1 c19)) (by go_simp; (try with_reducible rfl)) ?_ ?_; (exact hS.setCell _ _ (fun _ => rfl)); clear cc ff; intro hS; (try simp only [Act.put, List.setIfInBounds_toArray, List.set_cons_zero, List.set_cons_succ]))
            refine walk3_fin ?_
            go_wp2_with fail
            all_goals (go_ret)
            all_goals exact ⟨rfl, by rw [HDL.out, HIN.out]; exact rd_end (n := 0) HR2.out HT2.out hS HHD.out HO3.out (by simp)⟩
          · (refine runN_new 72 (fun W => .slice (some ⟨W.heap.size, 0, none⟩) 1 1) #[.int .i64 k, .int .i64 t] 93 rfl rfl (by rfl) (by intro W; go_simp <;> first | with_reducible rfl | rfl | exact ⟨rfl, rfl⟩) ?_; intro w7 hw7 hM7 hs7 t9; have hS := hS.trans t9 (fun _ _ h => h.elim); refine ⟨hS, fun _ => ?_⟩; have HNW := Lib.hid (show RowS w7 _ 1 1 2 [dcl ⟨k, t⟩] by rw [hw7]; exact row_oneD _ ⟨k, t⟩); have HHD := Lib.hid (t9.keeps HHD.out (fun h => h)); have HRW := Lib.hid (HRW.out.still t9); (try have HO1 := Lib.hid (HO1.out.still t9)); clear hw7 hM7 hs7 t9; (try simp only [Act.put, List.setIfInBounds_toArray, List.set_cons_zero, List.set_cons_succ]))
            refine walk3_one ?_
            (refine runN_appS 68 (.const (.slice none 0 0)) (.tmp 67) _ rfl rfl rfl (by rfl) 93 Tryz.underlying32 (.agg #[.int .i64 0, .int .i64 0]) 2 16 infoDrain rfl (by decide) wc.heap.size _ _ rfl (OwnS.nil _ _ _ _) _ _ _ _ rfl (RowS.nil _ _ _ _ (by omega)) (by simp) (0) ((([] : List DR)).map dcl) (by simp) (by simp) (by simp only [maxLen]; omega) (by omega) hS.size ?_; intro a7 c7 w7 how9 hg9 hp9; have t9 := (Touch.refl _ (fun _ => False)).grown hg9 (fun k hk _ => by cases hk); have hS := hS.trans t9 (fun k h1 h2 => by first | exact h2.elim | (have h2 : wc.heap.size ≤ k := h2; omega)); refine ⟨hS, fun _ => ?_⟩; have HHD := Lib.hid (t9.keeps HHD.out (fun h => h)); have HRW := Lib.hid (HRW.out.still t9); (try have HNW := Lib.hid (HNW.out.still t9)); have HO1 := Lib.hid how9; clear how9 hg9 hp9 t9; (try simp only [Act.put, List.setIfInBounds_toArray, List.set_cons_zero, List.set_cons_succ]))
            refine walk3_one ?_
            (refine runN_appS 73 (.tmp 68) (.tmp 72) _ rfl rfl rfl (by rfl) 93 Tryz.underlying32 (.agg #[.int .i64 0, .int .i64 0]) 2 16 infoDrain rfl (by decide) wc.heap.size _ _ rfl HO1.out _ _ _ _ rfl HNW.out (by simp [dcl, Value.oneCell']) 1 ((([] : List DR) ++ [(⟨k, t⟩ : DR)]).map dcl) (by simp) (by simp) (by simp only [maxLen]; omega) (by omega) hS.size ?_; intro a12 c12 w12 how9 hg9 hp9; have t9 := (Touch.refl _ (fun k => wc.heap.size ≤ k)).grown hg9 (fun k hk _ => (HO1.out.own.lt k hk).1); have hS := hS.trans t9 (fun k h1 h2 => by first | exact h2.elim | (have h2 : wc.heap.size ≤ k := h2; omega)); refine ⟨hS, fun _ => ?_⟩; have HHD := Lib.hid (t9.keeps HHD.out (fun h => by have := heap_lt HR2.out.head; have h : wc.heap.size ≤ b := h; omega)); have HRW := Lib.hid (HRW.out.touch t9 (fun y hy => by rcases HR2.out.lt y hy with h | h; exact .inl (HN.out ▸ h); exact .inr (fun h2 => by have h2 : wc.heap.size ≤ y.block := h2; omega))); have HO2 := Lib.hid how9; clear how9 hg9 hp9 t9; (try simp only [Act.put, List.setIfInBounds_toArray, List.set_cons_zero, List.set_cons_succ]))
            refine walk3_one ?_
            (refine runN_appS 80 (.tmp 73) (.tmp 79) _ rfl rfl rfl (by rfl) 93 Tryz.underlying32 (.agg #[.int .i64 0, .int .i64 0]) 2 16 infoDrain rfl (by decide) wc.heap.size _ _ rfl HO2.out _ _ _ _ rfl (RowS.nil _ _ _ _ (by omega)) (by simp) 1 ((([] : List DR) ++ (⟨k, t⟩ : DR) :: ([] : List DR)).map dcl) (by simp) (by simp) (by simp only [maxLen]; omega) (by omega) hS.size ?_; intro a19 c19 w19 how9 hg9 hp9; have t9 := (Touch.refl _ (fun k => wc.heap.size ≤ k)).grown hg9 (fun k hk _ => (HO2.out.own.lt k hk).1); have hS := hS.trans t9 (fun k h1 h2 => by first | exact h2.elim | (have h2 : wc.heap.size ≤ k := h2; omega)); refine ⟨hS, fun _ => ?_⟩; have HHD := Lib.hid (t9.keeps HHD.out (fun h => by have := heap_lt HR2.out.head; have h : wc.heap.size ≤ b := h; omega)); have HRW := Lib.hid (HRW.out.touch t9 (fun y hy => by rcases HR2.out.lt y hy with h | h; exact .inl (HN.out ▸ h); exact .inr (fun h2 => by have h2 : wc.heap.size ≤ y.block := h2; omega))); have HO3 := Lib.hid how9; clear how9 hg9 hp9 t9; (try simp only [Act.put, List.setIfInBounds_toArray, List.set_cons_zero, List.set_cons_succ]))
            refine walk3_take ?_
            (refine takeN_take (v := ?_) (some 81) rfl rfl (fun _ _ _ h => h) (by rfl) ?_ ?_; rotate_left; (focus (intro w' hw'; go_simp; (try with_reducible rfl))); (try simp only [Act.put, List.setIfInBounds_toArray, List.set_cons_zero, List.set_cons_succ]))
            refine walk3_take ?_
            (refine takeN_take (v := ?_) (some 82) rfl rfl (fun _ _ _ h => h) (by rfl) ?_ ?_; rotate_left; (focus (intro w' hw'; go_simp; (try with_reducible rfl))); (try simp only [Act.put, List.setIfInBounds_toArray, List.set_cons_zero, List.set_cons_succ]))
            refine walk3_one ?_
            (have cc := cell_of_cells HHD.out 0; have ff := free_of_cells HHD.out 0; refine runN_skip0 none rfl rfl (by rfl) (w' := World.setCell w19 ⟨b, 0, none⟩ (.slice a19 1 c19)) (by go_simp; (try with_reducible rfl)) ?_ ?_; (exact hS.setCell _ _ (fun _ => rfl)); clear cc ff; intro hS; (try simp only [Act.put, List.setIfInBounds_toArray, List.set_cons_zero, List.set_cons_succ]))
            refine walk3_fin ?_
            go_wp2_with fail
            all_goals (go_ret)
            all_goals exact ⟨rfl, by rw [HDL.out, HIN.out]; exact rd_end (n := 0) HR2.out HT2.out hS HHD.out HO3.out (by simp)⟩
        · (refine runN_new 72 (fun W => .slice (some ⟨W.heap.size, 0, none⟩) 1 1) #[.int .i64 k, .int .i64 t] 93 rfl rfl (by rfl) (by intro W; go_simp <;> first | with_reducible rfl | rfl | exact ⟨rfl, rfl⟩) ?_; intro w7 hw7 hM7 hs7 t9; have hS := hS.trans t9 (fun _ _ h => h.elim); refine ⟨hS, fun _ => ?_⟩; have HNW := Lib.hid (show RowS w7 _ 1 1 2 [dcl ⟨k, t⟩] by rw [hw7]; exact row_oneD _ ⟨k, t⟩); have HHD := Lib.hid (t9.keeps HHD.out (fun h => h)); have HRW := Lib.hid (HRW.out.still t9); (try have HO1 := Lib.hid (HO1.out.still t9)); clear hw7 hM7 hs7 t9; (try simp only [Act.put, List.setIfInBounds_toArray, List.set_cons_zero, List.set_cons_succ]))
          refine walk3_one ?_
          (have cc := cell_of_cells HHD.out 0; refine runN_do (v := .slice none 0 c2) (w' := _) (some 65) rfl rfl (by rfl) (by go_simp; (try with_reducible rfl)) hS (fun hS => ?_); clear cc; (try simp only [Act.put, List.setIfInBounds_toArray, List.set_cons_zero, List.set_cons_succ]))
          refine walk3_take ?_
          (refine takeN_take (v := ?_) (some 67) rfl rfl (fun _ _ _ h => h) (by rfl) ?_ ?_; rotate_left; (focus (intro w' hw'; go_simp; (try with_reducible rfl))); (try simp only [Act.put, List.setIfInBounds_toArray, List.set_cons_zero, List.set_cons_succ]))
          refine walk3_one ?_
          (refine runN_appS 68 (.const (.slice none 0 0)) (.tmp 67) _ rfl rfl rfl (by rfl) 93 Tryz.underlying32 (.agg #[.int .i64 0, .int .i64 0]) 2 16 infoDrain rfl (by decide) wc.heap.size _ _ rfl (OwnS.nil _ _ _ _) _ _ _ _ rfl (RowS.nil _ _ _ _ (by omega)) (by simp) (0) ((([] : List DR)).map dcl) (by simp) (by simp) (by simp only [maxLen]; omega) (by omega) hS.size ?_; intro a7 c7 w7 how9 hg9 hp9; have t9 := (Touch.refl _ (fun _ => False)).grown hg9 (fun k hk _ => by cases hk); have hS := hS.trans t9 (fun k h1 h2 => by first | exact h2.elim | (have h2 : wc.heap.size ≤ k := h2; omega)); refine ⟨hS, fun _ => ?_⟩; have HHD := Lib.hid (t9.keeps HHD.out (fun h => h)); have HRW := Lib.hid (HRW.out.still t9); (try have HNW := Lib.hid (HNW.out.still t9)); have HO1 := Lib.hid how9; clear how9 hg9 hp9 t9; (try simp only [Act.put, List.setIfInBounds_toArray, List.set_cons_zero, List.set_cons_succ]))
          refine walk3_one ?_
          (refine runN_appS 73 (.tmp 68) (.tmp 72) _ rfl rfl rfl (by rfl) 93 Tryz.underlying32 (.agg #[.int .i64 0, .int .i64 0]) 2 16 infoDrain rfl (by decide) wc.heap.size _ _ rfl HO1.out _ _ _ _ rfl HNW.out (by simp [dcl, Value.oneCell']) 1 ((([] : List DR) ++ [(⟨k, t⟩ : DR)]).map dcl) (by simp) (by simp) (by simp only [maxLen]; omega) (by omega) hS.size ?_; intro a12 c12 w12 how9 hg9 hp9; have t9 := (Touch.refl _ (fun k => wc.heap.size ≤ k)).grown hg9 (fun k hk _ => (HO1.out.own.lt k hk).1); have hS := hS.trans t9 (fun k h1 h2 => by first | exact h2.elim | (have h2 : wc.heap.size ≤ k := h2; omega)); refine ⟨hS, fun _ => ?_⟩; have HHD := Lib.hid (t9.keeps HHD.out (fun h => by have := heap_lt HR2.out.head; have h : wc.heap.size ≤ b := h; omega)); have HRW := Lib.hid (HRW.out.touch t9 (fun y hy => by rcases HR2.out.lt y hy with h | h; exact .inl (HN.out ▸ h); exact .inr (fun h2 => by have h2 : wc.heap.size ≤ y.block := h2; omega))); have HO2 := Lib.hid how9; clear how9 hg9 hp9 t9; (try simp only [Act.put, List.setIfInBounds_toArray, List.set_cons_zero, List.set_cons_succ]))
          refine walk3_one ?_
          (refine runN_appS 80 (.tmp 73) (.tmp 79) _ rfl rfl rfl (by rfl) 93 Tryz.underlying32 (.agg #[.int .i64 0, .int .i64 0]) 2 16 infoDrain rfl (by decide) wc.heap.size _ _ rfl HO2.out _ _ _ _ rfl (RowS.nil _ _ _ _ (by omega)) (by simp) 1 ((([] : List DR) ++ (⟨k, t⟩ : DR) :: ([] : List DR)).map dcl) (by simp) (by simp) (by simp only [maxLen]; omega) (by omega) hS.size ?_; intro a19 c19 w19 how9 hg9 hp9; have t9 := (Touch.refl _ (fun k => wc.heap.size ≤ k)).grown hg9 (fun k hk _ => (HO2.out.own.lt k hk).1); have hS := hS.trans t9 (fun k h1 h2 => by first | exact h2.elim | (have h2 : wc.heap.size ≤ k := h2; omega)); refine ⟨hS, fun _ => ?_⟩; have HHD := Lib.hid (t9.keeps HHD.out (fun h => by have := heap_lt HR2.out.head; have h : wc.heap.size ≤ b := h; omega)); have HRW := Lib.hid (HRW.out.touch t9 (fun y hy => by rcases HR2.out.lt y hy with h | h; exact .inl (HN.out ▸ h); exact .inr (fun h2 => by have h2 : wc.heap.size ≤ y.block := h2; omega))); have HO3 := Lib.hid how9; clear how9 hg9 hp9 t9; (try simp only [Act.put, List.setIfInBounds_toArray, List.set_cons_zero, List.set_cons_succ]))
          refine walk3_take ?_
          (refine takeN_take (v := ?_) (some 81) rfl rfl (fun _ _ _ h => h) (by rfl) ?_ ?_; rotate_left; (focus (intro w' hw'; go_simp; (try with_reducible rfl))); (try simp only [Act.put, List.setIfInBounds_toArray, List.set_cons_zero, List.set_cons_succ]))
          refine walk3_take ?_
          (refine takeN_take (v := ?_) (some 82) rfl rfl (fun _ _ _ h => h) (by rfl) ?_ ?_; rotate_left; (focus (intro w' hw'; go_simp; (try with_reducible rfl))); (try simp only [Act.put, List.setIfInBounds_toArray, List.set_cons_zero, List.set_cons_succ]))
          refine walk3_one ?_
          (have cc := cell_of_cells HHD.out 0; have ff := free_of_cells HHD.out 0; refine runN_skip0 none rfl rfl (by rfl) (w' := World.setCell w19 ⟨b, 0, none⟩ (.slice a19 1 c19)) (by go_simp; (try with_reducible rfl)) ?_ ?_; (exact hS.setCell _ _ (fun _ => rfl)); clear cc ff; intro hS; (try simp only [Act.put, List.setIfInBounds_toArray, List.set_cons_zero, List.set_cons_succ]))
          refine walk3_fin ?_
          go_wp2_with fail
          all_goals (go_ret)
          all_goals exact ⟨rfl, by rw [HDL.out, HIN.out]; exact rd_end (n := 0) HR2.out HT2.out hS HHD.out HO3.out (by simp)⟩
    · subst hsome
      have hic : i ≤ c2 := Nat.le_trans hi hcap
      have HHD : RowKit.Hid (wc.drew.heap[b]? = some (.cells #[.slice (some ⟨g, off, none⟩) n c2] 78 (0, 0))) := Lib.hid (by have := HR2.out.head; rw [HN.out] at this; exact this)
      have HRW : RowKit.Hid (RowS wc.drew (some ⟨g, off, none⟩) n c2 2 (D.map dcl)) := Lib.hid (by have := HR2.out.row.still ((Touch.refl wc (fun _ => False)).drew); rw [HN.out] at this; exact this)
      have hS := (Touch.refl wc (fun k => k = b)).drew
      refine wp_region_tree3 (fun w' => Touch wc w' (fun k => k = b)) (.take 0 (.take 1 (.take 2 (.take 3 (.take 5 (.take 8 (.take 9 (.take 10 (.take 13 (.take 14 (.take 15 (.take 17 (.three 4 11 16 (.take 6 (.three 7 11 16 (.two 11 16 (.two 12 16 (.one 16 (.take 18 (.one 19 (.take 20 (.take 21 (.one 22 .fin)))))) (.take 18 (.one 12 (.one 19 (.take 20 (.take 21 (.one 22 .fin))))))) (.take 18 (.one 11 (.one 12 (.one 19 (.take 20 (.take 21 (.one 22 .fin)))))))) (.two 7 16 (.two 12 16 (.one 16 (.take 18 (.one 19 (.take 20 (.take 21 (.one 22 .fin)))))) (.take 18 (.one 12 (.one 19 (.take 20 (.take 21 (.one 22 .fin))))))) (.take 18 (.one 7 (.one 12 (.one 19 (.take 20 (.take 21 (.one 22 .fin)))))))) (.take 18 (.two 7 11 (.one 11 (.one 12 (.one 19 (.take 20 (.take 21 (.one 22 .fin)))))) (.one 7 (.one 12 (.one 19 (.take 20 (.take 21 (.one 22 .fin)))))))))) (.two 4 16 (.take 6 (.two 7 16 (.two 12 16 (.one 16 (.take 18 (.one 19 (.take 20 (.take 21 (.one 22 .fin)))))) (.take 18 (.one 12 (.one 19 (.take 20 (.take 21 (.one 22 .fin))))))) (.take 18 (.one 7 (.one 12 (.one 19 (.take 20 (.take 21 (.one 22 .fin))))))))) (.take 18 (.one 4 (.take 6 (.one 7 (.one 12 (.one 19 (.take 20 (.take 21 (.one 22 .fin)))))))))) (.take 18 (.two 4 11 (.take 6 (.two 7 11 (.one 11 (.one 12 (.one 19 (.take 20 (.take 21 (.one 22 .fin)))))) (.one 7 (.one 12 (.one 19 (.take 20 (.take 21 (.one 22 .fin)))))))) (.one 4 (.take 6 (.one 7 (.one 12 (.one 19 (.take 20 (.take 21 (.one 22 .fin))))))))))))))))))))))) (by kernel_rfl) (by kernel_rfl) (by kernel_rfl) (by kernel_rfl) hS ?_
      refine walk3_take ?_
      (refine takeN_take (v := ?_) (some 61) rfl rfl (fun _ _ _ h => h) (by rfl) ?_ ?_; rotate_left; (focus (intro w' hw'; go_simp; (try with_reducible rfl))); (try simp only [Act.put, List.setIfInBounds_toArray, List.set_cons_zero, List.set_cons_succ]))
      refine walk3_take ?_
      (refine takeN_take (v := ?_) (some 62) rfl rfl (fun _ _ _ h => h) (by rfl) ?_ ?_; rotate_left; (focus (intro w' hw'; go_simp; (try with_reducible rfl))); (try simp only [Act.put, List.setIfInBounds_toArray, List.set_cons_zero, List.set_cons_succ]))
      refine walk3_take ?_
      (refine takeN_take (v := ?_) (some 63) rfl rfl (fun _ _ _ h => h) (by rfl) ?_ ?_; rotate_left; (focus (intro w' hw'; go_simp; (try with_reducible rfl))); (try simp only [Act.put, List.setIfInBounds_toArray, List.set_cons_zero, List.set_cons_succ]))
      refine walk3_take ?_
      (refine takeN_take (v := ?_) (some 64) rfl rfl (fun _ _ _ h => h) (by rfl) ?_ ?_; rotate_left; (focus (intro w' hw'; go_simp; (try with_reducible rfl))); (try simp only [Act.put, List.setIfInBounds_toArray, List.set_cons_zero, List.set_cons_succ]))
      refine walk3_take ?_
      (refine takeN_take (v := ?_) (some 66) rfl rfl (fun _ _ _ h => h) (by rfl) ?_ ?_; rotate_left; (focus (intro w' hw'; go_simp; (try with_reducible rfl))); (try simp only [Act.put, List.setIfInBounds_toArray, List.set_cons_zero, List.set_cons_succ]))
      refine walk3_take ?_
      (refine takeN_take (v := ?_) (some 69) rfl rfl (fun _ _ _ h => h) (by rfl) ?_ ?_; rotate_left; (focus (intro w' hw'; go_simp; (try with_reducible rfl))); (try simp only [Act.put, List.setIfInBounds_toArray, List.set_cons_zero, List.set_cons_succ]))
      refine walk3_take ?_
      (refine takeN_take (v := ?_) (some 70) rfl rfl (fun _ _ _ h => h) (by rfl) ?_ ?_; rotate_left; (focus (intro w' hw'; go_simp; (try with_reducible rfl))); (try simp only [Act.put, List.setIfInBounds_toArray, List.set_cons_zero, List.set_cons_succ]))
      refine walk3_take ?_
      (refine takeN_take (v := ?_) (some 71) rfl rfl (fun _ _ _ h => h) (by rfl) ?_ ?_; rotate_left; (focus (intro w' hw'; go_simp; (try with_reducible rfl))); (try simp only [Act.put, List.setIfInBounds_toArray, List.set_cons_zero, List.set_cons_succ]))
      refine walk3_take ?_
      (refine takeN_take (v := ?_) (some 74) rfl rfl (fun _ _ _ h => h) (by rfl) ?_ ?_; rotate_left; (focus (intro w' hw'; go_simp; (try with_reducible rfl))); (try simp only [Act.put, List.setIfInBounds_toArray, List.set_cons_zero, List.set_cons_succ]))
      refine walk3_take ?_
      (refine takeN_take (v := ?_) (some 75) rfl rfl (fun _ _ _ h => h) (by rfl) ?_ ?_; rotate_left; (focus (intro w' hw'; go_simp; (try with_reducible rfl))); (try simp only [Act.put, List.setIfInBounds_toArray, List.set_cons_zero, List.set_cons_succ]))
      refine walk3_take ?_
      (refine takeN_take (v := ?_) (some 76) rfl rfl (fun _ _ _ h => h) (by rfl) ?_ ?_; rotate_left; (focus (intro w' hw'; go_simp; (try with_reducible rfl))); (try simp only [Act.put, List.setIfInBounds_toArray, List.set_cons_zero, List.set_cons_succ]))
      refine walk3_take ?_
      (refine takeN_take (v := ?_) (some 78) rfl rfl (fun _ _ _ h => h) (by rfl) ?_ ?_; rotate_left; (focus (intro w' hw'; go_simp; (try with_reducible rfl))); (try simp only [Act.put, List.setIfInBounds_toArray, List.set_cons_zero, List.set_cons_succ]))
      refine walk3_three ?_ ?_ ?_
      · (have cc := cell_of_cells HHD.out 0; refine runN_do (v := .slice (some ⟨g, off, none⟩) n c2) (w' := _) (some 65) rfl rfl (by rfl) (by go_simp; (try with_reducible rfl)) hS (fun hS => ?_); clear cc; (try simp only [Act.put, List.setIfInBounds_toArray, List.set_cons_zero, List.set_cons_succ]))
        refine walk3_take ?_
        (refine takeN_take (v := ?_) (some 67) rfl rfl (fun _ _ _ h => h) (by rfl) ?_ ?_; rotate_left; (focus (intro w' hw'; go_simp; (try with_reducible rfl))); (try simp only [Act.put, List.setIfInBounds_toArray, List.set_cons_zero, List.set_cons_succ]))
        refine walk3_three ?_ ?_ ?_
        · (refine runN_appS 68 (.const (.slice none 0 0)) (.tmp 67) _ rfl rfl rfl (by rfl) 93 Tryz.underlying32 (.agg #[.int .i64 0, .int .i64 0]) 2 16 infoDrain rfl (by decide) wc.heap.size _ _ rfl (OwnS.nil _ _ _ _) _ _ _ _ rfl (row_frontD HRW.out i hi) (one_dclD _) (i) ((D.take i).map dcl) (by simp) (by simp) (by simp only [maxLen]; omega) (by omega) hS.size ?_; intro a7 c7 w7 how9 hg9 hp9; have t9 := (Touch.refl _ (fun _ => False)).grown hg9 (fun k hk _ => by cases hk); have hS := hS.trans t9 (fun k h1 h2 => by first | exact h2.elim | (have h2 : wc.heap.size ≤ k := h2; omega)); refine ⟨hS, fun _ => ?_⟩; have HHD := Lib.hid (t9.keeps HHD.out (fun h => h)); have HRW := Lib.hid (HRW.out.still t9); (try have HNW := Lib.hid (HNW.out.still t9)); have HO1 := Lib.hid how9; clear how9 hg9 hp9 t9; (try simp only [Act.put, List.setIfInBounds_toArray, List.set_cons_zero, List.set_cons_succ]))
          refine walk3_two ?_ ?_
          · (refine runN_new 72 (fun W => .slice (some ⟨W.heap.size, 0, none⟩) 1 1) #[.int .i64 k, .int .i64 t] 93 rfl rfl (by rfl) (by intro W; go_simp <;> first | with_reducible rfl | rfl | exact ⟨rfl, rfl⟩) ?_; intro w7 hw7 hM7 hs7 t9; have hS := hS.trans t9 (fun _ _ h => h.elim); refine ⟨hS, fun _ => ?_⟩; have HNW := Lib.hid (show RowS w7 _ 1 1 2 [dcl ⟨k, t⟩] by rw [hw7]; exact row_oneD _ ⟨k, t⟩); have HHD := Lib.hid (t9.keeps HHD.out (fun h => h)); have HRW := Lib.hid (HRW.out.still t9); (try have HO1 := Lib.hid (HO1.out.still t9)); clear hw7 hM7 hs7 t9; (try simp only [Act.put, List.setIfInBounds_toArray, List.set_cons_zero, List.set_cons_succ]))
            refine walk3_two ?_ ?_
            · (refine runN_appS 73 (.tmp 68) (.tmp 72) _ rfl rfl rfl (by rfl) 93 Tryz.underlying32 (.agg #[.int .i64 0, .int .i64 0]) 2 16 infoDrain rfl (by decide) wc.heap.size _ _ rfl HO1.out _ _ _ _ rfl HNW.out (by simp [dcl, Value.oneCell']) (i + 1) ((D.take i ++ [(⟨k, t⟩ : DR)]).map dcl) (by simp) (by have := HN.out; simp; omega) (by simp only [maxLen]; omega) (by omega) hS.size ?_; intro a12 c12 w12 how9 hg9 hp9; have t9 := (Touch.refl _ (fun k => wc.heap.size ≤ k)).grown hg9 (fun k hk _ => (HO1.out.own.lt k hk).1); have hS := hS.trans t9 (fun k h1 h2 => by first | exact h2.elim | (have h2 : wc.heap.size ≤ k := h2; omega)); refine ⟨hS, fun _ => ?_⟩; have HHD := Lib.hid (t9.keeps HHD.out (fun h => by have := heap_lt HR2.out.head; have h : wc.heap.size ≤ b := h; omega)); have HRW := Lib.hid (HRW.out.touch t9 (fun y hy => by rcases HR2.out.lt y hy with h | h; exact .inl (HN.out ▸ h); exact .inr (fun h2 => by have h2 : wc.heap.size ≤ y.block := h2; omega))); have HO2 := Lib.hid how9; clear how9 hg9 hp9 t9; (try simp only [Act.put, List.setIfInBounds_toArray, List.set_cons_zero, List.set_cons_succ]))
              refine walk3_one ?_
              (have cc := cell_of_cells HHD.out 0; refine runN_do (v := .slice (some ⟨g, off, none⟩) n c2) (w' := _) (some 77) rfl rfl (by rfl) (by go_simp; (try with_reducible rfl)) hS (fun hS => ?_); clear cc; (try simp only [Act.put, List.setIfInBounds_toArray, List.set_cons_zero, List.set_cons_succ]))
              refine walk3_take ?_
              (refine takeN_take (v := ?_) (some 79) rfl rfl (fun _ _ _ h => h) (by rfl) ?_ ?_; rotate_left; (focus (intro w' hw'; go_simp; (try with_reducible rfl))); (try simp only [Act.put, List.setIfInBounds_toArray, List.set_cons_zero, List.set_cons_succ]))
              refine walk3_one ?_
              (refine runN_appS 80 (.tmp 73) (.tmp 79) _ rfl rfl rfl (by rfl) 93 Tryz.underlying32 (.agg #[.int .i64 0, .int .i64 0]) 2 16 infoDrain rfl (by decide) wc.heap.size _ _ rfl HO2.out _ _ _ _ rfl (row_backD HRW.out i hi) (one_dclD _) (n + 1) ((D.take i ++ (⟨k, t⟩ : DR) :: D.drop i).map dcl) (by simp) (by have := HN.out; simp; omega) (by simp only [maxLen]; omega) (by omega) hS.size ?_; intro a19 c19 w19 how9 hg9 hp9; have t9 := (Touch.refl _ (fun k => wc.heap.size ≤ k)).grown hg9 (fun k hk _ => (HO2.out.own.lt k hk).1); have hS := hS.trans t9 (fun k h1 h2 => by first | exact h2.elim | (have h2 : wc.heap.size ≤ k := h2; omega)); refine ⟨hS, fun _ => ?_⟩; have HHD := Lib.hid (t9.keeps HHD.out (fun h => by have := heap_lt HR2.out.head; have h : wc.heap.size ≤ b := h; omega)); have HRW := Lib.hid (HRW.out.touch t9 (fun y hy => by rcases HR2.out.lt y hy with h | h; exact .inl (HN.out ▸ h); exact .inr (fun h2 => by have h2 : wc.heap.size ≤ y.block := h2; omega))); have HO3 := Lib.hid how9; clear how9 hg9 hp9 t9; (try simp only [Act.put, List.setIfInBounds_toArray, List.set_cons_zero, List.set_cons_succ]))
              refine walk3_take ?_
              (refine takeN_take (v := ?_) (some 81) rfl rfl (fun _ _ _ h => h) (by rfl) ?_ ?_; rotate_left; (focus (intro w' hw'; go_simp; (try with_reducible rfl))); (try simp only [Act.put, List.setIfInBounds_toArray, List.set_cons_zero, List.set_cons_succ]))
              refine walk3_take ?_
              (refine takeN_take (v := ?_) (some 82) rfl rfl (fun _ _ _ h => h) (by rfl) ?_ ?_; rotate_left; (focus (intro w' hw'; go_simp; (try with_reducible rfl))); (try simp only [Act.put, List.setIfInBounds_toArray, List.set_cons_zero, List.set_cons_succ]))
              refine walk3_one ?_
              (have cc := cell_of_cells HHD.out 0; have ff := free_of_cells HHD.out 0; refine runN_skip0 none rfl rfl (by rfl) (w' := World.setCell w19 ⟨b, 0, none⟩ (.slice a19 (n + 1) c19)) (by go_simp; (try with_reducible rfl)) ?_ ?_; (exact hS.setCell _ _ (fun _ => rfl)); clear cc ff; intro hS; (try simp only [Act.put, List.setIfInBounds_toArray, List.set_cons_zero, List.set_cons_succ]))
              refine walk3_fin ?_
              go_wp2_with fail
              all_goals (go_ret)
              all_goals exact ⟨rfl, by rw [HDL.out, HIN.out]; exact rd_end HR2.out HT2.out hS HHD.out HO3.out (by have := HN.out; simp; omega)⟩
            · (have cc := cell_of_cells HHD.out 0; refine runN_do (v := .slice (some ⟨g, off, none⟩) n c2) (w' := _) (some 77) rfl rfl (by rfl) (by go_simp; (try with_reducible rfl)) hS (fun hS => ?_); clear cc; (try simp only [Act.put, List.setIfInBounds_toArray, List.set_cons_zero, List.set_cons_succ]))
              refine walk3_take ?_
              (refine takeN_take (v := ?_) (some 79) rfl rfl (fun _ _ _ h => h) (by rfl) ?_ ?_; rotate_left; (focus (intro w' hw'; go_simp; (try with_reducible rfl))); (try simp only [Act.put, List.setIfInBounds_toArray, List.set_cons_zero, List.set_cons_succ]))
              refine walk3_one ?_
              (refine runN_appS 73 (.tmp 68) (.tmp 72) _ rfl rfl rfl (by rfl) 93 Tryz.underlying32 (.agg #[.int .i64 0, .int .i64 0]) 2 16 infoDrain rfl (by decide) wc.heap.size _ _ rfl HO1.out _ _ _ _ rfl HNW.out (by simp [dcl, Value.oneCell']) (i + 1) ((D.take i ++ [(⟨k, t⟩ : DR)]).map dcl) (by simp) (by have := HN.out; simp; omega) (by simp only [maxLen]; omega) (by omega) hS.size ?_; intro a12 c12 w12 how9 hg9 hp9; have t9 := (Touch.refl _ (fun k => wc.heap.size ≤ k)).grown hg9 (fun k hk _ => (HO1.out.own.lt k hk).1); have hS := hS.trans t9 (fun k h1 h2 => by first | exact h2.elim | (have h2 : wc.heap.size ≤ k := h2; omega)); refine ⟨hS, fun _ => ?_⟩; have HHD := Lib.hid (t9.keeps HHD.out (fun h => by have := heap_lt HR2.out.head; have h : wc.heap.size ≤ b := h; omega)); have HRW := Lib.hid (HRW.out.touch t9 (fun y hy => by rcases HR2.out.lt y hy with h | h; exact .inl (HN.out ▸ h); exact .inr (fun h2 => by have h2 : wc.heap.size ≤ y.block := h2; omega))); have HO2 := Lib.hid how9; clear how9 hg9 hp9 t9; (try simp only [Act.put, List.setIfInBounds_toArray, List.set_cons_zero, List.set_cons_succ]))
              refine walk3_one ?_
              (refine runN_appS 80 (.tmp 73) (.tmp 79) _ rfl rfl rfl (by rfl) 93 Tryz.underlying32 (.agg #[.int .i64 0, .int .i64 0]) 2 16 infoDrain rfl (by decide) wc.heap.size _ _ rfl HO2.out _ _ _ _ rfl (row_backD HRW.out i hi) (one_dclD _) (n + 1) ((D.take i ++ (⟨k, t⟩ : DR) :: D.drop i).map dcl) (by simp) (by have := HN.out; simp; omega) (by simp only [maxLen]; omega) (by omega) hS.size ?_; intro a19 c19 w19 how9 hg9 hp9; have t9 := (Touch.refl _ (fun k => wc.heap.size ≤ k)).grown hg9 (fun k hk _ => (HO2.out.own.lt k hk).1); have hS := hS.trans t9 (fun k h1 h2 => by first | exact h2.elim | (have h2 : wc.heap.size ≤ k := h2; omega)); refine ⟨hS, fun _ => ?_⟩; have HHD := Lib.hid (t9.keeps HHD.out (fun h => by have := heap_lt HR2.out.head; have h : wc.heap.size ≤ b := h; omega)); have HRW := Lib.hid (HRW.out.touch t9 (fun y hy => by rcases HR2.out.lt y hy with h | h; exact .inl (HN.out ▸ h); exact .inr (fun h2 => by have h2 : wc.heap.size ≤ y.block := h2; omega))); have HO3 := Lib.hid how9; clear how9 hg9 hp9 t9; (try simp only [Act.put, List.setIfInBounds_toArray, List.set_cons_zero, List.set_cons_succ]))
              refine walk3_take ?_
              (refine takeN_take (v := ?_) (some 81) rfl rfl (fun _ _ _ h => h) (by rfl) ?_ ?_; rotate_left; (focus (intro w' hw'; go_simp; (try with_reducible rfl))); (try simp only [Act.put, List.setIfInBounds_toArray, List.set_cons_zero, List.set_cons_succ]))
              refine walk3_take ?_
              (refine takeN_take (v := ?_) (some 82) rfl rfl (fun _ _ _ h => h) (by rfl) ?_ ?_; rotate_left; (focus (intro w' hw'; go_simp; (try with_reducible rfl))); (try simp only [Act.put, List.setIfInBounds_toArray, List.set_cons_zero, List.set_cons_succ]))
              refine walk3_one ?_
              (have cc := cell_of_cells HHD.out 0; have ff := free_of_cells HHD.out 0; refine runN_skip0 none rfl rfl (by rfl) (w' := World.setCell w19 ⟨b, 0, none⟩ (.slice a19 (n + 1) c19)) (by go_simp; (try with_reducible rfl)) ?_ ?_; (exact hS.setCell _ _ (fun _ => rfl)); clear cc ff; intro hS; (try simp only [Act.put, List.setIfInBounds_toArray, List.set_cons_zero, List.set_cons_succ]))
              refine walk3_fin ?_
              go_wp2_with fail
              all_goals (go_ret)
              all_goals exact ⟨rfl, by rw [HDL.out, HIN.out]; exact rd_end HR2.out HT2.out hS HHD.out HO3.out (by have := HN.out; simp; omega)⟩
          · (have cc := cell_of_cells HHD.out 0; refine runN_do (v := .slice (some ⟨g, off, none⟩) n c2) (w' := _) (some 77) rfl rfl (by rfl) (by go_simp; (try with_reducible rfl)) hS (fun hS => ?_); clear cc; (try simp only [Act.put, List.setIfInBounds_toArray, List.set_cons_zero, List.set_cons_succ]))
            refine walk3_take ?_
            (refine takeN_take (v := ?_) (some 79) rfl rfl (fun _ _ _ h => h) (by rfl) ?_ ?_; rotate_left; (focus (intro w' hw'; go_simp; (try with_reducible rfl))); (try simp only [Act.put, List.setIfInBounds_toArray, List.set_cons_zero, List.set_cons_succ]))
            refine walk3_one ?_
            (refine runN_new 72 (fun W => .slice (some ⟨W.heap.size, 0, none⟩) 1 1) #[.int .i64 k, .int .i64 t] 93 rfl rfl (by rfl) (by intro W; go_simp <;> first | with_reducible rfl | rfl | exact ⟨rfl, rfl⟩) ?_; intro w7 hw7 hM7 hs7 t9; have hS := hS.trans t9 (fun _ _ h => h.elim); refine ⟨hS, fun _ => ?_⟩; have HNW := Lib.hid (show RowS w7 _ 1 1 2 [dcl ⟨k, t⟩] by rw [hw7]; exact row_oneD _ ⟨k, t⟩); have HHD := Lib.hid (t9.keeps HHD.out (fun h => h)); have HRW := Lib.hid (HRW.out.still t9); (try have HO1 := Lib.hid (HO1.out.still t9)); clear hw7 hM7 hs7 t9; (try simp only [Act.put, List.setIfInBounds_toArray, List.set_cons_zero, List.set_cons_succ]))
            refine walk3_one ?_
            (refine runN_appS 73 (.tmp 68) (.tmp 72) _ rfl rfl rfl (by rfl) 93 Tryz.underlying32 (.agg #[.int .i64 0, .int .i64 0]) 2 16 infoDrain rfl (by decide) wc.heap.size _ _ rfl HO1.out _ _ _ _ rfl HNW.out (by simp [dcl, Value.oneCell']) (i + 1) ((D.take i ++ [(⟨k, t⟩ : DR)]).map dcl) (by simp) (by have := HN.out; simp; omega) (by simp only [maxLen]; omega) (by omega) hS.size ?_; intro a12 c12 w12 how9 hg9 hp9; have t9 := (Touch.refl _ (fun k => wc.heap.size ≤ k)).grown hg9 (fun k hk _ => (HO1.out.own.lt k hk).1); have hS := hS.trans t9 (fun k h1 h2 => by first | exact h2.elim | (have h2 : wc.heap.size ≤ k := h2; omega)); refine ⟨hS, fun _ => ?_⟩; have HHD := Lib.hid (t9.keeps HHD.out (fun h => by have := heap_lt HR2.out.head; have h : wc.heap.size ≤ b := h; omega)); have HRW := Lib.hid (HRW.out.touch t9 (fun y hy => by rcases HR2.out.lt y hy with h | h; exact .inl (HN.out ▸ h); exact .inr (fun h2 => by have h2 : wc.heap.size ≤ y.block := h2; omega))); have HO2 := Lib.hid how9; clear how9 hg9 hp9 t9; (try simp only [Act.put, List.setIfInBounds_toArray, List.set_cons_zero, List.set_cons_succ]))
            refine walk3_one ?_
            (refine runN_appS 80 (.tmp 73) (.tmp 79) _ rfl rfl rfl (by rfl) 93 Tryz.underlying32 (.agg #[.int .i64 0, .int .i64 0]) 2 16 infoDrain rfl (by decide) wc.heap.size _ _ rfl HO2.out _ _ _ _ rfl (row_backD HRW.out i hi) (one_dclD _) (n + 1) ((D.take i ++ (⟨k, t⟩ : DR) :: D.drop i).map dcl) (by simp) (by have := HN.out; simp; omega) (by simp only [maxLen]; omega) (by omega) hS.size ?_; intro a19 c19 w19 how9 hg9 hp9; have t9 := (Touch.refl _ (fun k => wc.heap.size ≤ k)).grown hg9 (fun k hk _ => (HO2.out.own.lt k hk).1); have hS := hS.trans t9 (fun k h1 h2 => by first | exact h2.elim | (have h2 : wc.heap.size ≤ k := h2; omega)); refine ⟨hS, fun _ => ?_⟩; have HHD := Lib.hid (t9.keeps HHD.out (fun h => by have := heap_lt HR2.out.head; have h : wc.heap.size ≤ b := h; omega)); have HRW := Lib.hid (HRW.out.touch t9 (fun y hy => by rcases HR2.out.lt y hy with h | h; exact .inl (HN.out ▸ h); exact .inr (fun h2 => by have h2 : wc.heap.size ≤ y.block := h2; omega))); have HO3 := Lib.hid how9; clear how9 hg9 hp9 t9; (try simp only [Act.put, List.setIfInBounds_toArray, List.set_cons_zero, List.set_cons_succ]))
            refine walk3_take ?_
            (refine takeN_take (v := ?_) (some 81) rfl rfl (fun _ _ _ h => h) (by rfl) ?_ ?_; rotate_left; (focus (intro w' hw'; go_simp; (try with_reducible rfl))); (try simp only [Act.put, List.setIfInBounds_toArray, List.set_cons_zero, List.set_cons_succ]))
            refine walk3_take ?_
            (refine takeN_take (v := ?_) (some 82) rfl rfl (fun _ _ _ h => h) (by rfl) ?_ ?_; rotate_left; (focus (intro w' hw'; go_simp; (try with_reducible rfl))); (try simp only [Act.put, List.setIfInBounds_toArray, List.set_cons_zero, List.set_cons_succ]))
            refine walk3_one ?_
            (have cc := cell_of_cells HHD.out 0; have ff := free_of_cells HHD.out 0; refine runN_skip0 none rfl rfl (by rfl) (w' := World.setCell w19 ⟨b, 0, none⟩ (.slice a19 (n + 1) c19)) (by go_simp; (try with_reducible rfl)) ?_ ?_; (exact hS.setCell _ _ (fun _ => rfl)); clear cc ff; intro hS; (try simp only [Act.put, List.setIfInBounds_toArray, List.set_cons_zero, List.set_cons_succ]))
            refine walk3_fin ?_
            go_wp2_with fail
            all_goals (go_ret)
            all_goals exact ⟨rfl, by rw [HDL.out, HIN.out]; exact rd_end HR2.out HT2.out hS HHD.out HO3.out (by have := HN.out; simp; omega)⟩
        · (refine runN_new 72 (fun W => .slice (some ⟨W.heap.size, 0, none⟩) 1 1) #[.int .i64 k, .int .i64 t] 93 rfl rfl (by rfl) (by intro W; go_simp <;> first | with_reducible rfl | rfl | exact ⟨rfl, rfl⟩) ?_; intro w7 hw7 hM7 hs7 t9; have hS := hS.trans t9 (fun _ _ h => h.elim); refine ⟨hS, fun _ => ?_⟩; have HNW := Lib.hid (show RowS w7 _ 1 1 2 [dcl ⟨k, t⟩] by rw [hw7]; exact row_oneD _ ⟨k, t⟩); have HHD := Lib.hid (t9.keeps HHD.out (fun h => h)); have HRW := Lib.hid (HRW.out.still t9); (try have HO1 := Lib.hid (HO1.out.still t9)); clear hw7 hM7 hs7 t9; (try simp only [Act.put, List.setIfInBounds_toArray, List.set_cons_zero, List.set_cons_succ]))
          refine walk3_two ?_ ?_
          · (refine runN_appS 68 (.const (.slice none 0 0)) (.tmp 67) _ rfl rfl rfl (by rfl) 93 Tryz.underlying32 (.agg #[.int .i64 0, .int .i64 0]) 2 16 infoDrain rfl (by decide) wc.heap.size _ _ rfl (OwnS.nil _ _ _ _) _ _ _ _ rfl (row_frontD HRW.out i hi) (one_dclD _) (i) ((D.take i).map dcl) (by simp) (by simp) (by simp only [maxLen]; omega) (by omega) hS.size ?_; intro a7 c7 w7 how9 hg9 hp9; have t9 := (Touch.refl _ (fun _ => False)).grown hg9 (fun k hk _ => by cases hk); have hS := hS.trans t9 (fun k h1 h2 => by first | exact h2.elim | (have h2 : wc.heap.size ≤ k := h2; omega)); refine ⟨hS, fun _ => ?_⟩; have HHD := Lib.hid (t9.keeps HHD.out (fun h => h)); have HRW := Lib.hid (HRW.out.still t9); (try have HNW := Lib.hid (HNW.out.still t9)); have HO1 := Lib.hid how9; clear how9 hg9 hp9 t9; (try simp only [Act.put, List.setIfInBounds_toArray, List.set_cons_zero, List.set_cons_succ]))
            refine walk3_two ?_ ?_
            · (refine runN_appS 73 (.tmp 68) (.tmp 72) _ rfl rfl rfl (by rfl) 93 Tryz.underlying32 (.agg #[.int .i64 0, .int .i64 0]) 2 16 infoDrain rfl (by decide) wc.heap.size _ _ rfl HO1.out _ _ _ _ rfl HNW.out (by simp [dcl, Value.oneCell']) (i + 1) ((D.take i ++ [(⟨k, t⟩ : DR)]).map dcl) (by simp) (by have := HN.out; simp; omega) (by simp only [maxLen]; omega) (by omega) hS.size ?_; intro a12 c12 w12 how9 hg9 hp9; have t9 := (Touch.refl _ (fun k => wc.heap.size ≤ k)).grown hg9 (fun k hk _ => (HO1.out.own.lt k hk).1); have hS := hS.trans t9 (fun k h1 h2 => by first | exact h2.elim | (have h2 : wc.heap.size ≤ k := h2; omega)); refine ⟨hS, fun _ => ?_⟩; have HHD := Lib.hid (t9.keeps HHD.out (fun h => by have := heap_lt HR2.out.head; have h : wc.heap.size ≤ b := h; omega)); have HRW := Lib.hid (HRW.out.touch t9 (fun y hy => by rcases HR2.out.lt y hy with h | h; exact .inl (HN.out ▸ h); exact .inr (fun h2 => by have h2 : wc.heap.size ≤ y.block := h2; omega))); have HO2 := Lib.hid how9; clear how9 hg9 hp9 t9; (try simp only [Act.put, List.setIfInBounds_toArray, List.set_cons_zero, List.set_cons_succ]))
              refine walk3_one ?_
              (have cc := cell_of_cells HHD.out 0; refine runN_do (v := .slice (some ⟨g, off, none⟩) n c2) (w' := _) (some 77) rfl rfl (by rfl) (by go_simp; (try with_reducible rfl)) hS (fun hS => ?_); clear cc; (try simp only [Act.put, List.setIfInBounds_toArray, List.set_cons_zero, List.set_cons_succ]))
              refine walk3_take ?_
              (refine takeN_take (v := ?_) (some 79) rfl rfl (fun _ _ _ h => h) (by rfl) ?_ ?_; rotate_left; (focus (intro w' hw'; go_simp; (try with_reducible rfl))); (try simp only [Act.put, List.setIfInBounds_toArray, List.set_cons_zero, List.set_cons_succ]))
              refine walk3_one ?_
              (refine runN_appS 80 (.tmp 73) (.tmp 79) _ rfl rfl rfl (by rfl) 93 Tryz.underlying32 (.agg #[.int .i64 0, .int .i64 0]) 2 16 infoDrain rfl (by decide) wc.heap.size _ _ rfl HO2.out _ _ _ _ rfl (row_backD HRW.out i hi) (one_dclD _) (n + 1) ((D.take i ++ (⟨k, t⟩ : DR) :: D.drop i).map dcl) (by simp) (by have := HN.out; simp; omega) (by simp only [maxLen]; omega) (by omega) hS.size ?_; intro a19 c19 w19 how9 hg9 hp9; have t9 := (Touch.refl _ (fun k => wc.heap.size ≤ k)).grown hg9 (fun k hk _ => (HO2.out.own.lt k hk).1); have hS := hS.trans t9 (fun k h1 h2 => by first | exact h2.elim | (have h2 : wc.heap.size ≤ k := h2; omega)); refine ⟨hS, fun _ => ?_⟩; have HHD := Lib.hid (t9.keeps HHD.out (fun h => by have := heap_lt HR2.out.head; have h : wc.heap.size ≤ b := h; omega)); have HRW := Lib.hid (HRW.out.touch t9 (fun y hy => by rcases HR2.out.lt y hy with h | h; exact .inl (HN.out ▸ h); exact .inr (fun h2 => by have h2 : wc.heap.size ≤ y.block := h2; omega))); have HO3 := Lib.hid how9; clear how9 hg9 hp9 t9; (try simp only [Act.put, List.setIfInBounds_toArray, List.set_cons_zero, List.set_cons_succ]))
              refine walk3_take ?_
              (refine takeN_take (v := ?_) (some 81) rfl rfl (fun _ _ _ h => h) (by rfl) ?_ ?_; rotate_left; (focus (intro w' hw'; go_simp; (try with_reducible rfl))); (try simp only [Act.put, List.setIfInBounds_toArray, List.set_cons_zero, List.set_cons_succ]))
              refine walk3_take ?_
              (refine takeN_take (v := ?_) (some 82) rfl rfl (fun _ _ _ h => h) (by rfl) ?_ ?_; rotate_left; (focus (intro w' hw'; go_simp; (try with_reducible rfl))); (try simp only [Act.put, List.setIfInBounds_toArray, List.set_cons_zero, List.set_cons_succ]))
              refine walk3_one ?_
              (have cc := cell_of_cells HHD.out 0; have ff := free_of_cells HHD.out 0; refine runN_skip0 none rfl rfl (by rfl) (w' := World.setCell w19 ⟨b, 0, none⟩ (.slice a19 (n + 1) c19)) (by go_simp; (try with_reducible rfl)) ?_ ?_; (exact hS.setCell _ _ (fun _ => rfl)); clear cc ff; intro hS; (try simp only [Act.put, List.setIfInBounds_toArray, List.set_cons_zero, List.set_cons_succ]))
              refine walk3_fin ?_
              go_wp2_with fail
              all_goals (go_ret)
              all_goals exact ⟨rfl, by rw [HDL.out, HIN.out]; exact rd_end HR2.out HT2.out hS HHD.out HO3.out (by have := HN.out; simp; omega)⟩
            · (have cc := cell_of_cells HHD.out 0; refine runN_do (v := .slice (some ⟨g, off, none⟩) n c2) (w' := _) (some 77) rfl rfl (by rfl) (by go_simp; (try with_reducible rfl)) hS (fun hS => ?_); clear cc; (try simp only [Act.put, List.setIfInBounds_toArray, List.set_cons_zero, List.set_cons_succ]))
              refine walk3_take ?_
              (refine takeN_take (v := ?_) (some 79) rfl rfl (fun _ _ _ h => h) (by rfl) ?_ ?_; rotate_left; (focus (intro w' hw'; go_simp; (try with_reducible rfl))); (try simp only [Act.put, List.setIfInBounds_toArray, List.set_cons_zero, List.set_cons_succ]))
              refine walk3_one ?_
              (refine runN_appS 73 (.tmp 68) (.tmp 72) _ rfl rfl rfl (by rfl) 93 Tryz.underlying32 (.agg #[.int .i64 0, .int .i64 0]) 2 16 infoDrain rfl (by decide) wc.heap.size _ _ rfl HO1.out _ _ _ _ rfl HNW.out (by simp [dcl, Value.oneCell']) (i + 1) ((D.take i ++ [(⟨k, t⟩ : DR)]).map dcl) (by simp) (by have := HN.out; simp; omega) (by simp only [maxLen]; omega) (by omega) hS.size ?_; intro a12 c12 w12 how9 hg9 hp9; have t9 := (Touch.refl _ (fun k => wc.heap.size ≤ k)).grown hg9 (fun k hk _ => (HO1.out.own.lt k hk).1); have hS := hS.trans t9 (fun k h1 h2 => by first | exact h2.elim | (have h2 : wc.heap.size ≤ k := h2; omega)); refine ⟨hS, fun _ => ?_⟩; have HHD := Lib.hid (t9.keeps HHD.out (fun h => by have := heap_lt HR2.out.head; have h : wc.heap.size ≤ b := h; omega)); have HRW := Lib.hid (HRW.out.touch t9 (fun y hy => by rcases HR2.out.lt y hy with h | h; exact .inl (HN.out ▸ h); exact .inr (fun h2 => by have h2 : wc.heap.size ≤ y.block := h2; omega))); have HO2 := Lib.hid how9; clear how9 hg9 hp9 t9; (try simp only [Act.put, List.setIfInBounds_toArray, List.set_cons_zero, List.set_cons_succ]))
              refine walk3_one ?_
              (refine runN_appS 80 (.tmp 73) (.tmp 79) _ rfl rfl rfl (by rfl) 93 Tryz.underlying32 (.agg #[.int .i64 0, .int .i64 0]) 2 16 infoDrain rfl (by decide) wc.heap.size _ _ rfl HO2.out _ _ _ _ rfl (row_backD HRW.out i hi) (one_dclD _) (n + 1) ((D.take i ++ (⟨k, t⟩ : DR) :: D.drop i).map dcl) (by simp) (by have := HN.out; simp; omega) (by simp only [maxLen]; omega) (by omega) hS.size ?_; intro a19 c19 w19 how9 hg9 hp9; have t9 := (Touch.refl _ (fun k => wc.heap.size ≤ k)).grown hg9 (fun k hk _ => (HO2.out.own.lt k hk).1); have hS := hS.trans t9 (fun k h1 h2 => by first | exact h2.elim | (have h2 : wc.heap.size ≤ k := h2; omega)); refine ⟨hS, fun _ => ?_⟩; have HHD := Lib.hid (t9.keeps HHD.out (fun h => by have := heap_lt HR2.out.head; have h : wc.heap.size ≤ b := h; omega)); have HRW := Lib.hid (HRW.out.touch t9 (fun y hy => by rcases HR2.out.lt y hy with h | h; exact .inl (HN.out ▸ h); exact .inr (fun h2 => by have h2 : wc.heap.size ≤ y.block := h2; omega))); have HO3 := Lib.hid how9; clear how9 hg9 hp9 t9; (try simp only [Act.put, List.setIfInBounds_toArray, List.set_cons_zero, List.set_cons_succ]))
              refine walk3_take ?_
              (refine takeN_take (v := ?_) (some 81) rfl rfl (fun _ _ _ h => h) (by rfl) ?_ ?_; rotate_left; (focus (intro w' hw'; go_simp; (try with_reducible rfl))); (try simp only [Act.put, List.setIfInBounds_toArray, List.set_cons_zero, List.set_cons_succ]))
              refine walk3_take ?_
              (refine takeN_take (v := ?_) (some 82) rfl rfl (fun _ _ _ h => h) (by rfl) ?_ ?_; rotate_left; (focus (intro w' hw'; go_simp; (try with_reducible rfl))); (try simp only [Act.put, List.setIfInBounds_toArray, List.set_cons_zero, List.set_cons_succ]))
              refine walk3_one ?_
              (have cc := cell_of_cells HHD.out 0; have ff := free_of_cells HHD.out 0; refine runN_skip0 none rfl rfl (by rfl) (w' := World.setCell w19 ⟨b, 0, none⟩ (.slice a19 (n + 1) c19)) (by go_simp; (try with_reducible rfl)) ?_ ?_; (exact hS.setCell _ _ (fun _ => rfl)); clear cc ff; intro hS; (try simp only [Act.put, List.setIfInBounds_toArray, List.set_cons_zero, List.set_cons_succ]))
              refine walk3_fin ?_
              go_wp2_with fail
              all_goals (go_ret)
              all_goals exact ⟨rfl, by rw [HDL.out, HIN.out]; exact rd_end HR2.out HT2.out hS HHD.out HO3.out (by have := HN.out; simp; omega)⟩
          · (have cc := cell_of_cells HHD.out 0; refine runN_do (v := .slice (some ⟨g, off, none⟩) n c2) (w' := _) (some 77) rfl rfl (by rfl) (by go_simp; (try with_reducible rfl)) hS (fun hS => ?_); clear cc; (try simp only [Act.put, List.setIfInBounds_toArray, List.set_cons_zero, List.set_cons_succ]))
            refine walk3_take ?_
            (refine takeN_take (v := ?_) (some 79) rfl rfl (fun _ _ _ h => h) (by rfl) ?_ ?_; rotate_left; (focus (intro w' hw'; go_simp; (try with_reducible rfl))); (try simp only [Act.put, List.setIfInBounds_toArray, List.set_cons_zero, List.set_cons_succ]))
            refine walk3_one ?_
            (refine runN_appS 68 (.const (.slice none 0 0)) (.tmp 67) _ rfl rfl rfl (by rfl) 93 Tryz.underlying32 (.agg #[.int .i64 0, .int .i64 0]) 2 16 infoDrain rfl (by decide) wc.heap.size _ _ rfl (OwnS.nil _ _ _ _) _ _ _ _ rfl (row_frontD HRW.out i hi) (one_dclD _) (i) ((D.take i).map dcl) (by simp) (by simp) (by simp only [maxLen]; omega) (by omega) hS.size ?_; intro a7 c7 w7 how9 hg9 hp9; have t9 := (Touch.refl _ (fun _ => False)).grown hg9 (fun k hk _ => by cases hk); have hS := hS.trans t9 (fun k h1 h2 => by first | exact h2.elim | (have h2 : wc.heap.size ≤ k := h2; omega)); refine ⟨hS, fun _ => ?_⟩; have HHD := Lib.hid (t9.keeps HHD.out (fun h => h)); have HRW := Lib.hid (HRW.out.still t9); (try have HNW := Lib.hid (HNW.out.still t9)); have HO1 := Lib.hid how9; clear how9 hg9 hp9 t9; (try simp only [Act.put, List.setIfInBounds_toArray, List.set_cons_zero, List.set_cons_succ]))
            refine walk3_one ?_
            (refine runN_appS 73 (.tmp 68) (.tmp 72) _ rfl rfl rfl (by rfl) 93 Tryz.underlying32 (.agg #[.int .i64 0, .int .i64 0]) 2 16 infoDrain rfl (by decide) wc.heap.size _ _ rfl HO1.out _ _ _ _ rfl HNW.out (by simp [dcl, Value.oneCell']) (i + 1) ((D.take i ++ [(⟨k, t⟩ : DR)]).map dcl) (by simp) (by have := HN.out; simp; omega) (by simp only [maxLen]; omega) (by omega) hS.size ?_; intro a12 c12 w12 how9 hg9 hp9; have t9 := (Touch.refl _ (fun k => wc.heap.size ≤ k)).grown hg9 (fun k hk _ => (HO1.out.own.lt k hk).1); have hS := hS.trans t9 (fun k h1 h2 => by first | exact h2.elim | (have h2 : wc.heap.size ≤ k := h2; omega)); refine ⟨hS, fun _ => ?_⟩; have HHD := Lib.hid (t9.keeps HHD.out (fun h => by have := heap_lt HR2.out.head; have h : wc.heap.size ≤ b := h; omega)); have HRW := Lib.hid (HRW.out.touch t9 (fun y hy => by rcases HR2.out.lt y hy with h | h; exact .inl (HN.out ▸ h); exact .inr (fun h2 => by have h2 : wc.heap.size ≤ y.block := h2; omega))); have HO2 := Lib.hid how9; clear how9 hg9 hp9 t9; (try simp only [Act.put, List.setIfInBounds_toArray, List.set_cons_zero, List.set_cons_succ]))
            refine walk3_one ?_
            (refine runN_appS 80 (.tmp 73) (.tmp 79) _ rfl rfl rfl (by rfl) 93 Tryz.underlying32 (.agg #[.int .i64 0, .int .i64 0]) 2 16 infoDrain rfl (by decide) wc.heap.size _ _ rfl HO2.out _ _ _ _ rfl (row_backD HRW.out i hi) (one_dclD _) (n + 1) ((D.take i ++ (⟨k, t⟩ : DR) :: D.drop i).map dcl) (by simp) (by have := HN.out; simp; omega) (by simp only [maxLen]; omega) (by omega) hS.size ?_; intro a19 c19 w19 how9 hg9 hp9; have t9 := (Touch.refl _ (fun k => wc.heap.size ≤ k)).grown hg9 (fun k hk _ => (HO2.out.own.lt k hk).1); have hS := hS.trans t9 (fun k h1 h2 => by first | exact h2.elim | (have h2 : wc.heap.size ≤ k := h2; omega)); refine ⟨hS, fun _ => ?_⟩; have HHD := Lib.hid (t9.keeps HHD.out (fun h => by have := heap_lt HR2.out.head; have h : wc.heap.size ≤ b := h; omega)); have HRW := Lib.hid (HRW.out.touch t9 (fun y hy => by rcases HR2.out.lt y hy with h | h; exact .inl (HN.out ▸ h); exact .inr (fun h2 => by have h2 : wc.heap.size ≤ y.block := h2; omega))); have HO3 := Lib.hid how9; clear how9 hg9 hp9 t9; (try simp only [Act.put, List.setIfInBounds_toArray, List.set_cons_zero, List.set_cons_succ]))
            refine walk3_take ?_
            (refine takeN_take (v := ?_) (some 81) rfl rfl (fun _ _ _ h => h) (by rfl) ?_ ?_; rotate_left; (focus (intro w' hw'; go_simp; (try with_reducible rfl))); (try simp only [Act.put, List.setIfInBounds_toArray, List.set_cons_zero, List.set_cons_succ]))
            refine walk3_take ?_
            (refine takeN_take (v := ?_) (some 82) rfl rfl (fun _ _ _ h => h) (by rfl) ?_ ?_; rotate_left; (focus (intro w' hw'; go_simp; (try with_reducible rfl))); (try simp only [Act.put, List.setIfInBounds_toArray, List.set_cons_zero, List.set_cons_succ]))
            refine walk3_one ?_
            (have cc := cell_of_cells HHD.out 0; have ff := free_of_cells HHD.out 0; refine runN_skip0 none rfl rfl (by rfl) (w' := World.setCell w19 ⟨b, 0, none⟩ (.slice a19 (n + 1) c19)) (by go_simp; (try with_reducible rfl)) ?_ ?_; (exact hS.setCell _ _ (fun _ => rfl)); clear cc ff; intro hS; (try simp only [Act.put, List.setIfInBounds_toArray, List.set_cons_zero, List.set_cons_succ]))
            refine walk3_fin ?_
            go_wp2_with fail
            all_goals (go_ret)
            all_goals exact ⟨rfl, by rw [HDL.out, HIN.out]; exact rd_end HR2.out HT2.out hS HHD.out HO3.out (by have := HN.out; simp; omega)⟩
        · (have cc := cell_of_cells HHD.out 0; refine runN_do (v := .slice (some ⟨g, off, none⟩) n c2) (w' := _) (some 77) rfl rfl (by rfl) (by go_simp; (try with_reducible rfl)) hS (fun hS => ?_); clear cc; (try simp only [Act.put, List.setIfInBounds_toArray, List.set_cons_zero, List.set_cons_succ]))
          refine walk3_take ?_
          (refine takeN_take (v := ?_) (some 79) rfl rfl (fun _ _ _ h => h) (by rfl) ?_ ?_; rotate_left; (focus (intro w' hw'; go_simp; (try with_reducible rfl))); (try simp only [Act.put, List.setIfInBounds_toArray, List.set_cons_zero, List.set_cons_succ]))
          refine walk3_two ?_ ?_
          · (refine runN_appS 68 (.const (.slice none 0 0)) (.tmp 67) _ rfl rfl rfl (by rfl) 93 Tryz.underlying32 (.agg #[.int .i64 0, .int .i64 0]) 2 16 infoDrain rfl (by decide) wc.heap.size _ _ rfl (OwnS.nil _ _ _ _) _ _ _ _ rfl (row_frontD HRW.out i hi) (one_dclD _) (i) ((D.take i).map dcl) (by simp) (by simp) (by simp only [maxLen]; omega) (by omega) hS.size ?_; intro a7 c7 w7 how9 hg9 hp9; have t9 := (Touch.refl _ (fun _ => False)).grown hg9 (fun k hk _ => by cases hk); have hS := hS.trans t9 (fun k h1 h2 => by first | exact h2.elim | (have h2 : wc.heap.size ≤ k := h2; omega)); refine ⟨hS, fun _ => ?_⟩; have HHD := Lib.hid (t9.keeps HHD.out (fun h => h)); have HRW := Lib.hid (HRW.out.still t9); (try have HNW := Lib.hid (HNW.out.still t9)); have HO1 := Lib.hid how9; clear how9 hg9 hp9 t9; (try simp only [Act.put, List.setIfInBounds_toArray, List.set_cons_zero, List.set_cons_succ]))
            refine walk3_one ?_
            (refine runN_new 72 (fun W => .slice (some ⟨W.heap.size, 0, none⟩) 1 1) #[.int .i64 k, .int .i64 t] 93 rfl rfl (by rfl) (by intro W; go_simp <;> first | with_reducible rfl | rfl | exact ⟨rfl, rfl⟩) ?_; intro w7 hw7 hM7 hs7 t9; have hS := hS.trans t9 (fun _ _ h => h.elim); refine ⟨hS, fun _ => ?_⟩; have HNW := Lib.hid (show RowS w7 _ 1 1 2 [dcl ⟨k, t⟩] by rw [hw7]; exact row_oneD _ ⟨k, t⟩); have HHD := Lib.hid (t9.keeps HHD.out (fun h => h)); have HRW := Lib.hid (HRW.out.still t9); (try have HO1 := Lib.hid (HO1.out.still t9)); clear hw7 hM7 hs7 t9; (try simp only [Act.put, List.setIfInBounds_toArray, List.set_cons_zero, List.set_cons_succ]))
            refine walk3_one ?_
            (refine runN_appS 73 (.tmp 68) (.tmp 72) _ rfl rfl rfl (by rfl) 93 Tryz.underlying32 (.agg #[.int .i64 0, .int .i64 0]) 2 16 infoDrain rfl (by decide) wc.heap.size _ _ rfl HO1.out _ _ _ _ rfl HNW.out (by simp [dcl, Value.oneCell']) (i + 1) ((D.take i ++ [(⟨k, t⟩ : DR)]).map dcl) (by simp) (by have := HN.out; simp; omega) (by simp only [maxLen]; omega) (by omega) hS.size ?_; intro a12 c12 w12 how9 hg9 hp9; have t9 := (Touch.refl _ (fun k => wc.heap.size ≤ k)).grown hg9 (fun k hk _ => (HO1.out.own.lt k hk).1); have hS := hS.trans t9 (fun k h1 h2 => by first | exact h2.elim | (have h2 : wc.heap.size ≤ k := h2; omega)); refine ⟨hS, fun _ => ?_⟩; have HHD := Lib.hid (t9.keeps HHD.out (fun h => by have := heap_lt HR2.out.head; have h : wc.heap.size ≤ b := h; omega)); have HRW := Lib.hid (HRW.out.touch t9 (fun y hy => by rcases HR2.out.lt y hy with h | h; exact .inl (HN.out ▸ h); exact .inr (fun h2 => by have h2 : wc.heap.size ≤ y.block := h2; omega))); have HO2 := Lib.hid how9; clear how9 hg9 hp9 t9; (try simp only [Act.put, List.setIfInBounds_toArray, List.set_cons_zero, List.set_cons_succ]))
            refine walk3_one ?_
            (refine runN_appS 80 (.tmp 73) (.tmp 79) _ rfl rfl rfl (by rfl) 93 Tryz.underlying32 (.agg #[.int .i64 0, .int .i64 0]) 2 16 infoDrain rfl (by decide) wc.heap.size _ _ rfl HO2.out _ _ _ _ rfl (row_backD HRW.out i hi) (one_dclD _) (n + 1) ((D.take i ++ (⟨k, t⟩ : DR) :: D.drop i).map dcl) (by simp) (by have := HN.out; simp; omega) (by simp only [maxLen]; omega) (by omega) hS.size ?_; intro a19 c19 w19 how9 hg9 hp9; have t9 := (Touch.refl _ (fun k => wc.heap.size ≤ k)).grown hg9 (fun k hk _ => (HO2.out.own.lt k hk).1); have hS := hS.trans t9 (fun k h1 h2 => by first | exact h2.elim | (have h2 : wc.heap.size ≤ k := h2; omega)); refine ⟨hS, fun _ => ?_⟩; have HHD := Lib.hid (t9.keeps HHD.out (fun h => by have := heap_lt HR2.out.head; have h : wc.heap.size ≤ b := h; omega)); have HRW := Lib.hid (HRW.out.touch t9 (fun y hy => by rcases HR2.out.lt y hy with h | h; exact .inl (HN.out ▸ h); exact .inr (fun h2 => by have h2 : wc.heap.size ≤ y.block := h2; omega))); have HO3 := Lib.hid how9; clear how9 hg9 hp9 t9; (try simp only [Act.put, List.setIfInBounds_toArray, List.set_cons_zero, List.set_cons_succ]))
            refine walk3_take ?_
            (refine takeN_take (v := ?_) (some 81) rfl rfl (fun _ _ _ h => h) (by rfl) ?_ ?_; rotate_left; (focus (intro w' hw'; go_simp; (try with_reducible rfl))); (try simp only [Act.put, List.setIfInBounds_toArray, List.set_cons_zero, List.set_cons_succ]))
            refine walk3_take ?_
            (refine takeN_take (v := ?_) (some 82) rfl rfl (fun _ _ _ h => h) (by rfl) ?_ ?_; rotate_left; (focus (intro w' hw'; go_simp; (try with_reducible rfl))); (try simp only [Act.put, List.setIfInBounds_toArray, List.set_cons_zero, List.set_cons_succ]))
            refine walk3_one ?_
            (have cc := cell_of_cells HHD.out 0; have ff := free_of_cells HHD.out 0; refine runN_skip0 none rfl rfl (by rfl) (w' := World.setCell w19 ⟨b, 0, none⟩ (.slice a19 (n + 1) c19)) (by go_simp; (try with_reducible rfl)) ?_ ?_; (exact hS.setCell _ _ (fun _ => rfl)); clear cc ff; intro hS; (try simp only [Act.put, List.setIfInBounds_toArray, List.set_cons_zero, List.set_cons_succ]))
            refine walk3_fin ?_
            go_wp2_with fail
            all_goals (go_ret)
            all_goals exact ⟨rfl, by rw [HDL.out, HIN.out]; exact rd_end HR2.out HT2.out hS HHD.out HO3.out (by have := HN.out; simp; omega)⟩
          · (refine runN_new 72 (fun W => .slice (some ⟨W.heap.size, 0, none⟩) 1 1) #[.int .i64 k, .int .i64 t] 93 rfl rfl (by rfl) (by intro W; go_simp <;> first | with_reducible rfl | rfl | exact ⟨rfl, rfl⟩) ?_; intro w7 hw7 hM7 hs7 t9; have hS := hS.trans t9 (fun _ _ h => h.elim); refine ⟨hS, fun _ => ?_⟩; have HNW := Lib.hid (show RowS w7 _ 1 1 2 [dcl ⟨k, t⟩] by rw [hw7]; exact row_oneD _ ⟨k, t⟩); have HHD := Lib.hid (t9.keeps HHD.out (fun h => h)); have HRW := Lib.hid (HRW.out.still t9); (try have HO1 := Lib.hid (HO1.out.still t9)); clear hw7 hM7 hs7 t9; (try simp only [Act.put, List.setIfInBounds_toArray, List.set_cons_zero, List.set_cons_succ]))
            refine walk3_one ?_
            (refine runN_appS 68 (.const (.slice none 0 0)) (.tmp 67) _ rfl rfl rfl (by rfl) 93 Tryz.underlying32 (.agg #[.int .i64 0, .int .i64 0]) 2 16 infoDrain rfl (by decide) wc.heap.size _ _ rfl (OwnS.nil _ _ _ _) _ _ _ _ rfl (row_frontD HRW.out i hi) (one_dclD _) (i) ((D.take i).map dcl) (by simp) (by simp) (by simp only [maxLen]; omega) (by omega) hS.size ?_; intro a7 c7 w7 how9 hg9 hp9; have t9 := (Touch.refl _ (fun _ => False)).grown hg9 (fun k hk _ => by cases hk); have hS := hS.trans t9 (fun k h1 h2 => by first | exact h2.elim | (have h2 : wc.heap.size ≤ k := h2; omega)); refine ⟨hS, fun _ => ?_⟩; have HHD := Lib.hid (t9.keeps HHD.out (fun h => h)); have HRW := Lib.hid (HRW.out.still t9); (try have HNW := Lib.hid (HNW.out.still t9)); have HO1 := Lib.hid how9; clear how9 hg9 hp9 t9; (try simp only [Act.put, List.setIfInBounds_toArray, List.set_cons_zero, List.set_cons_succ]))
            refine walk3_one ?_
            (refine runN_appS 73 (.tmp 68) (.tmp 72) _ rfl rfl rfl (by rfl) 93 Tryz.underlying32 (.agg #[.int .i64 0, .int .i64 0]) 2 16 infoDrain rfl (by decide) wc.heap.size _ _ rfl HO1.out _ _ _ _ rfl HNW.out (by simp [dcl, Value.oneCell']) (i + 1) ((D.take i ++ [(⟨k, t⟩ : DR)]).map dcl) (by simp) (by have := HN.out; simp; omega) (by simp only [maxLen]; omega) (by omega) hS.size ?_; intro a12 c12 w12 how9 hg9 hp9; have t9 := (Touch.refl _ (fun k => wc.heap.size ≤ k)).grown hg9 (fun k hk _ => (HO1.out.own.lt k hk).1); have hS := hS.trans t9 (fun k h1 h2 => by first | exact h2.elim | (have h2 : wc.heap.size ≤ k := h2; omega)); refine ⟨hS, fun _ => ?_⟩; have HHD := Lib.hid (t9.keeps HHD.out (fun h => by have := heap_lt HR2.out.head; have h : wc.heap.size ≤ b := h; omega)); have HRW := Lib.hid (HRW.out.touch t9 (fun y hy => by rcases HR2.out.lt y hy with h | h; exact .inl (HN.out ▸ h); exact .inr (fun h2 => by have h2 : wc.heap.size ≤ y.block := h2; omega))); have HO2 := Lib.hid how9; clear how9 hg9 hp9 t9; (try simp only [Act.put, List.setIfInBounds_toArray, List.set_cons_zero, List.set_cons_succ]))
            refine walk3_one ?_
            (refine runN_appS 80 (.tmp 73) (.tmp 79) _ rfl rfl rfl (by rfl) 93 Tryz.underlying32 (.agg #[.int .i64 0, .int .i64 0]) 2 16 infoDrain rfl (by decide) wc.heap.size _ _ rfl HO2.out _ _ _ _ rfl (row_backD HRW.out i hi) (one_dclD _) (n + 1) ((D.take i ++ (⟨k, t⟩ : DR) :: D.drop i).map dcl) (by simp) (by have := HN.out; simp; omega) (by simp only [maxLen]; omega) (by omega) hS.size ?_; intro a19 c19 w19 how9 hg9 hp9; have t9 := (Touch.refl _ (fun k => wc.heap.size ≤ k)).grown hg9 (fun k hk _ => (HO2.out.own.lt k hk).1); have hS := hS.trans t9 (fun k h1 h2 => by first | exact h2.elim | (have h2 : wc.heap.size ≤ k := h2; omega)); refine ⟨hS, fun _ => ?_⟩; have HHD := Lib.hid (t9.keeps HHD.out (fun h => by have := heap_lt HR2.out.head; have h : wc.heap.size ≤ b := h; omega)); have HRW := Lib.hid (HRW.out.touch t9 (fun y hy => by rcases HR2.out.lt y hy with h | h; exact .inl (HN.out ▸ h); exact .inr (fun h2 => by have h2 : wc.heap.size ≤ y.block := h2; omega))); have HO3 := Lib.hid how9; clear how9 hg9 hp9 t9; (try simp only [Act.put, List.setIfInBounds_toArray, List.set_cons_zero, List.set_cons_succ]))
            refine walk3_take ?_
            (refine takeN_take (v := ?_) (some 81) rfl rfl (fun _ _ _ h => h) (by rfl) ?_ ?_; rotate_left; (focus (intro w' hw'; go_simp; (try with_reducible rfl))); (try simp only [Act.put, List.setIfInBounds_toArray, List.set_cons_zero, List.set_cons_succ]))
            refine walk3_take ?_
            (refine takeN_take (v := ?_) (some 82) rfl rfl (fun _ _ _ h => h) (by rfl) ?_ ?_; rotate_left; (focus (intro w' hw'; go_simp; (try with_reducible rfl))); (try simp only [Act.put, List.setIfInBounds_toArray, List.set_cons_zero, List.set_cons_succ]))
            refine walk3_one ?_
            (have cc := cell_of_cells HHD.out 0; have ff := free_of_cells HHD.out 0; refine runN_skip0 none rfl rfl (by rfl) (w' := World.setCell w19 ⟨b, 0, none⟩ (.slice a19 (n + 1) c19)) (by go_simp; (try with_reducible rfl)) ?_ ?_; (exact hS.setCell _ _ (fun _ => rfl)); clear cc ff; intro hS; (try simp only [Act.put, List.setIfInBounds_toArray, List.set_cons_zero, List.set_cons_succ]))
            refine walk3_fin ?_
            go_wp2_with fail
            all_goals (go_ret)
            all_goals exact ⟨rfl, by rw [HDL.out, HIN.out]; exact rd_end HR2.out HT2.out hS HHD.out HO3.out (by have := HN.out; simp; omega)⟩
      · (refine runN_new 72 (fun W => .slice (some ⟨W.heap.size, 0, none⟩) 1 1) #[.int .i64 k, .int .i64 t] 93 rfl rfl (by rfl) (by intro W; go_simp <;> first | with_reducible rfl | rfl | exact ⟨rfl, rfl⟩) ?_; intro w7 hw7 hM7 hs7 t9; have hS := hS.trans t9 (fun _ _ h => h.elim); refine ⟨hS, fun _ => ?_⟩; have HNW := Lib.hid (show RowS w7 _ 1 1 2 [dcl ⟨k, t⟩] by rw [hw7]; exact row_oneD _ ⟨k, t⟩); have HHD := Lib.hid (t9.keeps HHD.out (fun h => h)); have HRW := Lib.hid (HRW.out.still t9); (try have HO1 := Lib.hid (HO1.out.still t9)); clear hw7 hM7 hs7 t9; (try simp only [Act.put, List.setIfInBounds_toArray, List.set_cons_zero, List.set_cons_succ]))
        refine walk3_two ?_ ?_
        · (have cc := cell_of_cells HHD.out 0; refine runN_do (v := .slice (some ⟨g, off, none⟩) n c2) (w' := _) (some 65) rfl rfl (by rfl) (by go_simp; (try with_reducible rfl)) hS (fun hS => ?_); clear cc; (try simp only [Act.put, List.setIfInBounds_toArray, List.set_cons_zero, List.set_cons_succ]))
          refine walk3_take ?_
          (refine takeN_take (v := ?_) (some 67) rfl rfl (fun _ _ _ h => h) (by rfl) ?_ ?_; rotate_left; (focus (intro w' hw'; go_simp; (try with_reducible rfl))); (try simp only [Act.put, List.setIfInBounds_toArray, List.set_cons_zero, List.set_cons_succ]))
          refine walk3_two ?_ ?_
          · (refine runN_appS 68 (.const (.slice none 0 0)) (.tmp 67) _ rfl rfl rfl (by rfl) 93 Tryz.underlying32 (.agg #[.int .i64 0, .int .i64 0]) 2 16 infoDrain rfl (by decide) wc.heap.size _ _ rfl (OwnS.nil _ _ _ _) _ _ _ _ rfl (row_frontD HRW.out i hi) (one_dclD _) (i) ((D.take i).map dcl) (by simp) (by simp) (by simp only [maxLen]; omega) (by omega) hS.size ?_; intro a7 c7 w7 how9 hg9 hp9; have t9 := (Touch.refl _ (fun _ => False)).grown hg9 (fun k hk _ => by cases hk); have hS := hS.trans t9 (fun k h1 h2 => by first | exact h2.elim | (have h2 : wc.heap.size ≤ k := h2; omega)); refine ⟨hS, fun _ => ?_⟩; have HHD := Lib.hid (t9.keeps HHD.out (fun h => h)); have HRW := Lib.hid (HRW.out.still t9); (try have HNW := Lib.hid (HNW.out.still t9)); have HO1 := Lib.hid how9; clear how9 hg9 hp9 t9; (try simp only [Act.put, List.setIfInBounds_toArray, List.set_cons_zero, List.set_cons_succ]))
            refine walk3_two ?_ ?_
            · (refine runN_appS 73 (.tmp 68) (.tmp 72) _ rfl rfl rfl (by rfl) 93 Tryz.underlying32 (.agg #[.int .i64 0, .int .i64 0]) 2 16 infoDrain rfl (by decide) wc.heap.size _ _ rfl HO1.out _ _ _ _ rfl HNW.out (by simp [dcl, Value.oneCell']) (i + 1) ((D.take i ++ [(⟨k, t⟩ : DR)]).map dcl) (by simp) (by have := HN.out; simp; omega) (by simp only [maxLen]; omega) (by omega) hS.size ?_; intro a12 c12 w12 how9 hg9 hp9; have t9 := (Touch.refl _ (fun k => wc.heap.size ≤ k)).grown hg9 (fun k hk _ => (HO1.out.own.lt k hk).1); have hS := hS.trans t9 (fun k h1 h2 => by first | exact h2.elim | (have h2 : wc.heap.size ≤ k := h2; omega)); refine ⟨hS, fun _ => ?_⟩; have HHD := Lib.hid (t9.keeps HHD.out (fun h => by have := heap_lt HR2.out.head; have h : wc.heap.size ≤ b := h; omega)); have HRW := Lib.hid (HRW.out.touch t9 (fun y hy => by rcases HR2.out.lt y hy with h | h; exact .inl (HN.out ▸ h); exact .inr (fun h2 => by have h2 : wc.heap.size ≤ y.block := h2; omega))); have HO2 := Lib.hid how9; clear how9 hg9 hp9 t9; (try simp only [Act.put, List.setIfInBounds_toArray, List.set_cons_zero, List.set_cons_succ]))
              refine walk3_one ?_
              (have cc := cell_of_cells HHD.out 0; refine runN_do (v := .slice (some ⟨g, off, none⟩) n c2) (w' := _) (some 77) rfl rfl (by rfl) (by go_simp; (try with_reducible rfl)) hS (fun hS => ?_); clear cc; (try simp only [Act.put, List.setIfInBounds_toArray, List.set_cons_zero, List.set_cons_succ]))
              refine walk3_take ?_
              (refine takeN_take (v := ?_) (some 79) rfl rfl (fun _ _ _ h => h) (by rfl) ?_ ?_; rotate_left; (focus (intro w' hw'; go_simp; (try with_reducible rfl))); (try simp only [Act.put, List.setIfInBounds_toArray, List.set_cons_zero, List.set_cons_succ]))
              refine walk3_one ?_
              (refine runN_appS 80 (.tmp 73) (.tmp 79) _ rfl rfl rfl (by rfl) 93 Tryz.underlying32 (.agg #[.int .i64 0, .int .i64 0]) 2 16 infoDrain rfl (by decide) wc.heap.size _ _ rfl HO2.out _ _ _ _ rfl (row_backD HRW.out i hi) (one_dclD _) (n + 1) ((D.take i ++ (⟨k, t⟩ : DR) :: D.drop i).map dcl) (by simp) (by have := HN.out; simp; omega) (by simp only [maxLen]; omega) (by omega) hS.size ?_; intro a19 c19 w19 how9 hg9 hp9; have t9 := (Touch.refl _ (fun k => wc.heap.size ≤ k)).grown hg9 (fun k hk _ => (HO2.out.own.lt k hk).1); have hS := hS.trans t9 (fun k h1 h2 => by first | exact h2.elim | (have h2 : wc.heap.size ≤ k := h2; omega)); refine ⟨hS, fun _ => ?_⟩; have HHD := Lib.hid (t9.keeps HHD.out (fun h => by have := heap_lt HR2.out.head; have h : wc.heap.size ≤ b := h; omega)); have HRW := Lib.hid (HRW.out.touch t9 (fun y hy => by rcases HR2.out.lt y hy with h | h; exact .inl (HN.out ▸ h); exact .inr (fun h2 => by have h2 : wc.heap.size ≤ y.block := h2; omega))); have HO3 := Lib.hid how9; clear how9 hg9 hp9 t9; (try simp only [Act.put, List.setIfInBounds_toArray, List.set_cons_zero, List.set_cons_succ]))
              refine walk3_take ?_
              (refine takeN_take (v := ?_) (some 81) rfl rfl (fun _ _ _ h => h) (by rfl) ?_ ?_; rotate_left; (focus (intro w' hw'; go_simp; (try with_reducible rfl))); (try simp only [Act.put, List.setIfInBounds_toArray, List.set_cons_zero, List.set_cons_succ]))
              refine walk3_take ?_
              (refine takeN_take (v := ?_) (some 82) rfl rfl (fun _ _ _ h => h) (by rfl) ?_ ?_; rotate_left; (focus (intro w' hw'; go_simp; (try with_reducible rfl))); (try simp only [Act.put, List.setIfInBounds_toArray, List.set_cons_zero, List.set_cons_succ]))
              refine walk3_one ?_
              (have cc := cell_of_cells HHD.out 0; have ff := free_of_cells HHD.out 0; refine runN_skip0 none rfl rfl (by rfl) (w' := World.setCell w19 ⟨b, 0, none⟩ (.slice a19 (n + 1) c19)) (by go_simp; (try with_reducible rfl)) ?_ ?_; (exact hS.setCell _ _ (fun _ => rfl)); clear cc ff; intro hS; (try simp only [Act.put, List.setIfInBounds_toArray, List.set_cons_zero, List.set_cons_succ]))
              refine walk3_fin ?_
              go_wp2_with fail
              all_goals (go_ret)
              all_goals exact ⟨rfl, by rw [HDL.out, HIN.out]; exact rd_end HR2.out HT2.out hS HHD.out HO3.out (by have := HN.out; simp; omega)⟩
            · (have cc := cell_of_cells HHD.out 0; refine runN_do (v := .slice (some ⟨g, off, none⟩) n c2) (w' := _) (some 77) rfl rfl (by rfl) (by go_simp; (try with_reducible rfl)) hS (fun hS => ?_); clear cc; (try simp only [Act.put, List.setIfInBounds_toArray, List.set_cons_zero, List.set_cons_succ]))
              refine walk3_take ?_
              (refine takeN_take (v := ?_) (some 79) rfl rfl (fun _ _ _ h => h) (by rfl) ?_ ?_; rotate_left; (focus (intro w' hw'; go_simp; (try with_reducible rfl))); (try simp only [Act.put, List.setIfInBounds_toArray, List.set_cons_zero, List.set_cons_succ]))
              refine walk3_one ?_
              (refine runN_appS 73 (.tmp 68) (.tmp 72) _ rfl rfl rfl (by rfl) 93 Tryz.underlying32 (.agg #[.int .i64 0, .int .i64 0]) 2 16 infoDrain rfl (by decide) wc.heap.size _ _ rfl HO1.out _ _ _ _ rfl HNW.out (by simp [dcl, Value.oneCell']) (i + 1) ((D.take i ++ [(⟨k, t⟩ : DR)]).map dcl) (by simp) (by have := HN.out; simp; omega) (by simp only [maxLen]; omega) (by omega) hS.size ?_; intro a12 c12 w12 how9 hg9 hp9; have t9 := (Touch.refl _ (fun k => wc.heap.size ≤ k)).grown hg9 (fun k hk _ => (HO1.out.own.lt k hk).1); have hS := hS.trans t9 (fun k h1 h2 => by first | exact h2.elim | (have h2 : wc.heap.size ≤ k := h2; omega)); refine ⟨hS, fun _ => ?_⟩; have HHD := Lib.hid (t9.keeps HHD.out (fun h => by have := heap_lt HR2.out.head; have h : wc.heap.size ≤ b := h; omega)); have HRW := Lib.hid (HRW.out.touch t9 (fun y hy => by rcases HR2.out.lt y hy with h | h; exact .inl (HN.out ▸ h); exact .inr (fun h2 => by have h2 : wc.heap.size ≤ y.block := h2; omega))); have HO2 := Lib.hid how9; clear how9 hg9 hp9 t9; (try simp only [Act.put, List.setIfInBounds_toArray, List.set_cons_zero, List.set_cons_succ]))
              refine walk3_one ?_
              (refine runN_appS 80 (.tmp 73) (.tmp 79) _ rfl rfl rfl (by rfl) 93 Tryz.underlying32 (.agg #[.int .i64 0, .int .i64 0]) 2 16 infoDrain rfl (by decide) wc.heap.size _ _ rfl HO2.out _ _ _ _ rfl (row_backD HRW.out i hi) (one_dclD _) (n + 1) ((D.take i ++ (⟨k, t⟩ : DR) :: D.drop i).map dcl) (by simp) (by have := HN.out; simp; omega) (by simp only [maxLen]; omega) (by omega) hS.size ?_; intro a19 c19 w19 how9 hg9 hp9; have t9 := (Touch.refl _ (fun k => wc.heap.size ≤ k)).grown hg9 (fun k hk _ => (HO2.out.own.lt k hk).1); have hS := hS.trans t9 (fun k h1 h2 => by first | exact h2.elim | (have h2 : wc.heap.size ≤ k := h2; omega)); refine ⟨hS, fun _ => ?_⟩; have HHD := Lib.hid (t9.keeps HHD.out (fun h => by have := heap_lt HR2.out.head; have h : wc.heap.size ≤ b := h; omega)); have HRW := Lib.hid (HRW.out.touch t9 (fun y hy => by rcases HR2.out.lt y hy with h | h; exact .inl (HN.out ▸ h); exact .inr (fun h2 => by have h2 : wc.heap.size ≤ y.block := h2; omega))); have HO3 := Lib.hid how9; clear how9 hg9 hp9 t9; (try simp only [Act.put, List.setIfInBounds_toArray, List.set_cons_zero, List.set_cons_succ]))
              refine walk3_take ?_
              (refine takeN_take (v := ?_) (some 81) rfl rfl (fun _ _ _ h => h) (by rfl) ?_ ?_; rotate_left; (focus (intro w' hw'; go_simp; (try with_reducible rfl))); (try simp only [Act.put, List.setIfInBounds_toArray, List.set_cons_zero, List.set_cons_succ]))
              refine walk3_take ?_
              (refine takeN_take (v := ?_) (some 82) rfl rfl (fun _ _ _ h => h) (by rfl) ?_ ?_; rotate_left; (focus (intro w' hw'; go_simp; (try with_reducible rfl))); (try simp only [Act.put, List.setIfInBounds_toArray, List.set_cons_zero, List.set_cons_succ]))
              refine walk3_one ?_
              (have cc := cell_of_cells HHD.out 0; have ff := free_of_cells HHD.out 0; refine runN_skip0 none rfl rfl (by rfl) (w' := World.setCell w19 ⟨b, 0, none⟩ (.slice a19 (n + 1) c19)) (by go_simp; (try with_reducible rfl)) ?_ ?_; (exact hS.setCell _ _ (fun _ => rfl)); clear cc ff; intro hS; (try simp only [Act.put, List.setIfInBounds_toArray, List.set_cons_zero, List.set_cons_succ]))
              refine walk3_fin ?_
              go_wp2_with fail
              all_goals (go_ret)
              all_goals exact ⟨rfl, by rw [HDL.out, HIN.out]; exact rd_end HR2.out HT2.out hS HHD.out HO3.out (by have := HN.out; simp; omega)⟩
          · (have cc := cell_of_cells HHD.out 0; refine runN_do (v := .slice (some ⟨g, off, none⟩) n c2) (w' := _) (some 77) rfl rfl (by rfl) (by go_simp; (try with_reducible rfl)) hS (fun hS => ?_); clear cc; (try simp only [Act.put, List.setIfInBounds_toArray, List.set_cons_zero, List.set_cons_succ]))
            refine walk3_take ?_
            (refine takeN_take (v := ?_) (some 79) rfl rfl (fun _ _ _ h => h) (by rfl) ?_ ?_; rotate_left; (focus (intro w' hw'; go_simp; (try with_reducible rfl))); (try simp only [Act.put, List.setIfInBounds_toArray, List.set_cons_zero, List.set_cons_succ]))
            refine walk3_one ?_
            (refine runN_appS 68 (.const (.slice none 0 0)) (.tmp 67) _ rfl rfl rfl (by rfl) 93 Tryz.underlying32 (.agg #[.int .i64 0, .int .i64 0]) 2 16 infoDrain rfl (by decide) wc.heap.size _ _ rfl (OwnS.nil _ _ _ _) _ _ _ _ rfl (row_frontD HRW.out i hi) (one_dclD _) (i) ((D.take i).map dcl) (by simp) (by simp) (by simp only [maxLen]; omega) (by omega) hS.size ?_; intro a7 c7 w7 how9 hg9 hp9; have t9 := (Touch.refl _ (fun _ => False)).grown hg9 (fun k hk _ => by cases hk); have hS := hS.trans t9 (fun k h1 h2 => by first | exact h2.elim | (have h2 : wc.heap.size ≤ k := h2; omega)); refine ⟨hS, fun _ => ?_⟩; have HHD := Lib.hid (t9.keeps HHD.out (fun h => h)); have HRW := Lib.hid (HRW.out.still t9); (try have HNW := Lib.hid (HNW.out.still t9)); have HO1 := Lib.hid how9; clear how9 hg9 hp9 t9; (try simp only [Act.put, List.setIfInBounds_toArray, List.set_cons_zero, List.set_cons_succ]))
            refine walk3_one ?_
            (refine runN_appS 73 (.tmp 68) (.tmp 72) _ rfl rfl rfl (by rfl) 93 Tryz.underlying32 (.agg #[.int .i64 0, .int .i64 0]) 2 16 infoDrain rfl (by decide) wc.heap.size _ _ rfl HO1.out _ _ _ _ rfl HNW.out (by simp [dcl, Value.oneCell']) (i + 1) ((D.take i ++ [(⟨k, t⟩ : DR)]).map dcl) (by simp) (by have := HN.out; simp; omega) (by simp only [maxLen]; omega) (by omega) hS.size ?_; intro a12 c12 w12 how9 hg9 hp9; have t9 := (Touch.refl _ (fun k => wc.heap.size ≤ k)).grown hg9 (fun k hk _ => (HO1.out.own.lt k hk).1); have hS := hS.trans t9 (fun k h1 h2 => by first | exact h2.elim | (have h2 : wc.heap.size ≤ k := h2; omega)); refine ⟨hS, fun _ => ?_⟩; have HHD := Lib.hid (t9.keeps HHD.out (fun h => by have := heap_lt HR2.out.head; have h : wc.heap.size ≤ b := h; omega)); have HRW := Lib.hid (HRW.out.touch t9 (fun y hy => by rcases HR2.out.lt y hy with h | h; exact .inl (HN.out ▸ h); exact .inr (fun h2 => by have h2 : wc.heap.size ≤ y.block := h2; omega))); have HO2 := Lib.hid how9; clear how9 hg9 hp9 t9; (try simp only [Act.put, List.setIfInBounds_toArray, List.set_cons_zero, List.set_cons_succ]))
            refine walk3_one ?_
            (refine runN_appS 80 (.tmp 73) (.tmp 79) _ rfl rfl rfl (by rfl) 93 Tryz.underlying32 (.agg #[.int .i64 0, .int .i64 0]) 2 16 infoDrain rfl (by decide) wc.heap.size _ _ rfl HO2.out _ _ _ _ rfl (row_backD HRW.out i hi) (one_dclD _) (n + 1) ((D.take i ++ (⟨k, t⟩ : DR) :: D.drop i).map dcl) (by simp) (by have := HN.out; simp; omega) (by simp only [maxLen]; omega) (by omega) hS.size ?_; intro a19 c19 w19 how9 hg9 hp9; have t9 := (Touch.refl _ (fun k => wc.heap.size ≤ k)).grown hg9 (fun k hk _ => (HO2.out.own.lt k hk).1); have hS := hS.trans t9 (fun k h1 h2 => by first | exact h2.elim | (have h2 : wc.heap.size ≤ k := h2; omega)); refine ⟨hS, fun _ => ?_⟩; have HHD := Lib.hid (t9.keeps HHD.out (fun h => by have := heap_lt HR2.out.head; have h : wc.heap.size ≤ b := h; omega)); have HRW := Lib.hid (HRW.out.touch t9 (fun y hy => by rcases HR2.out.lt y hy with h | h; exact .inl (HN.out ▸ h); exact .inr (fun h2 => by have h2 : wc.heap.size ≤ y.block := h2; omega))); have HO3 := Lib.hid how9; clear how9 hg9 hp9 t9; (try simp only [Act.put, List.setIfInBounds_toArray, List.set_cons_zero, List.set_cons_succ]))
            refine walk3_take ?_
            (refine takeN_take (v := ?_) (some 81) rfl rfl (fun _ _ _ h => h) (by rfl) ?_ ?_; rotate_left; (focus (intro w' hw'; go_simp; (try with_reducible rfl))); (try simp only [Act.put, List.setIfInBounds_toArray, List.set_cons_zero, List.set_cons_succ]))
            refine walk3_take ?_
            (refine takeN_take (v := ?_) (some 82) rfl rfl (fun _ _ _ h => h) (by rfl) ?_ ?_; rotate_left; (focus (intro w' hw'; go_simp; (try with_reducible rfl))); (try simp only [Act.put, List.setIfInBounds_toArray, List.set_cons_zero, List.set_cons_succ]))
            refine walk3_one ?_
            (have cc := cell_of_cells HHD.out 0; have ff := free_of_cells HHD.out 0; refine runN_skip0 none rfl rfl (by rfl) (w' := World.setCell w19 ⟨b, 0, none⟩ (.slice a19 (n + 1) c19)) (by go_simp; (try with_reducible rfl)) ?_ ?_; (exact hS.setCell _ _ (fun _ => rfl)); clear cc ff; intro hS; (try simp only [Act.put, List.setIfInBounds_toArray, List.set_cons_zero, List.set_cons_succ]))
            refine walk3_fin ?_
            go_wp2_with fail
            all_goals (go_ret)
            all_goals exact ⟨rfl, by rw [HDL.out, HIN.out]; exact rd_end HR2.out HT2.out hS HHD.out HO3.out (by have := HN.out; simp; omega)⟩
        · (have cc := cell_of_cells HHD.out 0; refine runN_do (v := .slice (some ⟨g, off, none⟩) n c2) (w' := _) (some 77) rfl rfl (by rfl) (by go_simp; (try with_reducible rfl)) hS (fun hS => ?_); clear cc; (try simp only [Act.put, List.setIfInBounds_toArray, List.set_cons_zero, List.set_cons_succ]))
          refine walk3_take ?_
          (refine takeN_take (v := ?_) (some 79) rfl rfl (fun _ _ _ h => h) (by rfl) ?_ ?_; rotate_left; (focus (intro w' hw'; go_simp; (try with_reducible rfl))); (try simp only [Act.put, List.setIfInBounds_toArray, List.set_cons_zero, List.set_cons_succ]))
          refine walk3_one ?_
          (have cc := cell_of_cells HHD.out 0; refine runN_do (v := .slice (some ⟨g, off, none⟩) n c2) (w' := _) (some 65) rfl rfl (by rfl) (by go_simp; (try with_reducible rfl)) hS (fun hS => ?_); clear cc; (try simp only [Act.put, List.setIfInBounds_toArray, List.set_cons_zero, List.set_cons_succ]))
          refine walk3_take ?_
          (refine takeN_take (v := ?_) (some 67) rfl rfl (fun _ _ _ h => h) (by rfl) ?_ ?_; rotate_left; (focus (intro w' hw'; go_simp; (try with_reducible rfl))); (try simp only [Act.put, List.setIfInBounds_toArray, List.set_cons_zero, List.set_cons_succ]))
          refine walk3_one ?_
          (refine runN_appS 68 (.const (.slice none 0 0)) (.tmp 67) _ rfl rfl rfl (by rfl) 93 Tryz.underlying32 (.agg #[.int .i64 0, .int .i64 0]) 2 16 infoDrain rfl (by decide) wc.heap.size _ _ rfl (OwnS.nil _ _ _ _) _ _ _ _ rfl (row_frontD HRW.out i hi) (one_dclD _) (i) ((D.take i).map dcl) (by simp) (by simp) (by simp only [maxLen]; omega) (by omega) hS.size ?_; intro a7 c7 w7 how9 hg9 hp9; have t9 := (Touch.refl _ (fun _ => False)).grown hg9 (fun k hk _ => by cases hk); have hS := hS.trans t9 (fun k h1 h2 => by first | exact h2.elim | (have h2 : wc.heap.size ≤ k := h2; omega)); refine ⟨hS, fun _ => ?_⟩; have HHD := Lib.hid (t9.keeps HHD.out (fun h => h)); have HRW := Lib.hid (HRW.out.still t9); (try have HNW := Lib.hid (HNW.out.still t9)); have HO1 := Lib.hid how9; clear how9 hg9 hp9 t9; (try simp only [Act.put, List.setIfInBounds_toArray, List.set_cons_zero, List.set_cons_succ]))
          refine walk3_one ?_
          (refine runN_appS 73 (.tmp 68) (.tmp 72) _ rfl rfl rfl (by rfl) 93 Tryz.underlying32 (.agg #[.int .i64 0, .int .i64 0]) 2 16 infoDrain rfl (by decide) wc.heap.size _ _ rfl HO1.out _ _ _ _ rfl HNW.out (by simp [dcl, Value.oneCell']) (i + 1) ((D.take i ++ [(⟨k, t⟩ : DR)]).map dcl) (by simp) (by have := HN.out; simp; omega) (by simp only [maxLen]; omega) (by omega) hS.size ?_; intro a12 c12 w12 how9 hg9 hp9; have t9 := (Touch.refl _ (fun k => wc.heap.size ≤ k)).grown hg9 (fun k hk _ => (HO1.out.own.lt k hk).1); have hS := hS.trans t9 (fun k h1 h2 => by first | exact h2.elim | (have h2 : wc.heap.size ≤ k := h2; omega)); refine ⟨hS, fun _ => ?_⟩; have HHD := Lib.hid (t9.keeps HHD.out (fun h => by have := heap_lt HR2.out.head; have h : wc.heap.size ≤ b := h; omega)); have HRW := Lib.hid (HRW.out.touch t9 (fun y hy => by rcases HR2.out.lt y hy with h | h; exact .inl (HN.out ▸ h); exact .inr (fun h2 => by have h2 : wc.heap.size ≤ y.block := h2; omega))); have HO2 := Lib.hid how9; clear how9 hg9 hp9 t9; (try simp only [Act.put, List.setIfInBounds_toArray, List.set_cons_zero, List.set_cons_succ]))
          refine walk3_one ?_
          (refine runN_appS 80 (.tmp 73) (.tmp 79) _ rfl rfl rfl (by rfl) 93 Tryz.underlying32 (.agg #[.int .i64 0, .int .i64 0]) 2 16 infoDrain rfl (by decide) wc.heap.size _ _ rfl HO2.out _ _ _ _ rfl (row_backD HRW.out i hi) (one_dclD _) (n + 1) ((D.take i ++ (⟨k, t⟩ : DR) :: D.drop i).map dcl) (by simp) (by have := HN.out; simp; omega) (by simp only [maxLen]; omega) (by omega) hS.size ?_; intro a19 c19 w19 how9 hg9 hp9; have t9 := (Touch.refl _ (fun k => wc.heap.size ≤ k)).grown hg9 (fun k hk _ => (HO2.out.own.lt k hk).1); have hS := hS.trans t9 (fun k h1 h2 => by first | exact h2.elim | (have h2 : wc.heap.size ≤ k := h2; omega)); refine ⟨hS, fun _ => ?_⟩; have HHD := Lib.hid (t9.keeps HHD.out (fun h => by have := heap_lt HR2.out.head; have h : wc.heap.size ≤ b := h; omega)); have HRW := Lib.hid (HRW.out.touch t9 (fun y hy => by rcases HR2.out.lt y hy with h | h; exact .inl (HN.out ▸ h); exact .inr (fun h2 => by have h2 : wc.heap.size ≤ y.block := h2; omega))); have HO3 := Lib.hid how9; clear how9 hg9 hp9 t9; (try simp only [Act.put, List.setIfInBounds_toArray, List.set_cons_zero, List.set_cons_succ]))
          refine walk3_take ?_
          (refine takeN_take (v := ?_) (some 81) rfl rfl (fun _ _ _ h => h) (by rfl) ?_ ?_; rotate_left; (focus (intro w' hw'; go_simp; (try with_reducible rfl))); (try simp only [Act.put, List.setIfInBounds_toArray, List.set_cons_zero, List.set_cons_succ]))
          refine walk3_take ?_
          (refine takeN_take (v := ?_) (some 82) rfl rfl (fun _ _ _ h => h) (by rfl) ?_ ?_; rotate_left; (focus (intro w' hw'; go_simp; (try with_reducible rfl))); (try simp only [Act.put, List.setIfInBounds_toArray, List.set_cons_zero, List.set_cons_succ]))
          refine walk3_one ?_
          (have cc := cell_of_cells HHD.out 0; have ff := free_of_cells HHD.out 0; refine runN_skip0 none rfl rfl (by rfl) (w' := World.setCell w19 ⟨b, 0, none⟩ (.slice a19 (n + 1) c19)) (by go_simp; (try with_reducible rfl)) ?_ ?_; (exact hS.setCell _ _ (fun _ => rfl)); clear cc ff; intro hS; (try simp only [Act.put, List.setIfInBounds_toArray, List.set_cons_zero, List.set_cons_succ]))
          refine walk3_fin ?_
          go_wp2_with fail
          all_goals (go_ret)
          all_goals exact ⟨rfl, by rw [HDL.out, HIN.out]; exact rd_end HR2.out HT2.out hS HHD.out HO3.out (by have := HN.out; simp; omega)⟩
      · (have cc := cell_of_cells HHD.out 0; refine runN_do (v := .slice (some ⟨g, off, none⟩) n c2) (w' := _) (some 77) rfl rfl (by rfl) (by go_simp; (try with_reducible rfl)) hS (fun hS => ?_); clear cc; (try simp only [Act.put, List.setIfInBounds_toArray, List.set_cons_zero, List.set_cons_succ]))
        refine walk3_take ?_
        (refine takeN_take (v := ?_) (some 79) rfl rfl (fun _ _ _ h => h) (by rfl) ?_ ?_; rotate_left; (focus (intro w' hw'; go_simp; (try with_reducible rfl))); (try simp only [Act.put, List.setIfInBounds_toArray, List.set_cons_zero, List.set_cons_succ]))
        refine walk3_two ?_ ?_
        · (have cc := cell_of_cells HHD.out 0; refine runN_do (v := .slice (some ⟨g, off, none⟩) n c2) (w' := _) (some 65) rfl rfl (by rfl) (by go_simp; (try with_reducible rfl)) hS (fun hS => ?_); clear cc; (try simp only [Act.put, List.setIfInBounds_toArray, List.set_cons_zero, List.set_cons_succ]))
          refine walk3_take ?_
          (refine takeN_take (v := ?_) (some 67) rfl rfl (fun _ _ _ h => h) (by rfl) ?_ ?_; rotate_left; (focus (intro w' hw'; go_simp; (try with_reducible rfl))); (try simp only [Act.put, List.setIfInBounds_toArray, List.set_cons_zero, List.set_cons_succ]))
          refine walk3_two ?_ ?_
          · (refine runN_appS 68 (.const (.slice none 0 0)) (.tmp 67) _ rfl rfl rfl (by rfl) 93 Tryz.underlying32 (.agg #[.int .i64 0, .int .i64 0]) 2 16 infoDrain rfl (by decide) wc.heap.size _ _ rfl (OwnS.nil _ _ _ _) _ _ _ _ rfl (row_frontD HRW.out i hi) (one_dclD _) (i) ((D.take i).map dcl) (by simp) (by simp) (by simp only [maxLen]; omega) (by omega) hS.size ?_; intro a7 c7 w7 how9 hg9 hp9; have t9 := (Touch.refl _ (fun _ => False)).grown hg9 (fun k hk _ => by cases hk); have hS := hS.trans t9 (fun k h1 h2 => by first | exact h2.elim | (have h2 : wc.heap.size ≤ k := h2; omega)); refine ⟨hS, fun _ => ?_⟩; have HHD := Lib.hid (t9.keeps HHD.out (fun h => h)); have HRW := Lib.hid (HRW.out.still t9); (try have HNW := Lib.hid (HNW.out.still t9)); have HO1 := Lib.hid how9; clear how9 hg9 hp9 t9; (try simp only [Act.put, List.setIfInBounds_toArray, List.set_cons_zero, List.set_cons_succ]))
            refine walk3_one ?_
            (refine runN_new 72 (fun W => .slice (some ⟨W.heap.size, 0, none⟩) 1 1) #[.int .i64 k, .int .i64 t] 93 rfl rfl (by rfl) (by intro W; go_simp <;> first | with_reducible rfl | rfl | exact ⟨rfl, rfl⟩) ?_; intro w7 hw7 hM7 hs7 t9; have hS := hS.trans t9 (fun _ _ h => h.elim); refine ⟨hS, fun _ => ?_⟩; have HNW := Lib.hid (show RowS w7 _ 1 1 2 [dcl ⟨k, t⟩] by rw [hw7]; exact row_oneD _ ⟨k, t⟩); have HHD := Lib.hid (t9.keeps HHD.out (fun h => h)); have HRW := Lib.hid (HRW.out.still t9); (try have HO1 := Lib.hid (HO1.out.still t9)); clear hw7 hM7 hs7 t9; (try simp only [Act.put, List.setIfInBounds_toArray, List.set_cons_zero, List.set_cons_succ]))
            refine walk3_one ?_
            (refine runN_appS 73 (.tmp 68) (.tmp 72) _ rfl rfl rfl (by rfl) 93 Tryz.underlying32 (.agg #[.int .i64 0, .int .i64 0]) 2 16 infoDrain rfl (by decide) wc.heap.size _ _ rfl HO1.out _ _ _ _ rfl HNW.out (by simp [dcl, Value.oneCell']) (i + 1) ((D.take i ++ [(⟨k, t⟩ : DR)]).map dcl) (by simp) (by have := HN.out; simp; omega) (by simp only [maxLen]; omega) (by omega) hS.size ?_; intro a12 c12 w12 how9 hg9 hp9; have t9 := (Touch.refl _ (fun k => wc.heap.size ≤ k)).grown hg9 (fun k hk _ => (HO1.out.own.lt k hk).1); have hS := hS.trans t9 (fun k h1 h2 => by first | exact h2.elim | (have h2 : wc.heap.size ≤ k := h2; omega)); refine ⟨hS, fun _ => ?_⟩; have HHD := Lib.hid (t9.keeps HHD.out (fun h => by have := heap_lt HR2.out.head; have h : wc.heap.size ≤ b := h; omega)); have HRW := Lib.hid (HRW.out.touch t9 (fun y hy => by rcases HR2.out.lt y hy with h | h; exact .inl (HN.out ▸ h); exact .inr (fun h2 => by have h2 : wc.heap.size ≤ y.block := h2; omega))); have HO2 := Lib.hid how9; clear how9 hg9 hp9 t9; (try simp only [Act.put, List.setIfInBounds_toArray, List.set_cons_zero, List.set_cons_succ]))
            refine walk3_one ?_
            (refine runN_appS 80 (.tmp 73) (.tmp 79) _ rfl rfl rfl (by rfl) 93 Tryz.underlying32 (.agg #[.int .i64 0, .int .i64 0]) 2 16 infoDrain rfl (by decide) wc.heap.size _ _ rfl HO2.out _ _ _ _ rfl (row_backD HRW.out i hi) (one_dclD _) (n + 1) ((D.take i ++ (⟨k, t⟩ : DR) :: D.drop i).map dcl) (by simp) (by have := HN.out; simp; omega) (by simp only [maxLen]; omega) (by omega) hS.size ?_; intro a19 c19 w19 how9 hg9 hp9; have t9 := (Touch.refl _ (fun k => wc.heap.size ≤ k)).grown hg9 (fun k hk _ => (HO2.out.own.lt k hk).1); have hS := hS.trans t9 (fun k h1 h2 => by first | exact h2.elim | (have h2 : wc.heap.size ≤ k := h2; omega)); refine ⟨hS, fun _ => ?_⟩; have HHD := Lib.hid (t9.keeps HHD.out (fun h => by have := heap_lt HR2.out.head; have h : wc.heap.size ≤ b := h; omega)); have HRW := Lib.hid (HRW.out.touch t9 (fun y hy => by rcases HR2.out.lt y hy with h | h; exact .inl (HN.out ▸ h); exact .inr (fun h2 => by have h2 : wc.heap.size ≤ y.block := h2; omega))); have HO3 := Lib.hid how9; clear how9 hg9 hp9 t9; (try simp only [Act.put, List.setIfInBounds_toArray, List.set_cons_zero, List.set_cons_succ]))
            refine walk3_take ?_
            (refine takeN_take (v := ?_) (some 81) rfl rfl (fun _ _ _ h => h) (by rfl) ?_ ?_; rotate_left; (focus (intro w' hw'; go_simp; (try with_reducible rfl))); (try simp only [Act.put, List.setIfInBounds_toArray, List.set_cons_zero, List.set_cons_succ]))
            refine walk3_take ?_
            (refine takeN_take (v := ?_) (some 82) rfl rfl (fun _ _ _ h => h) (by rfl) ?_ ?_; rotate_left; (focus (intro w' hw'; go_simp; (try with_reducible rfl))); (try simp only [Act.put, List.setIfInBounds_toArray, List.set_cons_zero, List.set_cons_succ]))
            refine walk3_one ?_
            (have cc := cell_of_cells HHD.out 0; have ff := free_of_cells HHD.out 0; refine runN_skip0 none rfl rfl (by rfl) (w' := World.setCell w19 ⟨b, 0, none⟩ (.slice a19 (n + 1) c19)) (by go_simp; (try with_reducible rfl)) ?_ ?_; (exact hS.setCell _ _ (fun _ => rfl)); clear cc ff; intro hS; (try simp only [Act.put, List.setIfInBounds_toArray, List.set_cons_zero, List.set_cons_succ]))
            refine walk3_fin ?_
            go_wp2_with fail
            all_goals (go_ret)
            all_goals exact ⟨rfl, by rw [HDL.out, HIN.out]; exact rd_end HR2.out HT2.out hS HHD.out HO3.out (by have := HN.out; simp; omega)⟩
          · (refine runN_new 72 (fun W => .slice (some ⟨W.heap.size, 0, none⟩) 1 1) #[.int .i64 k, .int .i64 t] 93 rfl rfl (by rfl) (by intro W; go_simp <;> first | with_reducible rfl | rfl | exact ⟨rfl, rfl⟩) ?_; intro w7 hw7 hM7 hs7 t9; have hS := hS.trans t9 (fun _ _ h => h.elim); refine ⟨hS, fun _ => ?_⟩; have HNW := Lib.hid (show RowS w7 _ 1 1 2 [dcl ⟨k, t⟩] by rw [hw7]; exact row_oneD _ ⟨k, t⟩); have HHD := Lib.hid (t9.keeps HHD.out (fun h => h)); have HRW := Lib.hid (HRW.out.still t9); (try have HO1 := Lib.hid (HO1.out.still t9)); clear hw7 hM7 hs7 t9; (try simp only [Act.put, List.setIfInBounds_toArray, List.set_cons_zero, List.set_cons_succ]))
            refine walk3_one ?_
            (refine runN_appS 68 (.const (.slice none 0 0)) (.tmp 67) _ rfl rfl rfl (by rfl) 93 Tryz.underlying32 (.agg #[.int .i64 0, .int .i64 0]) 2 16 infoDrain rfl (by decide) wc.heap.size _ _ rfl (OwnS.nil _ _ _ _) _ _ _ _ rfl (row_frontD HRW.out i hi) (one_dclD _) (i) ((D.take i).map dcl) (by simp) (by simp) (by simp only [maxLen]; omega) (by omega) hS.size ?_; intro a7 c7 w7 how9 hg9 hp9; have t9 := (Touch.refl _ (fun _ => False)).grown hg9 (fun k hk _ => by cases hk); have hS := hS.trans t9 (fun k h1 h2 => by first | exact h2.elim | (have h2 : wc.heap.size ≤ k := h2; omega)); refine ⟨hS, fun _ => ?_⟩; have HHD := Lib.hid (t9.keeps HHD.out (fun h => h)); have HRW := Lib.hid (HRW.out.still t9); (try have HNW := Lib.hid (HNW.out.still t9)); have HO1 := Lib.hid how9; clear how9 hg9 hp9 t9; (try simp only [Act.put, List.setIfInBounds_toArray, List.set_cons_zero, List.set_cons_succ]))
            refine walk3_one ?_
            (refine runN_appS 73 (.tmp 68) (.tmp 72) _ rfl rfl rfl (by rfl) 93 Tryz.underlying32 (.agg #[.int .i64 0, .int .i64 0]) 2 16 infoDrain rfl (by decide) wc.heap.size _ _ rfl HO1.out _ _ _ _ rfl HNW.out (by simp [dcl, Value.oneCell']) (i + 1) ((D.take i ++ [(⟨k, t⟩ : DR)]).map dcl) (by simp) (by have := HN.out; simp; omega) (by simp only [maxLen]; omega) (by omega) hS.size ?_; intro a12 c12 w12 how9 hg9 hp9; have t9 := (Touch.refl _ (fun k => wc.heap.size ≤ k)).grown hg9 (fun k hk _ => (HO1.out.own.lt k hk).1); have hS := hS.trans t9 (fun k h1 h2 => by first | exact h2.elim | (have h2 : wc.heap.size ≤ k := h2; omega)); refine ⟨hS, fun _ => ?_⟩; have HHD := Lib.hid (t9.keeps HHD.out (fun h => by have := heap_lt HR2.out.head; have h : wc.heap.size ≤ b := h; omega)); have HRW := Lib.hid (HRW.out.touch t9 (fun y hy => by rcases HR2.out.lt y hy with h | h; exact .inl (HN.out ▸ h); exact .inr (fun h2 => by have h2 : wc.heap.size ≤ y.block := h2; omega))); have HO2 := Lib.hid how9; clear how9 hg9 hp9 t9; (try simp only [Act.put, List.setIfInBounds_toArray, List.set_cons_zero, List.set_cons_succ]))
            refine walk3_one ?_
            (refine runN_appS 80 (.tmp 73) (.tmp 79) _ rfl rfl rfl (by rfl) 93 Tryz.underlying32 (.agg #[.int .i64 0, .int .i64 0]) 2 16 infoDrain rfl (by decide) wc.heap.size _ _ rfl HO2.out _ _ _ _ rfl (row_backD HRW.out i hi) (one_dclD _) (n + 1) ((D.take i ++ (⟨k, t⟩ : DR) :: D.drop i).map dcl) (by simp) (by have := HN.out; simp; omega) (by simp only [maxLen]; omega) (by omega) hS.size ?_; intro a19 c19 w19 how9 hg9 hp9; have t9 := (Touch.refl _ (fun k => wc.heap.size ≤ k)).grown hg9 (fun k hk _ => (HO2.out.own.lt k hk).1); have hS := hS.trans t9 (fun k h1 h2 => by first | exact h2.elim | (have h2 : wc.heap.size ≤ k := h2; omega)); refine ⟨hS, fun _ => ?_⟩; have HHD := Lib.hid (t9.keeps HHD.out (fun h => by have := heap_lt HR2.out.head; have h : wc.heap.size ≤ b := h; omega)); have HRW := Lib.hid (HRW.out.touch t9 (fun y hy => by rcases HR2.out.lt y hy with h | h; exact .inl (HN.out ▸ h); exact .inr (fun h2 => by have h2 : wc.heap.size ≤ y.block := h2; omega))); have HO3 := Lib.hid how9; clear how9 hg9 hp9 t9; (try simp only [Act.put, List.setIfInBounds_toArray, List.set_cons_zero, List.set_cons_succ]))
            refine walk3_take ?_
            (refine takeN_take (v := ?_) (some 81) rfl rfl (fun _ _ _ h => h) (by rfl) ?_ ?_; rotate_left; (focus (intro w' hw'; go_simp; (try with_reducible rfl))); (try simp only [Act.put, List.setIfInBounds_toArray, List.set_cons_zero, List.set_cons_succ]))
            refine walk3_take ?_
            (refine takeN_take (v := ?_) (some 82) rfl rfl (fun _ _ _ h => h) (by rfl) ?_ ?_; rotate_left; (focus (intro w' hw'; go_simp; (try with_reducible rfl))); (try simp only [Act.put, List.setIfInBounds_toArray, List.set_cons_zero, List.set_cons_succ]))
            refine walk3_one ?_
            (have cc := cell_of_cells HHD.out 0; have ff := free_of_cells HHD.out 0; refine runN_skip0 none rfl rfl (by rfl) (w' := World.setCell w19 ⟨b, 0, none⟩ (.slice a19 (n + 1) c19)) (by go_simp; (try with_reducible rfl)) ?_ ?_; (exact hS.setCell _ _ (fun _ => rfl)); clear cc ff; intro hS; (try simp only [Act.put, List.setIfInBounds_toArray, List.set_cons_zero, List.set_cons_succ]))
            refine walk3_fin ?_
            go_wp2_with fail
            all_goals (go_ret)
            all_goals exact ⟨rfl, by rw [HDL.out, HIN.out]; exact rd_end HR2.out HT2.out hS HHD.out HO3.out (by have := HN.out; simp; omega)⟩
        · (refine runN_new 72 (fun W => .slice (some ⟨W.heap.size, 0, none⟩) 1 1) #[.int .i64 k, .int .i64 t] 93 rfl rfl (by rfl) (by intro W; go_simp <;> first | with_reducible rfl | rfl | exact ⟨rfl, rfl⟩) ?_; intro w7 hw7 hM7 hs7 t9; have hS := hS.trans t9 (fun _ _ h => h.elim); refine ⟨hS, fun _ => ?_⟩; have HNW := Lib.hid (show RowS w7 _ 1 1 2 [dcl ⟨k, t⟩] by rw [hw7]; exact row_oneD _ ⟨k, t⟩); have HHD := Lib.hid (t9.keeps HHD.out (fun h => h)); have HRW := Lib.hid (HRW.out.still t9); (try have HO1 := Lib.hid (HO1.out.still t9)); clear hw7 hM7 hs7 t9; (try simp only [Act.put, List.setIfInBounds_toArray, List.set_cons_zero, List.set_cons_succ]))
          refine walk3_one ?_
          (have cc := cell_of_cells HHD.out 0; refine runN_do (v := .slice (some ⟨g, off, none⟩) n c2) (w' := _) (some 65) rfl rfl (by rfl) (by go_simp; (try with_reducible rfl)) hS (fun hS => ?_); clear cc; (try simp only [Act.put, List.setIfInBounds_toArray, List.set_cons_zero, List.set_cons_succ]))
          refine walk3_take ?_
          (refine takeN_take (v := ?_) (some 67) rfl rfl (fun _ _ _ h => h) (by rfl) ?_ ?_; rotate_left; (focus (intro w' hw'; go_simp; (try with_reducible rfl))); (try simp only [Act.put, List.setIfInBounds_toArray, List.set_cons_zero, List.set_cons_succ]))
          refine walk3_one ?_
          (refine runN_appS 68 (.const (.slice none 0 0)) (.tmp 67) _ rfl rfl rfl (by rfl) 93 Tryz.underlying32 (.agg #[.int .i64 0, .int .i64 0]) 2 16 infoDrain rfl (by decide) wc.heap.size _ _ rfl (OwnS.nil _ _ _ _) _ _ _ _ rfl (row_frontD HRW.out i hi) (one_dclD _) (i) ((D.take i).map dcl) (by simp) (by simp) (by simp only [maxLen]; omega) (by omega) hS.size ?_; intro a7 c7 w7 how9 hg9 hp9; have t9 := (Touch.refl _ (fun _ => False)).grown hg9 (fun k hk _ => by cases hk); have hS := hS.trans t9 (fun k h1 h2 => by first | exact h2.elim | (have h2 : wc.heap.size ≤ k := h2; omega)); refine ⟨hS, fun _ => ?_⟩; have HHD := Lib.hid (t9.keeps HHD.out (fun h => h)); have HRW := Lib.hid (HRW.out.still t9); (try have HNW := Lib.hid (HNW.out.still t9)); have HO1 := Lib.hid how9; clear how9 hg9 hp9 t9; (try simp only [Act.put, List.setIfInBounds_toArray, List.set_cons_zero, List.set_cons_succ]))
          refine walk3_one ?_
          (refine runN_appS 73 (.tmp 68) (.tmp 72) _ rfl rfl rfl (by rfl) 93 Tryz.underlying32 (.agg #[.int .i64 0, .int .i64 0]) 2 16 infoDrain rfl (by decide) wc.heap.size _ _ rfl HO1.out _ _ _ _ rfl HNW.out (by simp [dcl, Value.oneCell']) (i + 1) ((D.take i ++ [(⟨k, t⟩ : DR)]).map dcl) (by simp) (by have := HN.out; simp; omega) (by simp only [maxLen]; omega) (by omega) hS.size ?_; intro a12 c12 w12 how9 hg9 hp9; have t9 := (Touch.refl _ (fun k => wc.heap.size ≤ k)).grown hg9 (fun k hk _ => (HO1.out.own.lt k hk).1); have hS := hS.trans t9 (fun k h1 h2 => by first | exact h2.elim | (have h2 : wc.heap.size ≤ k := h2; omega)); refine ⟨hS, fun _ => ?_⟩; have HHD := Lib.hid (t9.keeps HHD.out (fun h => by have := heap_lt HR2.out.head; have h : wc.heap.size ≤ b := h; omega)); have HRW := Lib.hid (HRW.out.touch t9 (fun y hy => by rcases HR2.out.lt y hy with h | h; exact .inl (HN.out ▸ h); exact .inr (fun h2 => by have h2 : wc.heap.size ≤ y.block := h2; omega))); have HO2 := Lib.hid how9; clear how9 hg9 hp9 t9; (try simp only [Act.put, List.setIfInBounds_toArray, List.set_cons_zero, List.set_cons_succ]))
          refine walk3_one ?_
          (refine runN_appS 80 (.tmp 73) (.tmp 79) _ rfl rfl rfl (by rfl) 93 Tryz.underlying32 (.agg #[.int .i64 0, .int .i64 0]) 2 16 infoDrain rfl (by decide) wc.heap.size _ _ rfl HO2.out _ _ _ _ rfl (row_backD HRW.out i hi) (one_dclD _) (n + 1) ((D.take i ++ (⟨k, t⟩ : DR) :: D.drop i).map dcl) (by simp) (by have := HN.out; simp; omega) (by simp only [maxLen]; omega) (by omega) hS.size ?_; intro a19 c19 w19 how9 hg9 hp9; have t9 := (Touch.refl _ (fun k => wc.heap.size ≤ k)).grown hg9 (fun k hk _ => (HO2.out.own.lt k hk).1); have hS := hS.trans t9 (fun k h1 h2 => by first | exact h2.elim | (have h2 : wc.heap.size ≤ k := h2; omega)); refine ⟨hS, fun _ => ?_⟩; have HHD := Lib.hid (t9.keeps HHD.out (fun h => by have := heap_lt HR2.out.head; have h : wc.heap.size ≤ b := h; omega)); have HRW := Lib.hid (HRW.out.touch t9 (fun y hy => by rcases HR2.out.lt y hy with h | h; exact .inl (HN.out ▸ h); exact .inr (fun h2 => by have h2 : wc.heap.size ≤ y.block := h2; omega))); have HO3 := Lib.hid how9; clear how9 hg9 hp9 t9; (try simp only [Act.put, List.setIfInBounds_toArray, List.set_cons_zero, List.set_cons_succ]))
          refine walk3_take ?_
          (refine takeN_take (v := ?_) (some 81) rfl rfl (fun _ _ _ h => h) (by rfl) ?_ ?_; rotate_left; (focus (intro w' hw'; go_simp; (try with_reducible rfl))); (try simp only [Act.put, List.setIfInBounds_toArray, List.set_cons_zero, List.set_cons_succ]))
          refine walk3_take ?_
          (refine takeN_take (v := ?_) (some 82) rfl rfl (fun _ _ _ h => h) (by rfl) ?_ ?_; rotate_left; (focus (intro w' hw'; go_simp; (try with_reducible rfl))); (try simp only [Act.put, List.setIfInBounds_toArray, List.set_cons_zero, List.set_cons_succ]))
          refine walk3_one ?_
          (have cc := cell_of_cells HHD.out 0; have ff := free_of_cells HHD.out 0; refine runN_skip0 none rfl rfl (by rfl) (w' := World.setCell w19 ⟨b, 0, none⟩ (.slice a19 (n + 1) c19)) (by go_simp; (try with_reducible rfl)) ?_ ?_; (exact hS.setCell _ _ (fun _ => rfl)); clear cc ff; intro hS; (try simp only [Act.put, List.setIfInBounds_toArray, List.set_cons_zero, List.set_cons_succ]))
          refine walk3_fin ?_
          go_wp2_with fail
          all_goals (go_ret)
          all_goals exact ⟨rfl, by rw [HDL.out, HIN.out]; exact rd_end HR2.out HT2.out hS HHD.out HO3.out (by have := HN.out; simp; omega)⟩
end Go.Proofs.YtdhimlkndpiacaaGreat
