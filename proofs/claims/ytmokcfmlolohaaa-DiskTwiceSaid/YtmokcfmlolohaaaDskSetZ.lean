/- Changes of names are made sure. -/
import Derived.Test.YtmokcfmlolohaaaDskChgZ
set_option linter.unusedVariables false
set_option linter.unusedSimpArgs false
namespace Go.Proofs.Ytmokcfmlolohaaa
open Go.RowKit

theorem enter_dsettle (a b : Value) (w : World) : (callFunc 47 #[a, b]).run Try.prog w = .ok (.enter 47 #[a, b]) w := by kernel_rfl
set_option maxRecDepth 20000 in
set_option maxHeartbeats 8000000 in
theorem dsettle_any (w : World) (d : Nat) (h : DkH) (st : DkS) (m : DkM w d h st) (n : Nat) (hn : n ≤ st.C.length) (hCl : st.C.length ≤ 200000) :
    Calls Try.prog 47 #[.pointer (some ⟨d, 0, none⟩), .int .i64 n] w fun e w' => e = .returned (.tuple #[]) ∧ OwnN w' h.ms (dkAll st.S (st.C.take n)) ∧ Touch w w' (fun k => k = d ∨ k = h.ms) ∧
      w'.heap[d]? = some (.cells #[.int .i64 st.q, .map (some h.mn), .map (some h.ms), .slice none 0 0, .int .i64 st.ops, .int .i64 st.fail] 65 (0, 0)) := by
  obtain ⟨c0, c1, c2, c3, c4, c5⟩ := m.cells
  have hdm : d ≠ h.ms := fun e => by have h1 := m.td; rw [e, m.ts] at h1; cases h1
  have hcm : ∀ x, h.ac = some x → x.block ≠ h.ms := fun x hx e => by
    have h1 := m.tc x hx
    rw [e, m.ts] at h1; cases h1
  obtain ⟨-, hr, -⟩ := m.ch.row'
  have hcap := hr.hcap
  have hmax := hr.hmax
  have HM := Lib.hid m
  have HR := Lib.hid hr
  have HCM := Lib.hid hcm
  have HDM := Lib.hid hdm
  have HN := Lib.hid hn
  obtain ⟨N, hN⟩ : ∃ N, st.C.length = N := ⟨_, rfl⟩
  have HNN := Lib.hid hN
  rw [hN] at c3 hcap hCl hn
  have i1 : (n : Int) ≤ (h.cc : Int) := by omega
  clear m hr hcm hdm c0 c1 c4 c5 hN
  go_enter Try.func47, Try.ntmps47
  go_wp2_with fail
  go_loopw [13] (fun s13 wr => ∃ k : Nat, k ≤ n ∧ s13 = .int .i64 k ∧ OwnN wr h.ms (dkAll st.S (st.C.take k)) ∧ Touch w wr (fun x => x = h.ms)) (fun s13 _ => n - (RowKit.intOf s13).toNat)
  case atStart => exact ⟨0, Nat.zero_le _, rfl, HM.out.sm, Touch.refl _ _⟩
  case round =>
    obtain ⟨k, hk, rfl, ho, ht⟩ := hrel
    have HSM := Lib.hid ho
    have HT := Lib.hid ht
    clear ho ht c2 c3
    by_cases hlt : k < n
    case neg =>
      obtain rfl : n = k := by omega
      have hd := HT.out.keeps HM.out.head HDM.out
      have x3 := cell_of_cells hd 3
      have f3 := free_of_cells hd 3
      obtain ⟨W9, hW9⟩ : ∃ W, wr.setCell ⟨d, 3, none⟩ (.slice none 0 0) = W := ⟨_, rfl⟩
      have g9 := heap_setCell_same wr d 3 _ _ (.slice none 0 0) hd
      rw [hW9] at g9
      have t9 : Touch wr W9 (fun k => k = d) := hW9 ▸ (Touch.refl wr _).into 3 _
      have HR9 : RowKit.Hid (OwnN W9 h.ms (dkAll st.S (st.C.take n)) ∧ Touch w W9 (fun k => k = d ∨ k = h.ms) ∧ W9.heap[d]? = some (.cells #[.int .i64 st.q, .map (some h.mn), .map (some h.ms), .slice none 0 0, .int .i64 st.ops, .int .i64 st.fail] 65 (0, 0))) := Lib.hid
        ⟨HSM.out.touch t9 (fun e => HDM.out e.symm), (HT.out.mono (T := fun k => k = d ∨ k = h.ms) (fun _ _ e => .inr e)).trans t9 (fun _ _ e => .inl e), g9⟩
      clear hd g9 t9
      go_wp2_with fail
      go_end0
      exact ⟨rfl, HR9.out⟩
    case pos =>
      have hlI : (k : Int) < n := by omega
      have hkN : k < st.C.length := Nat.lt_of_lt_of_le hlt HN.out
      have hr := HR.out.touch HT.out (fun x hx => .inr (fun e => HCM.out x hx e))
      obtain ⟨b, off, hac⟩ := hr.some (by omega)
      have hkL : k < (st.C.map dkl).length := by simpa using hkN
      rw [hac] at hr
      have e0 : (st.C.map dkl)[k] = dkl st.C[k] := by simp
      have p0 := RowS.cell hr k hkL 0 (.int .i64 st.C[k].k) (by rw [e0]; rfl)
      have p1 := RowS.cell hr k hkL 1 (.string st.C[k].n) (by rw [e0]; rfl)
      have p2 := RowS.cell hr k hkL 2 (.string st.C[k].tn) (by rw [e0]; rfl)
      have p3 := RowS.cell hr k hkL 3 (pvN st.C[k].f) (by rw [e0]; rfl)
      rw [Nat.add_zero] at p0
      have hch := HM.out.chok st.C[k] (List.getElem_mem hkN)
      have hkk : st.C[k].k = 0 ∨ st.C[k].k = 1 ∨ st.C[k].k = 2 := HM.out.kinds _ (List.getElem_mem hkN)
      have hgood := HM.out.good k (by omega)
      have hnext : dkAll st.S (st.C.take (k + 1)) = dkDo (dkAll st.S (st.C.take k)) st.C[k] := by
        rw [List.take_succ_eq_append_getElem hkN, dkAll_snoc]
      obtain ⟨c, hc⟩ : ∃ c, st.C[k] = c := ⟨_, rfl⟩
      rw [hc] at p0 p1 p2 p3 hch hkk hnext
      have HNX := Lib.hid hnext
      have HDO : RowKit.Hid (∀ W, OwnN W h.ms (dkAll st.S (st.C.take k)) → Calls Try.prog 67 #[.map (some h.ms), .agg (dka c)] W fun e w' => e = .returned (.tuple #[]) ∧ OwnN w' h.ms (dkDo (dkAll st.S (st.C.take k)) c) ∧ Touch W w' (fun k => k = h.ms)) := Lib.hid (fun W o => ddo_any W h.ms _ c o (by have := hgood.len; omega) hch.1 hch.2 hkk)
      obtain ⟨W4, hW4⟩ : ∃ W, wr.alloc (.cells (dka c) 88) = W := ⟨_, rfl⟩
      obtain ⟨B4, hB4⟩ : ∃ B, wr.heap.size = B := ⟨_, rfl⟩
      have g4 : W4.heap[B4]? = some (.cells (dka c) 88 (0, 0)) := hB4 ▸ hW4 ▸ heap_alloc_new ..
      have t4 : Touch wr W4 (fun _ => False) := hW4 ▸ (Touch.refl wr _).alloc _
      have HT4 := Lib.hid (HT.out.trans t4 (fun _ _ h => h.elim))
      have HB4S : RowKit.Hid (∀ W, Touch W4 W (fun k => k = h.ms) → W.heap[B4]? = some (.cells (dka c) 88 (0, 0))) := Lib.hid (fun W t => t.keeps g4 (fun e => by have e : B4 = h.ms := e; have := HSM.out.lt; omega))
      have HC2 : RowKit.Hid (∀ W, Touch W4 W (fun k => k = h.ms) → W.cell? ⟨d, 2, none⟩ = some (.map (some h.ms))) := Lib.hid (fun W t => cell_of_cells (t.keeps (t4.keeps (HT.out.keeps HM.out.head HDM.out) (fun h => h)) HDM.out) 2)
      have HSM := Lib.hid (HSM.out.still t4)
      have hwk : wrap64 ((k : Int) + 1) = (k : Int) + 1 := by unfold wrap64; omega
      have HWK := Lib.hid hwk
      have HW4 := Lib.hid hW4
      have HB4 := Lib.hid hB4
      obtain ⟨ck, cn, cm, cf⟩ := c
      simp only at p0 p1 p2 p3
      simp only [dka, pvN] at HW4 p3
      obtain ⟨xf, hxf⟩ : ∃ x, cf.map (fun b => (⟨b, 0, none⟩ : Addr)) = x := ⟨_, rfl⟩
      rw [hxf] at HW4 p3
      rw [hac]
      clear hr e0 hch hkk hgood hnext hc g4 t4 hW4 hB4 hwk hkL
      go_upto_region 3 with (fail)
      rw [HW4.out, HB4.out]
      obtain ⟨c, hc⟩ : ∃ c : DkCh, c = ⟨ck, cn, cm, cf⟩ := ⟨_, rfl⟩
      rw [← hc] at HB4S HDO HNX
      clear p0 p1 p2 p3 HW4
      have hS := (Touch.refl W4 (fun k => k = h.ms)).drew
      refine wp_region_sched (fun w' => Touch W4 w' (fun k => k = h.ms)) [(0, true), (1, true), (2, true), (3, true), (4, true), (5, false)] (by kernel_rfl) (by kernel_rfl) rfl (by kernel_rfl) hS ?_
      (refine walkS_take (v := ?_) (some 17) rfl rfl (fun _ _ _ h => h) (by rfl) ?_ ?_; rotate_left; (focus (intro w' hw'; have y2 := HC2.out w' hw'; go_simp; (try with_reducible rfl))); (try simp only [Act.put, List.setIfInBounds_toArray, List.set_cons_zero, List.set_cons_succ]))
      (refine walkS_take (v := ?_) (some 18) rfl rfl (fun _ _ _ h => h) (by rfl) ?_ ?_; rotate_left; (focus (intro w' hw'; have y2 := HC2.out w' hw'; go_simp; (try with_reducible rfl))); (try simp only [Act.put, List.setIfInBounds_toArray, List.set_cons_zero, List.set_cons_succ]))
      (refine walkS_take (v := ?_) (some 19) rfl rfl (fun _ _ _ h => h) (by rfl) ?_ ?_; rotate_left; (focus (intro w' hw'; have y2 := HC2.out w' hw'; go_simp; (try with_reducible rfl))); (try simp only [Act.put, List.setIfInBounds_toArray, List.set_cons_zero, List.set_cons_succ]))
      (refine walkS_take (v := ?_) (some 20) rfl rfl (fun _ _ _ h => h) (by rfl) ?_ ?_; rotate_left; (focus (intro w' hw'; have y2 := HC2.out w' hw'; go_simp; (try with_reducible rfl))); (try simp only [Act.put, List.setIfInBounds_toArray, List.set_cons_zero, List.set_cons_succ]))
      (refine walkS_row (some 21) rfl rfl 88 (.tmp 5) rfl (B4) rfl _ _ _ _ (fun w' h => HB4S.out w' h) Try.underlying88 rfl infoChange (fun _ _ _ h => h) (by rfl) ?_; (try simp only [Act.put, List.setIfInBounds_toArray, List.set_cons_zero, List.set_cons_succ]))
      (refine walkS_call 22 _ _ _ _ (HDO.out _ (HSM.out.still ((Touch.refl W4 (fun _ => False)).drew))) rfl rfl rfl (by rfl) rfl (enter_ddo _ _ _) ?_; rintro e w5 ⟨rfl, o5, t5⟩; have HSM := Lib.hid o5; have HT5 := Lib.hid (((Touch.refl W4 (fun k => k = h.ms)).drew).trans t5 (fun _ _ h => h)); refine ⟨_, rfl, hS.trans t5 (fun _ _ h => h), fun hS => ?_⟩; clear o5 t5; (try simp only [Act.put, List.setIfInBounds_toArray, List.set_cons_zero, List.set_cons_succ]))
      refine walkS_done ?_
      have HX : RowKit.Hid (∃ k' : Nat, k' ≤ n ∧ Value.int .i64 ((k : Int) + 1) = .int .i64 k' ∧ OwnN w5 h.ms (dkAll st.S (st.C.take k')) ∧ Touch w w5 (fun x => x = h.ms)) := Lib.hid ⟨k + 1, by omega, by go_num, by rw [HNX.out]; exact HSM.out, HT4.out.trans HT5.out (fun _ _ h => h)⟩
      go_wp2_with fail
      go_roundw
      · exact HX.out
      · simp only [RowKit.intOf]; omega
end Go.Proofs.Ytmokcfmlolohaaa
