/- The reference's SameRecords of two rows of the same records. -/
import Derived.Test.YtdhimlkndpiacaaGreatStArgsZ
import Derived.Test.YtdhimlkndpiacaaGreatRecRSameZ
import Derived.Test.YtdhimlkndpiacaaGreatHDZ
import Derived.Test.YtdhimlkndpiacaaGreatHAZ
import Derived.Deep.DeepCutAuto
set_option linter.unusedVariables false
set_option linter.unusedSimpArgs false
namespace Go.Proofs.YtdhimlkndpiacaaGreat
open Go.RowKit

theorem enter_rsameRr (a b : Value) (w : World) : (callFunc 46 #[a, b]).run Tryz.prog w = .ok (.enter 46 #[a, b]) w := by kernel_rfl
set_option maxRecDepth 20000 in
set_option maxHeartbeats 8000000 in
theorem rsrecs_any (w : World) (a : Option Addr) (n c : Nat) (l : List RecB) (a2 : Option Addr) (c2 : Nat) (l2 : List RecB) (hr : RowRB w a n c l) (hr2 : RowRB w a2 n c2 l2) (hl : l.map RecB.r = l2.map RecB.r) (hb : ∀ y ∈ l, RowK w y.a y.r.bs.length y.c y.r.bs ∧ y.r.bs.length ≤ 100000) (hb2 : ∀ y ∈ l2, RowK w y.a y.r.bs.length y.c y.r.bs ∧ y.r.bs.length ≤ 100000) :
    Calls Tryz.prog 14 #[.slice a n c, .slice a2 n c2] w fun e w' => e = .returned (.bool true) ∧ Touch w w' (fun _ => False) := by
  have hl1 : l.length = n := by have := hr.hlen; simpa using this
  have hl2 : l2.length = n := by have := hr2.hlen; simpa using this
  have hcap := hr.hmax
  have hcap1 := hr.hcap
  have hcap2 := hr2.hcap
  have HR := Lib.hid hr
  have HR2 := Lib.hid hr2
  have HLL := Lib.hid (And.intro hl1 hl2)
  have HL := Lib.hid hl
  have HB := Lib.hid (And.intro hb hb2)
  have hbn : ((n : Int) != (n : Int)) = false := bne_eq_false_iff_eq.2 rfl
  clear hr hr2 hl1 hl2 hl hb hb2
  go_enter Tryz.func14, Tryz.ntmps14
  go_wp2_with fail
  go_loopw [13] (fun s13 wr => ∃ k : Nat, k ≤ n ∧ s13 = .int .i64 k ∧ Touch w wr (fun _ => False)) (fun s13 _ => n - (RowKit.intOf s13).toNat)
  case atStart => exact ⟨0, Nat.zero_le _, rfl, Touch.refl _ _⟩
  case round =>
    obtain ⟨k, hk, rfl, ht⟩ := hrel
    have HT := Lib.hid ht
    clear ht
    by_cases hlt : k < n
    case neg =>
      obtain rfl : n = k := by omega
      have hlI : ¬ (n : Int) < n := by omega
      go_wp2_with fail
      go_ret
      exact ⟨rfl, HT.out⟩
    case pos =>
      have hlI : (k : Int) < n := by omega
      have hq := HR.out.still HT.out
      have hq2 := HR2.out.still HT.out
      obtain ⟨g, off, rfl⟩ := hq.some (by omega)
      obtain ⟨g2, off2, rfl⟩ := hq2.some (by omega)
      have hk1 : k < l.length := by rw [HLL.out.1]; exact hlt
      have hk2 : k < l2.length := by rw [HLL.out.2]; exact hlt
      have hrr : (grb l k).r = (grb l2 k).r := by
        have h := congrArg (fun x => x[k]?) HL.out
        simp only [List.getElem?_map, List.getElem?_eq_getElem hk1, List.getElem?_eq_getElem hk2, Option.map_some, Option.some.injEq] at h
        rw [grb_get l k hk1, grb_get l2 k hk2] at h
        exact h
      have HB1 := Lib.hid (HB.out.1 _ (grb_mem l k hk1))
      have HB2 := Lib.hid (HB.out.2 _ (grb_mem l2 k hk2))
      have HD : RowKit.Hid (∀ W, Touch wr W (fun _ => False) → _) := Lib.hid (fun W t => recB_cells (RowS.still hq t) k hk1)
      have HE : RowKit.Hid (∀ W, Touch wr W (fun _ => False) → _) := Lib.hid (fun W t => recB_cells (RowS.still hq2 t) k hk2)
      obtain ⟨y, hy⟩ : ∃ y, grb l k = y := ⟨_, rfl⟩
      obtain ⟨z, hz⟩ : ∃ z, grb l2 k = z := ⟨_, rfl⟩
      rw [hy] at HB1 HD hrr
      rw [hz] at HB2 HE hrr
      have HSM : RowKit.Hid (∀ W, Touch wr W (fun _ => False) → Calls Tryz.prog 46 #[.agg (rcs y.r y.a y.c), .agg (rcs z.r z.a z.c)] W fun e w' => e = .returned (.bool true) ∧ Touch W w' (fun _ => False)) := Lib.hid (fun W t => by
        have h := rsame_any y.r y.a y.c z.r z.a z.c W ((HB1.out.1.still HT.out).still t) HB1.out.2 ((HB2.out.1.still HT.out).still t) HB2.out.2
        have hs : sameR y.r z.r = true := by rw [hrr]; exact (sameR_iff _ _).2 rfl
        rw [hs] at h
        exact h)
      simp only [rcs] at HSM
      clear hy hz hrr hq hq2 hk1 hk2
      have hS0 : RowKit.Hid (Touch wr wr (fun _ => False)) := Lib.hid (Touch.refl _ _)
      go_upto_region 6 with (fail)
      have hS := (Touch.refl wr (fun _ => False)).drew
      refine wp_region_sched (fun w' => Touch wr w' (fun _ => False)) [(0, true), (1, true), (2, true), (3, true), (4, true), (5, true), (6, true), (7, true), (8, false), (9, true)] (by kernel_rfl) (by kernel_rfl) rfl (by kernel_rfl) hS ?_
      (refine walkS_take (v := ?_) (some 16) rfl rfl (fun _ _ _ h => h) (by rfl) ?_ ?_; rotate_left; (focus (intro w' hw'; go_simp; (try with_reducible rfl))); (try simp only [Act.put, List.setIfInBounds_toArray, List.set_cons_zero, List.set_cons_succ]))
      (refine walkS_take (v := ?_) (some 17) rfl rfl (fun _ _ _ h => h) (by rfl) ?_ ?_; rotate_left; (focus (intro w' hw'; go_simp; (try with_reducible rfl))); (try simp only [Act.put, List.setIfInBounds_toArray, List.set_cons_zero, List.set_cons_succ]))
      (refine walkS_take (v := ?_) (some 18) rfl rfl (fun _ _ _ h => h) (by rfl) ?_ ?_; rotate_left; (focus (intro w' hw'; go_simp; (try with_reducible rfl))); (try simp only [Act.put, List.setIfInBounds_toArray, List.set_cons_zero, List.set_cons_succ]))
      (refine walkS_take (v := ?_) (some 19) rfl rfl (fun _ _ _ h => h) (by rfl) ?_ ?_; rotate_left; (focus (intro w' hw'; obtain ⟨d0, d1, d2, d3, d4, d5, d6, d7, d8, d9, d10, d11, d12, d13⟩ := HD.out w' hw'; go_simp; (try with_reducible rfl))); (try simp only [Act.put, List.setIfInBounds_toArray, List.set_cons_zero, List.set_cons_succ]))
      (refine walkS_take (v := ?_) (some 20) rfl rfl (fun _ _ _ h => h) (by rfl) ?_ ?_; rotate_left; (focus (intro w' hw'; go_simp; (try with_reducible rfl))); (try simp only [Act.put, List.setIfInBounds_toArray, List.set_cons_zero, List.set_cons_succ]))
      (refine walkS_take (v := ?_) (some 21) rfl rfl (fun _ _ _ h => h) (by rfl) ?_ ?_; rotate_left; (focus (intro w' hw'; go_simp; (try with_reducible rfl))); (try simp only [Act.put, List.setIfInBounds_toArray, List.set_cons_zero, List.set_cons_succ]))
      (refine walkS_take (v := ?_) (some 22) rfl rfl (fun _ _ _ h => h) (by rfl) ?_ ?_; rotate_left; (focus (intro w' hw'; go_simp; (try with_reducible rfl))); (try simp only [Act.put, List.setIfInBounds_toArray, List.set_cons_zero, List.set_cons_succ]))
      (refine walkS_take (v := ?_) (some 23) rfl rfl (fun _ _ _ h => h) (by rfl) ?_ ?_; rotate_left; (focus (intro w' hw'; obtain ⟨e0, e1, e2, e3, e4, e5, e6, e7, e8, e9, e10, e11, e12, e13⟩ := HE.out w' hw'; go_simp; (try with_reducible rfl))); (try simp only [Act.put, List.setIfInBounds_toArray, List.set_cons_zero, List.set_cons_succ]))
      (refine walkS_call 24 _ _ _ _ ((HSM.out _ hS)) rfl rfl rfl (by rfl) rfl (enter_rsameRr _ _ _) ?_; rintro e w' ⟨rfl, t⟩; have hS := hS.trans t (fun _ _ h => h); clear t; refine ⟨_, rfl, hS, fun hS => ?_⟩; (try simp only [Act.put, List.setIfInBounds_toArray, List.set_cons_zero, List.set_cons_succ]))
      (refine walkS_take (v := ?_) (some 25) rfl rfl (fun _ _ _ h => h) (by rfl) ?_ ?_; rotate_left; (focus (intro w' hw'; go_simp; (try with_reducible rfl))); (try simp only [Act.put, List.setIfInBounds_toArray, List.set_cons_zero, List.set_cons_succ]))
      refine walkS_done ?_
      have HX : RowKit.Hid (∀ W, Touch wr W (fun _ => False) → Touch w W (fun _ => False)) := Lib.hid (fun W t => HT.out.trans t (fun _ _ h => h))
      have HS := Lib.hid (HX.out _ hS)
      clear hS
      go_wp2_with fail
      go_roundw
      · exact ⟨k + 1, by omega, by go_num, HS.out⟩
      · simp only [RowKit.intOf]; omega
end Go.Proofs.YtdhimlkndpiacaaGreat
