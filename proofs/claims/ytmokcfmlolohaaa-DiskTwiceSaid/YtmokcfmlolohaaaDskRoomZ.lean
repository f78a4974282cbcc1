/- Whether there is room in a file. -/
import Derived.Test.YtmokcfmlolohaaaDskSizeZ
set_option linter.unusedVariables false
set_option linter.unusedSimpArgs false
namespace Go.Proofs.Ytmokcfmlolohaaa
open Go.RowKit

def dkRoom (st : DkS) (o : Option Nat) (n : Nat) : Bool :=
  decide ((dkSz st : Int) + n ≤ st.q) && (match o with
    | none => decide (n ≤ 1048576) && decide (st.N.length < 200)
    | some g => decide ((st.F g).b.length + n ≤ 1048576))
theorem enter_dsize (a : Value) (w : World) : (callFunc 30 #[a]).run Try.prog w = .ok (.enter 30 #[a]) w := by kernel_rfl
set_option maxRecDepth 20000 in
set_option maxHeartbeats 8000000 in
theorem droom_any (w : World) (d : Nat) (h : DkH) (st : DkS) (m : DkM w d h st) (o : Option Nat) (ho : ∀ g, o = some g → h.T g = .fb) (n : Nat) (hn : n ≤ 281474976710656) :
    Calls Try.prog 55 #[.pointer (some ⟨d, 0, none⟩), pvN o, .int .i64 n] w fun e w' => e = .returned (.bool (dkRoom st o n)) ∧ Touch w w' (fun _ => False) := by
  have HM := Lib.hid m
  have HSZ := Lib.hid (fun W (t : Touch w W (fun _ => False)) => dsize_any W d h st (HM.out.still t))
  have HC := Lib.hid (fun W (t : Touch w W (fun _ => False)) => (HM.out.still t).cells.1)
  have hsz := m.sz
  obtain ⟨z, hz⟩ : ∃ z, dkSz st = z := ⟨_, rfl⟩
  obtain ⟨q, hq⟩ : ∃ q, st.q = q := ⟨_, rfl⟩
  obtain ⟨L, hL⟩ : ∃ L, st.N.length = L := ⟨_, rfl⟩
  unfold dkRoom
  rw [hz] at hsz HSZ
  rw [hq] at HC
  rw [hz, hq, hL]
  have hwz : IntKind.i64.wrap ((z : Int) + n) = (z : Int) + n := IntWalk.i64_in _ (by omega)
  have HWZ := Lib.hid hwz
  have HO := Lib.hid ho
  have HLN := Lib.hid hL
  have hL9 : L ≤ 200 := by have := m.goodN.len; omega
  clear m hz hq hL hwz ho
  by_cases h1 : (z : Int) + n ≤ q
  case neg =>
    have e : decide ((z : Int) + n ≤ q) = false := decide_eq_false h1
    rw [e, Bool.false_and]
    clear e
    have h2 : q < IntKind.i64.wrap ((z : Int) + n) := by rw [HWZ.out]; omega
    go_enter Try.func55, Try.ntmps55
    go_upto_region 1 with (fail)
    have hS := (Touch.refl w (fun _ => False)).drew
    refine wp_region_sched (fun w' => Touch w w' (fun _ => False)) [(0, true), (2, true), (4, true), (5, true), (6, true), (7, true), (1, false), (3, true), (8, true)] (by kernel_rfl) (by kernel_rfl) rfl (by kernel_rfl) hS ?_
    (refine walkS_take (v := ?_) (some 7) rfl rfl (fun _ _ _ h => h) (by rfl) ?_ ?_; rotate_left; (focus (intro w' hw'; have y0 := HC.out w' hw'; go_simp; (try with_reducible rfl))); (try simp only [Act.put, List.setIfInBounds_toArray, List.set_cons_zero, List.set_cons_succ]))
    (refine walkS_take (v := ?_) (some 9) rfl rfl (fun _ _ _ h => h) (by rfl) ?_ ?_; rotate_left; (focus (intro w' hw'; have y0 := HC.out w' hw'; go_simp; (try with_reducible rfl))); (try simp only [Act.put, List.setIfInBounds_toArray, List.set_cons_zero, List.set_cons_succ]))
    (refine walkS_take (v := ?_) (some 11) rfl rfl (fun _ _ _ h => h) (by rfl) ?_ ?_; rotate_left; (focus (intro w' hw'; have y0 := HC.out w' hw'; go_simp; (try with_reducible rfl))); (try simp only [Act.put, List.setIfInBounds_toArray, List.set_cons_zero, List.set_cons_succ]))
    (refine walkS_take (v := ?_) (some 12) rfl rfl (fun _ _ _ h => h) (by rfl) ?_ ?_; rotate_left; (focus (intro w' hw'; have y0 := HC.out w' hw'; go_simp; (try with_reducible rfl))); (try simp only [Act.put, List.setIfInBounds_toArray, List.set_cons_zero, List.set_cons_succ]))
    (refine walkS_take (v := ?_) (some 13) rfl rfl (fun _ _ _ h => h) (by rfl) ?_ ?_; rotate_left; (focus (intro w' hw'; have y0 := HC.out w' hw'; go_simp; (try with_reducible rfl))); (try simp only [Act.put, List.setIfInBounds_toArray, List.set_cons_zero, List.set_cons_succ]))
    (refine walkS_take (v := ?_) (some 14) rfl rfl (fun _ _ _ h => h) (by rfl) ?_ ?_; rotate_left; (focus (intro w' hw'; have y0 := HC.out w' hw'; go_simp; (try with_reducible rfl))); (try simp only [Act.put, List.setIfInBounds_toArray, List.set_cons_zero, List.set_cons_succ]))
    (refine walkS_call 8 _ _ _ _ (HSZ.out _ hS) rfl rfl rfl (by rfl) rfl (enter_dsize _ _) ?_; rintro e w2 ⟨rfl, t2⟩; have HT2 := Lib.hid (hS.trans t2 (fun _ _ h => h)); refine ⟨_, rfl, HT2.out, fun hS => ?_⟩; clear t2; (try simp only [Act.put, List.setIfInBounds_toArray, List.set_cons_zero, List.set_cons_succ]))
    (refine walkS_take (v := ?_) (some 10) rfl rfl (fun _ _ _ h => h) (by rfl) ?_ ?_; rotate_left; (focus (intro w' hw'; have y0 := HC.out w' hw'; go_simp; (try with_reducible rfl))); (try simp only [Act.put, List.setIfInBounds_toArray, List.set_cons_zero, List.set_cons_succ]))
    (refine walkS_take (v := ?_) (some 15) rfl rfl (fun _ _ _ h => h) (by rfl) ?_ ?_; rotate_left; (focus (intro w' hw'; have y0 := HC.out w' hw'; go_simp; (try with_reducible rfl))); (try simp only [Act.put, List.setIfInBounds_toArray, List.set_cons_zero, List.set_cons_succ]))
    refine walkS_done ?_
    go_wp2_with fail
    go_ret
    exact ⟨rfl, HT2.out⟩
  case pos =>
    have e : decide ((z : Int) + n ≤ q) = true := decide_eq_true h1
    rw [e, Bool.true_and]
    clear e
    have h2 : ¬ q < IntKind.i64.wrap ((z : Int) + n) := by rw [HWZ.out]; omega
    cases o with
    | none =>
      simp only [pvN, Option.map_none]
      by_cases h3 : n ≤ 1048576
      · have h4 : (n : Int) ≤ 1048576 := by omega
        rw [decide_eq_true h3, Bool.true_and]
        by_cases h5 : L < 200
        · have h6 : (L : Int) < 200 := by omega
          rw [decide_eq_true h5]
          go_enter Try.func55, Try.ntmps55
          go_upto_region 1 with (fail)
          have hS := (Touch.refl w (fun _ => False)).drew
          refine wp_region_sched (fun w' => Touch w w' (fun _ => False)) [(0, true), (2, true), (4, true), (5, true), (6, true), (7, true), (1, false), (3, true), (8, true)] (by kernel_rfl) (by kernel_rfl) rfl (by kernel_rfl) hS ?_
          (refine walkS_take (v := ?_) (some 7) rfl rfl (fun _ _ _ h => h) (by rfl) ?_ ?_; rotate_left; (focus (intro w' hw'; have y0 := HC.out w' hw'; go_simp; (try with_reducible rfl))); (try simp only [Act.put, List.setIfInBounds_toArray, List.set_cons_zero, List.set_cons_succ]))
          (refine walkS_take (v := ?_) (some 9) rfl rfl (fun _ _ _ h => h) (by rfl) ?_ ?_; rotate_left; (focus (intro w' hw'; have y0 := HC.out w' hw'; go_simp; (try with_reducible rfl))); (try simp only [Act.put, List.setIfInBounds_toArray, List.set_cons_zero, List.set_cons_succ]))
          (refine walkS_take (v := ?_) (some 11) rfl rfl (fun _ _ _ h => h) (by rfl) ?_ ?_; rotate_left; (focus (intro w' hw'; have y0 := HC.out w' hw'; go_simp; (try with_reducible rfl))); (try simp only [Act.put, List.setIfInBounds_toArray, List.set_cons_zero, List.set_cons_succ]))
          (refine walkS_take (v := ?_) (some 12) rfl rfl (fun _ _ _ h => h) (by rfl) ?_ ?_; rotate_left; (focus (intro w' hw'; have y0 := HC.out w' hw'; go_simp; (try with_reducible rfl))); (try simp only [Act.put, List.setIfInBounds_toArray, List.set_cons_zero, List.set_cons_succ]))
          (refine walkS_take (v := ?_) (some 13) rfl rfl (fun _ _ _ h => h) (by rfl) ?_ ?_; rotate_left; (focus (intro w' hw'; have y0 := HC.out w' hw'; go_simp; (try with_reducible rfl))); (try simp only [Act.put, List.setIfInBounds_toArray, List.set_cons_zero, List.set_cons_succ]))
          (refine walkS_take (v := ?_) (some 14) rfl rfl (fun _ _ _ h => h) (by rfl) ?_ ?_; rotate_left; (focus (intro w' hw'; have y0 := HC.out w' hw'; go_simp; (try with_reducible rfl))); (try simp only [Act.put, List.setIfInBounds_toArray, List.set_cons_zero, List.set_cons_succ]))
          (refine walkS_call 8 _ _ _ _ (HSZ.out _ hS) rfl rfl rfl (by rfl) rfl (enter_dsize _ _) ?_; rintro e w2 ⟨rfl, t2⟩; have HT2 := Lib.hid (hS.trans t2 (fun _ _ h => h)); refine ⟨_, rfl, HT2.out, fun hS => ?_⟩; clear t2; (try simp only [Act.put, List.setIfInBounds_toArray, List.set_cons_zero, List.set_cons_succ]))
          (refine walkS_take (v := ?_) (some 10) rfl rfl (fun _ _ _ h => h) (by rfl) ?_ ?_; rotate_left; (focus (intro w' hw'; have y0 := HC.out w' hw'; go_simp; (try with_reducible rfl))); (try simp only [Act.put, List.setIfInBounds_toArray, List.set_cons_zero, List.set_cons_succ]))
          (refine walkS_take (v := ?_) (some 15) rfl rfl (fun _ _ _ h => h) (by rfl) ?_ ?_; rotate_left; (focus (intro w' hw'; have y0 := HC.out w' hw'; go_simp; (try with_reducible rfl))); (try simp only [Act.put, List.setIfInBounds_toArray, List.set_cons_zero, List.set_cons_succ]))
          refine walkS_done ?_
          have hm2 := HM.out.still HT2.out
          obtain ⟨-, y1, -, -, -, -⟩ := hm2.cells
          have hlen := hm2.nm.len 3
          rw [HLN.out] at hlen
          clear hm2
          go_wp2_with fail
          go_ret
          exact ⟨rfl, HT2.out⟩
        · have h6 : ¬ (L : Int) < 200 := by omega
          rw [decide_eq_false h5]
          go_enter Try.func55, Try.ntmps55
          go_upto_region 1 with (fail)
          have hS := (Touch.refl w (fun _ => False)).drew
          refine wp_region_sched (fun w' => Touch w w' (fun _ => False)) [(0, true), (2, true), (4, true), (5, true), (6, true), (7, true), (1, false), (3, true), (8, true)] (by kernel_rfl) (by kernel_rfl) rfl (by kernel_rfl) hS ?_
          (refine walkS_take (v := ?_) (some 7) rfl rfl (fun _ _ _ h => h) (by rfl) ?_ ?_; rotate_left; (focus (intro w' hw'; have y0 := HC.out w' hw'; go_simp; (try with_reducible rfl))); (try simp only [Act.put, List.setIfInBounds_toArray, List.set_cons_zero, List.set_cons_succ]))
          (refine walkS_take (v := ?_) (some 9) rfl rfl (fun _ _ _ h => h) (by rfl) ?_ ?_; rotate_left; (focus (intro w' hw'; have y0 := HC.out w' hw'; go_simp; (try with_reducible rfl))); (try simp only [Act.put, List.setIfInBounds_toArray, List.set_cons_zero, List.set_cons_succ]))
          (refine walkS_take (v := ?_) (some 11) rfl rfl (fun _ _ _ h => h) (by rfl) ?_ ?_; rotate_left; (focus (intro w' hw'; have y0 := HC.out w' hw'; go_simp; (try with_reducible rfl))); (try simp only [Act.put, List.setIfInBounds_toArray, List.set_cons_zero, List.set_cons_succ]))
          (refine walkS_take (v := ?_) (some 12) rfl rfl (fun _ _ _ h => h) (by rfl) ?_ ?_; rotate_left; (focus (intro w' hw'; have y0 := HC.out w' hw'; go_simp; (try with_reducible rfl))); (try simp only [Act.put, List.setIfInBounds_toArray, List.set_cons_zero, List.set_cons_succ]))
          (refine walkS_take (v := ?_) (some 13) rfl rfl (fun _ _ _ h => h) (by rfl) ?_ ?_; rotate_left; (focus (intro w' hw'; have y0 := HC.out w' hw'; go_simp; (try with_reducible rfl))); (try simp only [Act.put, List.setIfInBounds_toArray, List.set_cons_zero, List.set_cons_succ]))
          (refine walkS_take (v := ?_) (some 14) rfl rfl (fun _ _ _ h => h) (by rfl) ?_ ?_; rotate_left; (focus (intro w' hw'; have y0 := HC.out w' hw'; go_simp; (try with_reducible rfl))); (try simp only [Act.put, List.setIfInBounds_toArray, List.set_cons_zero, List.set_cons_succ]))
          (refine walkS_call 8 _ _ _ _ (HSZ.out _ hS) rfl rfl rfl (by rfl) rfl (enter_dsize _ _) ?_; rintro e w2 ⟨rfl, t2⟩; have HT2 := Lib.hid (hS.trans t2 (fun _ _ h => h)); refine ⟨_, rfl, HT2.out, fun hS => ?_⟩; clear t2; (try simp only [Act.put, List.setIfInBounds_toArray, List.set_cons_zero, List.set_cons_succ]))
          (refine walkS_take (v := ?_) (some 10) rfl rfl (fun _ _ _ h => h) (by rfl) ?_ ?_; rotate_left; (focus (intro w' hw'; have y0 := HC.out w' hw'; go_simp; (try with_reducible rfl))); (try simp only [Act.put, List.setIfInBounds_toArray, List.set_cons_zero, List.set_cons_succ]))
          (refine walkS_take (v := ?_) (some 15) rfl rfl (fun _ _ _ h => h) (by rfl) ?_ ?_; rotate_left; (focus (intro w' hw'; have y0 := HC.out w' hw'; go_simp; (try with_reducible rfl))); (try simp only [Act.put, List.setIfInBounds_toArray, List.set_cons_zero, List.set_cons_succ]))
          refine walkS_done ?_
          have hm2 := HM.out.still HT2.out
          obtain ⟨-, y1, -, -, -, -⟩ := hm2.cells
          have hlen := hm2.nm.len 3
          rw [HLN.out] at hlen
          clear hm2
          go_wp2_with fail
          go_ret
          exact ⟨rfl, HT2.out⟩
      · have h4 : ¬ (n : Int) ≤ 1048576 := by omega
        rw [decide_eq_false h3, Bool.false_and]
        go_enter Try.func55, Try.ntmps55
        go_upto_region 1 with (fail)
        have hS := (Touch.refl w (fun _ => False)).drew
        refine wp_region_sched (fun w' => Touch w w' (fun _ => False)) [(0, true), (2, true), (4, true), (5, true), (6, true), (7, true), (1, false), (3, true), (8, true)] (by kernel_rfl) (by kernel_rfl) rfl (by kernel_rfl) hS ?_
        (refine walkS_take (v := ?_) (some 7) rfl rfl (fun _ _ _ h => h) (by rfl) ?_ ?_; rotate_left; (focus (intro w' hw'; have y0 := HC.out w' hw'; go_simp; (try with_reducible rfl))); (try simp only [Act.put, List.setIfInBounds_toArray, List.set_cons_zero, List.set_cons_succ]))
        (refine walkS_take (v := ?_) (some 9) rfl rfl (fun _ _ _ h => h) (by rfl) ?_ ?_; rotate_left; (focus (intro w' hw'; have y0 := HC.out w' hw'; go_simp; (try with_reducible rfl))); (try simp only [Act.put, List.setIfInBounds_toArray, List.set_cons_zero, List.set_cons_succ]))
        (refine walkS_take (v := ?_) (some 11) rfl rfl (fun _ _ _ h => h) (by rfl) ?_ ?_; rotate_left; (focus (intro w' hw'; have y0 := HC.out w' hw'; go_simp; (try with_reducible rfl))); (try simp only [Act.put, List.setIfInBounds_toArray, List.set_cons_zero, List.set_cons_succ]))
        (refine walkS_take (v := ?_) (some 12) rfl rfl (fun _ _ _ h => h) (by rfl) ?_ ?_; rotate_left; (focus (intro w' hw'; have y0 := HC.out w' hw'; go_simp; (try with_reducible rfl))); (try simp only [Act.put, List.setIfInBounds_toArray, List.set_cons_zero, List.set_cons_succ]))
        (refine walkS_take (v := ?_) (some 13) rfl rfl (fun _ _ _ h => h) (by rfl) ?_ ?_; rotate_left; (focus (intro w' hw'; have y0 := HC.out w' hw'; go_simp; (try with_reducible rfl))); (try simp only [Act.put, List.setIfInBounds_toArray, List.set_cons_zero, List.set_cons_succ]))
        (refine walkS_take (v := ?_) (some 14) rfl rfl (fun _ _ _ h => h) (by rfl) ?_ ?_; rotate_left; (focus (intro w' hw'; have y0 := HC.out w' hw'; go_simp; (try with_reducible rfl))); (try simp only [Act.put, List.setIfInBounds_toArray, List.set_cons_zero, List.set_cons_succ]))
        (refine walkS_call 8 _ _ _ _ (HSZ.out _ hS) rfl rfl rfl (by rfl) rfl (enter_dsize _ _) ?_; rintro e w2 ⟨rfl, t2⟩; have HT2 := Lib.hid (hS.trans t2 (fun _ _ h => h)); refine ⟨_, rfl, HT2.out, fun hS => ?_⟩; clear t2; (try simp only [Act.put, List.setIfInBounds_toArray, List.set_cons_zero, List.set_cons_succ]))
        (refine walkS_take (v := ?_) (some 10) rfl rfl (fun _ _ _ h => h) (by rfl) ?_ ?_; rotate_left; (focus (intro w' hw'; have y0 := HC.out w' hw'; go_simp; (try with_reducible rfl))); (try simp only [Act.put, List.setIfInBounds_toArray, List.set_cons_zero, List.set_cons_succ]))
        (refine walkS_take (v := ?_) (some 15) rfl rfl (fun _ _ _ h => h) (by rfl) ?_ ?_; rotate_left; (focus (intro w' hw'; have y0 := HC.out w' hw'; go_simp; (try with_reducible rfl))); (try simp only [Act.put, List.setIfInBounds_toArray, List.set_cons_zero, List.set_cons_succ]))
        refine walkS_done ?_
        have hm2 := HM.out.still HT2.out
        obtain ⟨-, y1, -, -, -, -⟩ := hm2.cells
        have hlen := hm2.nm.len 3
        rw [HLN.out] at hlen
        clear hm2
        go_wp2_with fail
        go_ret
        exact ⟨rfl, HT2.out⟩
    | some g =>
      have hg := HO.out g rfl
      obtain ⟨K, hK⟩ : ∃ K, (st.F g).b.length = K := ⟨_, rfl⟩
      have hKl : K ≤ 1048576 := by rw [← hK]; exact (HM.out.files g hg).len
      have HKL := Lib.hid hK
      have HG := Lib.hid hg
      simp only [hK]
      have hwk : wrap64 ((K : Int) + n) = (K : Int) + n := by unfold wrap64; omega
      have HWK := Lib.hid hwk
      clear hK hg hwk
      simp only [pvN, Option.map_some]
      by_cases h3 : K + n ≤ 1048576
      · have h4 : wrap64 ((K : Int) + n) ≤ 1048576 := by rw [HWK.out]; omega
        rw [decide_eq_true h3]
        go_enter Try.func55, Try.ntmps55
        go_upto_region 1 with (fail)
        have hS := (Touch.refl w (fun _ => False)).drew
        refine wp_region_sched (fun w' => Touch w w' (fun _ => False)) [(0, true), (2, true), (4, true), (5, true), (6, true), (7, true), (1, false), (3, true), (8, true)] (by kernel_rfl) (by kernel_rfl) rfl (by kernel_rfl) hS ?_
        (refine walkS_take (v := ?_) (some 7) rfl rfl (fun _ _ _ h => h) (by rfl) ?_ ?_; rotate_left; (focus (intro w' hw'; have y0 := HC.out w' hw'; go_simp; (try with_reducible rfl))); (try simp only [Act.put, List.setIfInBounds_toArray, List.set_cons_zero, List.set_cons_succ]))
        (refine walkS_take (v := ?_) (some 9) rfl rfl (fun _ _ _ h => h) (by rfl) ?_ ?_; rotate_left; (focus (intro w' hw'; have y0 := HC.out w' hw'; go_simp; (try with_reducible rfl))); (try simp only [Act.put, List.setIfInBounds_toArray, List.set_cons_zero, List.set_cons_succ]))
        (refine walkS_take (v := ?_) (some 11) rfl rfl (fun _ _ _ h => h) (by rfl) ?_ ?_; rotate_left; (focus (intro w' hw'; have y0 := HC.out w' hw'; go_simp; (try with_reducible rfl))); (try simp only [Act.put, List.setIfInBounds_toArray, List.set_cons_zero, List.set_cons_succ]))
        (refine walkS_take (v := ?_) (some 12) rfl rfl (fun _ _ _ h => h) (by rfl) ?_ ?_; rotate_left; (focus (intro w' hw'; have y0 := HC.out w' hw'; go_simp; (try with_reducible rfl))); (try simp only [Act.put, List.setIfInBounds_toArray, List.set_cons_zero, List.set_cons_succ]))
        (refine walkS_take (v := ?_) (some 13) rfl rfl (fun _ _ _ h => h) (by rfl) ?_ ?_; rotate_left; (focus (intro w' hw'; have y0 := HC.out w' hw'; go_simp; (try with_reducible rfl))); (try simp only [Act.put, List.setIfInBounds_toArray, List.set_cons_zero, List.set_cons_succ]))
        (refine walkS_take (v := ?_) (some 14) rfl rfl (fun _ _ _ h => h) (by rfl) ?_ ?_; rotate_left; (focus (intro w' hw'; have y0 := HC.out w' hw'; go_simp; (try with_reducible rfl))); (try simp only [Act.put, List.setIfInBounds_toArray, List.set_cons_zero, List.set_cons_succ]))
        (refine walkS_call 8 _ _ _ _ (HSZ.out _ hS) rfl rfl rfl (by rfl) rfl (enter_dsize _ _) ?_; rintro e w2 ⟨rfl, t2⟩; have HT2 := Lib.hid (hS.trans t2 (fun _ _ h => h)); refine ⟨_, rfl, HT2.out, fun hS => ?_⟩; clear t2; (try simp only [Act.put, List.setIfInBounds_toArray, List.set_cons_zero, List.set_cons_succ]))
        (refine walkS_take (v := ?_) (some 10) rfl rfl (fun _ _ _ h => h) (by rfl) ?_ ?_; rotate_left; (focus (intro w' hw'; have y0 := HC.out w' hw'; go_simp; (try with_reducible rfl))); (try simp only [Act.put, List.setIfInBounds_toArray, List.set_cons_zero, List.set_cons_succ]))
        (refine walkS_take (v := ?_) (some 15) rfl rfl (fun _ _ _ h => h) (by rfl) ?_ ?_; rotate_left; (focus (intro w' hw'; have y0 := HC.out w' hw'; go_simp; (try with_reducible rfl))); (try simp only [Act.put, List.setIfInBounds_toArray, List.set_cons_zero, List.set_cons_succ]))
        refine walkS_done ?_
        obtain ⟨y0, -⟩ := ((HM.out.still HT2.out).files g HG.out).cells
        rw [HKL.out] at y0
        go_wp2_with fail
        go_ret
        exact ⟨by (simp [h4]; omega), HT2.out⟩
      · have h4 : ¬ wrap64 ((K : Int) + n) ≤ 1048576 := by rw [HWK.out]; omega
        rw [decide_eq_false h3]
        go_enter Try.func55, Try.ntmps55
        go_upto_region 1 with (fail)
        have hS := (Touch.refl w (fun _ => False)).drew
        refine wp_region_sched (fun w' => Touch w w' (fun _ => False)) [(0, true), (2, true), (4, true), (5, true), (6, true), (7, true), (1, false), (3, true), (8, true)] (by kernel_rfl) (by kernel_rfl) rfl (by kernel_rfl) hS ?_
        (refine walkS_take (v := ?_) (some 7) rfl rfl (fun _ _ _ h => h) (by rfl) ?_ ?_; rotate_left; (focus (intro w' hw'; have y0 := HC.out w' hw'; go_simp; (try with_reducible rfl))); (try simp only [Act.put, List.setIfInBounds_toArray, List.set_cons_zero, List.set_cons_succ]))
        (refine walkS_take (v := ?_) (some 9) rfl rfl (fun _ _ _ h => h) (by rfl) ?_ ?_; rotate_left; (focus (intro w' hw'; have y0 := HC.out w' hw'; go_simp; (try with_reducible rfl))); (try simp only [Act.put, List.setIfInBounds_toArray, List.set_cons_zero, List.set_cons_succ]))
        (refine walkS_take (v := ?_) (some 11) rfl rfl (fun _ _ _ h => h) (by rfl) ?_ ?_; rotate_left; (focus (intro w' hw'; have y0 := HC.out w' hw'; go_simp; (try with_reducible rfl))); (try simp only [Act.put, List.setIfInBounds_toArray, List.set_cons_zero, List.set_cons_succ]))
        (refine walkS_take (v := ?_) (some 12) rfl rfl (fun _ _ _ h => h) (by rfl) ?_ ?_; rotate_left; (focus (intro w' hw'; have y0 := HC.out w' hw'; go_simp; (try with_reducible rfl))); (try simp only [Act.put, List.setIfInBounds_toArray, List.set_cons_zero, List.set_cons_succ]))
        (refine walkS_take (v := ?_) (some 13) rfl rfl (fun _ _ _ h => h) (by rfl) ?_ ?_; rotate_left; (focus (intro w' hw'; have y0 := HC.out w' hw'; go_simp; (try with_reducible rfl))); (try simp only [Act.put, List.setIfInBounds_toArray, List.set_cons_zero, List.set_cons_succ]))
        (refine walkS_take (v := ?_) (some 14) rfl rfl (fun _ _ _ h => h) (by rfl) ?_ ?_; rotate_left; (focus (intro w' hw'; have y0 := HC.out w' hw'; go_simp; (try with_reducible rfl))); (try simp only [Act.put, List.setIfInBounds_toArray, List.set_cons_zero, List.set_cons_succ]))
        (refine walkS_call 8 _ _ _ _ (HSZ.out _ hS) rfl rfl rfl (by rfl) rfl (enter_dsize _ _) ?_; rintro e w2 ⟨rfl, t2⟩; have HT2 := Lib.hid (hS.trans t2 (fun _ _ h => h)); refine ⟨_, rfl, HT2.out, fun hS => ?_⟩; clear t2; (try simp only [Act.put, List.setIfInBounds_toArray, List.set_cons_zero, List.set_cons_succ]))
        (refine walkS_take (v := ?_) (some 10) rfl rfl (fun _ _ _ h => h) (by rfl) ?_ ?_; rotate_left; (focus (intro w' hw'; have y0 := HC.out w' hw'; go_simp; (try with_reducible rfl))); (try simp only [Act.put, List.setIfInBounds_toArray, List.set_cons_zero, List.set_cons_succ]))
        (refine walkS_take (v := ?_) (some 15) rfl rfl (fun _ _ _ h => h) (by rfl) ?_ ?_; rotate_left; (focus (intro w' hw'; have y0 := HC.out w' hw'; go_simp; (try with_reducible rfl))); (try simp only [Act.put, List.setIfInBounds_toArray, List.set_cons_zero, List.set_cons_succ]))
        refine walkS_done ?_
        obtain ⟨y0, -⟩ := ((HM.out.still HT2.out).files g HG.out).cells
        rw [HKL.out] at y0
        go_wp2_with fail
        go_ret
        exact ⟨by (simp [h4]; omega), HT2.out⟩
end Go.Proofs.Ytmokcfmlolohaaa
