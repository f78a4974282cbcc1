/- A disk's short words. -/
import Derived.Test.YtmokcfmlolohaaaDskBZ
set_option linter.unusedVariables false
set_option linter.unusedSimpArgs false
namespace Go.Proofs.Ytmokcfmlolohaaa
open Go.RowKit

def dkBeg (st : DkS) : Int := if st.fail = 1 then 8 else 0
def dkOp (st : DkS) : DkS := { st with ops := wrap64 (st.ops + 1), fail := if st.fail = 0 then 0 else st.fail - 1 }
theorem dkOp_N (st : DkS) : (dkOp st).N = st.N := rfl
theorem footK_d {w : World} {d : Nat} {h : DkH} {st : DkS} (m : DkM w d h st) : footK h d := by unfold footK; rw [m.td]; simp
theorem DkM.top {w w' : World} {d : Nat} {h : DkH} {st st' : DkS} (m : DkM w d h st) (m' : DkM w' d h st') (t : Touch w w' (fun k => k = d)) : DkStep w w' d h st' :=
  DkStep.same m' (t.mono (fun k _ e => e ▸ footK_d m))
set_option maxRecDepth 20000 in
set_option maxHeartbeats 4000000 in
theorem dbegin_any (w : World) (d : Nat) (h : DkH) (st : DkS) (m : DkM w d h st) :
    Calls Try.prog 53 #[.pointer (some ⟨d, 0, none⟩)] w fun e w' => e = .returned (.int .i64 (dkBeg st)) ∧ DkM w' d h (dkOp st) ∧ Touch w w' (fun k => k = d) := by
  obtain ⟨c0, c1, c2, c3, c4, c5⟩ := m.cells
  have f4 := free_of_cells m.head 4
  have f5 := free_of_cells m.head 5
  obtain ⟨W1, hW1⟩ : ∃ W, w.setCell ⟨d, 4, none⟩ (.int .i64 (wrap64 (st.ops + 1))) = W := ⟨_, rfl⟩
  have g1 := heap_setCell_same w d 4 _ _ (.int .i64 (wrap64 (st.ops + 1))) m.head
  rw [hW1] at g1
  have t1 : Touch w W1 (fun k => k = d) := hW1 ▸ (Touch.refl w _).into 4 _
  have y5 : W1.cell? ⟨d, 5, none⟩ = some (.int .i64 st.fail) := cell_of_cells g1 5
  have x5 := free_of_cells g1 5
  have HM := Lib.hid m
  have HT1 := Lib.hid t1
  have HG1 := Lib.hid g1
  have hf := m.fails
  clear m t1 g1 c0 c1 c2 c3
  by_cases h0 : st.fail = 0
  · have eB : dkBeg st = 0 := by unfold dkBeg; rw [h0, if_neg (by decide)]
    have eO : dkOp st = { st with q := st.q, ops := wrap64 (st.ops + 1), fail := 0 } := by unfold dkOp; rw [if_pos h0]
    rw [eB, eO]
    have HR : RowKit.Hid (DkM W1 d h { st with q := st.q, ops := wrap64 (st.ops + 1), fail := 0 }) := Lib.hid (HM.out.turn HT1.out HM.out.quota ⟨Int.le_refl 0, by decide⟩ (h0 ▸ HG1.out))
    rw [h0] at y5
    clear eB eO h0 hf c5 f5 x5
    go_enter Try.func53, Try.ntmps53
    go_wp2_with fail
    go_ret
    exact ⟨rfl, HR.out, HT1.out⟩
  · obtain ⟨W2, hW2⟩ : ∃ W, W1.setCell ⟨d, 5, none⟩ (.int .i64 (st.fail - 1)) = W := ⟨_, rfl⟩
    have g2 := heap_setCell_same W1 d 5 _ _ (.int .i64 (st.fail - 1)) HG1.out
    rw [hW2] at g2
    have t2 : Touch w W2 (fun k => k = d) := hW2 ▸ HT1.out.into 5 _
    have z5 : W2.cell? ⟨d, 5, none⟩ = some (.int .i64 (st.fail - 1)) := cell_of_cells g2 5
    have hwr : wrap64 (st.fail - 1) = st.fail - 1 := by unfold wrap64; omega
    have eO : dkOp st = { st with q := st.q, ops := wrap64 (st.ops + 1), fail := st.fail - 1 } := by unfold dkOp; rw [if_neg h0]
    have HR : RowKit.Hid (DkM W2 d h { st with q := st.q, ops := wrap64 (st.ops + 1), fail := st.fail - 1 }) := Lib.hid (HM.out.turn t2 HM.out.quota ⟨by omega, by omega⟩ g2)
    have HT2 := Lib.hid t2
    rw [eO]
    have h0b : (st.fail == 0) = false := by simpa using h0
    clear eO g2 t2
    by_cases h1 : st.fail = 1
    · have eB : dkBeg st = 8 := by unfold dkBeg; rw [if_pos h1]
      rw [eB]
      have h2b : (st.fail - 1 == 0) = true := by rw [h1]; rfl
      clear eB h0 h1 hf
      go_enter Try.func53, Try.ntmps53
      go_wp2_with fail
      go_ret
      exact ⟨rfl, HR.out, HT2.out⟩
    · have eB : dkBeg st = 0 := by unfold dkBeg; rw [if_neg h1]
      rw [eB]
      have h2b : (st.fail - 1 == 0) = false := by
        rw [Bool.eq_false_iff]; intro e
        have := eq_of_beq e; omega
      clear eB h0 h1 hf
      go_enter Try.func53, Try.ntmps53
      go_wp2_with fail
      go_ret
      exact ⟨rfl, HR.out, HT2.out⟩
/-- What comes of the beginning of an operation on a file. -/
def dkOnE (st : DkS) (k : ByteArray) : Int := if st.fail = 1 then 8 else if (getN st.N k).isNone then 6 else 0
def dkOnF (st : DkS) (k : ByteArray) : Option Nat := if st.fail = 1 then none else getN st.N k
set_option maxRecDepth 20000 in
set_option maxHeartbeats 4000000 in
theorem dbeginOn_any (w : World) (d : Nat) (h : DkH) (st : DkS) (m : DkM w d h st) (k : ByteArray) (hk : szN k) :
    Calls Try.prog 57 #[.pointer (some ⟨d, 0, none⟩), .string k] w fun e w' => e = .returned (.tuple #[pvN (dkOnF st k), .int .i64 (dkOnE st k)]) ∧ DkM w' d h (dkOp st) ∧ Touch w w' (fun k => k = d) := by
  have HB := Lib.hid (dbegin_any w d h st m)
  by_cases h1 : st.fail = 1
  · have e1 : dkBeg st = 8 := by unfold dkBeg; rw [if_pos h1]
    have e2 : dkOnE st k = 8 := by unfold dkOnE; rw [if_pos h1]
    have e3 : dkOnF st k = none := by unfold dkOnF; rw [if_pos h1]
    rw [e2, e3]
    rw [e1] at HB
    clear m e1 e2 e3 h1
    simp only [pvN, Option.map_none]
    go_enter Try.func57, Try.ntmps57
    go_wp2_with fail
    refine HB.out.mono ?_
    rintro e w1 ⟨rfl, m1, t1⟩
    have HR := Lib.hid (And.intro m1 t1)
    clear m1 t1
    go_wp2_with fail
    go_ret2
    exact ⟨rfl, HR.out⟩
  · have e1 : dkBeg st = 0 := by unfold dkBeg; rw [if_neg h1]
    have e3 : dkOnF st k = getN st.N k := by unfold dkOnF; rw [if_neg h1]
    have e2 : dkOnE st k = if (getN st.N k).isNone then 6 else 0 := by unfold dkOnE; rw [if_neg h1]
    rw [e2, e3]
    rw [e1] at HB
    have HK := Lib.hid hk
    obtain ⟨o, ho⟩ : ∃ o, getN st.N k = o := ⟨_, rfl⟩
    rw [ho]
    have HO := Lib.hid ho
    clear m e1 e2 e3 h1 ho hk
    cases o with
    | none =>
      simp only [pvN, Option.map_none, Option.isNone_none, if_true]
      go_enter Try.func57, Try.ntmps57
      go_wp2_with fail
      refine HB.out.mono ?_
      rintro e w1 ⟨rfl, m1, t1⟩
      have HR := Lib.hid (And.intro m1 t1)
      obtain ⟨c0, c1, -, -, -, -⟩ := m1.cells
      have hl := m1.nm.get HK.out
      rw [dkOp_N, HO.out] at hl
      simp only [pvN, Option.map_none] at hl
      clear m1 t1
      go_wp2_with fail
      go_ret2
      exact ⟨rfl, HR.out⟩
    | some g =>
      simp only [pvN, Option.map_some, Option.isNone_some, Bool.false_eq_true, if_false]
      go_enter Try.func57, Try.ntmps57
      go_wp2_with fail
      refine HB.out.mono ?_
      rintro e w1 ⟨rfl, m1, t1⟩
      have HR := Lib.hid (And.intro m1 t1)
      obtain ⟨c0, c1, -, -, -, -⟩ := m1.cells
      have hl := m1.nm.get HK.out
      rw [dkOp_N, HO.out] at hl
      simp only [pvN, Option.map_some] at hl
      clear m1 t1
      go_wp2_with fail
      go_ret2
      exact ⟨rfl, HR.out⟩
set_option maxRecDepth 20000 in
set_option maxHeartbeats 4000000 in
theorem disName_any (w : World) (k : ByteArray) (hk : szN k) :
    Calls Try.prog 54 #[.string k] w fun e w' => e = .returned (.bool (decide (1 ≤ k.size ∧ k.size ≤ 16))) ∧ w = w' := by
  obtain ⟨n, hn⟩ : ∃ n, k.size = n := ⟨_, rfl⟩
  unfold szN at hk
  rw [hn] at hk ⊢
  by_cases h1 : 1 ≤ n
  · by_cases h2 : n ≤ 16
    · have e : decide (1 ≤ n ∧ n ≤ 16) = true := decide_eq_true ⟨h1, h2⟩
      rw [e]
      have i1 : (1 : Int) ≤ n := by omega
      have i2 : (n : Int) ≤ 16 := by omega
      clear h1 h2 e
      go_enter Try.func54, Try.ntmps54
      go_wp2_with fail
      go_ret
      exact ⟨rfl, rfl⟩
    · have e : decide (1 ≤ n ∧ n ≤ 16) = false := decide_eq_false (fun h => h2 h.2)
      rw [e]
      have i1 : (1 : Int) ≤ n := by omega
      have i2 : ¬ (n : Int) ≤ 16 := by omega
      clear h1 h2 e
      go_enter Try.func54, Try.ntmps54
      go_wp2_with fail
      go_ret
      exact ⟨rfl, rfl⟩
  · have e : decide (1 ≤ n ∧ n ≤ 16) = false := decide_eq_false (fun h => h1 h.1)
    rw [e]
    have i1 : ¬ (1 : Int) ≤ n := by omega
    clear h1 e
    go_enter Try.func54, Try.ntmps54
    go_wp2_with fail
    go_ret
    exact ⟨rfl, rfl⟩
set_option maxRecDepth 20000 in
set_option maxHeartbeats 4000000 in
theorem dops_any (w : World) (d : Nat) (h : DkH) (st : DkS) (m : DkM w d h st) :
    Calls Try.prog 31 #[.pointer (some ⟨d, 0, none⟩)] w fun e w' => e = .returned (.int .i64 st.ops) ∧ w = w' := by
  obtain ⟨c0, c1, c2, c3, c4, c5⟩ := m.cells
  clear m
  go_enter Try.func31, Try.ntmps31
  go_wp2_with fail
  go_ret
  exact ⟨rfl, rfl⟩
set_option maxRecDepth 20000 in
set_option maxHeartbeats 4000000 in
theorem dquota_any (w : World) (d : Nat) (h : DkH) (st : DkS) (m : DkM w d h st) :
    Calls Try.prog 33 #[.pointer (some ⟨d, 0, none⟩)] w fun e w' => e = .returned (.int .i64 st.q) ∧ w = w' := by
  obtain ⟨c0, c1, c2, c3, c4, c5⟩ := m.cells
  clear m
  go_enter Try.func33, Try.ntmps33
  go_wp2_with fail
  go_ret
  exact ⟨rfl, rfl⟩
theorem max_runK (a b : Int) (W : World) : (Builtin.max_ #[3, 3] 3 #[.int .i64 a, .int .i64 b]).run Try.prog W = .ok (.int .i64 (max a b)) W := by
  by_cases h : a < b
  · have e : max a b = b := by omega
    rw [e]
    go_simp
  · have e : max a b = a := by omega
    rw [e]
    go_simp
theorem min_runK (a b : Int) (W : World) : (Builtin.min_ #[3, 3] 3 #[.int .i64 a, .int .i64 b]).run Try.prog W = .ok (.int .i64 (min a b)) W := by
  by_cases h : b < a
  · have e : min a b = b := by omega
    rw [e]
    go_simp
  · have e : min a b = a := by omega
    rw [e]
    go_simp
set_option maxRecDepth 20000 in
set_option maxHeartbeats 4000000 in
theorem dfail_any (w : World) (d : Nat) (h : DkH) (st : DkS) (m : DkM w d h st) (n : Int) (hn : n ≤ 9223372036854775807) :
    Calls Try.prog 21 #[.pointer (some ⟨d, 0, none⟩), .int .i64 n] w fun e w' => e = .returned (.tuple #[]) ∧ DkM w' d h { st with fail := max n 0 } ∧ Touch w w' (fun k => k = d) := by
  obtain ⟨c0, c1, c2, c3, c4, c5⟩ := m.cells
  have f5 := free_of_cells m.head 5
  have hmx := fun W => max_runK n 0 W
  obtain ⟨z, hz⟩ : ∃ z, max n 0 = z := ⟨_, rfl⟩
  have hz1 : 0 ≤ z ∧ z ≤ 9223372036854775807 := by omega
  rw [hz] at hmx ⊢
  obtain ⟨W1, hW1⟩ : ∃ W, w.setCell ⟨d, 5, none⟩ (.int .i64 z) = W := ⟨_, rfl⟩
  have g1 := heap_setCell_same w d 5 _ _ (.int .i64 z) m.head
  rw [hW1] at g1
  have t1 : Touch w W1 (fun k => k = d) := hW1 ▸ (Touch.refl w _).into 5 _
  have HR : RowKit.Hid (DkM W1 d h { st with q := st.q, ops := st.ops, fail := z } ∧ Touch w W1 (fun k => k = d)) := Lib.hid ⟨m.turn t1 m.quota hz1 g1, t1⟩
  clear m t1 g1 c0 c1 c2 c3 hz hz1 hn
  go_enter Try.func21, Try.ntmps21
  go_wp2_with fail
  go_end0
  exact ⟨rfl, HR.out⟩
end Go.Proofs.Ytmokcfmlolohaaa
