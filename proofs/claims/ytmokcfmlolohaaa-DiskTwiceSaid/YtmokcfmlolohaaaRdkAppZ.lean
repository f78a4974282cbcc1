/- The reference's disk: Append. -/
import Derived.Test.YtmokcfmlolohaaaRdkCutZ
import Derived.Test.YtmokcfmlolohaaaDskQZ
set_option linter.unusedVariables false
set_option linter.unusedSimpArgs false
namespace Go.Proofs.Ytmokcfmlolohaaa
open Go.RowKit

theorem enter_rsize (a : Value) (w : World) : (callFunc 44 #[a]).run Try.prog w = .ok (.enter 44 #[a]) w := by kernel_rfl
theorem gtI_yes (a b : Int) (h : b < a) (x y : Operand) (W : World) :
    (do eqGuard BinOp.gtr 3 x y (.int .i64 a) (.int .i64 b); binOp BinOp.gtr 3 (.int .i64 a) (.int .i64 b) : Sem Value).run Try.prog W = .ok (.bool true) W := by
  go_simp
def rWas (R : RS) : Option Nat → Nat
  | none => 0
  | some i => (fcAt R i).b.length
def rFull (R : RS) (o : Option Nat) (n : Nat) : Prop := R.q - (rSum R R.N : Nat) < (n : Int) ∨ (1048576 - (rWas R o : Nat) : Int) < (n : Int) ∨ (o = none ∧ 200 ≤ R.N.length)
instance (R : RS) (o : Option Nat) (n : Nat) : Decidable (rFull R o n) := by unfold rFull; exact inferInstance
def rAppE (R : RS) (k : ByteArray) (n : Nat) : Int := if R.fail = 1 then 8 else if ¬ (1 ≤ k.size ∧ k.size ≤ 16) then 1 else if rFull R (rFind R.N k) n then 7 else 0
def rApp (R : RS) (k : ByteArray) (xs : List Nat) : RS :=
  if rAppE R k xs.length ≠ 0 then rOp R else match rFind R.N k with
  | some i => { rOp R with F := R.F.set i ⟨(fcAt R i).b ++ xs, (fcAt R i).s⟩ }
  | none => { rOp R with F := R.F ++ [(⟨xs, 0⟩ : DkFc)], N := rTurn R.N ⟨⟨#[]⟩, k, R.F.length⟩, C := R.C ++ [⟨⟨#[]⟩, k, R.F.length⟩] }
theorem app_off {x : World} {m c : Nat} {Z : List Nat} {a : Option Addr} {base : Nat} (hm : m < base) (ho : OwnB x base 5 (.slice a Z.length c) Z) : ∀ z, a = some z → z.block ≠ m ∧ z.block < x.heap.size := by
  intro z hz
  obtain ⟨ap, cp, hv, -, hw⟩ := ho.row
  simp only [Value.slice.injEq] at hv
  obtain ⟨rfl, -, rfl⟩ := hv
  rcases hw with hw | ⟨G, hG, h1, h2⟩
  · rw [hw] at hz; cases hz
  · rw [hG] at hz
    cases hz
    exact ⟨fun e => by have e : G = m := e; omega, h2⟩
theorem appB_new {x : World} {c : Nat} {Z : List Nat} {a : Option Addr} {base : Nat} {h : RH} (ho : OwnB x base 5 (.slice a Z.length c) Z) : ∀ z, a = some z → footR h z.block ∨ base ≤ z.block := by
  intro z hz
  obtain ⟨ap, cp, hv, -, hw⟩ := ho.row
  simp only [Value.slice.injEq] at hv
  obtain ⟨rfl, -, rfl⟩ := hv
  rcases hw with hw | ⟨G, hG, h1, h2⟩
  · rw [hw] at hz; cases hz
  · rw [hG] at hz
    cases hz
    exact .inr h1
theorem rSum_bound {R : RS} (v : RV R) : rSum R R.N ≤ 104857600000 := by
  have h1 := rSum_le (R := R) (l := R.N) (K := 1048576) (fun x hx => v.len x hx)
  have h2 := v.nl
  have h3 : R.N.length * 1048576 ≤ 100000 * 1048576 := Nat.mul_le_mul_right _ h2
  exact Nat.le_trans h1 (Nat.le_trans h3 (by decide))
/-- A file without bytes is put behind the files. -/
theorem file_end {w w9 : World} {m : Nat} {h : RH} {R : RS} (x : RM w m h R) {g : Option Addr} {c : Nat} (t : Touch w w9 (fun k => k = m))
    (hh : w9.heap[m]? = some (.cells #[.slice g (h.L.length + 1) c, .slice h.na R.N.length h.nc, .slice h.sa R.S.length h.sc, .slice h.ca R.C.length h.cc, .int .i64 R.q, .int .i64 R.n, .int .i64 R.fail] 70 (0, 0)))
    (ho : OwnS w9 w.heap.size 98 2 (.slice g (h.L.length + 1) c) ((h.L ++ [(⟨none, 0, [], 0⟩ : RL)]).map rll)) : RT w w9 m h { R with F := R.F ++ [(⟨[], 0⟩ : DkFc)] } := by
  obtain ⟨-, hr, hb⟩ := ho.row'
  have hm := heap_lt x.head
  have hle : (h.L ++ [(⟨none, 0, [], 0⟩ : RL)]).length = h.L.length + 1 := by rw [List.length_append]; rfl
  refine ⟨{ h with L := h.L ++ [(⟨none, 0, [], 0⟩ : RL)], fa := g, fc := c }, ⟨?_, ?_, ?_, ?_, ?_, ?_, ?_, ?_⟩, t, ?_⟩
  · show w9.heap[m]? = some (.cells #[.slice g (h.L ++ [(⟨none, 0, [], 0⟩ : RL)]).length c, _, _, _, _, _, _] _ _)
    rw [hle]; exact hh
  · show RowS w9 _ (h.L ++ [(⟨none, 0, [], 0⟩ : RL)]).length _ _ _
    rw [hle]; exact hr
  · show R.F ++ [(⟨[], 0⟩ : DkFc)] = (h.L ++ [(⟨none, 0, [], 0⟩ : RL)]).map RL.fc
    rw [x.fF, List.map_append]; rfl
  · exact x.now.touch t (fun z hz => .inr (x.foot _ (.inr (.inl ⟨z, hz, rfl⟩))).1)
  · exact x.sure.touch t (fun z hz => .inr (x.foot _ (.inr (.inr (.inl ⟨z, hz, rfl⟩)))).1)
  · exact x.ch.touch t (fun z hz => .inr (x.foot _ (.inr (.inr (.inr (.inl ⟨z, hz, rfl⟩))))).1)
  · intro z hz
    rcases List.mem_append.1 hz with h1 | h1
    · exact (x.fb z h1).touch t (fun u hu => .inr (x.foot _ (.inr (.inr (.inr (.inr ⟨z, h1, u, hu, rfl⟩))))).1)
    · rw [List.mem_singleton.1 h1]
      exact RowB.nil _ _ _ (by decide)
  · rintro k (⟨u, hu, rfl⟩ | h1 | h1 | h1 | ⟨z, hz, u, hu, rfl⟩)
    · exact ⟨fun e => by have := (hb u hu).1; omega, (hb u hu).2⟩
    · exact ⟨(x.foot k (.inr (.inl h1))).1, Nat.lt_of_lt_of_le (x.foot k (.inr (.inl h1))).2 t.size⟩
    · exact ⟨(x.foot k (.inr (.inr (.inl h1)))).1, Nat.lt_of_lt_of_le (x.foot k (.inr (.inr (.inl h1)))).2 t.size⟩
    · exact ⟨(x.foot k (.inr (.inr (.inr (.inl h1))))).1, Nat.lt_of_lt_of_le (x.foot k (.inr (.inr (.inr (.inl h1))))).2 t.size⟩
    · rcases List.mem_append.1 hz with h1 | h1
      · have := x.foot _ (.inr (.inr (.inr (.inr ⟨z, h1, u, hu, rfl⟩))))
        exact ⟨this.1, Nat.lt_of_lt_of_le this.2 t.size⟩
      · rw [List.mem_singleton.1 h1] at hu
        cases hu
  · rintro k (⟨u, hu, rfl⟩ | h1 | h1 | h1 | ⟨z, hz, u, hu, rfl⟩)
    · exact .inr (hb u hu).1
    · exact .inl (.inr (.inl h1))
    · exact .inl (.inr (.inr (.inl h1)))
    · exact .inl (.inr (.inr (.inr (.inl h1))))
    · rcases List.mem_append.1 hz with h1 | h1
      · exact .inl (.inr (.inr (.inr (.inr ⟨z, h1, u, hu, rfl⟩))))
      · rw [List.mem_singleton.1 h1] at hu
        cases hu
set_option maxRecDepth 20000 in
set_option maxHeartbeats 16000000 in
theorem rapp_any (w : World) (m : Nat) (h : RH) (R : RS) (x : RM w m h R) (v : RV R) (hq : 0 ≤ R.q ∧ R.q ≤ 67108864) (k : ByteArray) (hk : szN k) (a : Option Addr) (len cap : Nat) (xs : List Nat) (hr : RowB w a len cap xs) (hoff : ∀ z, a = some z → len = 0 ∨ z.block ≠ m) (hlen : len ≤ 1000000) :
    Calls Try.prog 36 #[.pointer (some ⟨m, 0, none⟩), .string k, .slice a len cap] w fun e w' => e = .returned (.int .i64 (rAppE R k len)) ∧ RT w w' m h (rApp R k xs) := by
  have HO := Lib.hid (rop_any w m h R x v.fail)
  have HV1 := Lib.hid v.op
  have HMY := Lib.hid (fun W => rmay_any W k hk)
  have HK := Lib.hid hk
  have HRW := Lib.hid hr
  have HOFF := Lib.hid hoff
  have hxl : xs.length = len := hr.1
  have HXL := Lib.hid hxl
  obtain ⟨R1, hR1⟩ : ∃ R1, rOp R = R1 := ⟨_, rfl⟩
  have hN : R1.N = R.N := by rw [← hR1]; rfl
  have hFF : R1.F = R.F := by rw [← hR1]; rfl
  have hQQ : R1.q = R.q := by rw [← hR1]; rfl
  have hCC : R1.C = R.C := by rw [← hR1]; rfl
  rw [hR1] at HO HV1
  clear x v hk hr hoff
  by_cases h1 : R.fail = 1
  · have e1 : rAppE R k len = 8 := by unfold rAppE; rw [if_pos h1]
    have e2 : rApp R k xs = R1 := by unfold rApp; rw [hxl, e1, if_pos (by decide), hR1]
    have hd : decide (R.fail = 1) = true := decide_eq_true h1
    rw [e1, e2]
    rw [hd] at HO
    clear e1 e2 h1 hN hFF hd hQQ hCC hxl hR1
    go_enter Try.func36, Try.ntmps36
    go_wp2_with fail
    (with_reducible refine HO.out.mono ?_)
    rintro e w1 ⟨rfl, m1, t1⟩
    have HR := Lib.hid (m1.same t1)
    clear m1 t1
    go_wp2_with fail
    go_ret
    exact ⟨rfl, HR.out⟩
  have hd : decide (R.fail = 1) = false := decide_eq_false h1
  rw [hd] at HO
  by_cases hm : 1 ≤ k.size ∧ k.size ≤ 16
  case neg =>
    have e1 : rAppE R k len = 1 := by unfold rAppE; rw [if_neg h1, if_pos hm]
    have e2 : rApp R k xs = R1 := by unfold rApp; rw [hxl, e1, if_pos (by decide), hR1]
    rw [e1, e2]
    rw [decide_eq_false hm] at HMY
    clear e1 e2 h1 hN hFF hd hQQ hCC hxl hR1 hm
    go_enter Try.func36, Try.ntmps36
    go_wp2_with fail
    (with_reducible refine HO.out.mono ?_)
    rintro e w1 ⟨rfl, m1, t1⟩
    have HR := Lib.hid (m1.same t1)
    clear m1 t1
    go_wp2_with fail
    (with_reducible refine (HMY.out w1).mono ?_)
    rintro e w9 ⟨rfl, rfl⟩
    go_wp2_with fail
    go_ret
    exact ⟨rfl, HR.out⟩
  have hkn : k ≠ ⟨#[]⟩ := fun e => by rw [e] at hm; exact absurd hm.1 (by decide)
  have HKN := Lib.hid hkn
  rw [decide_eq_true hm] at HMY
  have eFull : rFull R1 (rFind R1.N k) len ↔ rFull R (rFind R.N k) len := by rw [← hR1]; exact Iff.rfl
  have e7 : rFull R1 (rFind R1.N k) len → rAppE R k len = 7 ∧ rApp R k xs = R1 := fun hf => by
    have e1 : rAppE R k len = 7 := by unfold rAppE; rw [if_neg h1, if_neg (fun h => h hm), if_pos (eFull.1 hf)]
    exact ⟨e1, by unfold rApp; rw [hxl, e1, if_pos (by decide), hR1]⟩
  have e0 : ¬ rFull R1 (rFind R1.N k) len → rAppE R k len = 0 ∧ rApp R k xs = (match rFind R1.N k with
      | some i => { R1 with F := R1.F.set i ⟨(fcAt R1 i).b ++ xs, (fcAt R1 i).s⟩ }
      | none => { R1 with F := R1.F ++ [(⟨xs, 0⟩ : DkFc)], N := rTurn R1.N ⟨⟨#[]⟩, k, R1.F.length⟩, C := R1.C ++ [⟨⟨#[]⟩, k, R1.F.length⟩] }) := fun hf => by
    have e1 : rAppE R k len = 0 := by unfold rAppE; rw [if_neg h1, if_neg (fun h => h hm), if_neg (fun h => hf (eFull.2 h))]
    refine ⟨e1, ?_⟩
    unfold rApp
    rw [hxl, e1, if_neg (by decide), ← hR1]
    rfl
  have HSB := Lib.hid (rSum_bound HV1.out)
  have HQB : RowKit.Hid (0 ≤ R1.q ∧ R1.q ≤ 67108864) := Lib.hid (by rw [hQQ]; exact hq)
  have HE7 := Lib.hid e7
  have HE0 := Lib.hid e0
  clear eFull h1 hd hm hN hFF hQQ hCC hR1 e7 e0 hkn hxl
  cases hno : rFind R1.N k with
  | none =>
    have HNO := Lib.hid hno
    rw [hno] at HE7 HE0
    by_cases ha : R1.q - (rSum R1 R1.N : Nat) < (len : Int)
    · obtain ⟨e1, e2⟩ := HE7.out (.inl ha)
      rw [e1, e2]
      have HG1 : RowKit.Hid (IntKind.i64.wrap (R1.q - (rSum R1 R1.N : Nat)) < (len : Int)) := Lib.hid (by rw [IntWalk.i64_in _ (by have := HSB.out; have := HQB.out; omega)]; exact ha)
      clear e1 e2 hno ha
      go_enter Try.func36, Try.ntmps36
      go_wp2_with fail
      (with_reducible refine HO.out.mono ?_)
      rintro e w1 ⟨rfl, m1, t1⟩
      have c1 := m1.cells.2.1
      have HFN := Lib.hid (rfind_any w1 h.na R1.N.length h.nc R1.N m1.now k)
      rw [HNO.out] at HFN
      simp only [fI] at HFN
      have HM1 := Lib.hid m1
      have HT1 := Lib.hid t1
      clear m1 t1
      go_wp2_with fail
      (with_reducible refine (HMY.out w1).mono ?_)
      rintro e w9 ⟨rfl, rfl⟩
      go_wp2_with fail
      (with_reducible refine HFN.out.mono ?_)
      rintro e w2 ⟨rfl, t2⟩
      have HT2 := Lib.hid (HT1.out.trans t2 (fun _ _ h => h.elim))
      have HMB := Lib.hid (HM1.out.still t2)
      clear t2 c1
      have HCB : RowKit.Hid (∀ w', Touch w2 w' (fun _ => False) → w'.cell? ⟨m, 0, none⟩ = some (.slice h.fa h.L.length h.fc) ∧ w'.cell? ⟨m, 1, none⟩ = some (.slice h.na R1.N.length h.nc) ∧ w'.cell? ⟨m, 4, none⟩ = some (.int .i64 R1.q)) := Lib.hid (fun w' t => ⟨(HMB.out.still t).cells.1, (HMB.out.still t).cells.2.1, (HMB.out.still t).cells.2.2.2.2.1⟩)
      have HR := Lib.hid (HMB.out.same HT2.out)
      go_upto_region 9 with (fail)
      have hS := (Touch.refl w2 (fun _ => False)).drew
      refine wp_region_sched (fun w' => Touch w2 w' (fun _ => False)) [(0, true), (1, true), (2, true), (3, true), (4, true), (5, true), (6, true), (7, false), (8, true), (9, true), (10, true), (11, true), (12, true), (13, true), (14, true), (15, true), (16, true), (17, true), (18, true), (19, true), (20, true), (21, true), (22, true), (23, true), (24, true), (25, true), (26, true), (27, true), (28, true)] (by kernel_rfl) (by kernel_rfl) rfl (by kernel_rfl) hS ?_
      (refine walkS_take (v := ?_) (some 31) rfl rfl (fun _ _ _ h => h) (by rfl) ?_ ?_; rotate_left; (focus (intro w' hw'; obtain ⟨k0, k1, k2⟩ := HCB.out w' hw'; go_simp; (try with_reducible rfl))); (try simp only [Act.put, List.setIfInBounds_toArray, List.set_cons_zero, List.set_cons_succ]))
      (refine walkS_take (v := ?_) (some 32) rfl rfl (fun _ _ _ h => h) (by rfl) ?_ ?_; rotate_left; (focus (intro w' hw'; obtain ⟨k0, k1, k2⟩ := HCB.out w' hw'; go_simp; (try with_reducible rfl))); (try simp only [Act.put, List.setIfInBounds_toArray, List.set_cons_zero, List.set_cons_succ]))
      (refine walkS_take (v := ?_) (some 33) rfl rfl (fun _ _ _ h => h) (by rfl) ?_ ?_; rotate_left; (focus (intro w' hw'; obtain ⟨k0, k1, k2⟩ := HCB.out w' hw'; go_simp; (try with_reducible rfl))); (try simp only [Act.put, List.setIfInBounds_toArray, List.set_cons_zero, List.set_cons_succ]))
      (refine walkS_take (v := ?_) (some 34) rfl rfl (fun _ _ _ h => h) (by rfl) ?_ ?_; rotate_left; (focus (intro w' hw'; obtain ⟨k0, k1, k2⟩ := HCB.out w' hw'; go_simp; (try with_reducible rfl))); (try simp only [Act.put, List.setIfInBounds_toArray, List.set_cons_zero, List.set_cons_succ]))
      (refine walkS_take (v := ?_) (some 35) rfl rfl (fun _ _ _ h => h) (by rfl) ?_ ?_; rotate_left; (focus (intro w' hw'; obtain ⟨k0, k1, k2⟩ := HCB.out w' hw'; go_simp; (try with_reducible rfl))); (try simp only [Act.put, List.setIfInBounds_toArray, List.set_cons_zero, List.set_cons_succ]))
      (refine walkS_take (v := ?_) (some 36) rfl rfl (fun _ _ _ h => h) (by rfl) ?_ ?_; rotate_left; (focus (intro w' hw'; obtain ⟨k0, k1, k2⟩ := HCB.out w' hw'; go_simp; (try with_reducible rfl))); (try simp only [Act.put, List.setIfInBounds_toArray, List.set_cons_zero, List.set_cons_succ]))
      (refine walkS_take (v := ?_) (some 37) rfl rfl (fun _ _ _ h => h) (by rfl) ?_ ?_; rotate_left; (focus (intro w' hw'; obtain ⟨k0, k1, k2⟩ := HCB.out w' hw'; go_simp; (try with_reducible rfl))); (try simp only [Act.put, List.setIfInBounds_toArray, List.set_cons_zero, List.set_cons_succ]))
      (refine walkS_call 38 _ _ _ _ ((rsize_any _ m h R1 (HMB.out.still hS) HV1.out)) rfl rfl rfl (by rfl) rfl (enter_rsize _ _) ?_; rintro e w' ⟨rfl, t⟩; have hS := hS.trans t (fun _ _ h => h); clear t; refine ⟨_, rfl, hS, fun hS => ?_⟩; (try simp only [Act.put, List.setIfInBounds_toArray, List.set_cons_zero, List.set_cons_succ]))
      (refine walkS_take (v := ?_) (some 39) rfl rfl (fun _ _ _ h => h) (by rfl) ?_ ?_; rotate_left; (focus (intro w' hw'; obtain ⟨k0, k1, k2⟩ := HCB.out w' hw'; go_simp; (try with_reducible rfl))); (try simp only [Act.put, List.setIfInBounds_toArray, List.set_cons_zero, List.set_cons_succ]))
      (refine walkS_bin (some 40) _ _ _ _ _ _ _ _ (gtI_yes _ _ HG1.out) rfl rfl rfl rfl rfl (fun _ _ _ h => h) (by rfl) ?_; (try simp only [Act.put, List.setIfInBounds_toArray, List.set_cons_zero, List.set_cons_succ]))
      (refine walkS_take (v := ?_) (some 41) rfl rfl (fun _ _ _ h => h) (by rfl) ?_ ?_; rotate_left; (focus (intro w' hw'; obtain ⟨k0, k1, k2⟩ := HCB.out w' hw'; go_simp; (try with_reducible rfl))); (try simp only [Act.put, List.setIfInBounds_toArray, List.set_cons_zero, List.set_cons_succ]))
      first | (refine walkS_skip (some 42) rfl rfl (by rfl) (fun _ _ _ h => h) hS ?_; (try simp only [Act.put, List.setIfInBounds_toArray, List.set_cons_zero, List.set_cons_succ])) | (refine walkS_take (v := ?_) (some 42) rfl rfl (fun _ _ _ h => h) (by rfl) ?_ ?_; rotate_left; (focus (intro w' hw'; obtain ⟨k0, k1, k2⟩ := HCB.out w' hw'; go_simp; (try with_reducible rfl))); (try simp only [Act.put, List.setIfInBounds_toArray, List.set_cons_zero, List.set_cons_succ]))
      first | (refine walkS_skip (some 43) rfl rfl (by rfl) (fun _ _ _ h => h) hS ?_; (try simp only [Act.put, List.setIfInBounds_toArray, List.set_cons_zero, List.set_cons_succ])) | (refine walkS_take (v := ?_) (some 43) rfl rfl (fun _ _ _ h => h) (by rfl) ?_ ?_; rotate_left; (focus (intro w' hw'; obtain ⟨k0, k1, k2⟩ := HCB.out w' hw'; go_simp; (try with_reducible rfl))); (try simp only [Act.put, List.setIfInBounds_toArray, List.set_cons_zero, List.set_cons_succ]))
      first | (refine walkS_skip (some 44) rfl rfl (by rfl) (fun _ _ _ h => h) hS ?_; (try simp only [Act.put, List.setIfInBounds_toArray, List.set_cons_zero, List.set_cons_succ])) | (refine walkS_take (v := ?_) (some 44) rfl rfl (fun _ _ _ h => h) (by rfl) ?_ ?_; rotate_left; (focus (intro w' hw'; obtain ⟨k0, k1, k2⟩ := HCB.out w' hw'; go_simp; (try with_reducible rfl))); (try simp only [Act.put, List.setIfInBounds_toArray, List.set_cons_zero, List.set_cons_succ]))
      first | (refine walkS_skip (some 45) rfl rfl (by rfl) (fun _ _ _ h => h) hS ?_; (try simp only [Act.put, List.setIfInBounds_toArray, List.set_cons_zero, List.set_cons_succ])) | (refine walkS_take (v := ?_) (some 45) rfl rfl (fun _ _ _ h => h) (by rfl) ?_ ?_; rotate_left; (focus (intro w' hw'; obtain ⟨k0, k1, k2⟩ := HCB.out w' hw'; go_simp; (try with_reducible rfl))); (try simp only [Act.put, List.setIfInBounds_toArray, List.set_cons_zero, List.set_cons_succ]))
      first | (refine walkS_skip (some 46) rfl rfl (by rfl) (fun _ _ _ h => h) hS ?_; (try simp only [Act.put, List.setIfInBounds_toArray, List.set_cons_zero, List.set_cons_succ])) | (refine walkS_bin (some 46) _ _ _ _ _ _ _ _ (gtI_no _ _ HG2.out) rfl rfl rfl rfl rfl (fun _ _ _ h => h) (by rfl) ?_; (try simp only [Act.put, List.setIfInBounds_toArray, List.set_cons_zero, List.set_cons_succ]))
      (refine walkS_take (v := ?_) (some 47) rfl rfl (fun _ _ _ h => h) (by rfl) ?_ ?_; rotate_left; (focus (intro w' hw'; obtain ⟨k0, k1, k2⟩ := HCB.out w' hw'; go_simp; (try with_reducible rfl))); (try simp only [Act.put, List.setIfInBounds_toArray, List.set_cons_zero, List.set_cons_succ]))
      (refine walkS_take (v := ?_) (some 48) rfl rfl (fun _ _ _ h => h) (by rfl) ?_ ?_; rotate_left; (focus (intro w' hw'; obtain ⟨k0, k1, k2⟩ := HCB.out w' hw'; go_simp; (try with_reducible rfl))); (try simp only [Act.put, List.setIfInBounds_toArray, List.set_cons_zero, List.set_cons_succ]))
      first | (refine walkS_skip (some 49) rfl rfl (by rfl) (fun _ _ _ h => h) hS ?_; (try simp only [Act.put, List.setIfInBounds_toArray, List.set_cons_zero, List.set_cons_succ])) | (refine walkS_take (v := ?_) (some 49) rfl rfl (fun _ _ _ h => h) (by rfl) ?_ ?_; rotate_left; (focus (intro w' hw'; obtain ⟨k0, k1, k2⟩ := HCB.out w' hw'; go_simp; (try with_reducible rfl))); (try simp only [Act.put, List.setIfInBounds_toArray, List.set_cons_zero, List.set_cons_succ]))
      first | (refine walkS_skip (some 50) rfl rfl (by rfl) (fun _ _ _ h => h) hS ?_; (try simp only [Act.put, List.setIfInBounds_toArray, List.set_cons_zero, List.set_cons_succ])) | (refine walkS_take (v := ?_) (some 50) rfl rfl (fun _ _ _ h => h) (by rfl) ?_ ?_; rotate_left; (focus (intro w' hw'; obtain ⟨k0, k1, k2⟩ := HCB.out w' hw'; go_simp; (try with_reducible rfl))); (try simp only [Act.put, List.setIfInBounds_toArray, List.set_cons_zero, List.set_cons_succ]))
      first | (refine walkS_skip (some 51) rfl rfl (by rfl) (fun _ _ _ h => h) hS ?_; (try simp only [Act.put, List.setIfInBounds_toArray, List.set_cons_zero, List.set_cons_succ])) | (refine walkS_take (v := ?_) (some 51) rfl rfl (fun _ _ _ h => h) (by rfl) ?_ ?_; rotate_left; (focus (intro w' hw'; obtain ⟨k0, k1, k2⟩ := HCB.out w' hw'; go_simp; (try with_reducible rfl))); (try simp only [Act.put, List.setIfInBounds_toArray, List.set_cons_zero, List.set_cons_succ]))
      first | (refine walkS_skip (some 52) rfl rfl (by rfl) (fun _ _ _ h => h) hS ?_; (try simp only [Act.put, List.setIfInBounds_toArray, List.set_cons_zero, List.set_cons_succ])) | (refine walkS_take (v := ?_) (some 52) rfl rfl (fun _ _ _ h => h) (by rfl) ?_ ?_; rotate_left; (focus (intro w' hw'; obtain ⟨k0, k1, k2⟩ := HCB.out w' hw'; go_simp; (try with_reducible rfl))); (try simp only [Act.put, List.setIfInBounds_toArray, List.set_cons_zero, List.set_cons_succ]))
      first | (refine walkS_skip (some 53) rfl rfl (by rfl) (fun _ _ _ h => h) hS ?_; (try simp only [Act.put, List.setIfInBounds_toArray, List.set_cons_zero, List.set_cons_succ])) | (refine walkS_take (v := ?_) (some 53) rfl rfl (fun _ _ _ h => h) (by rfl) ?_ ?_; rotate_left; (focus (intro w' hw'; obtain ⟨k0, k1, k2⟩ := HCB.out w' hw'; go_simp; (try with_reducible rfl))); (try simp only [Act.put, List.setIfInBounds_toArray, List.set_cons_zero, List.set_cons_succ]))
      first | (refine walkS_skip (some 54) rfl rfl (by rfl) (fun _ _ _ h => h) hS ?_; (try simp only [Act.put, List.setIfInBounds_toArray, List.set_cons_zero, List.set_cons_succ])) | (refine walkS_take (v := ?_) (some 54) rfl rfl (fun _ _ _ h => h) (by rfl) ?_ ?_; rotate_left; (focus (intro w' hw'; obtain ⟨k0, k1, k2⟩ := HCB.out w' hw'; go_simp; (try with_reducible rfl))); (try simp only [Act.put, List.setIfInBounds_toArray, List.set_cons_zero, List.set_cons_succ]))
      first | (refine walkS_skip (some 55) rfl rfl (by rfl) (fun _ _ _ h => h) hS ?_; (try simp only [Act.put, List.setIfInBounds_toArray, List.set_cons_zero, List.set_cons_succ])) | (refine walkS_take (v := ?_) (some 55) rfl rfl (fun _ _ _ h => h) (by rfl) ?_ ?_; rotate_left; (focus (intro w' hw'; obtain ⟨k0, k1, k2⟩ := HCB.out w' hw'; go_simp; (try with_reducible rfl))); (try simp only [Act.put, List.setIfInBounds_toArray, List.set_cons_zero, List.set_cons_succ]))
      first | (refine walkS_skip (some 56) rfl rfl (by rfl) (fun _ _ _ h => h) hS ?_; (try simp only [Act.put, List.setIfInBounds_toArray, List.set_cons_zero, List.set_cons_succ])) | (refine walkS_take (v := ?_) (some 56) rfl rfl (fun _ _ _ h => h) (by rfl) ?_ ?_; rotate_left; (focus (intro w' hw'; obtain ⟨k0, k1, k2⟩ := HCB.out w' hw'; go_simp; (try with_reducible rfl))); (try simp only [Act.put, List.setIfInBounds_toArray, List.set_cons_zero, List.set_cons_succ]))
      first | (refine walkS_skip (some 57) rfl rfl (by rfl) (fun _ _ _ h => h) hS ?_; (try simp only [Act.put, List.setIfInBounds_toArray, List.set_cons_zero, List.set_cons_succ])) | (refine walkS_take (v := ?_) (some 57) rfl rfl (fun _ _ _ h => h) (by rfl) ?_ ?_; rotate_left; (focus (intro w' hw'; obtain ⟨k0, k1, k2⟩ := HCB.out w' hw'; go_simp; (try with_reducible rfl))); (try simp only [Act.put, List.setIfInBounds_toArray, List.set_cons_zero, List.set_cons_succ]))
      first | (refine walkS_skip (some 58) rfl rfl (by rfl) (fun _ _ _ h => h) hS ?_; (try simp only [Act.put, List.setIfInBounds_toArray, List.set_cons_zero, List.set_cons_succ])) | (refine walkS_take (v := ?_) (some 58) rfl rfl (fun _ _ _ h => h) (by rfl) ?_ ?_; rotate_left; (focus (intro w' hw'; obtain ⟨k0, k1, k2⟩ := HCB.out w' hw'; go_simp; (try with_reducible rfl))); (try simp only [Act.put, List.setIfInBounds_toArray, List.set_cons_zero, List.set_cons_succ]))
      (refine walkS_take (v := ?_) (some 59) rfl rfl (fun _ _ _ h => h) (by rfl) ?_ ?_; rotate_left; (focus (intro w' hw'; obtain ⟨k0, k1, k2⟩ := HCB.out w' hw'; go_simp; (try with_reducible rfl))); (try simp only [Act.put, List.setIfInBounds_toArray, List.set_cons_zero, List.set_cons_succ]))
      refine walkS_done ?_
      go_wp2_with fail
      have HR := Lib.hid (RT.trans HT2.out (fun k hk => .inl hk) ((HMB.out.still hS).same (hS.mono (fun _ _ h => h.elim))))
      go_ret
      exact ⟨rfl, HR.out⟩
    · by_cases hb : (1048576 - (0 : Nat) : Int) < (len : Int)
      · omega
      · by_cases hc : 200 ≤ R1.N.length
        · obtain ⟨e1, e2⟩ := HE7.out (.inr (.inr ⟨rfl, hc⟩))
          rw [e1, e2]
          have hcI : (200 : Int) ≤ R1.N.length := by omega
          have HG1 : RowKit.Hid ((len : Int) ≤ IntKind.i64.wrap (R1.q - (rSum R1 R1.N : Nat))) := Lib.hid (by rw [IntWalk.i64_in _ (by have := HSB.out; have := HQB.out; omega)]; omega)
          have HG2 : RowKit.Hid ((len : Int) ≤ IntKind.i64.wrap (1048576 - (0 : Int))) := Lib.hid (by rw [IntWalk.i64_in _ (by omega)]; omega)
          clear e1 e2 hno ha hb
          go_enter Try.func36, Try.ntmps36
          go_wp2_with fail
          (with_reducible refine HO.out.mono ?_)
          rintro e w1 ⟨rfl, m1, t1⟩
          have c1 := m1.cells.2.1
          have HFN := Lib.hid (rfind_any w1 h.na R1.N.length h.nc R1.N m1.now k)
          rw [HNO.out] at HFN
          simp only [fI] at HFN
          have HM1 := Lib.hid m1
          have HT1 := Lib.hid t1
          clear m1 t1
          go_wp2_with fail
          (with_reducible refine (HMY.out w1).mono ?_)
          rintro e w9 ⟨rfl, rfl⟩
          go_wp2_with fail
          (with_reducible refine HFN.out.mono ?_)
          rintro e w2 ⟨rfl, t2⟩
          have HT2 := Lib.hid (HT1.out.trans t2 (fun _ _ h => h.elim))
          have HMB := Lib.hid (HM1.out.still t2)
          clear t2 c1
          have HCB : RowKit.Hid (∀ w', Touch w2 w' (fun _ => False) → w'.cell? ⟨m, 0, none⟩ = some (.slice h.fa h.L.length h.fc) ∧ w'.cell? ⟨m, 1, none⟩ = some (.slice h.na R1.N.length h.nc) ∧ w'.cell? ⟨m, 4, none⟩ = some (.int .i64 R1.q)) := Lib.hid (fun w' t => ⟨(HMB.out.still t).cells.1, (HMB.out.still t).cells.2.1, (HMB.out.still t).cells.2.2.2.2.1⟩)
          have HR := Lib.hid (HMB.out.same HT2.out)
          go_upto_region 9 with (fail)
          have hS := (Touch.refl w2 (fun _ => False)).drew
          refine wp_region_sched (fun w' => Touch w2 w' (fun _ => False)) [(0, true), (1, true), (2, true), (3, true), (4, true), (5, true), (6, true), (7, false), (8, true), (9, true), (10, true), (11, true), (12, true), (13, true), (14, true), (15, true), (16, true), (17, true), (18, true), (19, true), (20, true), (21, true), (22, true), (23, true), (24, true), (25, true), (26, true), (27, true), (28, true)] (by kernel_rfl) (by kernel_rfl) rfl (by kernel_rfl) hS ?_
          (refine walkS_take (v := ?_) (some 31) rfl rfl (fun _ _ _ h => h) (by rfl) ?_ ?_; rotate_left; (focus (intro w' hw'; obtain ⟨k0, k1, k2⟩ := HCB.out w' hw'; go_simp; (try with_reducible rfl))); (try simp only [Act.put, List.setIfInBounds_toArray, List.set_cons_zero, List.set_cons_succ]))
          (refine walkS_take (v := ?_) (some 32) rfl rfl (fun _ _ _ h => h) (by rfl) ?_ ?_; rotate_left; (focus (intro w' hw'; obtain ⟨k0, k1, k2⟩ := HCB.out w' hw'; go_simp; (try with_reducible rfl))); (try simp only [Act.put, List.setIfInBounds_toArray, List.set_cons_zero, List.set_cons_succ]))
          (refine walkS_take (v := ?_) (some 33) rfl rfl (fun _ _ _ h => h) (by rfl) ?_ ?_; rotate_left; (focus (intro w' hw'; obtain ⟨k0, k1, k2⟩ := HCB.out w' hw'; go_simp; (try with_reducible rfl))); (try simp only [Act.put, List.setIfInBounds_toArray, List.set_cons_zero, List.set_cons_succ]))
          (refine walkS_take (v := ?_) (some 34) rfl rfl (fun _ _ _ h => h) (by rfl) ?_ ?_; rotate_left; (focus (intro w' hw'; obtain ⟨k0, k1, k2⟩ := HCB.out w' hw'; go_simp; (try with_reducible rfl))); (try simp only [Act.put, List.setIfInBounds_toArray, List.set_cons_zero, List.set_cons_succ]))
          (refine walkS_take (v := ?_) (some 35) rfl rfl (fun _ _ _ h => h) (by rfl) ?_ ?_; rotate_left; (focus (intro w' hw'; obtain ⟨k0, k1, k2⟩ := HCB.out w' hw'; go_simp; (try with_reducible rfl))); (try simp only [Act.put, List.setIfInBounds_toArray, List.set_cons_zero, List.set_cons_succ]))
          (refine walkS_take (v := ?_) (some 36) rfl rfl (fun _ _ _ h => h) (by rfl) ?_ ?_; rotate_left; (focus (intro w' hw'; obtain ⟨k0, k1, k2⟩ := HCB.out w' hw'; go_simp; (try with_reducible rfl))); (try simp only [Act.put, List.setIfInBounds_toArray, List.set_cons_zero, List.set_cons_succ]))
          (refine walkS_take (v := ?_) (some 37) rfl rfl (fun _ _ _ h => h) (by rfl) ?_ ?_; rotate_left; (focus (intro w' hw'; obtain ⟨k0, k1, k2⟩ := HCB.out w' hw'; go_simp; (try with_reducible rfl))); (try simp only [Act.put, List.setIfInBounds_toArray, List.set_cons_zero, List.set_cons_succ]))
          (refine walkS_call 38 _ _ _ _ ((rsize_any _ m h R1 (HMB.out.still hS) HV1.out)) rfl rfl rfl (by rfl) rfl (enter_rsize _ _) ?_; rintro e w' ⟨rfl, t⟩; have hS := hS.trans t (fun _ _ h => h); clear t; refine ⟨_, rfl, hS, fun hS => ?_⟩; (try simp only [Act.put, List.setIfInBounds_toArray, List.set_cons_zero, List.set_cons_succ]))
          (refine walkS_take (v := ?_) (some 39) rfl rfl (fun _ _ _ h => h) (by rfl) ?_ ?_; rotate_left; (focus (intro w' hw'; obtain ⟨k0, k1, k2⟩ := HCB.out w' hw'; go_simp; (try with_reducible rfl))); (try simp only [Act.put, List.setIfInBounds_toArray, List.set_cons_zero, List.set_cons_succ]))
          (refine walkS_bin (some 40) _ _ _ _ _ _ _ _ (gtI_no _ _ HG1.out) rfl rfl rfl rfl rfl (fun _ _ _ h => h) (by rfl) ?_; (try simp only [Act.put, List.setIfInBounds_toArray, List.set_cons_zero, List.set_cons_succ]))
          (refine walkS_take (v := ?_) (some 41) rfl rfl (fun _ _ _ h => h) (by rfl) ?_ ?_; rotate_left; (focus (intro w' hw'; obtain ⟨k0, k1, k2⟩ := HCB.out w' hw'; go_simp; (try with_reducible rfl))); (try simp only [Act.put, List.setIfInBounds_toArray, List.set_cons_zero, List.set_cons_succ]))
          first | (refine walkS_skip (some 42) rfl rfl (by rfl) (fun _ _ _ h => h) hS ?_; (try simp only [Act.put, List.setIfInBounds_toArray, List.set_cons_zero, List.set_cons_succ])) | (refine walkS_take (v := ?_) (some 42) rfl rfl (fun _ _ _ h => h) (by rfl) ?_ ?_; rotate_left; (focus (intro w' hw'; obtain ⟨k0, k1, k2⟩ := HCB.out w' hw'; go_simp; (try with_reducible rfl))); (try simp only [Act.put, List.setIfInBounds_toArray, List.set_cons_zero, List.set_cons_succ]))
          first | (refine walkS_skip (some 43) rfl rfl (by rfl) (fun _ _ _ h => h) hS ?_; (try simp only [Act.put, List.setIfInBounds_toArray, List.set_cons_zero, List.set_cons_succ])) | (refine walkS_take (v := ?_) (some 43) rfl rfl (fun _ _ _ h => h) (by rfl) ?_ ?_; rotate_left; (focus (intro w' hw'; obtain ⟨k0, k1, k2⟩ := HCB.out w' hw'; go_simp; (try with_reducible rfl))); (try simp only [Act.put, List.setIfInBounds_toArray, List.set_cons_zero, List.set_cons_succ]))
          first | (refine walkS_skip (some 44) rfl rfl (by rfl) (fun _ _ _ h => h) hS ?_; (try simp only [Act.put, List.setIfInBounds_toArray, List.set_cons_zero, List.set_cons_succ])) | (refine walkS_take (v := ?_) (some 44) rfl rfl (fun _ _ _ h => h) (by rfl) ?_ ?_; rotate_left; (focus (intro w' hw'; obtain ⟨k0, k1, k2⟩ := HCB.out w' hw'; go_simp; (try with_reducible rfl))); (try simp only [Act.put, List.setIfInBounds_toArray, List.set_cons_zero, List.set_cons_succ]))
          first | (refine walkS_skip (some 45) rfl rfl (by rfl) (fun _ _ _ h => h) hS ?_; (try simp only [Act.put, List.setIfInBounds_toArray, List.set_cons_zero, List.set_cons_succ])) | (refine walkS_take (v := ?_) (some 45) rfl rfl (fun _ _ _ h => h) (by rfl) ?_ ?_; rotate_left; (focus (intro w' hw'; obtain ⟨k0, k1, k2⟩ := HCB.out w' hw'; go_simp; (try with_reducible rfl))); (try simp only [Act.put, List.setIfInBounds_toArray, List.set_cons_zero, List.set_cons_succ]))
          first | (refine walkS_skip (some 46) rfl rfl (by rfl) (fun _ _ _ h => h) hS ?_; (try simp only [Act.put, List.setIfInBounds_toArray, List.set_cons_zero, List.set_cons_succ])) | (refine walkS_bin (some 46) _ _ _ _ _ _ _ _ (gtI_no _ _ HG2.out) rfl rfl rfl rfl rfl (fun _ _ _ h => h) (by rfl) ?_; (try simp only [Act.put, List.setIfInBounds_toArray, List.set_cons_zero, List.set_cons_succ]))
          (refine walkS_take (v := ?_) (some 47) rfl rfl (fun _ _ _ h => h) (by rfl) ?_ ?_; rotate_left; (focus (intro w' hw'; obtain ⟨k0, k1, k2⟩ := HCB.out w' hw'; go_simp; (try with_reducible rfl))); (try simp only [Act.put, List.setIfInBounds_toArray, List.set_cons_zero, List.set_cons_succ]))
          (refine walkS_take (v := ?_) (some 48) rfl rfl (fun _ _ _ h => h) (by rfl) ?_ ?_; rotate_left; (focus (intro w' hw'; obtain ⟨k0, k1, k2⟩ := HCB.out w' hw'; go_simp; (try with_reducible rfl))); (try simp only [Act.put, List.setIfInBounds_toArray, List.set_cons_zero, List.set_cons_succ]))
          first | (refine walkS_skip (some 49) rfl rfl (by rfl) (fun _ _ _ h => h) hS ?_; (try simp only [Act.put, List.setIfInBounds_toArray, List.set_cons_zero, List.set_cons_succ])) | (refine walkS_take (v := ?_) (some 49) rfl rfl (fun _ _ _ h => h) (by rfl) ?_ ?_; rotate_left; (focus (intro w' hw'; obtain ⟨k0, k1, k2⟩ := HCB.out w' hw'; go_simp; (try with_reducible rfl))); (try simp only [Act.put, List.setIfInBounds_toArray, List.set_cons_zero, List.set_cons_succ]))
          first | (refine walkS_skip (some 50) rfl rfl (by rfl) (fun _ _ _ h => h) hS ?_; (try simp only [Act.put, List.setIfInBounds_toArray, List.set_cons_zero, List.set_cons_succ])) | (refine walkS_take (v := ?_) (some 50) rfl rfl (fun _ _ _ h => h) (by rfl) ?_ ?_; rotate_left; (focus (intro w' hw'; obtain ⟨k0, k1, k2⟩ := HCB.out w' hw'; go_simp; (try with_reducible rfl))); (try simp only [Act.put, List.setIfInBounds_toArray, List.set_cons_zero, List.set_cons_succ]))
          first | (refine walkS_skip (some 51) rfl rfl (by rfl) (fun _ _ _ h => h) hS ?_; (try simp only [Act.put, List.setIfInBounds_toArray, List.set_cons_zero, List.set_cons_succ])) | (refine walkS_take (v := ?_) (some 51) rfl rfl (fun _ _ _ h => h) (by rfl) ?_ ?_; rotate_left; (focus (intro w' hw'; obtain ⟨k0, k1, k2⟩ := HCB.out w' hw'; go_simp; (try with_reducible rfl))); (try simp only [Act.put, List.setIfInBounds_toArray, List.set_cons_zero, List.set_cons_succ]))
          first | (refine walkS_skip (some 52) rfl rfl (by rfl) (fun _ _ _ h => h) hS ?_; (try simp only [Act.put, List.setIfInBounds_toArray, List.set_cons_zero, List.set_cons_succ])) | (refine walkS_take (v := ?_) (some 52) rfl rfl (fun _ _ _ h => h) (by rfl) ?_ ?_; rotate_left; (focus (intro w' hw'; obtain ⟨k0, k1, k2⟩ := HCB.out w' hw'; go_simp; (try with_reducible rfl))); (try simp only [Act.put, List.setIfInBounds_toArray, List.set_cons_zero, List.set_cons_succ]))
          first | (refine walkS_skip (some 53) rfl rfl (by rfl) (fun _ _ _ h => h) hS ?_; (try simp only [Act.put, List.setIfInBounds_toArray, List.set_cons_zero, List.set_cons_succ])) | (refine walkS_take (v := ?_) (some 53) rfl rfl (fun _ _ _ h => h) (by rfl) ?_ ?_; rotate_left; (focus (intro w' hw'; obtain ⟨k0, k1, k2⟩ := HCB.out w' hw'; go_simp; (try with_reducible rfl))); (try simp only [Act.put, List.setIfInBounds_toArray, List.set_cons_zero, List.set_cons_succ]))
          first | (refine walkS_skip (some 54) rfl rfl (by rfl) (fun _ _ _ h => h) hS ?_; (try simp only [Act.put, List.setIfInBounds_toArray, List.set_cons_zero, List.set_cons_succ])) | (refine walkS_take (v := ?_) (some 54) rfl rfl (fun _ _ _ h => h) (by rfl) ?_ ?_; rotate_left; (focus (intro w' hw'; obtain ⟨k0, k1, k2⟩ := HCB.out w' hw'; go_simp; (try with_reducible rfl))); (try simp only [Act.put, List.setIfInBounds_toArray, List.set_cons_zero, List.set_cons_succ]))
          first | (refine walkS_skip (some 55) rfl rfl (by rfl) (fun _ _ _ h => h) hS ?_; (try simp only [Act.put, List.setIfInBounds_toArray, List.set_cons_zero, List.set_cons_succ])) | (refine walkS_take (v := ?_) (some 55) rfl rfl (fun _ _ _ h => h) (by rfl) ?_ ?_; rotate_left; (focus (intro w' hw'; obtain ⟨k0, k1, k2⟩ := HCB.out w' hw'; go_simp; (try with_reducible rfl))); (try simp only [Act.put, List.setIfInBounds_toArray, List.set_cons_zero, List.set_cons_succ]))
          first | (refine walkS_skip (some 56) rfl rfl (by rfl) (fun _ _ _ h => h) hS ?_; (try simp only [Act.put, List.setIfInBounds_toArray, List.set_cons_zero, List.set_cons_succ])) | (refine walkS_take (v := ?_) (some 56) rfl rfl (fun _ _ _ h => h) (by rfl) ?_ ?_; rotate_left; (focus (intro w' hw'; obtain ⟨k0, k1, k2⟩ := HCB.out w' hw'; go_simp; (try with_reducible rfl))); (try simp only [Act.put, List.setIfInBounds_toArray, List.set_cons_zero, List.set_cons_succ]))
          first | (refine walkS_skip (some 57) rfl rfl (by rfl) (fun _ _ _ h => h) hS ?_; (try simp only [Act.put, List.setIfInBounds_toArray, List.set_cons_zero, List.set_cons_succ])) | (refine walkS_take (v := ?_) (some 57) rfl rfl (fun _ _ _ h => h) (by rfl) ?_ ?_; rotate_left; (focus (intro w' hw'; obtain ⟨k0, k1, k2⟩ := HCB.out w' hw'; go_simp; (try with_reducible rfl))); (try simp only [Act.put, List.setIfInBounds_toArray, List.set_cons_zero, List.set_cons_succ]))
          first | (refine walkS_skip (some 58) rfl rfl (by rfl) (fun _ _ _ h => h) hS ?_; (try simp only [Act.put, List.setIfInBounds_toArray, List.set_cons_zero, List.set_cons_succ])) | (refine walkS_take (v := ?_) (some 58) rfl rfl (fun _ _ _ h => h) (by rfl) ?_ ?_; rotate_left; (focus (intro w' hw'; obtain ⟨k0, k1, k2⟩ := HCB.out w' hw'; go_simp; (try with_reducible rfl))); (try simp only [Act.put, List.setIfInBounds_toArray, List.set_cons_zero, List.set_cons_succ]))
          (refine walkS_take (v := ?_) (some 59) rfl rfl (fun _ _ _ h => h) (by rfl) ?_ ?_; rotate_left; (focus (intro w' hw'; obtain ⟨k0, k1, k2⟩ := HCB.out w' hw'; go_simp; (try with_reducible rfl))); (try simp only [Act.put, List.setIfInBounds_toArray, List.set_cons_zero, List.set_cons_succ]))
          refine walkS_done ?_
          go_wp2_with fail
          have HR := Lib.hid (RT.trans HT2.out (fun k hk => .inl hk) ((HMB.out.still hS).same (hS.mono (fun _ _ h => h.elim))))
          go_ret
          exact ⟨rfl, HR.out⟩
        · obtain ⟨e1, e2⟩ := HE0.out (by
            rintro (h9 | h9 | h9)
            · exact ha h9
            · exact hb h9
            · exact hc h9.2)
          rw [e1, e2]
          have hcI : ¬ (200 : Int) ≤ R1.N.length := by omega
          have HG1 : RowKit.Hid ((len : Int) ≤ IntKind.i64.wrap (R1.q - (rSum R1 R1.N : Nat))) := Lib.hid (by rw [IntWalk.i64_in _ (by have := HSB.out; have := HQB.out; omega)]; omega)
          have HG2 : RowKit.Hid ((len : Int) ≤ IntKind.i64.wrap (1048576 - (0 : Int))) := Lib.hid (by rw [IntWalk.i64_in _ (by omega)]; omega)
          clear e1 e2 hno ha hb
          go_enter Try.func36, Try.ntmps36
          go_wp2_with fail
          (with_reducible refine HO.out.mono ?_)
          rintro e w1 ⟨rfl, m1, t1⟩
          have c1 := m1.cells.2.1
          have HFN := Lib.hid (rfind_any w1 h.na R1.N.length h.nc R1.N m1.now k)
          rw [HNO.out] at HFN
          simp only [fI] at HFN
          have HM1 := Lib.hid m1
          have HT1 := Lib.hid t1
          clear m1 t1
          go_wp2_with fail
          (with_reducible refine (HMY.out w1).mono ?_)
          rintro e w9 ⟨rfl, rfl⟩
          go_wp2_with fail
          (with_reducible refine HFN.out.mono ?_)
          rintro e w2 ⟨rfl, t2⟩
          have HT2 := Lib.hid (HT1.out.trans t2 (fun _ _ h => h.elim))
          have HMB := Lib.hid (HM1.out.still t2)
          clear t2 c1
          have HCB : RowKit.Hid (∀ w', Touch w2 w' (fun _ => False) → w'.cell? ⟨m, 0, none⟩ = some (.slice h.fa h.L.length h.fc) ∧ w'.cell? ⟨m, 1, none⟩ = some (.slice h.na R1.N.length h.nc) ∧ w'.cell? ⟨m, 4, none⟩ = some (.int .i64 R1.q)) := Lib.hid (fun w' t => ⟨(HMB.out.still t).cells.1, (HMB.out.still t).cells.2.1, (HMB.out.still t).cells.2.2.2.2.1⟩)
          go_upto_region 9 with (fail)
          have hS := (Touch.refl w2 (fun _ => False)).drew
          refine wp_region_sched (fun w' => Touch w2 w' (fun _ => False)) [(0, true), (1, true), (2, true), (3, true), (4, true), (5, true), (6, true), (7, false), (8, true), (9, true), (10, true), (11, true), (12, true), (13, true), (14, true), (15, true), (16, true), (17, true), (18, true), (19, true), (20, true), (21, true), (22, true), (23, true), (24, true), (25, true), (26, true), (27, true), (28, true)] (by kernel_rfl) (by kernel_rfl) rfl (by kernel_rfl) hS ?_
          (refine walkS_take (v := ?_) (some 31) rfl rfl (fun _ _ _ h => h) (by rfl) ?_ ?_; rotate_left; (focus (intro w' hw'; obtain ⟨k0, k1, k2⟩ := HCB.out w' hw'; go_simp; (try with_reducible rfl))); (try simp only [Act.put, List.setIfInBounds_toArray, List.set_cons_zero, List.set_cons_succ]))
          (refine walkS_take (v := ?_) (some 32) rfl rfl (fun _ _ _ h => h) (by rfl) ?_ ?_; rotate_left; (focus (intro w' hw'; obtain ⟨k0, k1, k2⟩ := HCB.out w' hw'; go_simp; (try with_reducible rfl))); (try simp only [Act.put, List.setIfInBounds_toArray, List.set_cons_zero, List.set_cons_succ]))
          (refine walkS_take (v := ?_) (some 33) rfl rfl (fun _ _ _ h => h) (by rfl) ?_ ?_; rotate_left; (focus (intro w' hw'; obtain ⟨k0, k1, k2⟩ := HCB.out w' hw'; go_simp; (try with_reducible rfl))); (try simp only [Act.put, List.setIfInBounds_toArray, List.set_cons_zero, List.set_cons_succ]))
          (refine walkS_take (v := ?_) (some 34) rfl rfl (fun _ _ _ h => h) (by rfl) ?_ ?_; rotate_left; (focus (intro w' hw'; obtain ⟨k0, k1, k2⟩ := HCB.out w' hw'; go_simp; (try with_reducible rfl))); (try simp only [Act.put, List.setIfInBounds_toArray, List.set_cons_zero, List.set_cons_succ]))
          (refine walkS_take (v := ?_) (some 35) rfl rfl (fun _ _ _ h => h) (by rfl) ?_ ?_; rotate_left; (focus (intro w' hw'; obtain ⟨k0, k1, k2⟩ := HCB.out w' hw'; go_simp; (try with_reducible rfl))); (try simp only [Act.put, List.setIfInBounds_toArray, List.set_cons_zero, List.set_cons_succ]))
          (refine walkS_take (v := ?_) (some 36) rfl rfl (fun _ _ _ h => h) (by rfl) ?_ ?_; rotate_left; (focus (intro w' hw'; obtain ⟨k0, k1, k2⟩ := HCB.out w' hw'; go_simp; (try with_reducible rfl))); (try simp only [Act.put, List.setIfInBounds_toArray, List.set_cons_zero, List.set_cons_succ]))
          (refine walkS_take (v := ?_) (some 37) rfl rfl (fun _ _ _ h => h) (by rfl) ?_ ?_; rotate_left; (focus (intro w' hw'; obtain ⟨k0, k1, k2⟩ := HCB.out w' hw'; go_simp; (try with_reducible rfl))); (try simp only [Act.put, List.setIfInBounds_toArray, List.set_cons_zero, List.set_cons_succ]))
          (refine walkS_call 38 _ _ _ _ ((rsize_any _ m h R1 (HMB.out.still hS) HV1.out)) rfl rfl rfl (by rfl) rfl (enter_rsize _ _) ?_; rintro e x1 ⟨rfl, t⟩; have hS := hS.trans t (fun _ _ h => h); clear t; refine ⟨_, rfl, hS, fun hS => ?_⟩; (try simp only [Act.put, List.setIfInBounds_toArray, List.set_cons_zero, List.set_cons_succ]))
          (refine walkS_take (v := ?_) (some 39) rfl rfl (fun _ _ _ h => h) (by rfl) ?_ ?_; rotate_left; (focus (intro w' hw'; obtain ⟨k0, k1, k2⟩ := HCB.out w' hw'; go_simp; (try with_reducible rfl))); (try simp only [Act.put, List.setIfInBounds_toArray, List.set_cons_zero, List.set_cons_succ]))
          (refine walkS_bin (some 40) _ _ _ _ _ _ _ _ (gtI_no _ _ HG1.out) rfl rfl rfl rfl rfl (fun _ _ _ h => h) (by rfl) ?_; (try simp only [Act.put, List.setIfInBounds_toArray, List.set_cons_zero, List.set_cons_succ]))
          (refine walkS_take (v := ?_) (some 41) rfl rfl (fun _ _ _ h => h) (by rfl) ?_ ?_; rotate_left; (focus (intro w' hw'; obtain ⟨k0, k1, k2⟩ := HCB.out w' hw'; go_simp; (try with_reducible rfl))); (try simp only [Act.put, List.setIfInBounds_toArray, List.set_cons_zero, List.set_cons_succ]))
          first | (refine walkS_skip (some 42) rfl rfl (by rfl) (fun _ _ _ h => h) hS ?_; (try simp only [Act.put, List.setIfInBounds_toArray, List.set_cons_zero, List.set_cons_succ])) | (refine walkS_take (v := ?_) (some 42) rfl rfl (fun _ _ _ h => h) (by rfl) ?_ ?_; rotate_left; (focus (intro w' hw'; obtain ⟨k0, k1, k2⟩ := HCB.out w' hw'; go_simp; (try with_reducible rfl))); (try simp only [Act.put, List.setIfInBounds_toArray, List.set_cons_zero, List.set_cons_succ]))
          first | (refine walkS_skip (some 43) rfl rfl (by rfl) (fun _ _ _ h => h) hS ?_; (try simp only [Act.put, List.setIfInBounds_toArray, List.set_cons_zero, List.set_cons_succ])) | (refine walkS_take (v := ?_) (some 43) rfl rfl (fun _ _ _ h => h) (by rfl) ?_ ?_; rotate_left; (focus (intro w' hw'; obtain ⟨k0, k1, k2⟩ := HCB.out w' hw'; go_simp; (try with_reducible rfl))); (try simp only [Act.put, List.setIfInBounds_toArray, List.set_cons_zero, List.set_cons_succ]))
          first | (refine walkS_skip (some 44) rfl rfl (by rfl) (fun _ _ _ h => h) hS ?_; (try simp only [Act.put, List.setIfInBounds_toArray, List.set_cons_zero, List.set_cons_succ])) | (refine walkS_take (v := ?_) (some 44) rfl rfl (fun _ _ _ h => h) (by rfl) ?_ ?_; rotate_left; (focus (intro w' hw'; obtain ⟨k0, k1, k2⟩ := HCB.out w' hw'; go_simp; (try with_reducible rfl))); (try simp only [Act.put, List.setIfInBounds_toArray, List.set_cons_zero, List.set_cons_succ]))
          first | (refine walkS_skip (some 45) rfl rfl (by rfl) (fun _ _ _ h => h) hS ?_; (try simp only [Act.put, List.setIfInBounds_toArray, List.set_cons_zero, List.set_cons_succ])) | (refine walkS_take (v := ?_) (some 45) rfl rfl (fun _ _ _ h => h) (by rfl) ?_ ?_; rotate_left; (focus (intro w' hw'; obtain ⟨k0, k1, k2⟩ := HCB.out w' hw'; go_simp; (try with_reducible rfl))); (try simp only [Act.put, List.setIfInBounds_toArray, List.set_cons_zero, List.set_cons_succ]))
          first | (refine walkS_skip (some 46) rfl rfl (by rfl) (fun _ _ _ h => h) hS ?_; (try simp only [Act.put, List.setIfInBounds_toArray, List.set_cons_zero, List.set_cons_succ])) | (refine walkS_bin (some 46) _ _ _ _ _ _ _ _ (gtI_no _ _ HG2.out) rfl rfl rfl rfl rfl (fun _ _ _ h => h) (by rfl) ?_; (try simp only [Act.put, List.setIfInBounds_toArray, List.set_cons_zero, List.set_cons_succ]))
          (refine walkS_take (v := ?_) (some 47) rfl rfl (fun _ _ _ h => h) (by rfl) ?_ ?_; rotate_left; (focus (intro w' hw'; obtain ⟨k0, k1, k2⟩ := HCB.out w' hw'; go_simp; (try with_reducible rfl))); (try simp only [Act.put, List.setIfInBounds_toArray, List.set_cons_zero, List.set_cons_succ]))
          (refine walkS_take (v := ?_) (some 48) rfl rfl (fun _ _ _ h => h) (by rfl) ?_ ?_; rotate_left; (focus (intro w' hw'; obtain ⟨k0, k1, k2⟩ := HCB.out w' hw'; go_simp; (try with_reducible rfl))); (try simp only [Act.put, List.setIfInBounds_toArray, List.set_cons_zero, List.set_cons_succ]))
          first | (refine walkS_skip (some 49) rfl rfl (by rfl) (fun _ _ _ h => h) hS ?_; (try simp only [Act.put, List.setIfInBounds_toArray, List.set_cons_zero, List.set_cons_succ])) | (refine walkS_take (v := ?_) (some 49) rfl rfl (fun _ _ _ h => h) (by rfl) ?_ ?_; rotate_left; (focus (intro w' hw'; obtain ⟨k0, k1, k2⟩ := HCB.out w' hw'; go_simp; (try with_reducible rfl))); (try simp only [Act.put, List.setIfInBounds_toArray, List.set_cons_zero, List.set_cons_succ]))
          first | (refine walkS_skip (some 50) rfl rfl (by rfl) (fun _ _ _ h => h) hS ?_; (try simp only [Act.put, List.setIfInBounds_toArray, List.set_cons_zero, List.set_cons_succ])) | (refine walkS_take (v := ?_) (some 50) rfl rfl (fun _ _ _ h => h) (by rfl) ?_ ?_; rotate_left; (focus (intro w' hw'; obtain ⟨k0, k1, k2⟩ := HCB.out w' hw'; go_simp; (try with_reducible rfl))); (try simp only [Act.put, List.setIfInBounds_toArray, List.set_cons_zero, List.set_cons_succ]))
          first | (refine walkS_skip (some 51) rfl rfl (by rfl) (fun _ _ _ h => h) hS ?_; (try simp only [Act.put, List.setIfInBounds_toArray, List.set_cons_zero, List.set_cons_succ])) | (refine walkS_take (v := ?_) (some 51) rfl rfl (fun _ _ _ h => h) (by rfl) ?_ ?_; rotate_left; (focus (intro w' hw'; obtain ⟨k0, k1, k2⟩ := HCB.out w' hw'; go_simp; (try with_reducible rfl))); (try simp only [Act.put, List.setIfInBounds_toArray, List.set_cons_zero, List.set_cons_succ]))
          first | (refine walkS_skip (some 52) rfl rfl (by rfl) (fun _ _ _ h => h) hS ?_; (try simp only [Act.put, List.setIfInBounds_toArray, List.set_cons_zero, List.set_cons_succ])) | (refine walkS_take (v := ?_) (some 52) rfl rfl (fun _ _ _ h => h) (by rfl) ?_ ?_; rotate_left; (focus (intro w' hw'; obtain ⟨k0, k1, k2⟩ := HCB.out w' hw'; go_simp; (try with_reducible rfl))); (try simp only [Act.put, List.setIfInBounds_toArray, List.set_cons_zero, List.set_cons_succ]))
          first | (refine walkS_skip (some 53) rfl rfl (by rfl) (fun _ _ _ h => h) hS ?_; (try simp only [Act.put, List.setIfInBounds_toArray, List.set_cons_zero, List.set_cons_succ])) | (refine walkS_take (v := ?_) (some 53) rfl rfl (fun _ _ _ h => h) (by rfl) ?_ ?_; rotate_left; (focus (intro w' hw'; obtain ⟨k0, k1, k2⟩ := HCB.out w' hw'; go_simp; (try with_reducible rfl))); (try simp only [Act.put, List.setIfInBounds_toArray, List.set_cons_zero, List.set_cons_succ]))
          first | (refine walkS_skip (some 54) rfl rfl (by rfl) (fun _ _ _ h => h) hS ?_; (try simp only [Act.put, List.setIfInBounds_toArray, List.set_cons_zero, List.set_cons_succ])) | (refine walkS_take (v := ?_) (some 54) rfl rfl (fun _ _ _ h => h) (by rfl) ?_ ?_; rotate_left; (focus (intro w' hw'; obtain ⟨k0, k1, k2⟩ := HCB.out w' hw'; go_simp; (try with_reducible rfl))); (try simp only [Act.put, List.setIfInBounds_toArray, List.set_cons_zero, List.set_cons_succ]))
          first | (refine walkS_skip (some 55) rfl rfl (by rfl) (fun _ _ _ h => h) hS ?_; (try simp only [Act.put, List.setIfInBounds_toArray, List.set_cons_zero, List.set_cons_succ])) | (refine walkS_take (v := ?_) (some 55) rfl rfl (fun _ _ _ h => h) (by rfl) ?_ ?_; rotate_left; (focus (intro w' hw'; obtain ⟨k0, k1, k2⟩ := HCB.out w' hw'; go_simp; (try with_reducible rfl))); (try simp only [Act.put, List.setIfInBounds_toArray, List.set_cons_zero, List.set_cons_succ]))
          first | (refine walkS_skip (some 56) rfl rfl (by rfl) (fun _ _ _ h => h) hS ?_; (try simp only [Act.put, List.setIfInBounds_toArray, List.set_cons_zero, List.set_cons_succ])) | (refine walkS_take (v := ?_) (some 56) rfl rfl (fun _ _ _ h => h) (by rfl) ?_ ?_; rotate_left; (focus (intro w' hw'; obtain ⟨k0, k1, k2⟩ := HCB.out w' hw'; go_simp; (try with_reducible rfl))); (try simp only [Act.put, List.setIfInBounds_toArray, List.set_cons_zero, List.set_cons_succ]))
          first | (refine walkS_skip (some 57) rfl rfl (by rfl) (fun _ _ _ h => h) hS ?_; (try simp only [Act.put, List.setIfInBounds_toArray, List.set_cons_zero, List.set_cons_succ])) | (refine walkS_take (v := ?_) (some 57) rfl rfl (fun _ _ _ h => h) (by rfl) ?_ ?_; rotate_left; (focus (intro w' hw'; obtain ⟨k0, k1, k2⟩ := HCB.out w' hw'; go_simp; (try with_reducible rfl))); (try simp only [Act.put, List.setIfInBounds_toArray, List.set_cons_zero, List.set_cons_succ]))
          first | (refine walkS_skip (some 58) rfl rfl (by rfl) (fun _ _ _ h => h) hS ?_; (try simp only [Act.put, List.setIfInBounds_toArray, List.set_cons_zero, List.set_cons_succ])) | (refine walkS_take (v := ?_) (some 58) rfl rfl (fun _ _ _ h => h) (by rfl) ?_ ?_; rotate_left; (focus (intro w' hw'; obtain ⟨k0, k1, k2⟩ := HCB.out w' hw'; go_simp; (try with_reducible rfl))); (try simp only [Act.put, List.setIfInBounds_toArray, List.set_cons_zero, List.set_cons_succ]))
          (refine walkS_take (v := ?_) (some 59) rfl rfl (fun _ _ _ h => h) (by rfl) ?_ ?_; rotate_left; (focus (intro w' hw'; obtain ⟨k0, k1, k2⟩ := HCB.out w' hw'; go_simp; (try with_reducible rfl))); (try simp only [Act.put, List.setIfInBounds_toArray, List.set_cons_zero, List.set_cons_succ]))
          refine walkS_done ?_
          have HM0' := Lib.hid (HMB.out.still hS)
          have HT3 := Lib.hid (HT2.out.trans hS (fun _ _ h => h.elim))
          have HFLR := Lib.hid HM0'.out.fl
          have c0 := HM0'.out.cells.1
          have hll : h.L.length ≤ 100000 := by rw [← HM0'.out.len]; exact HV1.out.fl
          have hfc := HM0'.out.fl.hcap
          have hfm := HM0'.out.fl.hmax
          clear hS HG1 HG2
          go_wp2_with (at_builtin; first
            | ((with_reducible refine wp_appS (B := x1.heap.size) (W := x1) (base := x1.heap.size) (OwnS.nil _ _ _ _) HFLR.out (one_rll _) 66 Try.underlying66 (.agg #[.slice none 0 0, .int .i64 0]) 32 infoRL rfl (by decide) (by simp only [maxLen, List.length_nil]; omega) (by simp only [List.length_nil]; omega) ((Touch.refl _ (fun _ => False)).below (fun _ _ h => h.elim) (Nat.le_refl _)) (Nat.le_refl _) (Nat.le_refl _) rfl _ _ rfl rfl rfl h.L.length (h.L.map rll) (by simp) (by simp) ?_); intro a6 c6 w6 ho6 hg6 hb6 hp6; have t6 : Touch x1 w6 (fun _ => False) := (Touch.refl _ (fun _ => False)).grown hg6 (fun k hk _ => by cases hk); have HT6 := Lib.hid t6; obtain ⟨W7, hW7⟩ : ∃ W, w6.alloc (.cells #[.slice none 0 0, .int .i64 0] 98) = W := ⟨_, rfl⟩; have t7 : Touch w6 W7 (fun _ => False) := hW7 ▸ (Touch.refl w6 _).alloc _; have HO7 := Lib.hid (ho6.still t7); have HT7 := Lib.hid (t6.trans t7 (fun _ _ h => h)); have HW7 := Lib.hid hW7; clear ho6 hg6 hb6 hp6 t6 t7 hW7 c0)
            | (rw [HW7.out]; (with_reducible refine wp_add1 HO7.out HW7.out (row := [.slice none 0 0, .int .i64 0]) rfl rfl (by simp [Value.oneCell']) (by omega) 66 Try.underlying66 _ 32 infoRL rfl (by decide) (by decide) HT6.out.size rfl _ _ rfl rfl rfl ?_); intro a8 c8 w8 ho8 ht8 hn8; have t8 : Touch x1 w8 (fun _ => False) := HT6.out.trans ht8 (fun k hk h => by obtain ⟨z, hz, rfl⟩ := bown_block h; have := (HO7.out.row'.2.2 z hz).1; omega); have hh8 := t8.keeps HM0'.out.head (fun h => h); have c80 := cell_of_cells hh8 0; have f80 := free_of_cells hh8 0; have HO8 := Lib.hid ho8; have HT8 := Lib.hid t8; have HH8 := Lib.hid hh8; obtain ⟨W9, hW9⟩ : ∃ W, w8.setCell ⟨m, 0, none⟩ (.slice a8 (h.L.length + 1) c8) = W := ⟨_, rfl⟩; have HW9 := Lib.hid hW9; clear hW9 ho8 ht8 hn8 t8 hh8))
          try rw [HW9.out]
          have hh9 := heap_setCell_same w8 m 0 _ _ (.slice a8 (h.L.length + 1) c8) HH8.out
          rw [HW9.out] at hh9
          have t9 : Touch w8 W9 (fun k => k = m) := HW9.out ▸ (Touch.refl w8 _).into 0 _
          have hml := heap_lt HM0'.out.head
          have q9 := file_end HM0'.out ((HT8.out.mono (T := fun k => k = m) (fun _ _ h => h.elim)).trans t9 (fun _ _ h => h)) hh9 (by
            rw [List.map_append]
            exact HO8.out.touch t9 (fun z hz e => by have e : z = m := e; have := (HO8.out.own.lt z hz).1; omega))
          obtain ⟨h2, m2, t2, ne2⟩ := q9
          obtain ⟨i, hi⟩ : ∃ i, h.L.length = i := ⟨_, rfl⟩
          have hiF : R1.F.length = i := by rw [HM0'.out.len]; exact hi
          have HCG := Lib.hid (rchange_any W9 m h2 _ m2 HV1.out.nl (Nat.le_trans HV1.out.cl (by decide)) ⟨⟨#[]⟩, k, i⟩ (.inr HKN.out))
          unfold rcv at HCG
          simp only at HCG
          have HT9 := Lib.hid t2
          have HNE9 := Lib.hid ne2
          have HIF := Lib.hid hiF
          try rw [hi]
          clear hh9 t9 m2 t2 ne2 hi hiF c80 f80 hll hfc hfm
          go_wp2_with fail
          (with_reducible refine HCG.out.mono ?_)
          rintro e x2 ⟨rfl, h3, m3, t3, ne3⟩
          have HM0 := Lib.hid m3
          obtain ⟨R3, hR3⟩ : ∃ R3, ({ ({ R1 with F := R1.F ++ [(⟨[], 0⟩ : DkFc)] } : RS) with N := rTurn R1.N ⟨⟨#[]⟩, k, i⟩, C := R1.C ++ [⟨⟨#[]⟩, k, i⟩] } : RS) = R3 := ⟨_, rfl⟩
          have HM0 : RowKit.Hid (RM x2 m h3 R3) := Lib.hid (by rw [← hR3]; exact m3)
          have HTX : RowKit.Hid (Touch w x2 (fun k => k = m)) := Lib.hid ((HT3.out.trans HT9.out (fun _ _ h => h)).trans t3 (fun _ _ h => h))
          have HNX : RowKit.Hid (∀ k, footR h3 k → footR h k ∨ w.heap.size ≤ k) := Lib.hid (fun k hk => by
            rcases ne3 k hk with h1 | h1
            · rcases HNE9.out k h1 with h1 | h1
              · exact .inl h1
              · exact .inr (Nat.le_trans HT3.out.size h1)
            · exact .inr (Nat.le_trans (Nat.le_trans HT3.out.size HT9.out.size) h1))
          have hlen3 : R3.F = R1.F ++ [(⟨[], 0⟩ : DkFc)] := by rw [← hR3]
          have HI : RowKit.Hid (i < R3.F.length) := Lib.hid (by rw [hlen3, List.length_append, HIF.out]; exact Nat.lt_succ_self i)
          have hat : fcAt R3 i = ⟨[], 0⟩ := by unfold fcAt; rw [hlen3, ← HIF.out]; simp
          have HRB : RowKit.Hid (∀ W, Touch x2 W (fun _ => False) → RowB W a len cap xs) := Lib.hid (fun W t => HRW.out.touch (HTX.out.trans t (fun _ _ h => h.elim)) (fun z hz => (HOFF.out z hz).imp (fun h => h) (fun h e => h e)))
          have HWAS : RowKit.Hid ((fcAt R3 i).b.length + len ≤ 1048576) := Lib.hid (by rw [hat]; simp only [List.length_nil]; omega)
          have HFL : RowKit.Hid (R3.F.length ≤ 1000000) := Lib.hid (by rw [hlen3, List.length_append]; have := HV1.out.fl; simp only [List.length_singleton]; omega)
          have HFIN : RowKit.Hid (∀ W Z s, Z = (fcAt R3 i).b ++ xs → s = (fcAt R3 i).s → RT x2 W m h3 { R3 with F := R3.F.set i ⟨Z, s⟩ } → RT w W m h { R1 with F := R1.F ++ [(⟨xs, 0⟩ : DkFc)], N := rTurn R1.N ⟨⟨#[]⟩, k, R1.F.length⟩, C := R1.C ++ [⟨⟨#[]⟩, k, R1.F.length⟩] }) := Lib.hid (fun W Z s e1 e2 p => by
            have e3 : ({ R3 with F := R3.F.set i ⟨Z, s⟩ } : RS) = { R1 with F := R1.F ++ [(⟨xs, 0⟩ : DkFc)], N := rTurn R1.N ⟨⟨#[]⟩, k, R1.F.length⟩, C := R1.C ++ [⟨⟨#[]⟩, k, R1.F.length⟩] } := by
              rw [hat] at e1 e2
              rw [hlen3, e1, e2, ← hR3, ← HIF.out]
              simp
            rw [e3] at p
            exact RT.trans HTX.out HNX.out p)
          clear m3 t3 ne3 hR3 hlen3 hat
          obtain ⟨g, off, y, ef, eL, ey, hil, -, -, -, hym⟩ := HM0.out.file HI.out
          have HEF := Lib.hid ef
          have HYM := Lib.hid hym
          have HTF : RowKit.Hid (Touch x2 x2.drew (fun _ => False)) := Lib.hid ((Touch.refl x2 (fun _ => False)).drew)
          have HM2 := Lib.hid (HM0.out.still HTF.out)
          have hfc := HM0.out.fl.hcap
          have hfm := HM0.out.fl.hmax
          have HCB : RowKit.Hid (∀ w', Touch x2 w' (fun k => k = m) → w'.cell? ⟨g, off + i * 2, none⟩ = some (.slice y.a y.b.length y.c) ∧ w'.cell? ⟨g, off + i * 2 + 1, none⟩ = some (.int .i64 y.s)) := Lib.hid (fun w' t => by
            have r := HM0.out.fl.touch t (fun z hz => .inr (HM0.out.foot _ (.inl ⟨z, hz, rfl⟩)).1)
            rw [ef] at r
            have hil' : i < h3.L.length := hil
            have e : h3.L[i] = y := by have := List.getElem?_eq_getElem hil'; rw [eL] at this; exact (Option.some.inj this).symm
            exact row2_cell r i hil' _ _ (by rw [e]; rfl))
          obtain ⟨Z, hZ⟩ : ∃ Z, y.b ++ xs = Z := ⟨_, rfl⟩
          have HZ := Lib.hid hZ
          have HEY : RowKit.Hid (fcAt R3 i = y.fc) := Lib.hid (by rw [fcAt_get HI.out, ey])
          have HML : RowKit.Hid (m < x2.heap.size) := Lib.hid (heap_lt HM0.out.head)
          have HBL : RowKit.Hid (y.b.length + len ≤ 1048576) := Lib.hid (by have := HWAS.out; rw [HEY.out] at this; exact this)
          have HZL : RowKit.Hid (Z.length = y.b.length + len) := Lib.hid (by rw [← hZ, List.length_append, HXL.out])
          clear ef eL ey hym hZ
          go_upto_region 15 with (fail)
          have hS := (Touch.refl x2 (fun k => k = m)).drew
          refine wp_region_tree3 (fun w' => Touch x2 w' (fun k => k = m)) (.take 0 (.take 1 (.take 2 (.take 3 (.take 4 (.take 6 (.take 11 (.take 13 (.take 14 (.take 15 (.take 17 (.two 5 16 (.take 7 (.take 8 (.take 9 (.two 10 16 (.two 12 16 (.one 16 (.take 18 (.take 19 (.take 20 (.take 21 (.one 22 .fin)))))) (.take 18 (.take 19 (.take 20 (.one 12 (.take 21 (.one 22 .fin))))))) (.take 18 (.take 19 (.take 20 (.one 10 (.one 12 (.take 21 (.one 22 .fin))))))))))) (.take 18 (.take 19 (.take 20 (.one 5 (.take 7 (.take 8 (.take 9 (.one 10 (.one 12 (.take 21 (.one 22 .fin))))))))))))))))))))))) (by kernel_rfl) (by kernel_rfl) (by kernel_rfl) (by kernel_rfl) hS ?_
          refine walk3_take ?_
          (refine takeN_take (v := ?_) (some 83) rfl rfl (fun _ _ _ h => h) (by rfl) ?_ ?_; rotate_left; (focus (intro w' hw'; obtain ⟨k1, k2⟩ := HCB.out w' hw'; go_simp; (try with_reducible rfl))); (try simp only [Act.put, List.setIfInBounds_toArray, List.set_cons_zero, List.set_cons_succ]))
          refine walk3_take ?_
          (refine takeN_take (v := ?_) (some 84) rfl rfl (fun _ _ _ h => h) (by rfl) ?_ ?_; rotate_left; (focus (intro w' hw'; obtain ⟨k1, k2⟩ := HCB.out w' hw'; go_simp; (try with_reducible rfl))); (try simp only [Act.put, List.setIfInBounds_toArray, List.set_cons_zero, List.set_cons_succ]))
          refine walk3_take ?_
          (refine takeN_take (v := ?_) (some 85) rfl rfl (fun _ _ _ h => h) (by rfl) ?_ ?_; rotate_left; (focus (intro w' hw'; obtain ⟨k1, k2⟩ := HCB.out w' hw'; go_simp; (try with_reducible rfl))); (try simp only [Act.put, List.setIfInBounds_toArray, List.set_cons_zero, List.set_cons_succ]))
          refine walk3_take ?_
          (refine takeN_take (v := ?_) (some 86) rfl rfl (fun _ _ _ h => h) (by rfl) ?_ ?_; rotate_left; (focus (intro w' hw'; obtain ⟨k1, k2⟩ := HCB.out w' hw'; go_simp; (try with_reducible rfl))); (try simp only [Act.put, List.setIfInBounds_toArray, List.set_cons_zero, List.set_cons_succ]))
          refine walk3_take ?_
          (refine takeN_take (v := ?_) (some 87) rfl rfl (fun _ _ _ h => h) (by rfl) ?_ ?_; rotate_left; (focus (intro w' hw'; obtain ⟨k1, k2⟩ := HCB.out w' hw'; go_simp; (try with_reducible rfl))); (try simp only [Act.put, List.setIfInBounds_toArray, List.set_cons_zero, List.set_cons_succ]))
          refine walk3_take ?_
          (refine takeN_take (v := ?_) (some 89) rfl rfl (fun _ _ _ h => h) (by rfl) ?_ ?_; rotate_left; (focus (intro w' hw'; obtain ⟨k1, k2⟩ := HCB.out w' hw'; go_simp; (try with_reducible rfl))); (try simp only [Act.put, List.setIfInBounds_toArray, List.set_cons_zero, List.set_cons_succ]))
          refine walk3_take ?_
          (refine takeN_take (v := ?_) (some 94) rfl rfl (fun _ _ _ h => h) (by rfl) ?_ ?_; rotate_left; (focus (intro w' hw'; obtain ⟨k1, k2⟩ := HCB.out w' hw'; go_simp; (try with_reducible rfl))); (try simp only [Act.put, List.setIfInBounds_toArray, List.set_cons_zero, List.set_cons_succ]))
          refine walk3_take ?_
          (refine takeN_take (v := ?_) (some 96) rfl rfl (fun _ _ _ h => h) (by rfl) ?_ ?_; rotate_left; (focus (intro w' hw'; obtain ⟨k1, k2⟩ := HCB.out w' hw'; go_simp; (try with_reducible rfl))); (try simp only [Act.put, List.setIfInBounds_toArray, List.set_cons_zero, List.set_cons_succ]))
          refine walk3_take ?_
          (refine takeN_take (v := ?_) (some 97) rfl rfl (fun _ _ _ h => h) (by rfl) ?_ ?_; rotate_left; (focus (intro w' hw'; obtain ⟨k1, k2⟩ := HCB.out w' hw'; go_simp; (try with_reducible rfl))); (try simp only [Act.put, List.setIfInBounds_toArray, List.set_cons_zero, List.set_cons_succ]))
          refine walk3_take ?_
          (refine takeN_take (v := ?_) (some 98) rfl rfl (fun _ _ _ h => h) (by rfl) ?_ ?_; rotate_left; (focus (intro w' hw'; obtain ⟨k1, k2⟩ := HCB.out w' hw'; go_simp; (try with_reducible rfl))); (try simp only [Act.put, List.setIfInBounds_toArray, List.set_cons_zero, List.set_cons_succ]))
          refine walk3_take ?_
          (refine takeN_take (v := ?_) (some 100) rfl rfl (fun _ _ _ h => h) (by rfl) ?_ ?_; rotate_left; (focus (intro w' hw'; obtain ⟨k1, k2⟩ := HCB.out w' hw'; go_simp; (try with_reducible rfl))); (try simp only [Act.put, List.setIfInBounds_toArray, List.set_cons_zero, List.set_cons_succ]))
          refine walk3_two ?_ ?_
          · (have cc := HM2.out.cells.1; rw [HEF.out] at cc; refine runN_do (v := .slice (some ⟨g, off, none⟩) h3.L.length h3.fc) (w' := _) (some 88) rfl rfl (by rfl) (by go_simp; (try with_reducible rfl)) hS (fun hS => ?_); clear cc; (try simp only [Act.put, List.setIfInBounds_toArray, List.set_cons_zero, List.set_cons_succ]))
            refine walk3_take ?_
            (refine takeN_take (v := ?_) (some 90) rfl rfl (fun _ _ _ h => h) (by rfl) ?_ ?_; rotate_left; (focus (intro w' hw'; obtain ⟨k1, k2⟩ := HCB.out w' hw'; go_simp; (try with_reducible rfl))); (try simp only [Act.put, List.setIfInBounds_toArray, List.set_cons_zero, List.set_cons_succ]))
            refine walk3_take ?_
            (refine takeN_take (v := ?_) (some 91) rfl rfl (fun _ _ _ h => h) (by rfl) ?_ ?_; rotate_left; (focus (intro w' hw'; obtain ⟨k1, k2⟩ := HCB.out w' hw'; go_simp; (try with_reducible rfl))); (try simp only [Act.put, List.setIfInBounds_toArray, List.set_cons_zero, List.set_cons_succ]))
            refine walk3_take ?_
            (refine takeN_take (v := ?_) (some 92) rfl rfl (fun _ _ _ h => h) (by rfl) ?_ ?_; rotate_left; (focus (intro w' hw'; obtain ⟨k1, k2⟩ := HCB.out w' hw'; go_simp; (try with_reducible rfl))); (try simp only [Act.put, List.setIfInBounds_toArray, List.set_cons_zero, List.set_cons_succ]))
            refine walk3_two ?_ ?_
            · (refine runN_appB 93 (.const (.slice none 0 0)) (.tmp 92) _ rfl rfl rfl (by rfl) 5 Try.underlying29 infoB x2.heap.size _ [] rfl (OwnB.nil _ _ _) y.a y.b.length y.c y.b rfl (HM2.out.fb y HYM.out) y.b.length y.b rfl rfl (by have := HBL.out; omega) hS.size ?_; intro a9 c9 w9 ho9 hr9 hg9 hp9; have t9 := (Touch.refl _ (fun _ => False)).grown hg9 (fun k hk _ => by cases hk); have hS := hS.trans t9 (fun k _ h2 => h2.elim); refine ⟨hS, fun _ => ?_⟩; have HTF := Lib.hid (HTF.out.trans t9 (fun _ _ h => h)); have HM2 := Lib.hid (HM0.out.still HTF.out); have HO9 := Lib.hid ho9; clear ho9 hr9 hg9 hp9 t9; (try simp only [Act.put, List.setIfInBounds_toArray, List.set_cons_zero, List.set_cons_succ]))
              refine walk3_two ?_ ?_
              · (refine runN_appB 95 (.tmp 93) (.tmp 94) _ rfl rfl rfl (by rfl) 5 Try.underlying29 infoB x2.heap.size _ y.b rfl HO9.out a len cap xs rfl (HRB.out _ HTF.out) Z.length Z HZ.out rfl (by have := HBL.out; have := HZL.out; omega) hS.size ?_; intro a8 c8 w8 ho8 hr8 hg8 hp8; have t8 := (Touch.refl _ (fun k => x2.heap.size ≤ k)).grown hg8 (fun k hk _ => (HO9.out.own.lt k hk).1); have hS := hS.trans t8 (fun k h1 h2 => by have h2 : x2.heap.size ≤ k := h2; omega); refine ⟨hS, fun _ => ?_⟩; have HTF := Lib.hid (HTF.out.trans t8 (fun k h1 h2 => by have h2 : x2.heap.size ≤ k := h2; omega)); have HM2 := Lib.hid (HM0.out.still HTF.out); have HO8 := Lib.hid ho8; have HR8 := Lib.hid hr8; clear ho8 hr8 hg8 hp8 t8; (try simp only [Act.put, List.setIfInBounds_toArray, List.set_cons_zero, List.set_cons_succ]))
                refine walk3_one ?_
                (have cc := HM2.out.cells.1; rw [HEF.out] at cc; refine runN_do (v := .slice (some ⟨g, off, none⟩) h3.L.length h3.fc) (w' := _) (some 99) rfl rfl (by rfl) (by go_simp; (try with_reducible rfl)) hS (fun hS => ?_); clear cc; (try simp only [Act.put, List.setIfInBounds_toArray, List.set_cons_zero, List.set_cons_succ]))
                refine walk3_take ?_
                (refine takeN_take (v := ?_) (some 101) rfl rfl (fun _ _ _ h => h) (by rfl) ?_ ?_; rotate_left; (focus (intro w' hw'; obtain ⟨k1, k2⟩ := HCB.out w' hw'; go_simp; (try with_reducible rfl))); (try simp only [Act.put, List.setIfInBounds_toArray, List.set_cons_zero, List.set_cons_succ]))
                refine walk3_take ?_
                (refine takeN_take (v := ?_) (some 102) rfl rfl (fun _ _ _ h => h) (by rfl) ?_ ?_; rotate_left; (focus (intro w' hw'; obtain ⟨k1, k2⟩ := HCB.out w' hw'; go_simp; (try with_reducible rfl))); (try simp only [Act.put, List.setIfInBounds_toArray, List.set_cons_zero, List.set_cons_succ]))
                refine walk3_take ?_
                (refine takeN_take (v := ?_) (some 103) rfl rfl (fun _ _ _ h => h) (by rfl) ?_ ?_; rotate_left; (focus (intro w' hw'; obtain ⟨k1, k2⟩ := HCB.out w' hw'; go_simp; (try with_reducible rfl))); (try simp only [Act.put, List.setIfInBounds_toArray, List.set_cons_zero, List.set_cons_succ]))
                refine walk3_take ?_
                (refine takeN_take (v := ?_) (some 104) rfl rfl (fun _ _ _ h => h) (by rfl) ?_ ?_; rotate_left; (focus (intro w' hw'; obtain ⟨k1, k2⟩ := HCB.out w' hw'; go_simp; (try with_reducible rfl))); (try simp only [Act.put, List.setIfInBounds_toArray, List.set_cons_zero, List.set_cons_succ]))
                refine walk3_one ?_
                (refine runN_call 105 _ _ _ _ (rput_any _ m h3 R3 HM2.out HFL.out i HI.out ⟨a8, c8, Z, y.s⟩ HR8.out (app_off HML.out HO8.out)) rfl rfl rfl (by rfl) rfl (enter_rput _ _ _ _) ?_; rintro e w3 ⟨rfl, p3⟩; have HP := Lib.hid (p3.rt (w := x2) (HTF.out.mono (fun _ _ h => h.elim)) (appB_new HO8.out)); have hS := hS.trans p3.touch (fun _ _ h => h); refine ⟨_, rfl, hS, fun hS => ?_⟩; clear p3; (try simp only [Act.put, List.setIfInBounds_toArray, List.set_cons_zero, List.set_cons_succ]))
                refine walk3_fin ?_
                go_wp2_with fail
                go_ret
                exact ⟨rfl, HFIN.out _ _ _ (by rw [← HZ.out, HEY.out]; rfl) (by rw [HEY.out]; rfl) HP.out⟩
              · (have cc := HM2.out.cells.1; rw [HEF.out] at cc; refine runN_do (v := .slice (some ⟨g, off, none⟩) h3.L.length h3.fc) (w' := _) (some 99) rfl rfl (by rfl) (by go_simp; (try with_reducible rfl)) hS (fun hS => ?_); clear cc; (try simp only [Act.put, List.setIfInBounds_toArray, List.set_cons_zero, List.set_cons_succ]))
                refine walk3_take ?_
                (refine takeN_take (v := ?_) (some 101) rfl rfl (fun _ _ _ h => h) (by rfl) ?_ ?_; rotate_left; (focus (intro w' hw'; obtain ⟨k1, k2⟩ := HCB.out w' hw'; go_simp; (try with_reducible rfl))); (try simp only [Act.put, List.setIfInBounds_toArray, List.set_cons_zero, List.set_cons_succ]))
                refine walk3_take ?_
                (refine takeN_take (v := ?_) (some 102) rfl rfl (fun _ _ _ h => h) (by rfl) ?_ ?_; rotate_left; (focus (intro w' hw'; obtain ⟨k1, k2⟩ := HCB.out w' hw'; go_simp; (try with_reducible rfl))); (try simp only [Act.put, List.setIfInBounds_toArray, List.set_cons_zero, List.set_cons_succ]))
                refine walk3_take ?_
                (refine takeN_take (v := ?_) (some 103) rfl rfl (fun _ _ _ h => h) (by rfl) ?_ ?_; rotate_left; (focus (intro w' hw'; obtain ⟨k1, k2⟩ := HCB.out w' hw'; go_simp; (try with_reducible rfl))); (try simp only [Act.put, List.setIfInBounds_toArray, List.set_cons_zero, List.set_cons_succ]))
                refine walk3_one ?_
                (refine runN_appB 95 (.tmp 93) (.tmp 94) _ rfl rfl rfl (by rfl) 5 Try.underlying29 infoB x2.heap.size _ y.b rfl HO9.out a len cap xs rfl (HRB.out _ HTF.out) Z.length Z HZ.out rfl (by have := HBL.out; have := HZL.out; omega) hS.size ?_; intro a8 c8 w8 ho8 hr8 hg8 hp8; have t8 := (Touch.refl _ (fun k => x2.heap.size ≤ k)).grown hg8 (fun k hk _ => (HO9.out.own.lt k hk).1); have hS := hS.trans t8 (fun k h1 h2 => by have h2 : x2.heap.size ≤ k := h2; omega); refine ⟨hS, fun _ => ?_⟩; have HTF := Lib.hid (HTF.out.trans t8 (fun k h1 h2 => by have h2 : x2.heap.size ≤ k := h2; omega)); have HM2 := Lib.hid (HM0.out.still HTF.out); have HO8 := Lib.hid ho8; have HR8 := Lib.hid hr8; clear ho8 hr8 hg8 hp8 t8; (try simp only [Act.put, List.setIfInBounds_toArray, List.set_cons_zero, List.set_cons_succ]))
                refine walk3_take ?_
                (refine takeN_take (v := ?_) (some 104) rfl rfl (fun _ _ _ h => h) (by rfl) ?_ ?_; rotate_left; (focus (intro w' hw'; obtain ⟨k1, k2⟩ := HCB.out w' hw'; go_simp; (try with_reducible rfl))); (try simp only [Act.put, List.setIfInBounds_toArray, List.set_cons_zero, List.set_cons_succ]))
                refine walk3_one ?_
                (refine runN_call 105 _ _ _ _ (rput_any _ m h3 R3 HM2.out HFL.out i HI.out ⟨a8, c8, Z, y.s⟩ HR8.out (app_off HML.out HO8.out)) rfl rfl rfl (by rfl) rfl (enter_rput _ _ _ _) ?_; rintro e w3 ⟨rfl, p3⟩; have HP := Lib.hid (p3.rt (w := x2) (HTF.out.mono (fun _ _ h => h.elim)) (appB_new HO8.out)); have hS := hS.trans p3.touch (fun _ _ h => h); refine ⟨_, rfl, hS, fun hS => ?_⟩; clear p3; (try simp only [Act.put, List.setIfInBounds_toArray, List.set_cons_zero, List.set_cons_succ]))
                refine walk3_fin ?_
                go_wp2_with fail
                go_ret
                exact ⟨rfl, HFIN.out _ _ _ (by rw [← HZ.out, HEY.out]; rfl) (by rw [HEY.out]; rfl) HP.out⟩
            · (have cc := HM2.out.cells.1; rw [HEF.out] at cc; refine runN_do (v := .slice (some ⟨g, off, none⟩) h3.L.length h3.fc) (w' := _) (some 99) rfl rfl (by rfl) (by go_simp; (try with_reducible rfl)) hS (fun hS => ?_); clear cc; (try simp only [Act.put, List.setIfInBounds_toArray, List.set_cons_zero, List.set_cons_succ]))
              refine walk3_take ?_
              (refine takeN_take (v := ?_) (some 101) rfl rfl (fun _ _ _ h => h) (by rfl) ?_ ?_; rotate_left; (focus (intro w' hw'; obtain ⟨k1, k2⟩ := HCB.out w' hw'; go_simp; (try with_reducible rfl))); (try simp only [Act.put, List.setIfInBounds_toArray, List.set_cons_zero, List.set_cons_succ]))
              refine walk3_take ?_
              (refine takeN_take (v := ?_) (some 102) rfl rfl (fun _ _ _ h => h) (by rfl) ?_ ?_; rotate_left; (focus (intro w' hw'; obtain ⟨k1, k2⟩ := HCB.out w' hw'; go_simp; (try with_reducible rfl))); (try simp only [Act.put, List.setIfInBounds_toArray, List.set_cons_zero, List.set_cons_succ]))
              refine walk3_take ?_
              (refine takeN_take (v := ?_) (some 103) rfl rfl (fun _ _ _ h => h) (by rfl) ?_ ?_; rotate_left; (focus (intro w' hw'; obtain ⟨k1, k2⟩ := HCB.out w' hw'; go_simp; (try with_reducible rfl))); (try simp only [Act.put, List.setIfInBounds_toArray, List.set_cons_zero, List.set_cons_succ]))
              refine walk3_one ?_
              (refine runN_appB 93 (.const (.slice none 0 0)) (.tmp 92) _ rfl rfl rfl (by rfl) 5 Try.underlying29 infoB x2.heap.size _ [] rfl (OwnB.nil _ _ _) y.a y.b.length y.c y.b rfl (HM2.out.fb y HYM.out) y.b.length y.b rfl rfl (by have := HBL.out; omega) hS.size ?_; intro a9 c9 w9 ho9 hr9 hg9 hp9; have t9 := (Touch.refl _ (fun _ => False)).grown hg9 (fun k hk _ => by cases hk); have hS := hS.trans t9 (fun k _ h2 => h2.elim); refine ⟨hS, fun _ => ?_⟩; have HTF := Lib.hid (HTF.out.trans t9 (fun _ _ h => h)); have HM2 := Lib.hid (HM0.out.still HTF.out); have HO9 := Lib.hid ho9; clear ho9 hr9 hg9 hp9 t9; (try simp only [Act.put, List.setIfInBounds_toArray, List.set_cons_zero, List.set_cons_succ]))
              refine walk3_one ?_
              (refine runN_appB 95 (.tmp 93) (.tmp 94) _ rfl rfl rfl (by rfl) 5 Try.underlying29 infoB x2.heap.size _ y.b rfl HO9.out a len cap xs rfl (HRB.out _ HTF.out) Z.length Z HZ.out rfl (by have := HBL.out; have := HZL.out; omega) hS.size ?_; intro a8 c8 w8 ho8 hr8 hg8 hp8; have t8 := (Touch.refl _ (fun k => x2.heap.size ≤ k)).grown hg8 (fun k hk _ => (HO9.out.own.lt k hk).1); have hS := hS.trans t8 (fun k h1 h2 => by have h2 : x2.heap.size ≤ k := h2; omega); refine ⟨hS, fun _ => ?_⟩; have HTF := Lib.hid (HTF.out.trans t8 (fun k h1 h2 => by have h2 : x2.heap.size ≤ k := h2; omega)); have HM2 := Lib.hid (HM0.out.still HTF.out); have HO8 := Lib.hid ho8; have HR8 := Lib.hid hr8; clear ho8 hr8 hg8 hp8 t8; (try simp only [Act.put, List.setIfInBounds_toArray, List.set_cons_zero, List.set_cons_succ]))
              refine walk3_take ?_
              (refine takeN_take (v := ?_) (some 104) rfl rfl (fun _ _ _ h => h) (by rfl) ?_ ?_; rotate_left; (focus (intro w' hw'; obtain ⟨k1, k2⟩ := HCB.out w' hw'; go_simp; (try with_reducible rfl))); (try simp only [Act.put, List.setIfInBounds_toArray, List.set_cons_zero, List.set_cons_succ]))
              refine walk3_one ?_
              (refine runN_call 105 _ _ _ _ (rput_any _ m h3 R3 HM2.out HFL.out i HI.out ⟨a8, c8, Z, y.s⟩ HR8.out (app_off HML.out HO8.out)) rfl rfl rfl (by rfl) rfl (enter_rput _ _ _ _) ?_; rintro e w3 ⟨rfl, p3⟩; have HP := Lib.hid (p3.rt (w := x2) (HTF.out.mono (fun _ _ h => h.elim)) (appB_new HO8.out)); have hS := hS.trans p3.touch (fun _ _ h => h); refine ⟨_, rfl, hS, fun hS => ?_⟩; clear p3; (try simp only [Act.put, List.setIfInBounds_toArray, List.set_cons_zero, List.set_cons_succ]))
              refine walk3_fin ?_
              go_wp2_with fail
              go_ret
              exact ⟨rfl, HFIN.out _ _ _ (by rw [← HZ.out, HEY.out]; rfl) (by rw [HEY.out]; rfl) HP.out⟩
          · (have cc := HM2.out.cells.1; rw [HEF.out] at cc; refine runN_do (v := .slice (some ⟨g, off, none⟩) h3.L.length h3.fc) (w' := _) (some 99) rfl rfl (by rfl) (by go_simp; (try with_reducible rfl)) hS (fun hS => ?_); clear cc; (try simp only [Act.put, List.setIfInBounds_toArray, List.set_cons_zero, List.set_cons_succ]))
            refine walk3_take ?_
            (refine takeN_take (v := ?_) (some 101) rfl rfl (fun _ _ _ h => h) (by rfl) ?_ ?_; rotate_left; (focus (intro w' hw'; obtain ⟨k1, k2⟩ := HCB.out w' hw'; go_simp; (try with_reducible rfl))); (try simp only [Act.put, List.setIfInBounds_toArray, List.set_cons_zero, List.set_cons_succ]))
            refine walk3_take ?_
            (refine takeN_take (v := ?_) (some 102) rfl rfl (fun _ _ _ h => h) (by rfl) ?_ ?_; rotate_left; (focus (intro w' hw'; obtain ⟨k1, k2⟩ := HCB.out w' hw'; go_simp; (try with_reducible rfl))); (try simp only [Act.put, List.setIfInBounds_toArray, List.set_cons_zero, List.set_cons_succ]))
            refine walk3_take ?_
            (refine takeN_take (v := ?_) (some 103) rfl rfl (fun _ _ _ h => h) (by rfl) ?_ ?_; rotate_left; (focus (intro w' hw'; obtain ⟨k1, k2⟩ := HCB.out w' hw'; go_simp; (try with_reducible rfl))); (try simp only [Act.put, List.setIfInBounds_toArray, List.set_cons_zero, List.set_cons_succ]))
            refine walk3_one ?_
            (have cc := HM2.out.cells.1; rw [HEF.out] at cc; refine runN_do (v := .slice (some ⟨g, off, none⟩) h3.L.length h3.fc) (w' := _) (some 88) rfl rfl (by rfl) (by go_simp; (try with_reducible rfl)) hS (fun hS => ?_); clear cc; (try simp only [Act.put, List.setIfInBounds_toArray, List.set_cons_zero, List.set_cons_succ]))
            refine walk3_take ?_
            (refine takeN_take (v := ?_) (some 90) rfl rfl (fun _ _ _ h => h) (by rfl) ?_ ?_; rotate_left; (focus (intro w' hw'; obtain ⟨k1, k2⟩ := HCB.out w' hw'; go_simp; (try with_reducible rfl))); (try simp only [Act.put, List.setIfInBounds_toArray, List.set_cons_zero, List.set_cons_succ]))
            refine walk3_take ?_
            (refine takeN_take (v := ?_) (some 91) rfl rfl (fun _ _ _ h => h) (by rfl) ?_ ?_; rotate_left; (focus (intro w' hw'; obtain ⟨k1, k2⟩ := HCB.out w' hw'; go_simp; (try with_reducible rfl))); (try simp only [Act.put, List.setIfInBounds_toArray, List.set_cons_zero, List.set_cons_succ]))
            refine walk3_take ?_
            (refine takeN_take (v := ?_) (some 92) rfl rfl (fun _ _ _ h => h) (by rfl) ?_ ?_; rotate_left; (focus (intro w' hw'; obtain ⟨k1, k2⟩ := HCB.out w' hw'; go_simp; (try with_reducible rfl))); (try simp only [Act.put, List.setIfInBounds_toArray, List.set_cons_zero, List.set_cons_succ]))
            refine walk3_one ?_
            (refine runN_appB 93 (.const (.slice none 0 0)) (.tmp 92) _ rfl rfl rfl (by rfl) 5 Try.underlying29 infoB x2.heap.size _ [] rfl (OwnB.nil _ _ _) y.a y.b.length y.c y.b rfl (HM2.out.fb y HYM.out) y.b.length y.b rfl rfl (by have := HBL.out; omega) hS.size ?_; intro a9 c9 w9 ho9 hr9 hg9 hp9; have t9 := (Touch.refl _ (fun _ => False)).grown hg9 (fun k hk _ => by cases hk); have hS := hS.trans t9 (fun k _ h2 => h2.elim); refine ⟨hS, fun _ => ?_⟩; have HTF := Lib.hid (HTF.out.trans t9 (fun _ _ h => h)); have HM2 := Lib.hid (HM0.out.still HTF.out); have HO9 := Lib.hid ho9; clear ho9 hr9 hg9 hp9 t9; (try simp only [Act.put, List.setIfInBounds_toArray, List.set_cons_zero, List.set_cons_succ]))
            refine walk3_one ?_
            (refine runN_appB 95 (.tmp 93) (.tmp 94) _ rfl rfl rfl (by rfl) 5 Try.underlying29 infoB x2.heap.size _ y.b rfl HO9.out a len cap xs rfl (HRB.out _ HTF.out) Z.length Z HZ.out rfl (by have := HBL.out; have := HZL.out; omega) hS.size ?_; intro a8 c8 w8 ho8 hr8 hg8 hp8; have t8 := (Touch.refl _ (fun k => x2.heap.size ≤ k)).grown hg8 (fun k hk _ => (HO9.out.own.lt k hk).1); have hS := hS.trans t8 (fun k h1 h2 => by have h2 : x2.heap.size ≤ k := h2; omega); refine ⟨hS, fun _ => ?_⟩; have HTF := Lib.hid (HTF.out.trans t8 (fun k h1 h2 => by have h2 : x2.heap.size ≤ k := h2; omega)); have HM2 := Lib.hid (HM0.out.still HTF.out); have HO8 := Lib.hid ho8; have HR8 := Lib.hid hr8; clear ho8 hr8 hg8 hp8 t8; (try simp only [Act.put, List.setIfInBounds_toArray, List.set_cons_zero, List.set_cons_succ]))
            refine walk3_take ?_
            (refine takeN_take (v := ?_) (some 104) rfl rfl (fun _ _ _ h => h) (by rfl) ?_ ?_; rotate_left; (focus (intro w' hw'; obtain ⟨k1, k2⟩ := HCB.out w' hw'; go_simp; (try with_reducible rfl))); (try simp only [Act.put, List.setIfInBounds_toArray, List.set_cons_zero, List.set_cons_succ]))
            refine walk3_one ?_
            (refine runN_call 105 _ _ _ _ (rput_any _ m h3 R3 HM2.out HFL.out i HI.out ⟨a8, c8, Z, y.s⟩ HR8.out (app_off HML.out HO8.out)) rfl rfl rfl (by rfl) rfl (enter_rput _ _ _ _) ?_; rintro e w3 ⟨rfl, p3⟩; have HP := Lib.hid (p3.rt (w := x2) (HTF.out.mono (fun _ _ h => h.elim)) (appB_new HO8.out)); have hS := hS.trans p3.touch (fun _ _ h => h); refine ⟨_, rfl, hS, fun hS => ?_⟩; clear p3; (try simp only [Act.put, List.setIfInBounds_toArray, List.set_cons_zero, List.set_cons_succ]))
            refine walk3_fin ?_
            go_wp2_with fail
            go_ret
            exact ⟨rfl, HFIN.out _ _ _ (by rw [← HZ.out, HEY.out]; rfl) (by rw [HEY.out]; rfl) HP.out⟩
  | some i =>
    have HNO := Lib.hid hno
    rw [hno] at HE7 HE0
    have hiF : i < R1.F.length := HV1.out.find hno
    have HI := Lib.hid hiF
    have hlI : (0 : Int) ≤ i := by omega
    have hlJ : ¬ (i : Int) < 0 := by omega
    have HFB : RowKit.Hid ((fcAt R1 i).b.length ≤ 1048576) := Lib.hid (by rw [fcAt_get hiF]; exact (HV1.out.bl _ (List.getElem_mem hiF)).1)
    by_cases ha : R1.q - (rSum R1 R1.N : Nat) < (len : Int)
    · obtain ⟨e1, e2⟩ := HE7.out (.inl ha)
      rw [e1, e2]
      have HG1 : RowKit.Hid (IntKind.i64.wrap (R1.q - (rSum R1 R1.N : Nat)) < (len : Int)) := Lib.hid (by rw [IntWalk.i64_in _ (by have := HSB.out; have := HQB.out; omega)]; exact ha)
      clear e1 e2 hno ha hiF
      go_enter Try.func36, Try.ntmps36
      go_wp2_with fail
      (with_reducible refine HO.out.mono ?_)
      rintro e w1 ⟨rfl, m1, t1⟩
      have c1 := m1.cells.2.1
      have HFN := Lib.hid (rfind_any w1 h.na R1.N.length h.nc R1.N m1.now k)
      rw [HNO.out] at HFN
      simp only [fI] at HFN
      have HM1 := Lib.hid m1
      have HT1 := Lib.hid t1
      clear m1 t1
      go_wp2_with fail
      (with_reducible refine (HMY.out w1).mono ?_)
      rintro e w9 ⟨rfl, rfl⟩
      go_wp2_with fail
      (with_reducible refine HFN.out.mono ?_)
      rintro e w2 ⟨rfl, t2⟩
      have HT2 := Lib.hid (HT1.out.trans t2 (fun _ _ h => h.elim))
      have HMB := Lib.hid (HM1.out.still t2)
      clear t2 c1
      have HCB : RowKit.Hid (∀ w', Touch w2 w' (fun _ => False) → w'.cell? ⟨m, 0, none⟩ = some (.slice h.fa h.L.length h.fc) ∧ w'.cell? ⟨m, 1, none⟩ = some (.slice h.na R1.N.length h.nc) ∧ w'.cell? ⟨m, 4, none⟩ = some (.int .i64 R1.q)) := Lib.hid (fun w' t => ⟨(HMB.out.still t).cells.1, (HMB.out.still t).cells.2.1, (HMB.out.still t).cells.2.2.2.2.1⟩)
      obtain ⟨g, off, y, ef, eL, ey, hil, k3, -, -, hym⟩ := HMB.out.file HI.out
      have kc := HMB.out.cells.1
      have hfc := HMB.out.fl.hcap
      have hfm := HMB.out.fl.hmax
      rw [ef] at kc
      have HEY : RowKit.Hid (fcAt R1 i = y.fc) := Lib.hid (by rw [fcAt_get HI.out, ey])
      have HYB : RowKit.Hid (y.b.length ≤ 1048576) := Lib.hid (by have := HFB.out; rw [HEY.out] at this; exact this)
      clear ef eL ey hym
      have HR := Lib.hid (HMB.out.same HT2.out)
      go_upto_region 9 with (fail)
      have hS := (Touch.refl w2 (fun _ => False)).drew
      refine wp_region_sched (fun w' => Touch w2 w' (fun _ => False)) [(0, true), (1, true), (2, true), (3, true), (4, true), (5, true), (6, true), (7, false), (8, true), (9, true), (10, true), (11, true), (12, true), (13, true), (14, true), (15, true), (16, true), (17, true), (18, true), (19, true), (20, true), (21, true), (22, true), (23, true), (24, true), (25, true), (26, true), (27, true), (28, true)] (by kernel_rfl) (by kernel_rfl) rfl (by kernel_rfl) hS ?_
      (refine walkS_take (v := ?_) (some 31) rfl rfl (fun _ _ _ h => h) (by rfl) ?_ ?_; rotate_left; (focus (intro w' hw'; obtain ⟨k0, k1, k2⟩ := HCB.out w' hw'; go_simp; (try with_reducible rfl))); (try simp only [Act.put, List.setIfInBounds_toArray, List.set_cons_zero, List.set_cons_succ]))
      (refine walkS_take (v := ?_) (some 32) rfl rfl (fun _ _ _ h => h) (by rfl) ?_ ?_; rotate_left; (focus (intro w' hw'; obtain ⟨k0, k1, k2⟩ := HCB.out w' hw'; go_simp; (try with_reducible rfl))); (try simp only [Act.put, List.setIfInBounds_toArray, List.set_cons_zero, List.set_cons_succ]))
      (refine walkS_take (v := ?_) (some 33) rfl rfl (fun _ _ _ h => h) (by rfl) ?_ ?_; rotate_left; (focus (intro w' hw'; obtain ⟨k0, k1, k2⟩ := HCB.out w' hw'; go_simp; (try with_reducible rfl))); (try simp only [Act.put, List.setIfInBounds_toArray, List.set_cons_zero, List.set_cons_succ]))
      (refine walkS_take (v := ?_) (some 34) rfl rfl (fun _ _ _ h => h) (by rfl) ?_ ?_; rotate_left; (focus (intro w' hw'; obtain ⟨k0, k1, k2⟩ := HCB.out w' hw'; go_simp; (try with_reducible rfl))); (try simp only [Act.put, List.setIfInBounds_toArray, List.set_cons_zero, List.set_cons_succ]))
      (refine walkS_take (v := ?_) (some 35) rfl rfl (fun _ _ _ h => h) (by rfl) ?_ ?_; rotate_left; (focus (intro w' hw'; obtain ⟨k0, k1, k2⟩ := HCB.out w' hw'; go_simp; (try with_reducible rfl))); (try simp only [Act.put, List.setIfInBounds_toArray, List.set_cons_zero, List.set_cons_succ]))
      (refine walkS_take (v := ?_) (some 36) rfl rfl (fun _ _ _ h => h) (by rfl) ?_ ?_; rotate_left; (focus (intro w' hw'; obtain ⟨k0, k1, k2⟩ := HCB.out w' hw'; go_simp; (try with_reducible rfl))); (try simp only [Act.put, List.setIfInBounds_toArray, List.set_cons_zero, List.set_cons_succ]))
      (refine walkS_take (v := ?_) (some 37) rfl rfl (fun _ _ _ h => h) (by rfl) ?_ ?_; rotate_left; (focus (intro w' hw'; obtain ⟨k0, k1, k2⟩ := HCB.out w' hw'; go_simp; (try with_reducible rfl))); (try simp only [Act.put, List.setIfInBounds_toArray, List.set_cons_zero, List.set_cons_succ]))
      (refine walkS_call 38 _ _ _ _ ((rsize_any _ m h R1 (HMB.out.still hS) HV1.out)) rfl rfl rfl (by rfl) rfl (enter_rsize _ _) ?_; rintro e w' ⟨rfl, t⟩; have hS := hS.trans t (fun _ _ h => h); clear t; refine ⟨_, rfl, hS, fun hS => ?_⟩; (try simp only [Act.put, List.setIfInBounds_toArray, List.set_cons_zero, List.set_cons_succ]))
      (refine walkS_take (v := ?_) (some 39) rfl rfl (fun _ _ _ h => h) (by rfl) ?_ ?_; rotate_left; (focus (intro w' hw'; obtain ⟨k0, k1, k2⟩ := HCB.out w' hw'; go_simp; (try with_reducible rfl))); (try simp only [Act.put, List.setIfInBounds_toArray, List.set_cons_zero, List.set_cons_succ]))
      (refine walkS_bin (some 40) _ _ _ _ _ _ _ _ (gtI_yes _ _ HG1.out) rfl rfl rfl rfl rfl (fun _ _ _ h => h) (by rfl) ?_; (try simp only [Act.put, List.setIfInBounds_toArray, List.set_cons_zero, List.set_cons_succ]))
      (refine walkS_take (v := ?_) (some 41) rfl rfl (fun _ _ _ h => h) (by rfl) ?_ ?_; rotate_left; (focus (intro w' hw'; obtain ⟨k0, k1, k2⟩ := HCB.out w' hw'; go_simp; (try with_reducible rfl))); (try simp only [Act.put, List.setIfInBounds_toArray, List.set_cons_zero, List.set_cons_succ]))
      first | (refine walkS_skip (some 42) rfl rfl (by rfl) (fun _ _ _ h => h) hS ?_; (try simp only [Act.put, List.setIfInBounds_toArray, List.set_cons_zero, List.set_cons_succ])) | (refine walkS_take (v := ?_) (some 42) rfl rfl (fun _ _ _ h => h) (by rfl) ?_ ?_; rotate_left; (focus (intro w' hw'; obtain ⟨k0, k1, k2⟩ := HCB.out w' hw'; go_simp; (try with_reducible rfl))); (try simp only [Act.put, List.setIfInBounds_toArray, List.set_cons_zero, List.set_cons_succ]))
      first | (refine walkS_skip (some 43) rfl rfl (by rfl) (fun _ _ _ h => h) hS ?_; (try simp only [Act.put, List.setIfInBounds_toArray, List.set_cons_zero, List.set_cons_succ])) | (refine walkS_take (v := ?_) (some 43) rfl rfl (fun _ _ _ h => h) (by rfl) ?_ ?_; rotate_left; (focus (intro w' hw'; obtain ⟨k0, k1, k2⟩ := HCB.out w' hw'; go_simp; (try with_reducible rfl))); (try simp only [Act.put, List.setIfInBounds_toArray, List.set_cons_zero, List.set_cons_succ]))
      first | (refine walkS_skip (some 44) rfl rfl (by rfl) (fun _ _ _ h => h) hS ?_; (try simp only [Act.put, List.setIfInBounds_toArray, List.set_cons_zero, List.set_cons_succ])) | (refine walkS_take (v := ?_) (some 44) rfl rfl (fun _ _ _ h => h) (by rfl) ?_ ?_; rotate_left; (focus (intro w' hw'; obtain ⟨k0, k1, k2⟩ := HCB.out w' hw'; go_simp; (try with_reducible rfl))); (try simp only [Act.put, List.setIfInBounds_toArray, List.set_cons_zero, List.set_cons_succ]))
      first | (refine walkS_skip (some 45) rfl rfl (by rfl) (fun _ _ _ h => h) hS ?_; (try simp only [Act.put, List.setIfInBounds_toArray, List.set_cons_zero, List.set_cons_succ])) | (refine walkS_take (v := ?_) (some 45) rfl rfl (fun _ _ _ h => h) (by rfl) ?_ ?_; rotate_left; (focus (intro w' hw'; obtain ⟨k0, k1, k2⟩ := HCB.out w' hw'; go_simp; (try with_reducible rfl))); (try simp only [Act.put, List.setIfInBounds_toArray, List.set_cons_zero, List.set_cons_succ]))
      first | (refine walkS_skip (some 46) rfl rfl (by rfl) (fun _ _ _ h => h) hS ?_; (try simp only [Act.put, List.setIfInBounds_toArray, List.set_cons_zero, List.set_cons_succ])) | (refine walkS_bin (some 46) _ _ _ _ _ _ _ _ (gtI_no _ _ HG2.out) rfl rfl rfl rfl rfl (fun _ _ _ h => h) (by rfl) ?_; (try simp only [Act.put, List.setIfInBounds_toArray, List.set_cons_zero, List.set_cons_succ]))
      (refine walkS_take (v := ?_) (some 47) rfl rfl (fun _ _ _ h => h) (by rfl) ?_ ?_; rotate_left; (focus (intro w' hw'; obtain ⟨k0, k1, k2⟩ := HCB.out w' hw'; go_simp; (try with_reducible rfl))); (try simp only [Act.put, List.setIfInBounds_toArray, List.set_cons_zero, List.set_cons_succ]))
      (refine walkS_take (v := ?_) (some 48) rfl rfl (fun _ _ _ h => h) (by rfl) ?_ ?_; rotate_left; (focus (intro w' hw'; obtain ⟨k0, k1, k2⟩ := HCB.out w' hw'; go_simp; (try with_reducible rfl))); (try simp only [Act.put, List.setIfInBounds_toArray, List.set_cons_zero, List.set_cons_succ]))
      first | (refine walkS_skip (some 49) rfl rfl (by rfl) (fun _ _ _ h => h) hS ?_; (try simp only [Act.put, List.setIfInBounds_toArray, List.set_cons_zero, List.set_cons_succ])) | (refine walkS_take (v := ?_) (some 49) rfl rfl (fun _ _ _ h => h) (by rfl) ?_ ?_; rotate_left; (focus (intro w' hw'; obtain ⟨k0, k1, k2⟩ := HCB.out w' hw'; go_simp; (try with_reducible rfl))); (try simp only [Act.put, List.setIfInBounds_toArray, List.set_cons_zero, List.set_cons_succ]))
      first | (refine walkS_skip (some 50) rfl rfl (by rfl) (fun _ _ _ h => h) hS ?_; (try simp only [Act.put, List.setIfInBounds_toArray, List.set_cons_zero, List.set_cons_succ])) | (refine walkS_take (v := ?_) (some 50) rfl rfl (fun _ _ _ h => h) (by rfl) ?_ ?_; rotate_left; (focus (intro w' hw'; obtain ⟨k0, k1, k2⟩ := HCB.out w' hw'; go_simp; (try with_reducible rfl))); (try simp only [Act.put, List.setIfInBounds_toArray, List.set_cons_zero, List.set_cons_succ]))
      first | (refine walkS_skip (some 51) rfl rfl (by rfl) (fun _ _ _ h => h) hS ?_; (try simp only [Act.put, List.setIfInBounds_toArray, List.set_cons_zero, List.set_cons_succ])) | (refine walkS_take (v := ?_) (some 51) rfl rfl (fun _ _ _ h => h) (by rfl) ?_ ?_; rotate_left; (focus (intro w' hw'; obtain ⟨k0, k1, k2⟩ := HCB.out w' hw'; go_simp; (try with_reducible rfl))); (try simp only [Act.put, List.setIfInBounds_toArray, List.set_cons_zero, List.set_cons_succ]))
      first | (refine walkS_skip (some 52) rfl rfl (by rfl) (fun _ _ _ h => h) hS ?_; (try simp only [Act.put, List.setIfInBounds_toArray, List.set_cons_zero, List.set_cons_succ])) | (refine walkS_take (v := ?_) (some 52) rfl rfl (fun _ _ _ h => h) (by rfl) ?_ ?_; rotate_left; (focus (intro w' hw'; obtain ⟨k0, k1, k2⟩ := HCB.out w' hw'; go_simp; (try with_reducible rfl))); (try simp only [Act.put, List.setIfInBounds_toArray, List.set_cons_zero, List.set_cons_succ]))
      first | (refine walkS_skip (some 53) rfl rfl (by rfl) (fun _ _ _ h => h) hS ?_; (try simp only [Act.put, List.setIfInBounds_toArray, List.set_cons_zero, List.set_cons_succ])) | (refine walkS_take (v := ?_) (some 53) rfl rfl (fun _ _ _ h => h) (by rfl) ?_ ?_; rotate_left; (focus (intro w' hw'; obtain ⟨k0, k1, k2⟩ := HCB.out w' hw'; go_simp; (try with_reducible rfl))); (try simp only [Act.put, List.setIfInBounds_toArray, List.set_cons_zero, List.set_cons_succ]))
      first | (refine walkS_skip (some 54) rfl rfl (by rfl) (fun _ _ _ h => h) hS ?_; (try simp only [Act.put, List.setIfInBounds_toArray, List.set_cons_zero, List.set_cons_succ])) | (refine walkS_take (v := ?_) (some 54) rfl rfl (fun _ _ _ h => h) (by rfl) ?_ ?_; rotate_left; (focus (intro w' hw'; obtain ⟨k0, k1, k2⟩ := HCB.out w' hw'; go_simp; (try with_reducible rfl))); (try simp only [Act.put, List.setIfInBounds_toArray, List.set_cons_zero, List.set_cons_succ]))
      first | (refine walkS_skip (some 55) rfl rfl (by rfl) (fun _ _ _ h => h) hS ?_; (try simp only [Act.put, List.setIfInBounds_toArray, List.set_cons_zero, List.set_cons_succ])) | (refine walkS_take (v := ?_) (some 55) rfl rfl (fun _ _ _ h => h) (by rfl) ?_ ?_; rotate_left; (focus (intro w' hw'; obtain ⟨k0, k1, k2⟩ := HCB.out w' hw'; go_simp; (try with_reducible rfl))); (try simp only [Act.put, List.setIfInBounds_toArray, List.set_cons_zero, List.set_cons_succ]))
      first | (refine walkS_skip (some 56) rfl rfl (by rfl) (fun _ _ _ h => h) hS ?_; (try simp only [Act.put, List.setIfInBounds_toArray, List.set_cons_zero, List.set_cons_succ])) | (refine walkS_take (v := ?_) (some 56) rfl rfl (fun _ _ _ h => h) (by rfl) ?_ ?_; rotate_left; (focus (intro w' hw'; obtain ⟨k0, k1, k2⟩ := HCB.out w' hw'; go_simp; (try with_reducible rfl))); (try simp only [Act.put, List.setIfInBounds_toArray, List.set_cons_zero, List.set_cons_succ]))
      first | (refine walkS_skip (some 57) rfl rfl (by rfl) (fun _ _ _ h => h) hS ?_; (try simp only [Act.put, List.setIfInBounds_toArray, List.set_cons_zero, List.set_cons_succ])) | (refine walkS_take (v := ?_) (some 57) rfl rfl (fun _ _ _ h => h) (by rfl) ?_ ?_; rotate_left; (focus (intro w' hw'; obtain ⟨k0, k1, k2⟩ := HCB.out w' hw'; go_simp; (try with_reducible rfl))); (try simp only [Act.put, List.setIfInBounds_toArray, List.set_cons_zero, List.set_cons_succ]))
      first | (refine walkS_skip (some 58) rfl rfl (by rfl) (fun _ _ _ h => h) hS ?_; (try simp only [Act.put, List.setIfInBounds_toArray, List.set_cons_zero, List.set_cons_succ])) | (refine walkS_take (v := ?_) (some 58) rfl rfl (fun _ _ _ h => h) (by rfl) ?_ ?_; rotate_left; (focus (intro w' hw'; obtain ⟨k0, k1, k2⟩ := HCB.out w' hw'; go_simp; (try with_reducible rfl))); (try simp only [Act.put, List.setIfInBounds_toArray, List.set_cons_zero, List.set_cons_succ]))
      (refine walkS_take (v := ?_) (some 59) rfl rfl (fun _ _ _ h => h) (by rfl) ?_ ?_; rotate_left; (focus (intro w' hw'; obtain ⟨k0, k1, k2⟩ := HCB.out w' hw'; go_simp; (try with_reducible rfl))); (try simp only [Act.put, List.setIfInBounds_toArray, List.set_cons_zero, List.set_cons_succ]))
      refine walkS_done ?_
      go_wp2_with fail
      have HR := Lib.hid (RT.trans HT2.out (fun k hk => .inl hk) ((HMB.out.still hS).same (hS.mono (fun _ _ h => h.elim))))
      go_ret
      exact ⟨rfl, HR.out⟩
    · by_cases hb0 : (1048576 - (rWas R1 (some i) : Nat) : Int) < (len : Int)
      · obtain ⟨e1, e2⟩ := HE7.out (.inr (.inl hb0))
        rw [e1, e2]
        have HB0 := Lib.hid hb0
        have HG1 : RowKit.Hid ((len : Int) ≤ IntKind.i64.wrap (R1.q - (rSum R1 R1.N : Nat))) := Lib.hid (by rw [IntWalk.i64_in _ (by have := HSB.out; have := HQB.out; omega)]; omega)
        clear e1 e2 hno ha hiF hb0
        go_enter Try.func36, Try.ntmps36
        go_wp2_with fail
        (with_reducible refine HO.out.mono ?_)
        rintro e w1 ⟨rfl, m1, t1⟩
        have c1 := m1.cells.2.1
        have HFN := Lib.hid (rfind_any w1 h.na R1.N.length h.nc R1.N m1.now k)
        rw [HNO.out] at HFN
        simp only [fI] at HFN
        have HM1 := Lib.hid m1
        have HT1 := Lib.hid t1
        clear m1 t1
        go_wp2_with fail
        (with_reducible refine (HMY.out w1).mono ?_)
        rintro e w9 ⟨rfl, rfl⟩
        go_wp2_with fail
        (with_reducible refine HFN.out.mono ?_)
        rintro e w2 ⟨rfl, t2⟩
        have HT2 := Lib.hid (HT1.out.trans t2 (fun _ _ h => h.elim))
        have HMB := Lib.hid (HM1.out.still t2)
        clear t2 c1
        have HCB : RowKit.Hid (∀ w', Touch w2 w' (fun _ => False) → w'.cell? ⟨m, 0, none⟩ = some (.slice h.fa h.L.length h.fc) ∧ w'.cell? ⟨m, 1, none⟩ = some (.slice h.na R1.N.length h.nc) ∧ w'.cell? ⟨m, 4, none⟩ = some (.int .i64 R1.q)) := Lib.hid (fun w' t => ⟨(HMB.out.still t).cells.1, (HMB.out.still t).cells.2.1, (HMB.out.still t).cells.2.2.2.2.1⟩)
        obtain ⟨g, off, y, ef, eL, ey, hil, k3, -, -, hym⟩ := HMB.out.file HI.out
        have kc := HMB.out.cells.1
        have hfc := HMB.out.fl.hcap
        have hfm := HMB.out.fl.hmax
        rw [ef] at kc
        have HEY : RowKit.Hid (fcAt R1 i = y.fc) := Lib.hid (by rw [fcAt_get HI.out, ey])
        have HYB : RowKit.Hid (y.b.length ≤ 1048576) := Lib.hid (by have := HFB.out; rw [HEY.out] at this; exact this)
        clear ef eL ey hym
        have hb : (1048576 - (y.b.length : Nat) : Int) < (len : Int) := by have := HB0.out; unfold rWas at this; simp only at this; rw [HEY.out] at this; exact this
        have hyb : y.b.length ≤ 1048576 := HYB.out
        have HG2 : RowKit.Hid (IntKind.i64.wrap (1048576 - (y.b.length : Nat)) < (len : Int)) := Lib.hid (by rw [IntWalk.i64_in _ (by omega)]; exact hb)
        clear hb
        have HR := Lib.hid (HMB.out.same HT2.out)
        go_upto_region 9 with (fail)
        have hS := (Touch.refl w2 (fun _ => False)).drew
        refine wp_region_sched (fun w' => Touch w2 w' (fun _ => False)) [(0, true), (1, true), (2, true), (3, true), (4, true), (5, true), (6, true), (7, false), (8, true), (9, true), (10, true), (11, true), (12, true), (13, true), (14, true), (15, true), (16, true), (17, true), (18, true), (19, true), (20, true), (21, true), (22, true), (23, true), (24, true), (25, true), (26, true), (27, true), (28, true)] (by kernel_rfl) (by kernel_rfl) rfl (by kernel_rfl) hS ?_
        (refine walkS_take (v := ?_) (some 31) rfl rfl (fun _ _ _ h => h) (by rfl) ?_ ?_; rotate_left; (focus (intro w' hw'; obtain ⟨k0, k1, k2⟩ := HCB.out w' hw'; go_simp; (try with_reducible rfl))); (try simp only [Act.put, List.setIfInBounds_toArray, List.set_cons_zero, List.set_cons_succ]))
        (refine walkS_take (v := ?_) (some 32) rfl rfl (fun _ _ _ h => h) (by rfl) ?_ ?_; rotate_left; (focus (intro w' hw'; obtain ⟨k0, k1, k2⟩ := HCB.out w' hw'; go_simp; (try with_reducible rfl))); (try simp only [Act.put, List.setIfInBounds_toArray, List.set_cons_zero, List.set_cons_succ]))
        (refine walkS_take (v := ?_) (some 33) rfl rfl (fun _ _ _ h => h) (by rfl) ?_ ?_; rotate_left; (focus (intro w' hw'; obtain ⟨k0, k1, k2⟩ := HCB.out w' hw'; go_simp; (try with_reducible rfl))); (try simp only [Act.put, List.setIfInBounds_toArray, List.set_cons_zero, List.set_cons_succ]))
        (refine walkS_take (v := ?_) (some 34) rfl rfl (fun _ _ _ h => h) (by rfl) ?_ ?_; rotate_left; (focus (intro w' hw'; obtain ⟨k0, k1, k2⟩ := HCB.out w' hw'; go_simp; (try with_reducible rfl))); (try simp only [Act.put, List.setIfInBounds_toArray, List.set_cons_zero, List.set_cons_succ]))
        (refine walkS_take (v := ?_) (some 35) rfl rfl (fun _ _ _ h => h) (by rfl) ?_ ?_; rotate_left; (focus (intro w' hw'; obtain ⟨k0, k1, k2⟩ := HCB.out w' hw'; go_simp; (try with_reducible rfl))); (try simp only [Act.put, List.setIfInBounds_toArray, List.set_cons_zero, List.set_cons_succ]))
        (refine walkS_take (v := ?_) (some 36) rfl rfl (fun _ _ _ h => h) (by rfl) ?_ ?_; rotate_left; (focus (intro w' hw'; obtain ⟨k0, k1, k2⟩ := HCB.out w' hw'; go_simp; (try with_reducible rfl))); (try simp only [Act.put, List.setIfInBounds_toArray, List.set_cons_zero, List.set_cons_succ]))
        (refine walkS_take (v := ?_) (some 37) rfl rfl (fun _ _ _ h => h) (by rfl) ?_ ?_; rotate_left; (focus (intro w' hw'; obtain ⟨k0, k1, k2⟩ := HCB.out w' hw'; go_simp; (try with_reducible rfl))); (try simp only [Act.put, List.setIfInBounds_toArray, List.set_cons_zero, List.set_cons_succ]))
        (refine walkS_call 38 _ _ _ _ ((rsize_any _ m h R1 (HMB.out.still hS) HV1.out)) rfl rfl rfl (by rfl) rfl (enter_rsize _ _) ?_; rintro e w' ⟨rfl, t⟩; have hS := hS.trans t (fun _ _ h => h); clear t; refine ⟨_, rfl, hS, fun hS => ?_⟩; (try simp only [Act.put, List.setIfInBounds_toArray, List.set_cons_zero, List.set_cons_succ]))
        (refine walkS_take (v := ?_) (some 39) rfl rfl (fun _ _ _ h => h) (by rfl) ?_ ?_; rotate_left; (focus (intro w' hw'; obtain ⟨k0, k1, k2⟩ := HCB.out w' hw'; go_simp; (try with_reducible rfl))); (try simp only [Act.put, List.setIfInBounds_toArray, List.set_cons_zero, List.set_cons_succ]))
        (refine walkS_bin (some 40) _ _ _ _ _ _ _ _ (gtI_no _ _ HG1.out) rfl rfl rfl rfl rfl (fun _ _ _ h => h) (by rfl) ?_; (try simp only [Act.put, List.setIfInBounds_toArray, List.set_cons_zero, List.set_cons_succ]))
        (refine walkS_take (v := ?_) (some 41) rfl rfl (fun _ _ _ h => h) (by rfl) ?_ ?_; rotate_left; (focus (intro w' hw'; obtain ⟨k0, k1, k2⟩ := HCB.out w' hw'; go_simp; (try with_reducible rfl))); (try simp only [Act.put, List.setIfInBounds_toArray, List.set_cons_zero, List.set_cons_succ]))
        first | (refine walkS_skip (some 42) rfl rfl (by rfl) (fun _ _ _ h => h) hS ?_; (try simp only [Act.put, List.setIfInBounds_toArray, List.set_cons_zero, List.set_cons_succ])) | (refine walkS_take (v := ?_) (some 42) rfl rfl (fun _ _ _ h => h) (by rfl) ?_ ?_; rotate_left; (focus (intro w' hw'; obtain ⟨k0, k1, k2⟩ := HCB.out w' hw'; go_simp; (try with_reducible rfl))); (try simp only [Act.put, List.setIfInBounds_toArray, List.set_cons_zero, List.set_cons_succ]))
        first | (refine walkS_skip (some 43) rfl rfl (by rfl) (fun _ _ _ h => h) hS ?_; (try simp only [Act.put, List.setIfInBounds_toArray, List.set_cons_zero, List.set_cons_succ])) | (refine walkS_take (v := ?_) (some 43) rfl rfl (fun _ _ _ h => h) (by rfl) ?_ ?_; rotate_left; (focus (intro w' hw'; obtain ⟨k0, k1, k2⟩ := HCB.out w' hw'; go_simp; (try with_reducible rfl))); (try simp only [Act.put, List.setIfInBounds_toArray, List.set_cons_zero, List.set_cons_succ]))
        first | (refine walkS_skip (some 44) rfl rfl (by rfl) (fun _ _ _ h => h) hS ?_; (try simp only [Act.put, List.setIfInBounds_toArray, List.set_cons_zero, List.set_cons_succ])) | (refine walkS_take (v := ?_) (some 44) rfl rfl (fun _ _ _ h => h) (by rfl) ?_ ?_; rotate_left; (focus (intro w' hw'; obtain ⟨k0, k1, k2⟩ := HCB.out w' hw'; go_simp; (try with_reducible rfl))); (try simp only [Act.put, List.setIfInBounds_toArray, List.set_cons_zero, List.set_cons_succ]))
        first | (refine walkS_skip (some 45) rfl rfl (by rfl) (fun _ _ _ h => h) hS ?_; (try simp only [Act.put, List.setIfInBounds_toArray, List.set_cons_zero, List.set_cons_succ])) | (refine walkS_take (v := ?_) (some 45) rfl rfl (fun _ _ _ h => h) (by rfl) ?_ ?_; rotate_left; (focus (intro w' hw'; obtain ⟨k0, k1, k2⟩ := HCB.out w' hw'; go_simp; (try with_reducible rfl))); (try simp only [Act.put, List.setIfInBounds_toArray, List.set_cons_zero, List.set_cons_succ]))
        first | (refine walkS_skip (some 46) rfl rfl (by rfl) (fun _ _ _ h => h) hS ?_; (try simp only [Act.put, List.setIfInBounds_toArray, List.set_cons_zero, List.set_cons_succ])) | (refine walkS_bin (some 46) _ _ _ _ _ _ _ _ (gtI_yes _ _ HG2.out) rfl rfl rfl rfl rfl (fun _ _ _ h => h) (by rfl) ?_; (try simp only [Act.put, List.setIfInBounds_toArray, List.set_cons_zero, List.set_cons_succ]))
        (refine walkS_take (v := ?_) (some 47) rfl rfl (fun _ _ _ h => h) (by rfl) ?_ ?_; rotate_left; (focus (intro w' hw'; obtain ⟨k0, k1, k2⟩ := HCB.out w' hw'; go_simp; (try with_reducible rfl))); (try simp only [Act.put, List.setIfInBounds_toArray, List.set_cons_zero, List.set_cons_succ]))
        (refine walkS_take (v := ?_) (some 48) rfl rfl (fun _ _ _ h => h) (by rfl) ?_ ?_; rotate_left; (focus (intro w' hw'; obtain ⟨k0, k1, k2⟩ := HCB.out w' hw'; go_simp; (try with_reducible rfl))); (try simp only [Act.put, List.setIfInBounds_toArray, List.set_cons_zero, List.set_cons_succ]))
        first | (refine walkS_skip (some 49) rfl rfl (by rfl) (fun _ _ _ h => h) hS ?_; (try simp only [Act.put, List.setIfInBounds_toArray, List.set_cons_zero, List.set_cons_succ])) | (refine walkS_take (v := ?_) (some 49) rfl rfl (fun _ _ _ h => h) (by rfl) ?_ ?_; rotate_left; (focus (intro w' hw'; obtain ⟨k0, k1, k2⟩ := HCB.out w' hw'; go_simp; (try with_reducible rfl))); (try simp only [Act.put, List.setIfInBounds_toArray, List.set_cons_zero, List.set_cons_succ]))
        first | (refine walkS_skip (some 50) rfl rfl (by rfl) (fun _ _ _ h => h) hS ?_; (try simp only [Act.put, List.setIfInBounds_toArray, List.set_cons_zero, List.set_cons_succ])) | (refine walkS_take (v := ?_) (some 50) rfl rfl (fun _ _ _ h => h) (by rfl) ?_ ?_; rotate_left; (focus (intro w' hw'; obtain ⟨k0, k1, k2⟩ := HCB.out w' hw'; go_simp; (try with_reducible rfl))); (try simp only [Act.put, List.setIfInBounds_toArray, List.set_cons_zero, List.set_cons_succ]))
        first | (refine walkS_skip (some 51) rfl rfl (by rfl) (fun _ _ _ h => h) hS ?_; (try simp only [Act.put, List.setIfInBounds_toArray, List.set_cons_zero, List.set_cons_succ])) | (refine walkS_take (v := ?_) (some 51) rfl rfl (fun _ _ _ h => h) (by rfl) ?_ ?_; rotate_left; (focus (intro w' hw'; obtain ⟨k0, k1, k2⟩ := HCB.out w' hw'; go_simp; (try with_reducible rfl))); (try simp only [Act.put, List.setIfInBounds_toArray, List.set_cons_zero, List.set_cons_succ]))
        first | (refine walkS_skip (some 52) rfl rfl (by rfl) (fun _ _ _ h => h) hS ?_; (try simp only [Act.put, List.setIfInBounds_toArray, List.set_cons_zero, List.set_cons_succ])) | (refine walkS_take (v := ?_) (some 52) rfl rfl (fun _ _ _ h => h) (by rfl) ?_ ?_; rotate_left; (focus (intro w' hw'; obtain ⟨k0, k1, k2⟩ := HCB.out w' hw'; go_simp; (try with_reducible rfl))); (try simp only [Act.put, List.setIfInBounds_toArray, List.set_cons_zero, List.set_cons_succ]))
        first | (refine walkS_skip (some 53) rfl rfl (by rfl) (fun _ _ _ h => h) hS ?_; (try simp only [Act.put, List.setIfInBounds_toArray, List.set_cons_zero, List.set_cons_succ])) | (refine walkS_take (v := ?_) (some 53) rfl rfl (fun _ _ _ h => h) (by rfl) ?_ ?_; rotate_left; (focus (intro w' hw'; obtain ⟨k0, k1, k2⟩ := HCB.out w' hw'; go_simp; (try with_reducible rfl))); (try simp only [Act.put, List.setIfInBounds_toArray, List.set_cons_zero, List.set_cons_succ]))
        first | (refine walkS_skip (some 54) rfl rfl (by rfl) (fun _ _ _ h => h) hS ?_; (try simp only [Act.put, List.setIfInBounds_toArray, List.set_cons_zero, List.set_cons_succ])) | (refine walkS_take (v := ?_) (some 54) rfl rfl (fun _ _ _ h => h) (by rfl) ?_ ?_; rotate_left; (focus (intro w' hw'; obtain ⟨k0, k1, k2⟩ := HCB.out w' hw'; go_simp; (try with_reducible rfl))); (try simp only [Act.put, List.setIfInBounds_toArray, List.set_cons_zero, List.set_cons_succ]))
        first | (refine walkS_skip (some 55) rfl rfl (by rfl) (fun _ _ _ h => h) hS ?_; (try simp only [Act.put, List.setIfInBounds_toArray, List.set_cons_zero, List.set_cons_succ])) | (refine walkS_take (v := ?_) (some 55) rfl rfl (fun _ _ _ h => h) (by rfl) ?_ ?_; rotate_left; (focus (intro w' hw'; obtain ⟨k0, k1, k2⟩ := HCB.out w' hw'; go_simp; (try with_reducible rfl))); (try simp only [Act.put, List.setIfInBounds_toArray, List.set_cons_zero, List.set_cons_succ]))
        first | (refine walkS_skip (some 56) rfl rfl (by rfl) (fun _ _ _ h => h) hS ?_; (try simp only [Act.put, List.setIfInBounds_toArray, List.set_cons_zero, List.set_cons_succ])) | (refine walkS_take (v := ?_) (some 56) rfl rfl (fun _ _ _ h => h) (by rfl) ?_ ?_; rotate_left; (focus (intro w' hw'; obtain ⟨k0, k1, k2⟩ := HCB.out w' hw'; go_simp; (try with_reducible rfl))); (try simp only [Act.put, List.setIfInBounds_toArray, List.set_cons_zero, List.set_cons_succ]))
        first | (refine walkS_skip (some 57) rfl rfl (by rfl) (fun _ _ _ h => h) hS ?_; (try simp only [Act.put, List.setIfInBounds_toArray, List.set_cons_zero, List.set_cons_succ])) | (refine walkS_take (v := ?_) (some 57) rfl rfl (fun _ _ _ h => h) (by rfl) ?_ ?_; rotate_left; (focus (intro w' hw'; obtain ⟨k0, k1, k2⟩ := HCB.out w' hw'; go_simp; (try with_reducible rfl))); (try simp only [Act.put, List.setIfInBounds_toArray, List.set_cons_zero, List.set_cons_succ]))
        first | (refine walkS_skip (some 58) rfl rfl (by rfl) (fun _ _ _ h => h) hS ?_; (try simp only [Act.put, List.setIfInBounds_toArray, List.set_cons_zero, List.set_cons_succ])) | (refine walkS_take (v := ?_) (some 58) rfl rfl (fun _ _ _ h => h) (by rfl) ?_ ?_; rotate_left; (focus (intro w' hw'; obtain ⟨k0, k1, k2⟩ := HCB.out w' hw'; go_simp; (try with_reducible rfl))); (try simp only [Act.put, List.setIfInBounds_toArray, List.set_cons_zero, List.set_cons_succ]))
        (refine walkS_take (v := ?_) (some 59) rfl rfl (fun _ _ _ h => h) (by rfl) ?_ ?_; rotate_left; (focus (intro w' hw'; obtain ⟨k0, k1, k2⟩ := HCB.out w' hw'; go_simp; (try with_reducible rfl))); (try simp only [Act.put, List.setIfInBounds_toArray, List.set_cons_zero, List.set_cons_succ]))
        refine walkS_done ?_
        go_wp2_with fail
        have HR := Lib.hid (RT.trans HT2.out (fun k hk => .inl hk) ((HMB.out.still hS).same (hS.mono (fun _ _ h => h.elim))))
        go_ret
        exact ⟨rfl, HR.out⟩
      · obtain ⟨e1, e2⟩ := HE0.out (by
          rintro (h9 | h9 | h9)
          · exact ha h9
          · exact hb0 h9
          · cases h9.1)
        rw [e1, e2]
        simp only
        have HB0 := Lib.hid hb0
        have HG1 : RowKit.Hid ((len : Int) ≤ IntKind.i64.wrap (R1.q - (rSum R1 R1.N : Nat))) := Lib.hid (by rw [IntWalk.i64_in _ (by have := HSB.out; have := HQB.out; omega)]; omega)
        clear e1 e2 hno ha hiF hb0
        go_enter Try.func36, Try.ntmps36
        go_wp2_with fail
        (with_reducible refine HO.out.mono ?_)
        rintro e w1 ⟨rfl, m1, t1⟩
        have c1 := m1.cells.2.1
        have HFN := Lib.hid (rfind_any w1 h.na R1.N.length h.nc R1.N m1.now k)
        rw [HNO.out] at HFN
        simp only [fI] at HFN
        have HM1 := Lib.hid m1
        have HT1 := Lib.hid t1
        clear m1 t1
        go_wp2_with fail
        (with_reducible refine (HMY.out w1).mono ?_)
        rintro e w9 ⟨rfl, rfl⟩
        go_wp2_with fail
        (with_reducible refine HFN.out.mono ?_)
        rintro e w2 ⟨rfl, t2⟩
        have HT2 := Lib.hid (HT1.out.trans t2 (fun _ _ h => h.elim))
        have HMB := Lib.hid (HM1.out.still t2)
        clear t2 c1
        have HCB : RowKit.Hid (∀ w', Touch w2 w' (fun _ => False) → w'.cell? ⟨m, 0, none⟩ = some (.slice h.fa h.L.length h.fc) ∧ w'.cell? ⟨m, 1, none⟩ = some (.slice h.na R1.N.length h.nc) ∧ w'.cell? ⟨m, 4, none⟩ = some (.int .i64 R1.q)) := Lib.hid (fun w' t => ⟨(HMB.out.still t).cells.1, (HMB.out.still t).cells.2.1, (HMB.out.still t).cells.2.2.2.2.1⟩)
        obtain ⟨g, off, y, ef, eL, ey, hil, k3, -, -, hym⟩ := HMB.out.file HI.out
        have kc := HMB.out.cells.1
        have hfc := HMB.out.fl.hcap
        have hfm := HMB.out.fl.hmax
        rw [ef] at kc
        have HEY : RowKit.Hid (fcAt R1 i = y.fc) := Lib.hid (by rw [fcAt_get HI.out, ey])
        have HYB : RowKit.Hid (y.b.length ≤ 1048576) := Lib.hid (by have := HFB.out; rw [HEY.out] at this; exact this)
        clear ef eL ey hym
        have hb : ¬ (1048576 - (y.b.length : Nat) : Int) < (len : Int) := by have := HB0.out; unfold rWas at this; simp only at this; rw [HEY.out] at this; have e : y.fc.b = y.b := rfl; rw [e] at this; omega
        have hyb : y.b.length ≤ 1048576 := HYB.out
        have HG2 : RowKit.Hid ((len : Int) ≤ IntKind.i64.wrap (1048576 - (y.b.length : Nat))) := Lib.hid (by rw [IntWalk.i64_in _ (by omega)]; omega)
        clear hb
        go_upto_region 9 with (fail)
        have hS := (Touch.refl w2 (fun _ => False)).drew
        refine wp_region_sched (fun w' => Touch w2 w' (fun _ => False)) [(0, true), (1, true), (2, true), (3, true), (4, true), (5, true), (6, true), (7, false), (8, true), (9, true), (10, true), (11, true), (12, true), (13, true), (14, true), (15, true), (16, true), (17, true), (18, true), (19, true), (20, true), (21, true), (22, true), (23, true), (24, true), (25, true), (26, true), (27, true), (28, true)] (by kernel_rfl) (by kernel_rfl) rfl (by kernel_rfl) hS ?_
        (refine walkS_take (v := ?_) (some 31) rfl rfl (fun _ _ _ h => h) (by rfl) ?_ ?_; rotate_left; (focus (intro w' hw'; obtain ⟨k0, k1, k2⟩ := HCB.out w' hw'; go_simp; (try with_reducible rfl))); (try simp only [Act.put, List.setIfInBounds_toArray, List.set_cons_zero, List.set_cons_succ]))
        (refine walkS_take (v := ?_) (some 32) rfl rfl (fun _ _ _ h => h) (by rfl) ?_ ?_; rotate_left; (focus (intro w' hw'; obtain ⟨k0, k1, k2⟩ := HCB.out w' hw'; go_simp; (try with_reducible rfl))); (try simp only [Act.put, List.setIfInBounds_toArray, List.set_cons_zero, List.set_cons_succ]))
        (refine walkS_take (v := ?_) (some 33) rfl rfl (fun _ _ _ h => h) (by rfl) ?_ ?_; rotate_left; (focus (intro w' hw'; obtain ⟨k0, k1, k2⟩ := HCB.out w' hw'; go_simp; (try with_reducible rfl))); (try simp only [Act.put, List.setIfInBounds_toArray, List.set_cons_zero, List.set_cons_succ]))
        (refine walkS_take (v := ?_) (some 34) rfl rfl (fun _ _ _ h => h) (by rfl) ?_ ?_; rotate_left; (focus (intro w' hw'; obtain ⟨k0, k1, k2⟩ := HCB.out w' hw'; go_simp; (try with_reducible rfl))); (try simp only [Act.put, List.setIfInBounds_toArray, List.set_cons_zero, List.set_cons_succ]))
        (refine walkS_take (v := ?_) (some 35) rfl rfl (fun _ _ _ h => h) (by rfl) ?_ ?_; rotate_left; (focus (intro w' hw'; obtain ⟨k0, k1, k2⟩ := HCB.out w' hw'; go_simp; (try with_reducible rfl))); (try simp only [Act.put, List.setIfInBounds_toArray, List.set_cons_zero, List.set_cons_succ]))
        (refine walkS_take (v := ?_) (some 36) rfl rfl (fun _ _ _ h => h) (by rfl) ?_ ?_; rotate_left; (focus (intro w' hw'; obtain ⟨k0, k1, k2⟩ := HCB.out w' hw'; go_simp; (try with_reducible rfl))); (try simp only [Act.put, List.setIfInBounds_toArray, List.set_cons_zero, List.set_cons_succ]))
        (refine walkS_take (v := ?_) (some 37) rfl rfl (fun _ _ _ h => h) (by rfl) ?_ ?_; rotate_left; (focus (intro w' hw'; obtain ⟨k0, k1, k2⟩ := HCB.out w' hw'; go_simp; (try with_reducible rfl))); (try simp only [Act.put, List.setIfInBounds_toArray, List.set_cons_zero, List.set_cons_succ]))
        (refine walkS_call 38 _ _ _ _ ((rsize_any _ m h R1 (HMB.out.still hS) HV1.out)) rfl rfl rfl (by rfl) rfl (enter_rsize _ _) ?_; rintro e x2 ⟨rfl, t⟩; have hS := hS.trans t (fun _ _ h => h); clear t; refine ⟨_, rfl, hS, fun hS => ?_⟩; (try simp only [Act.put, List.setIfInBounds_toArray, List.set_cons_zero, List.set_cons_succ]))
        (refine walkS_take (v := ?_) (some 39) rfl rfl (fun _ _ _ h => h) (by rfl) ?_ ?_; rotate_left; (focus (intro w' hw'; obtain ⟨k0, k1, k2⟩ := HCB.out w' hw'; go_simp; (try with_reducible rfl))); (try simp only [Act.put, List.setIfInBounds_toArray, List.set_cons_zero, List.set_cons_succ]))
        (refine walkS_bin (some 40) _ _ _ _ _ _ _ _ (gtI_no _ _ HG1.out) rfl rfl rfl rfl rfl (fun _ _ _ h => h) (by rfl) ?_; (try simp only [Act.put, List.setIfInBounds_toArray, List.set_cons_zero, List.set_cons_succ]))
        (refine walkS_take (v := ?_) (some 41) rfl rfl (fun _ _ _ h => h) (by rfl) ?_ ?_; rotate_left; (focus (intro w' hw'; obtain ⟨k0, k1, k2⟩ := HCB.out w' hw'; go_simp; (try with_reducible rfl))); (try simp only [Act.put, List.setIfInBounds_toArray, List.set_cons_zero, List.set_cons_succ]))
        first | (refine walkS_skip (some 42) rfl rfl (by rfl) (fun _ _ _ h => h) hS ?_; (try simp only [Act.put, List.setIfInBounds_toArray, List.set_cons_zero, List.set_cons_succ])) | (refine walkS_take (v := ?_) (some 42) rfl rfl (fun _ _ _ h => h) (by rfl) ?_ ?_; rotate_left; (focus (intro w' hw'; obtain ⟨k0, k1, k2⟩ := HCB.out w' hw'; go_simp; (try with_reducible rfl))); (try simp only [Act.put, List.setIfInBounds_toArray, List.set_cons_zero, List.set_cons_succ]))
        first | (refine walkS_skip (some 43) rfl rfl (by rfl) (fun _ _ _ h => h) hS ?_; (try simp only [Act.put, List.setIfInBounds_toArray, List.set_cons_zero, List.set_cons_succ])) | (refine walkS_take (v := ?_) (some 43) rfl rfl (fun _ _ _ h => h) (by rfl) ?_ ?_; rotate_left; (focus (intro w' hw'; obtain ⟨k0, k1, k2⟩ := HCB.out w' hw'; go_simp; (try with_reducible rfl))); (try simp only [Act.put, List.setIfInBounds_toArray, List.set_cons_zero, List.set_cons_succ]))
        first | (refine walkS_skip (some 44) rfl rfl (by rfl) (fun _ _ _ h => h) hS ?_; (try simp only [Act.put, List.setIfInBounds_toArray, List.set_cons_zero, List.set_cons_succ])) | (refine walkS_take (v := ?_) (some 44) rfl rfl (fun _ _ _ h => h) (by rfl) ?_ ?_; rotate_left; (focus (intro w' hw'; obtain ⟨k0, k1, k2⟩ := HCB.out w' hw'; go_simp; (try with_reducible rfl))); (try simp only [Act.put, List.setIfInBounds_toArray, List.set_cons_zero, List.set_cons_succ]))
        first | (refine walkS_skip (some 45) rfl rfl (by rfl) (fun _ _ _ h => h) hS ?_; (try simp only [Act.put, List.setIfInBounds_toArray, List.set_cons_zero, List.set_cons_succ])) | (refine walkS_take (v := ?_) (some 45) rfl rfl (fun _ _ _ h => h) (by rfl) ?_ ?_; rotate_left; (focus (intro w' hw'; obtain ⟨k0, k1, k2⟩ := HCB.out w' hw'; go_simp; (try with_reducible rfl))); (try simp only [Act.put, List.setIfInBounds_toArray, List.set_cons_zero, List.set_cons_succ]))
        first | (refine walkS_skip (some 46) rfl rfl (by rfl) (fun _ _ _ h => h) hS ?_; (try simp only [Act.put, List.setIfInBounds_toArray, List.set_cons_zero, List.set_cons_succ])) | (refine walkS_bin (some 46) _ _ _ _ _ _ _ _ (gtI_no _ _ HG2.out) rfl rfl rfl rfl rfl (fun _ _ _ h => h) (by rfl) ?_; (try simp only [Act.put, List.setIfInBounds_toArray, List.set_cons_zero, List.set_cons_succ]))
        (refine walkS_take (v := ?_) (some 47) rfl rfl (fun _ _ _ h => h) (by rfl) ?_ ?_; rotate_left; (focus (intro w' hw'; obtain ⟨k0, k1, k2⟩ := HCB.out w' hw'; go_simp; (try with_reducible rfl))); (try simp only [Act.put, List.setIfInBounds_toArray, List.set_cons_zero, List.set_cons_succ]))
        (refine walkS_take (v := ?_) (some 48) rfl rfl (fun _ _ _ h => h) (by rfl) ?_ ?_; rotate_left; (focus (intro w' hw'; obtain ⟨k0, k1, k2⟩ := HCB.out w' hw'; go_simp; (try with_reducible rfl))); (try simp only [Act.put, List.setIfInBounds_toArray, List.set_cons_zero, List.set_cons_succ]))
        first | (refine walkS_skip (some 49) rfl rfl (by rfl) (fun _ _ _ h => h) hS ?_; (try simp only [Act.put, List.setIfInBounds_toArray, List.set_cons_zero, List.set_cons_succ])) | (refine walkS_take (v := ?_) (some 49) rfl rfl (fun _ _ _ h => h) (by rfl) ?_ ?_; rotate_left; (focus (intro w' hw'; obtain ⟨k0, k1, k2⟩ := HCB.out w' hw'; go_simp; (try with_reducible rfl))); (try simp only [Act.put, List.setIfInBounds_toArray, List.set_cons_zero, List.set_cons_succ]))
        first | (refine walkS_skip (some 50) rfl rfl (by rfl) (fun _ _ _ h => h) hS ?_; (try simp only [Act.put, List.setIfInBounds_toArray, List.set_cons_zero, List.set_cons_succ])) | (refine walkS_take (v := ?_) (some 50) rfl rfl (fun _ _ _ h => h) (by rfl) ?_ ?_; rotate_left; (focus (intro w' hw'; obtain ⟨k0, k1, k2⟩ := HCB.out w' hw'; go_simp; (try with_reducible rfl))); (try simp only [Act.put, List.setIfInBounds_toArray, List.set_cons_zero, List.set_cons_succ]))
        first | (refine walkS_skip (some 51) rfl rfl (by rfl) (fun _ _ _ h => h) hS ?_; (try simp only [Act.put, List.setIfInBounds_toArray, List.set_cons_zero, List.set_cons_succ])) | (refine walkS_take (v := ?_) (some 51) rfl rfl (fun _ _ _ h => h) (by rfl) ?_ ?_; rotate_left; (focus (intro w' hw'; obtain ⟨k0, k1, k2⟩ := HCB.out w' hw'; go_simp; (try with_reducible rfl))); (try simp only [Act.put, List.setIfInBounds_toArray, List.set_cons_zero, List.set_cons_succ]))
        first | (refine walkS_skip (some 52) rfl rfl (by rfl) (fun _ _ _ h => h) hS ?_; (try simp only [Act.put, List.setIfInBounds_toArray, List.set_cons_zero, List.set_cons_succ])) | (refine walkS_take (v := ?_) (some 52) rfl rfl (fun _ _ _ h => h) (by rfl) ?_ ?_; rotate_left; (focus (intro w' hw'; obtain ⟨k0, k1, k2⟩ := HCB.out w' hw'; go_simp; (try with_reducible rfl))); (try simp only [Act.put, List.setIfInBounds_toArray, List.set_cons_zero, List.set_cons_succ]))
        first | (refine walkS_skip (some 53) rfl rfl (by rfl) (fun _ _ _ h => h) hS ?_; (try simp only [Act.put, List.setIfInBounds_toArray, List.set_cons_zero, List.set_cons_succ])) | (refine walkS_take (v := ?_) (some 53) rfl rfl (fun _ _ _ h => h) (by rfl) ?_ ?_; rotate_left; (focus (intro w' hw'; obtain ⟨k0, k1, k2⟩ := HCB.out w' hw'; go_simp; (try with_reducible rfl))); (try simp only [Act.put, List.setIfInBounds_toArray, List.set_cons_zero, List.set_cons_succ]))
        first | (refine walkS_skip (some 54) rfl rfl (by rfl) (fun _ _ _ h => h) hS ?_; (try simp only [Act.put, List.setIfInBounds_toArray, List.set_cons_zero, List.set_cons_succ])) | (refine walkS_take (v := ?_) (some 54) rfl rfl (fun _ _ _ h => h) (by rfl) ?_ ?_; rotate_left; (focus (intro w' hw'; obtain ⟨k0, k1, k2⟩ := HCB.out w' hw'; go_simp; (try with_reducible rfl))); (try simp only [Act.put, List.setIfInBounds_toArray, List.set_cons_zero, List.set_cons_succ]))
        first | (refine walkS_skip (some 55) rfl rfl (by rfl) (fun _ _ _ h => h) hS ?_; (try simp only [Act.put, List.setIfInBounds_toArray, List.set_cons_zero, List.set_cons_succ])) | (refine walkS_take (v := ?_) (some 55) rfl rfl (fun _ _ _ h => h) (by rfl) ?_ ?_; rotate_left; (focus (intro w' hw'; obtain ⟨k0, k1, k2⟩ := HCB.out w' hw'; go_simp; (try with_reducible rfl))); (try simp only [Act.put, List.setIfInBounds_toArray, List.set_cons_zero, List.set_cons_succ]))
        first | (refine walkS_skip (some 56) rfl rfl (by rfl) (fun _ _ _ h => h) hS ?_; (try simp only [Act.put, List.setIfInBounds_toArray, List.set_cons_zero, List.set_cons_succ])) | (refine walkS_take (v := ?_) (some 56) rfl rfl (fun _ _ _ h => h) (by rfl) ?_ ?_; rotate_left; (focus (intro w' hw'; obtain ⟨k0, k1, k2⟩ := HCB.out w' hw'; go_simp; (try with_reducible rfl))); (try simp only [Act.put, List.setIfInBounds_toArray, List.set_cons_zero, List.set_cons_succ]))
        first | (refine walkS_skip (some 57) rfl rfl (by rfl) (fun _ _ _ h => h) hS ?_; (try simp only [Act.put, List.setIfInBounds_toArray, List.set_cons_zero, List.set_cons_succ])) | (refine walkS_take (v := ?_) (some 57) rfl rfl (fun _ _ _ h => h) (by rfl) ?_ ?_; rotate_left; (focus (intro w' hw'; obtain ⟨k0, k1, k2⟩ := HCB.out w' hw'; go_simp; (try with_reducible rfl))); (try simp only [Act.put, List.setIfInBounds_toArray, List.set_cons_zero, List.set_cons_succ]))
        first | (refine walkS_skip (some 58) rfl rfl (by rfl) (fun _ _ _ h => h) hS ?_; (try simp only [Act.put, List.setIfInBounds_toArray, List.set_cons_zero, List.set_cons_succ])) | (refine walkS_take (v := ?_) (some 58) rfl rfl (fun _ _ _ h => h) (by rfl) ?_ ?_; rotate_left; (focus (intro w' hw'; obtain ⟨k0, k1, k2⟩ := HCB.out w' hw'; go_simp; (try with_reducible rfl))); (try simp only [Act.put, List.setIfInBounds_toArray, List.set_cons_zero, List.set_cons_succ]))
        (refine walkS_take (v := ?_) (some 59) rfl rfl (fun _ _ _ h => h) (by rfl) ?_ ?_; rotate_left; (focus (intro w' hw'; obtain ⟨k0, k1, k2⟩ := HCB.out w' hw'; go_simp; (try with_reducible rfl))); (try simp only [Act.put, List.setIfInBounds_toArray, List.set_cons_zero, List.set_cons_succ]))
        refine walkS_done ?_
        have HM0 := Lib.hid (HMB.out.still hS)
        have HT3 := Lib.hid (HT2.out.trans hS (fun _ _ h => h.elim))
        have HRB : RowKit.Hid (∀ W, Touch x2 W (fun _ => False) → RowB W a len cap xs) := Lib.hid (fun W t => HRW.out.touch (HT3.out.trans t (fun _ _ h => h.elim)) (fun z hz => (HOFF.out z hz).imp (fun h => h) (fun h e => h e)))
        have HWAS : RowKit.Hid ((fcAt R1 i).b.length + len ≤ 1048576) := Lib.hid (by have := HB0.out; unfold rWas at this; simp only at this; omega)
        have HFL := Lib.hid HV1.out.fl'
        have HFIN : RowKit.Hid (∀ W Z s, Z = (fcAt R1 i).b ++ xs → s = (fcAt R1 i).s → RT x2 W m h { R1 with F := R1.F.set i ⟨Z, s⟩ } → RT w W m h { R1 with F := R1.F.set i ⟨(fcAt R1 i).b ++ xs, (fcAt R1 i).s⟩ }) := Lib.hid (fun W Z s e1 e2 p => by rw [← e1, ← e2]; exact RT.trans HT3.out (fun k hk => .inl hk) p)
        clear hyb kc k3 hfc hfm hil hS HEY HYB HG1 HG2
        obtain ⟨g, off, y, ef, eL, ey, hil, -, -, -, hym⟩ := HM0.out.file HI.out
        have HEF := Lib.hid ef
        have HYM := Lib.hid hym
        have HTF : RowKit.Hid (Touch x2 x2.drew (fun _ => False)) := Lib.hid ((Touch.refl x2 (fun _ => False)).drew)
        have HM2 := Lib.hid (HM0.out.still HTF.out)
        have hfc := HM0.out.fl.hcap
        have hfm := HM0.out.fl.hmax
        have HCB : RowKit.Hid (∀ w', Touch x2 w' (fun k => k = m) → w'.cell? ⟨g, off + i * 2, none⟩ = some (.slice y.a y.b.length y.c) ∧ w'.cell? ⟨g, off + i * 2 + 1, none⟩ = some (.int .i64 y.s)) := Lib.hid (fun w' t => by
          have r := HM0.out.fl.touch t (fun z hz => .inr (HM0.out.foot _ (.inl ⟨z, hz, rfl⟩)).1)
          rw [ef] at r
          have hil' : i < h.L.length := hil
          have e : h.L[i] = y := by have := List.getElem?_eq_getElem hil'; rw [eL] at this; exact (Option.some.inj this).symm
          exact row2_cell r i hil' _ _ (by rw [e]; rfl))
        obtain ⟨Z, hZ⟩ : ∃ Z, y.b ++ xs = Z := ⟨_, rfl⟩
        have HZ := Lib.hid hZ
        have HEY : RowKit.Hid (fcAt R1 i = y.fc) := Lib.hid (by rw [fcAt_get HI.out, ey])
        have HML : RowKit.Hid (m < x2.heap.size) := Lib.hid (heap_lt HM0.out.head)
        have HBL : RowKit.Hid (y.b.length + len ≤ 1048576) := Lib.hid (by have := HWAS.out; rw [HEY.out] at this; exact this)
        have HZL : RowKit.Hid (Z.length = y.b.length + len) := Lib.hid (by rw [← hZ, List.length_append, HXL.out])
        clear ef eL ey hym hZ
        go_upto_region 15 with (fail)
        have hS := (Touch.refl x2 (fun k => k = m)).drew
        refine wp_region_tree3 (fun w' => Touch x2 w' (fun k => k = m)) (.take 0 (.take 1 (.take 2 (.take 3 (.take 4 (.take 6 (.take 11 (.take 13 (.take 14 (.take 15 (.take 17 (.two 5 16 (.take 7 (.take 8 (.take 9 (.two 10 16 (.two 12 16 (.one 16 (.take 18 (.take 19 (.take 20 (.take 21 (.one 22 .fin)))))) (.take 18 (.take 19 (.take 20 (.one 12 (.take 21 (.one 22 .fin))))))) (.take 18 (.take 19 (.take 20 (.one 10 (.one 12 (.take 21 (.one 22 .fin))))))))))) (.take 18 (.take 19 (.take 20 (.one 5 (.take 7 (.take 8 (.take 9 (.one 10 (.one 12 (.take 21 (.one 22 .fin))))))))))))))))))))))) (by kernel_rfl) (by kernel_rfl) (by kernel_rfl) (by kernel_rfl) hS ?_
        refine walk3_take ?_
        (refine takeN_take (v := ?_) (some 83) rfl rfl (fun _ _ _ h => h) (by rfl) ?_ ?_; rotate_left; (focus (intro w' hw'; obtain ⟨k1, k2⟩ := HCB.out w' hw'; go_simp; (try with_reducible rfl))); (try simp only [Act.put, List.setIfInBounds_toArray, List.set_cons_zero, List.set_cons_succ]))
        refine walk3_take ?_
        (refine takeN_take (v := ?_) (some 84) rfl rfl (fun _ _ _ h => h) (by rfl) ?_ ?_; rotate_left; (focus (intro w' hw'; obtain ⟨k1, k2⟩ := HCB.out w' hw'; go_simp; (try with_reducible rfl))); (try simp only [Act.put, List.setIfInBounds_toArray, List.set_cons_zero, List.set_cons_succ]))
        refine walk3_take ?_
        (refine takeN_take (v := ?_) (some 85) rfl rfl (fun _ _ _ h => h) (by rfl) ?_ ?_; rotate_left; (focus (intro w' hw'; obtain ⟨k1, k2⟩ := HCB.out w' hw'; go_simp; (try with_reducible rfl))); (try simp only [Act.put, List.setIfInBounds_toArray, List.set_cons_zero, List.set_cons_succ]))
        refine walk3_take ?_
        (refine takeN_take (v := ?_) (some 86) rfl rfl (fun _ _ _ h => h) (by rfl) ?_ ?_; rotate_left; (focus (intro w' hw'; obtain ⟨k1, k2⟩ := HCB.out w' hw'; go_simp; (try with_reducible rfl))); (try simp only [Act.put, List.setIfInBounds_toArray, List.set_cons_zero, List.set_cons_succ]))
        refine walk3_take ?_
        (refine takeN_take (v := ?_) (some 87) rfl rfl (fun _ _ _ h => h) (by rfl) ?_ ?_; rotate_left; (focus (intro w' hw'; obtain ⟨k1, k2⟩ := HCB.out w' hw'; go_simp; (try with_reducible rfl))); (try simp only [Act.put, List.setIfInBounds_toArray, List.set_cons_zero, List.set_cons_succ]))
        refine walk3_take ?_
        (refine takeN_take (v := ?_) (some 89) rfl rfl (fun _ _ _ h => h) (by rfl) ?_ ?_; rotate_left; (focus (intro w' hw'; obtain ⟨k1, k2⟩ := HCB.out w' hw'; go_simp; (try with_reducible rfl))); (try simp only [Act.put, List.setIfInBounds_toArray, List.set_cons_zero, List.set_cons_succ]))
        refine walk3_take ?_
        (refine takeN_take (v := ?_) (some 94) rfl rfl (fun _ _ _ h => h) (by rfl) ?_ ?_; rotate_left; (focus (intro w' hw'; obtain ⟨k1, k2⟩ := HCB.out w' hw'; go_simp; (try with_reducible rfl))); (try simp only [Act.put, List.setIfInBounds_toArray, List.set_cons_zero, List.set_cons_succ]))
        refine walk3_take ?_
        (refine takeN_take (v := ?_) (some 96) rfl rfl (fun _ _ _ h => h) (by rfl) ?_ ?_; rotate_left; (focus (intro w' hw'; obtain ⟨k1, k2⟩ := HCB.out w' hw'; go_simp; (try with_reducible rfl))); (try simp only [Act.put, List.setIfInBounds_toArray, List.set_cons_zero, List.set_cons_succ]))
        refine walk3_take ?_
        (refine takeN_take (v := ?_) (some 97) rfl rfl (fun _ _ _ h => h) (by rfl) ?_ ?_; rotate_left; (focus (intro w' hw'; obtain ⟨k1, k2⟩ := HCB.out w' hw'; go_simp; (try with_reducible rfl))); (try simp only [Act.put, List.setIfInBounds_toArray, List.set_cons_zero, List.set_cons_succ]))
        refine walk3_take ?_
        (refine takeN_take (v := ?_) (some 98) rfl rfl (fun _ _ _ h => h) (by rfl) ?_ ?_; rotate_left; (focus (intro w' hw'; obtain ⟨k1, k2⟩ := HCB.out w' hw'; go_simp; (try with_reducible rfl))); (try simp only [Act.put, List.setIfInBounds_toArray, List.set_cons_zero, List.set_cons_succ]))
        refine walk3_take ?_
        (refine takeN_take (v := ?_) (some 100) rfl rfl (fun _ _ _ h => h) (by rfl) ?_ ?_; rotate_left; (focus (intro w' hw'; obtain ⟨k1, k2⟩ := HCB.out w' hw'; go_simp; (try with_reducible rfl))); (try simp only [Act.put, List.setIfInBounds_toArray, List.set_cons_zero, List.set_cons_succ]))
        refine walk3_two ?_ ?_
        · (have cc := HM2.out.cells.1; rw [HEF.out] at cc; refine runN_do (v := .slice (some ⟨g, off, none⟩) h.L.length h.fc) (w' := _) (some 88) rfl rfl (by rfl) (by go_simp; (try with_reducible rfl)) hS (fun hS => ?_); clear cc; (try simp only [Act.put, List.setIfInBounds_toArray, List.set_cons_zero, List.set_cons_succ]))
          refine walk3_take ?_
          (refine takeN_take (v := ?_) (some 90) rfl rfl (fun _ _ _ h => h) (by rfl) ?_ ?_; rotate_left; (focus (intro w' hw'; obtain ⟨k1, k2⟩ := HCB.out w' hw'; go_simp; (try with_reducible rfl))); (try simp only [Act.put, List.setIfInBounds_toArray, List.set_cons_zero, List.set_cons_succ]))
          refine walk3_take ?_
          (refine takeN_take (v := ?_) (some 91) rfl rfl (fun _ _ _ h => h) (by rfl) ?_ ?_; rotate_left; (focus (intro w' hw'; obtain ⟨k1, k2⟩ := HCB.out w' hw'; go_simp; (try with_reducible rfl))); (try simp only [Act.put, List.setIfInBounds_toArray, List.set_cons_zero, List.set_cons_succ]))
          refine walk3_take ?_
          (refine takeN_take (v := ?_) (some 92) rfl rfl (fun _ _ _ h => h) (by rfl) ?_ ?_; rotate_left; (focus (intro w' hw'; obtain ⟨k1, k2⟩ := HCB.out w' hw'; go_simp; (try with_reducible rfl))); (try simp only [Act.put, List.setIfInBounds_toArray, List.set_cons_zero, List.set_cons_succ]))
          refine walk3_two ?_ ?_
          · (refine runN_appB 93 (.const (.slice none 0 0)) (.tmp 92) _ rfl rfl rfl (by rfl) 5 Try.underlying29 infoB x2.heap.size _ [] rfl (OwnB.nil _ _ _) y.a y.b.length y.c y.b rfl (HM2.out.fb y HYM.out) y.b.length y.b rfl rfl (by have := HBL.out; omega) hS.size ?_; intro a9 c9 w9 ho9 hr9 hg9 hp9; have t9 := (Touch.refl _ (fun _ => False)).grown hg9 (fun k hk _ => by cases hk); have hS := hS.trans t9 (fun k _ h2 => h2.elim); refine ⟨hS, fun _ => ?_⟩; have HTF := Lib.hid (HTF.out.trans t9 (fun _ _ h => h)); have HM2 := Lib.hid (HM0.out.still HTF.out); have HO9 := Lib.hid ho9; clear ho9 hr9 hg9 hp9 t9; (try simp only [Act.put, List.setIfInBounds_toArray, List.set_cons_zero, List.set_cons_succ]))
            refine walk3_two ?_ ?_
            · (refine runN_appB 95 (.tmp 93) (.tmp 94) _ rfl rfl rfl (by rfl) 5 Try.underlying29 infoB x2.heap.size _ y.b rfl HO9.out a len cap xs rfl (HRB.out _ HTF.out) Z.length Z HZ.out rfl (by have := HBL.out; have := HZL.out; omega) hS.size ?_; intro a8 c8 w8 ho8 hr8 hg8 hp8; have t8 := (Touch.refl _ (fun k => x2.heap.size ≤ k)).grown hg8 (fun k hk _ => (HO9.out.own.lt k hk).1); have hS := hS.trans t8 (fun k h1 h2 => by have h2 : x2.heap.size ≤ k := h2; omega); refine ⟨hS, fun _ => ?_⟩; have HTF := Lib.hid (HTF.out.trans t8 (fun k h1 h2 => by have h2 : x2.heap.size ≤ k := h2; omega)); have HM2 := Lib.hid (HM0.out.still HTF.out); have HO8 := Lib.hid ho8; have HR8 := Lib.hid hr8; clear ho8 hr8 hg8 hp8 t8; (try simp only [Act.put, List.setIfInBounds_toArray, List.set_cons_zero, List.set_cons_succ]))
              refine walk3_one ?_
              (have cc := HM2.out.cells.1; rw [HEF.out] at cc; refine runN_do (v := .slice (some ⟨g, off, none⟩) h.L.length h.fc) (w' := _) (some 99) rfl rfl (by rfl) (by go_simp; (try with_reducible rfl)) hS (fun hS => ?_); clear cc; (try simp only [Act.put, List.setIfInBounds_toArray, List.set_cons_zero, List.set_cons_succ]))
              refine walk3_take ?_
              (refine takeN_take (v := ?_) (some 101) rfl rfl (fun _ _ _ h => h) (by rfl) ?_ ?_; rotate_left; (focus (intro w' hw'; obtain ⟨k1, k2⟩ := HCB.out w' hw'; go_simp; (try with_reducible rfl))); (try simp only [Act.put, List.setIfInBounds_toArray, List.set_cons_zero, List.set_cons_succ]))
              refine walk3_take ?_
              (refine takeN_take (v := ?_) (some 102) rfl rfl (fun _ _ _ h => h) (by rfl) ?_ ?_; rotate_left; (focus (intro w' hw'; obtain ⟨k1, k2⟩ := HCB.out w' hw'; go_simp; (try with_reducible rfl))); (try simp only [Act.put, List.setIfInBounds_toArray, List.set_cons_zero, List.set_cons_succ]))
              refine walk3_take ?_
              (refine takeN_take (v := ?_) (some 103) rfl rfl (fun _ _ _ h => h) (by rfl) ?_ ?_; rotate_left; (focus (intro w' hw'; obtain ⟨k1, k2⟩ := HCB.out w' hw'; go_simp; (try with_reducible rfl))); (try simp only [Act.put, List.setIfInBounds_toArray, List.set_cons_zero, List.set_cons_succ]))
              refine walk3_take ?_
              (refine takeN_take (v := ?_) (some 104) rfl rfl (fun _ _ _ h => h) (by rfl) ?_ ?_; rotate_left; (focus (intro w' hw'; obtain ⟨k1, k2⟩ := HCB.out w' hw'; go_simp; (try with_reducible rfl))); (try simp only [Act.put, List.setIfInBounds_toArray, List.set_cons_zero, List.set_cons_succ]))
              refine walk3_one ?_
              (refine runN_call 105 _ _ _ _ (rput_any _ m h R1 HM2.out HFL.out i HI.out ⟨a8, c8, Z, y.s⟩ HR8.out (app_off HML.out HO8.out)) rfl rfl rfl (by rfl) rfl (enter_rput _ _ _ _) ?_; rintro e w3 ⟨rfl, p3⟩; have HP := Lib.hid (p3.rt (w := x2) (HTF.out.mono (fun _ _ h => h.elim)) (appB_new HO8.out)); have hS := hS.trans p3.touch (fun _ _ h => h); refine ⟨_, rfl, hS, fun hS => ?_⟩; clear p3; (try simp only [Act.put, List.setIfInBounds_toArray, List.set_cons_zero, List.set_cons_succ]))
              refine walk3_fin ?_
              go_wp2_with fail
              go_ret
              exact ⟨rfl, HFIN.out _ _ _ (by rw [← HZ.out, HEY.out]; rfl) (by rw [HEY.out]; rfl) HP.out⟩
            · (have cc := HM2.out.cells.1; rw [HEF.out] at cc; refine runN_do (v := .slice (some ⟨g, off, none⟩) h.L.length h.fc) (w' := _) (some 99) rfl rfl (by rfl) (by go_simp; (try with_reducible rfl)) hS (fun hS => ?_); clear cc; (try simp only [Act.put, List.setIfInBounds_toArray, List.set_cons_zero, List.set_cons_succ]))
              refine walk3_take ?_
              (refine takeN_take (v := ?_) (some 101) rfl rfl (fun _ _ _ h => h) (by rfl) ?_ ?_; rotate_left; (focus (intro w' hw'; obtain ⟨k1, k2⟩ := HCB.out w' hw'; go_simp; (try with_reducible rfl))); (try simp only [Act.put, List.setIfInBounds_toArray, List.set_cons_zero, List.set_cons_succ]))
              refine walk3_take ?_
              (refine takeN_take (v := ?_) (some 102) rfl rfl (fun _ _ _ h => h) (by rfl) ?_ ?_; rotate_left; (focus (intro w' hw'; obtain ⟨k1, k2⟩ := HCB.out w' hw'; go_simp; (try with_reducible rfl))); (try simp only [Act.put, List.setIfInBounds_toArray, List.set_cons_zero, List.set_cons_succ]))
              refine walk3_take ?_
              (refine takeN_take (v := ?_) (some 103) rfl rfl (fun _ _ _ h => h) (by rfl) ?_ ?_; rotate_left; (focus (intro w' hw'; obtain ⟨k1, k2⟩ := HCB.out w' hw'; go_simp; (try with_reducible rfl))); (try simp only [Act.put, List.setIfInBounds_toArray, List.set_cons_zero, List.set_cons_succ]))
              refine walk3_one ?_
              (refine runN_appB 95 (.tmp 93) (.tmp 94) _ rfl rfl rfl (by rfl) 5 Try.underlying29 infoB x2.heap.size _ y.b rfl HO9.out a len cap xs rfl (HRB.out _ HTF.out) Z.length Z HZ.out rfl (by have := HBL.out; have := HZL.out; omega) hS.size ?_; intro a8 c8 w8 ho8 hr8 hg8 hp8; have t8 := (Touch.refl _ (fun k => x2.heap.size ≤ k)).grown hg8 (fun k hk _ => (HO9.out.own.lt k hk).1); have hS := hS.trans t8 (fun k h1 h2 => by have h2 : x2.heap.size ≤ k := h2; omega); refine ⟨hS, fun _ => ?_⟩; have HTF := Lib.hid (HTF.out.trans t8 (fun k h1 h2 => by have h2 : x2.heap.size ≤ k := h2; omega)); have HM2 := Lib.hid (HM0.out.still HTF.out); have HO8 := Lib.hid ho8; have HR8 := Lib.hid hr8; clear ho8 hr8 hg8 hp8 t8; (try simp only [Act.put, List.setIfInBounds_toArray, List.set_cons_zero, List.set_cons_succ]))
              refine walk3_take ?_
              (refine takeN_take (v := ?_) (some 104) rfl rfl (fun _ _ _ h => h) (by rfl) ?_ ?_; rotate_left; (focus (intro w' hw'; obtain ⟨k1, k2⟩ := HCB.out w' hw'; go_simp; (try with_reducible rfl))); (try simp only [Act.put, List.setIfInBounds_toArray, List.set_cons_zero, List.set_cons_succ]))
              refine walk3_one ?_
              (refine runN_call 105 _ _ _ _ (rput_any _ m h R1 HM2.out HFL.out i HI.out ⟨a8, c8, Z, y.s⟩ HR8.out (app_off HML.out HO8.out)) rfl rfl rfl (by rfl) rfl (enter_rput _ _ _ _) ?_; rintro e w3 ⟨rfl, p3⟩; have HP := Lib.hid (p3.rt (w := x2) (HTF.out.mono (fun _ _ h => h.elim)) (appB_new HO8.out)); have hS := hS.trans p3.touch (fun _ _ h => h); refine ⟨_, rfl, hS, fun hS => ?_⟩; clear p3; (try simp only [Act.put, List.setIfInBounds_toArray, List.set_cons_zero, List.set_cons_succ]))
              refine walk3_fin ?_
              go_wp2_with fail
              go_ret
              exact ⟨rfl, HFIN.out _ _ _ (by rw [← HZ.out, HEY.out]; rfl) (by rw [HEY.out]; rfl) HP.out⟩
          · (have cc := HM2.out.cells.1; rw [HEF.out] at cc; refine runN_do (v := .slice (some ⟨g, off, none⟩) h.L.length h.fc) (w' := _) (some 99) rfl rfl (by rfl) (by go_simp; (try with_reducible rfl)) hS (fun hS => ?_); clear cc; (try simp only [Act.put, List.setIfInBounds_toArray, List.set_cons_zero, List.set_cons_succ]))
            refine walk3_take ?_
            (refine takeN_take (v := ?_) (some 101) rfl rfl (fun _ _ _ h => h) (by rfl) ?_ ?_; rotate_left; (focus (intro w' hw'; obtain ⟨k1, k2⟩ := HCB.out w' hw'; go_simp; (try with_reducible rfl))); (try simp only [Act.put, List.setIfInBounds_toArray, List.set_cons_zero, List.set_cons_succ]))
            refine walk3_take ?_
            (refine takeN_take (v := ?_) (some 102) rfl rfl (fun _ _ _ h => h) (by rfl) ?_ ?_; rotate_left; (focus (intro w' hw'; obtain ⟨k1, k2⟩ := HCB.out w' hw'; go_simp; (try with_reducible rfl))); (try simp only [Act.put, List.setIfInBounds_toArray, List.set_cons_zero, List.set_cons_succ]))
            refine walk3_take ?_
            (refine takeN_take (v := ?_) (some 103) rfl rfl (fun _ _ _ h => h) (by rfl) ?_ ?_; rotate_left; (focus (intro w' hw'; obtain ⟨k1, k2⟩ := HCB.out w' hw'; go_simp; (try with_reducible rfl))); (try simp only [Act.put, List.setIfInBounds_toArray, List.set_cons_zero, List.set_cons_succ]))
            refine walk3_one ?_
            (refine runN_appB 93 (.const (.slice none 0 0)) (.tmp 92) _ rfl rfl rfl (by rfl) 5 Try.underlying29 infoB x2.heap.size _ [] rfl (OwnB.nil _ _ _) y.a y.b.length y.c y.b rfl (HM2.out.fb y HYM.out) y.b.length y.b rfl rfl (by have := HBL.out; omega) hS.size ?_; intro a9 c9 w9 ho9 hr9 hg9 hp9; have t9 := (Touch.refl _ (fun _ => False)).grown hg9 (fun k hk _ => by cases hk); have hS := hS.trans t9 (fun k _ h2 => h2.elim); refine ⟨hS, fun _ => ?_⟩; have HTF := Lib.hid (HTF.out.trans t9 (fun _ _ h => h)); have HM2 := Lib.hid (HM0.out.still HTF.out); have HO9 := Lib.hid ho9; clear ho9 hr9 hg9 hp9 t9; (try simp only [Act.put, List.setIfInBounds_toArray, List.set_cons_zero, List.set_cons_succ]))
            refine walk3_one ?_
            (refine runN_appB 95 (.tmp 93) (.tmp 94) _ rfl rfl rfl (by rfl) 5 Try.underlying29 infoB x2.heap.size _ y.b rfl HO9.out a len cap xs rfl (HRB.out _ HTF.out) Z.length Z HZ.out rfl (by have := HBL.out; have := HZL.out; omega) hS.size ?_; intro a8 c8 w8 ho8 hr8 hg8 hp8; have t8 := (Touch.refl _ (fun k => x2.heap.size ≤ k)).grown hg8 (fun k hk _ => (HO9.out.own.lt k hk).1); have hS := hS.trans t8 (fun k h1 h2 => by have h2 : x2.heap.size ≤ k := h2; omega); refine ⟨hS, fun _ => ?_⟩; have HTF := Lib.hid (HTF.out.trans t8 (fun k h1 h2 => by have h2 : x2.heap.size ≤ k := h2; omega)); have HM2 := Lib.hid (HM0.out.still HTF.out); have HO8 := Lib.hid ho8; have HR8 := Lib.hid hr8; clear ho8 hr8 hg8 hp8 t8; (try simp only [Act.put, List.setIfInBounds_toArray, List.set_cons_zero, List.set_cons_succ]))
            refine walk3_take ?_
            (refine takeN_take (v := ?_) (some 104) rfl rfl (fun _ _ _ h => h) (by rfl) ?_ ?_; rotate_left; (focus (intro w' hw'; obtain ⟨k1, k2⟩ := HCB.out w' hw'; go_simp; (try with_reducible rfl))); (try simp only [Act.put, List.setIfInBounds_toArray, List.set_cons_zero, List.set_cons_succ]))
            refine walk3_one ?_
            (refine runN_call 105 _ _ _ _ (rput_any _ m h R1 HM2.out HFL.out i HI.out ⟨a8, c8, Z, y.s⟩ HR8.out (app_off HML.out HO8.out)) rfl rfl rfl (by rfl) rfl (enter_rput _ _ _ _) ?_; rintro e w3 ⟨rfl, p3⟩; have HP := Lib.hid (p3.rt (w := x2) (HTF.out.mono (fun _ _ h => h.elim)) (appB_new HO8.out)); have hS := hS.trans p3.touch (fun _ _ h => h); refine ⟨_, rfl, hS, fun hS => ?_⟩; clear p3; (try simp only [Act.put, List.setIfInBounds_toArray, List.set_cons_zero, List.set_cons_succ]))
            refine walk3_fin ?_
            go_wp2_with fail
            go_ret
            exact ⟨rfl, HFIN.out _ _ _ (by rw [← HZ.out, HEY.out]; rfl) (by rw [HEY.out]; rfl) HP.out⟩
        · (have cc := HM2.out.cells.1; rw [HEF.out] at cc; refine runN_do (v := .slice (some ⟨g, off, none⟩) h.L.length h.fc) (w' := _) (some 99) rfl rfl (by rfl) (by go_simp; (try with_reducible rfl)) hS (fun hS => ?_); clear cc; (try simp only [Act.put, List.setIfInBounds_toArray, List.set_cons_zero, List.set_cons_succ]))
          refine walk3_take ?_
          (refine takeN_take (v := ?_) (some 101) rfl rfl (fun _ _ _ h => h) (by rfl) ?_ ?_; rotate_left; (focus (intro w' hw'; obtain ⟨k1, k2⟩ := HCB.out w' hw'; go_simp; (try with_reducible rfl))); (try simp only [Act.put, List.setIfInBounds_toArray, List.set_cons_zero, List.set_cons_succ]))
          refine walk3_take ?_
          (refine takeN_take (v := ?_) (some 102) rfl rfl (fun _ _ _ h => h) (by rfl) ?_ ?_; rotate_left; (focus (intro w' hw'; obtain ⟨k1, k2⟩ := HCB.out w' hw'; go_simp; (try with_reducible rfl))); (try simp only [Act.put, List.setIfInBounds_toArray, List.set_cons_zero, List.set_cons_succ]))
          refine walk3_take ?_
          (refine takeN_take (v := ?_) (some 103) rfl rfl (fun _ _ _ h => h) (by rfl) ?_ ?_; rotate_left; (focus (intro w' hw'; obtain ⟨k1, k2⟩ := HCB.out w' hw'; go_simp; (try with_reducible rfl))); (try simp only [Act.put, List.setIfInBounds_toArray, List.set_cons_zero, List.set_cons_succ]))
          refine walk3_one ?_
          (have cc := HM2.out.cells.1; rw [HEF.out] at cc; refine runN_do (v := .slice (some ⟨g, off, none⟩) h.L.length h.fc) (w' := _) (some 88) rfl rfl (by rfl) (by go_simp; (try with_reducible rfl)) hS (fun hS => ?_); clear cc; (try simp only [Act.put, List.setIfInBounds_toArray, List.set_cons_zero, List.set_cons_succ]))
          refine walk3_take ?_
          (refine takeN_take (v := ?_) (some 90) rfl rfl (fun _ _ _ h => h) (by rfl) ?_ ?_; rotate_left; (focus (intro w' hw'; obtain ⟨k1, k2⟩ := HCB.out w' hw'; go_simp; (try with_reducible rfl))); (try simp only [Act.put, List.setIfInBounds_toArray, List.set_cons_zero, List.set_cons_succ]))
          refine walk3_take ?_
          (refine takeN_take (v := ?_) (some 91) rfl rfl (fun _ _ _ h => h) (by rfl) ?_ ?_; rotate_left; (focus (intro w' hw'; obtain ⟨k1, k2⟩ := HCB.out w' hw'; go_simp; (try with_reducible rfl))); (try simp only [Act.put, List.setIfInBounds_toArray, List.set_cons_zero, List.set_cons_succ]))
          refine walk3_take ?_
          (refine takeN_take (v := ?_) (some 92) rfl rfl (fun _ _ _ h => h) (by rfl) ?_ ?_; rotate_left; (focus (intro w' hw'; obtain ⟨k1, k2⟩ := HCB.out w' hw'; go_simp; (try with_reducible rfl))); (try simp only [Act.put, List.setIfInBounds_toArray, List.set_cons_zero, List.set_cons_succ]))
          refine walk3_one ?_
          (refine runN_appB 93 (.const (.slice none 0 0)) (.tmp 92) _ rfl rfl rfl (by rfl) 5 Try.underlying29 infoB x2.heap.size _ [] rfl (OwnB.nil _ _ _) y.a y.b.length y.c y.b rfl (HM2.out.fb y HYM.out) y.b.length y.b rfl rfl (by have := HBL.out; omega) hS.size ?_; intro a9 c9 w9 ho9 hr9 hg9 hp9; have t9 := (Touch.refl _ (fun _ => False)).grown hg9 (fun k hk _ => by cases hk); have hS := hS.trans t9 (fun k _ h2 => h2.elim); refine ⟨hS, fun _ => ?_⟩; have HTF := Lib.hid (HTF.out.trans t9 (fun _ _ h => h)); have HM2 := Lib.hid (HM0.out.still HTF.out); have HO9 := Lib.hid ho9; clear ho9 hr9 hg9 hp9 t9; (try simp only [Act.put, List.setIfInBounds_toArray, List.set_cons_zero, List.set_cons_succ]))
          refine walk3_one ?_
          (refine runN_appB 95 (.tmp 93) (.tmp 94) _ rfl rfl rfl (by rfl) 5 Try.underlying29 infoB x2.heap.size _ y.b rfl HO9.out a len cap xs rfl (HRB.out _ HTF.out) Z.length Z HZ.out rfl (by have := HBL.out; have := HZL.out; omega) hS.size ?_; intro a8 c8 w8 ho8 hr8 hg8 hp8; have t8 := (Touch.refl _ (fun k => x2.heap.size ≤ k)).grown hg8 (fun k hk _ => (HO9.out.own.lt k hk).1); have hS := hS.trans t8 (fun k h1 h2 => by have h2 : x2.heap.size ≤ k := h2; omega); refine ⟨hS, fun _ => ?_⟩; have HTF := Lib.hid (HTF.out.trans t8 (fun k h1 h2 => by have h2 : x2.heap.size ≤ k := h2; omega)); have HM2 := Lib.hid (HM0.out.still HTF.out); have HO8 := Lib.hid ho8; have HR8 := Lib.hid hr8; clear ho8 hr8 hg8 hp8 t8; (try simp only [Act.put, List.setIfInBounds_toArray, List.set_cons_zero, List.set_cons_succ]))
          refine walk3_take ?_
          (refine takeN_take (v := ?_) (some 104) rfl rfl (fun _ _ _ h => h) (by rfl) ?_ ?_; rotate_left; (focus (intro w' hw'; obtain ⟨k1, k2⟩ := HCB.out w' hw'; go_simp; (try with_reducible rfl))); (try simp only [Act.put, List.setIfInBounds_toArray, List.set_cons_zero, List.set_cons_succ]))
          refine walk3_one ?_
          (refine runN_call 105 _ _ _ _ (rput_any _ m h R1 HM2.out HFL.out i HI.out ⟨a8, c8, Z, y.s⟩ HR8.out (app_off HML.out HO8.out)) rfl rfl rfl (by rfl) rfl (enter_rput _ _ _ _) ?_; rintro e w3 ⟨rfl, p3⟩; have HP := Lib.hid (p3.rt (w := x2) (HTF.out.mono (fun _ _ h => h.elim)) (appB_new HO8.out)); have hS := hS.trans p3.touch (fun _ _ h => h); refine ⟨_, rfl, hS, fun hS => ?_⟩; clear p3; (try simp only [Act.put, List.setIfInBounds_toArray, List.set_cons_zero, List.set_cons_succ]))
          refine walk3_fin ?_
          go_wp2_with fail
          go_ret
          exact ⟨rfl, HFIN.out _ _ _ (by rw [← HZ.out, HEY.out]; rfl) (by rw [HEY.out]; rfl) HP.out⟩
end Go.Proofs.Ytmokcfmlolohaaa
