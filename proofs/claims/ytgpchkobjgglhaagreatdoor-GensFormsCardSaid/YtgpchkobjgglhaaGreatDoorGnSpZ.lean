/- The reference's split, cut, ParseAddr. -/
import Derived.Test.YtgpchkobjgglhaaGreatDoorGnNmZ
import Derived.Test.YtgpchkobjgglhaaGreatDoorHAZ
import Derived.BigQuiet
set_option linter.unusedVariables false
set_option linter.unusedSimpArgs false
namespace Go.Proofs.YtgpchkobjgglhaaGreatDoor
open Go.RowKit

theorem addI_runC (a b c : Int) (h : a + b = c ∧ -9223372036854775808 ≤ c ∧ c ≤ 9223372036854775807) (x y : Operand) (W : World) :
    (do eqGuard BinOp.add 3 x y (.int .i64 a) (.int .i64 b); binOp BinOp.add 3 (.int .i64 a) (.int .i64 b) : Sem Value).run Tryz.prog W = .ok (.int .i64 c) W := by
  obtain ⟨rfl, h1, h2⟩ := h
  have hw : wrap64 (a + b) = a + b := by unfold wrap64; omega
  have hw2 : IntKind.i64.wrap (a + b) = a + b := IntWalk.i64_in _ (by omega)
  go_simp
theorem ext_mkS (l : List UInt8) (a b : Nat) : (mkS l).extract a b = mkS ((l.drop a).take (b - a)) := by
  apply ByteArray.ext
  simp [mkS, List.extract_eq_take_drop]
/-- What cut tells. -/
def CutE (l : List UInt8) (c : UInt8) (e : Ending) : Prop := e = .returned (.tuple #[.string (mkS (cutL l c).1), .string (mkS (cutL l c).2), .bool (cutB l c)])
theorem cut_found {l : List UInt8} {c : UInt8} {k : Nat} (hk : k < l.length) (h : c ∉ l.take k) (e : l[k] = c) : cutL l c = (l.take k, l.drop (k + 1)) ∧ cutB l c = true := by
  have e2 : l = l.take k ++ c :: l.drop (k + 1) := by rw [← e, List.getElem_cons_drop hk, List.take_append_drop]
  have h1 := cutL_at c (l.take k) (l.drop (k + 1)) h
  have h2 := cutB_at c (l.take k) (l.drop (k + 1)) h
  rw [← e2] at h1 h2
  exact ⟨h1, h2⟩
set_option maxRecDepth 20000 in
set_option maxHeartbeats 4000000 in
theorem rcut_any (l : List UInt8) (c : UInt8) (w : World) (hl : l.length ≤ 3000000) :
    Calls Tryz.prog 24 #[.string (mkS l), .int .u8 c.toNat] w fun e w' => CutE l c e ∧ Touch w w' (fun _ => False) := by
  have hsz : (mkS l).size = l.length := mkS_size l
  have hb := PlainAid.get_bt (mkS l)
  have HBT := Lib.hid (bt_mkSN l)
  have HEX := Lib.hid (ext_mkS l)
  have HL := Lib.hid hl
  obtain ⟨s, hs⟩ : ∃ s, mkS l = s := ⟨_, rfl⟩
  rw [hs] at hsz hb HBT HEX ⊢
  have HS := Lib.hid hs
  clear hs
  go_enter Tryz.func24, Tryz.ntmps24
  go_wp2_with fail
  go_loopw [10] (fun i wr => ∃ k : Nat, k ≤ l.length ∧ i = .int .i64 k ∧ c ∉ l.take k ∧ Touch w wr (fun _ => False)) (fun i _ => l.length - (intOf i).toNat)
  case atStart => exact ⟨0, Nat.zero_le _, rfl, by simp, Touch.refl _ _⟩
  case round =>
    obtain ⟨k, hk, rfl, hn, ht⟩ := hrel
    have HN := Lib.hid hn
    have HT := Lib.hid ht
    clear hn ht
    by_cases hlt : k < l.length
    case neg =>
      obtain rfl : k = l.length := by omega
      have HE : RowKit.Hid (cutL l c = (l, []) ∧ cutB l c = false) := Lib.hid (by
        have h := HN.out
        rw [List.take_length] at h
        exact cutL_not c l h)
      have hlt' : ¬ (l.length : Int) < s.size := by omega
      go_wp2_with fail
      go_ret3
      exact ⟨by unfold CutE; rw [HE.out.1, HE.out.2, HS.out]; rfl, HT.out⟩
    case pos =>
    have hlt' : (k : Int) < s.size := by omega
    have hb1 : PlainAid.bt s k = (l[k].toNat : Int) := HBT.out k hlt
    have HF := Lib.hid (fun e => cut_found (c := c) hlt HN.out e)
    have HTK := Lib.hid (List.take_succ_eq_append_getElem hlt)
    generalize hcc : l[k] = cc at *
    clear hcc
    by_cases he : cc = c
    · subst he
      have HX := Lib.hid (HF.out rfl)
      have HX1 : RowKit.Hid (s.extract 0 k = mkS (l.take k)) := Lib.hid (by rw [HEX.out]; simp)
      have HX2 : RowKit.Hid (s.extract (k + 1) s.size = mkS (l.drop (k + 1))) := Lib.hid (by
        rw [HEX.out, hsz, List.take_of_length_le]
        rw [List.length_drop]; exact Nat.le_refl _)
      rw [hsz] at HX2
      generalize cc.toNat = nn at *
      have hkk : (k : Int) + 1 ≤ s.size := by omega
      have hk0 : (0 : Int) ≤ k := by omega
      go_upto_region 5 with (fail)
      go_quiet (fail)
      go_wp2_with fail
      go_ret3
      exact ⟨by unfold CutE; rw [HX.out.1, HX.out.2, ← HX1.out, ← HX2.out]; rfl, HT.out.drewN _⟩
    · have hne : ¬ ((cc.toNat : Int) = (c.toNat : Int)) := fun e => he (UInt8.toNat_inj.1 (by omega))
      have HNX : RowKit.Hid (c ∉ l.take (k + 1)) := Lib.hid (by
        rw [HTK.out, List.mem_append, List.mem_singleton]
        rintro (h | h)
        · exact HN.out h
        · exact he h.symm)
      generalize (cc.toNat : Int) = nn at *
      generalize (c.toNat : Int) = cn at *
      have hne2 : (nn == cn) = false := by simpa using hne
      go_wp2_with fail
      exact ⟨⟨k + 1, by omega, by go_num, HNX.out, HT.out⟩, by simp [intOf]; omega⟩
def SplE (w w' : World) (l : List UInt8) (c : UInt8) (e : Ending) : Prop := ∃ a cap, e = .returned (.slice a (partsOf l c).length cap) ∧ OwnS w' w.heap.size 9 1 (.slice a (partsOf l c).length cap) ((partsOf l c).map (fun p => [.string p]))
set_option maxRecDepth 20000 in
set_option maxHeartbeats 4000000 in
theorem rsplit_any (l : List UInt8) (c : UInt8) (w : World) (hl : l.length ≤ 3000000) :
    Calls Tryz.prog 45 #[.string (mkS l), .int .u8 c.toNat] w fun e w' => SplE w w' l c e ∧ Touch w w' (fun _ => False) := by
  have hsz : (mkS l).size = l.length := mkS_size l
  have hb := PlainAid.get_bt (mkS l)
  have HBT := Lib.hid (bt_mkSN l)
  have HEX := Lib.hid (ext_mkS l)
  have HIS := Lib.hid infoStr
  obtain ⟨s, hs⟩ : ∃ s, mkS l = s := ⟨_, rfl⟩
  rw [hs] at hsz hb HBT HEX ⊢
  clear hs
  go_enter Tryz.func45, Tryz.ntmps45
  go_wp2_with fail
  go_loopw [5, 6, 7] (fun s5 s6 s7 wr => ∃ (P : List ByteArray) (a : Option Addr) (cap f i : Nat), i ≤ l.length + 1 ∧ P.length ≤ i ∧ s5 = .slice a P.length cap ∧ s6 = .int .i64 f ∧ s7 = .int .i64 i ∧ OwnS wr w.heap.size 9 1 (.slice a P.length cap) (P.map (fun p => [.string p])) ∧ (i ≤ l.length → f ≤ i ∧ c ∉ (l.drop f).take (i - f) ∧ partsOf l c = P ++ partsOf (l.drop f) c) ∧ (i = l.length + 1 → partsOf l c = P) ∧ Touch w wr (fun _ => False)) (fun _ _ s7 _ => l.length + 1 - (intOf s7).toNat)
  case atStart => exact ⟨[], none, 0, 0, 0, by omega, Nat.le_refl _, rfl, rfl, rfl, OwnS.nil _ _ _ _, fun _ => ⟨Nat.le_refl _, by simp, rfl⟩, fun h => by omega, Touch.refl _ _⟩
  case round =>
    obtain ⟨P, a, cap, f, i, hi, hpi, rfl, rfl, rfl, ho, h1, h2, ht⟩ := hrel
    have HO := Lib.hid ho
    have HT := Lib.hid ht
    have H1 := Lib.hid h1
    have H2 := Lib.hid h2
    clear ho ht h1 h2
    by_cases hle : i ≤ l.length
    case neg =>
      obtain rfl : i = l.length + 1 := by omega
      have HE := Lib.hid (H2.out rfl)
      have hlt' : ¬ ((l.length + 1 : Nat) : Int) ≤ s.size := by omega
      go_wp2_with fail
      go_ret
      exact ⟨by unfold SplE; rw [HE.out]; exact ⟨a, cap, rfl, HO.out⟩, HT.out⟩
    case pos =>
    obtain ⟨hfi, hnf, hpp⟩ := H1.out hle
    have hle' : (i : Int) ≤ s.size := by omega
    have HNF := Lib.hid hnf
    have HPP := Lib.hid hpp
    have hext : s.extract f i = mkS ((l.drop f).take (i - f)) := HEX.out f i
    have hfi' : (f : Int) ≤ i := by omega
    have hsz' : w.heap.size ≤ wr.heap.size := HT.out.size
    obtain ⟨mk, hmk⟩ : ∃ m, P.length = m := ⟨_, rfl⟩
    have HMK := Lib.hid hmk
    rw [hmk] at hpi HO ⊢
    clear hnf hpp hmk
    by_cases hend : i = l.length
    · subst hend
      have hq : ((l.length : Int) == s.size) = true := by rw [hsz]; simp
      have HX : RowKit.Hid (partsOf l c = P ++ [mkS ((l.drop f).take (l.length - f))]) := Lib.hid (by
        rw [HPP.out]
        have h3 := HNF.out
        rw [List.take_of_length_le (by rw [List.length_drop]; exact Nat.le_refl _)] at h3 ⊢
        rw [parts_last _ _ h3])
      generalize mkS ((l.drop f).take (l.length - f)) = pz at *
      have HOA : RowKit.Hid (OwnS (wr.alloc (.cells #[.string pz] 9)) w.heap.size 9 1 (.slice a mk cap) (P.map (fun p => [.string p]))) := Lib.hid (HO.out.still ((Touch.refl wr (fun _ => False)).alloc _))
      go_wp2_with (at_builtin; (with_reducible refine wp_add1 (w := wr) HOA.out rfl rfl rfl (by simp [Value.oneCell']) (by omega) 41 Tryz.underlying41 _ 16 HIS.out rfl (by decide) (by decide) hsz' rfl _ _ rfl rfl rfl ?_); intro a5 c5 w5 ho5 t5 p5; have HO5 := Lib.hid ho5; have HT5 := Lib.hid t5; clear ho5 t5 p5)
      refine ⟨⟨P ++ [pz], a5, c5, l.length + 1, l.length + 1, by omega, (by simp [HMK.out]; try omega), by simp [HMK.out], by go_num, by go_num, by rw [List.length_append, HMK.out, List.map_append]; exact HO5.out, fun h => by omega, fun _ => HX.out, HT.out.trans HT5.out (fun k hk e => by have := (HO.out.own.lt k e).1; omega)⟩, (by simp [intOf]; try omega)⟩
    have hlt : i < l.length := by omega
    have hlt' : (i : Int) < s.size := by omega
    have hq : ((i : Int) == s.size) = false := by simpa using (by omega : ¬ (i : Int) = s.size)
    have hb1 : PlainAid.bt s i = (l[i].toNat : Int) := HBT.out i hlt
    have hsp : l.drop f = (l.drop f).take (i - f) ++ l[i] :: l.drop (i + 1) := by
      have h3 := List.take_append_drop (i - f) (l.drop f)
      rw [List.drop_drop, show f + (i - f) = i by omega] at h3
      rw [← List.drop_eq_getElem_cons hlt] 
      exact h3.symm
    have htk : (l.drop f).take (i + 1 - f) = (l.drop f).take (i - f) ++ [l[i]] := by
      have h4 : i - f < (l.drop f).length := by rw [List.length_drop]; omega
      rw [show i + 1 - f = i - f + 1 by omega, List.take_succ_eq_append_getElem h4, List.getElem_drop]
      congr 3; omega
    have HSP := Lib.hid hsp
    have HTK := Lib.hid htk
    clear hsp htk
    generalize hcc : l[i] = cc at *
    clear hcc
    by_cases he : cc = c
    · subst he
      have HX : RowKit.Hid (partsOf l cc = (P ++ [mkS ((l.drop f).take (i - f))]) ++ partsOf (l.drop (i + 1)) cc) := Lib.hid (by
        have h5 := parts_first cc _ (l.drop (i + 1)) HNF.out
        rw [← HSP.out] at h5
        rw [HPP.out, h5, List.append_assoc]; rfl)
      generalize mkS ((l.drop f).take (i - f)) = pz at *
      generalize cc.toNat = nn at *
      have HOA : RowKit.Hid (OwnS (wr.alloc (.cells #[.string pz] 9)) w.heap.size 9 1 (.slice a mk cap) (P.map (fun p => [.string p]))) := Lib.hid (HO.out.still ((Touch.refl wr (fun _ => False)).alloc _))
      go_wp2_with (at_builtin; (with_reducible refine wp_add1 (w := wr) HOA.out rfl rfl rfl (by simp [Value.oneCell']) (by omega) 41 Tryz.underlying41 _ 16 HIS.out rfl (by decide) (by decide) hsz' rfl _ _ rfl rfl rfl ?_); intro a5 c5 w5 ho5 t5 p5; have HO5 := Lib.hid ho5; have HT5 := Lib.hid t5; clear ho5 t5 p5)
      refine ⟨⟨P ++ [pz], a5, c5, i + 1, i + 1, by omega, (by simp [HMK.out]; try omega), by simp [HMK.out], by go_num, by go_num, by rw [List.length_append, HMK.out, List.map_append]; exact HO5.out, fun _ => ⟨Nat.le_refl _, by simp, HX.out⟩, fun h => by omega, HT.out.trans HT5.out (fun k hk e => by have := (HO.out.own.lt k e).1; omega)⟩, by simp [intOf]; omega⟩
    · have hne : ¬ ((cc.toNat : Int) = (c.toNat : Int)) := fun e => he (UInt8.toNat_inj.1 (by omega))
      have HNX : RowKit.Hid (c ∉ (l.drop f).take (i + 1 - f)) := Lib.hid (by
        rw [HTK.out, List.mem_append, List.mem_singleton]
        rintro (h | h)
        · exact HNF.out h
        · exact he h.symm)
      generalize (cc.toNat : Int) = nn at *
      generalize (c.toNat : Int) = cn at *
      have hne2 : (nn == cn) = false := by simpa using hne
      go_wp2_with fail
      exact ⟨⟨P, a, cap, f, i + 1, by omega, by rw [HMK.out]; omega, by rw [HMK.out], rfl, by go_num, by rw [HMK.out]; exact HO.out, fun _ => ⟨by omega, HNX.out, HPP.out⟩, fun h => by omega, HT.out⟩, by simp [intOf]; omega⟩
end Go.Proofs.YtgpchkobjgglhaaGreatDoor
