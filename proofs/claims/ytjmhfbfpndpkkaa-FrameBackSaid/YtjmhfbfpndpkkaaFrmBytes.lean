/- What the law's Bytes answers: the frames' bytes, more behind them, some bytes changed. -/
import Derived.Test.YtjmhfbfpndpkkaaFrmIn
set_option linter.unusedVariables false
namespace Go.Proofs.Ytjmhfbfpndpkkaa
open Go.RowKit

/-- What Bytes hands back. -/
def BytesIs (w w' : World) (fs : List FrD) (more : List Nat) (n : Nat) (e : Ending) : Prop :=
  ∃ (a' : Option Addr) (cap' : Nat) (zs : List Nat), e = .returned (.slice a' zs.length cap') ∧ FreshB w w' (.slice a' zs.length cap') zs ∧ zs.length = (manyB fs ++ more).length ∧ (n = 0 → zs = manyB fs ++ more)
/-- At the head of its first loop. -/
def PutAt (w : World) (fs : List FrD) (s i : Value) (wr : World) : Prop :=
  ∃ (k : Nat) (a : Option Addr) (n c : Nat), k ≤ fs.length ∧ i = .int .i64 k ∧ s = .slice a n c ∧ OwnB wr w.heap.size 5 (.slice a n c) (manyB (fs.take k)) ∧ n = (manyB (fs.take k)).length ∧ Touch w wr (fun _ => False)
/-- .. of its second. -/
def XorAt (w : World) (n0 NL : Nat) (zs0 : List Nat) (a : Option Addr) (c : Nat) (i : Value) (wr : World) : Prop :=
  ∃ (k : Nat) (zs : List Nat), k ≤ n0 ∧ i = .int .i64 k ∧ OwnB wr w.heap.size 5 (.slice a NL c) zs ∧ zs.length = NL ∧ Touch w wr (fun _ => False) ∧ (n0 = 0 → zs = zs0)

set_option maxRecDepth 20000 in
set_option maxHeartbeats 8000000 in
theorem bytes_any (a : Option Addr) (len cap : Nat) (fs : List FrD) (a2 : Option Addr) (len2 cap2 : Nat) (more : List Nat) (a3 : Option Addr) (len3 cap3 : Nat) (ps : List Int) (x : Nat) (w : World)
    (hr : RowF w a len cap fs) (hr2 : RowB w a2 len2 cap2 more) (hr3 : RowI w a3 len3 cap3 ps) (hx : x < 256) (hl2 : len2 ≤ 100000) :
    Calls Try.prog 13 #[.slice a len cap, .slice a2 len2 cap2, .slice a3 len3 cap3, .int .u8 x] w fun e w' => BytesIs w w' fs more len3 e := by
  have hl := hr.hlen
  have hm := hr.hmax
  have hcp := hr.hcap
  have hm3 := hr3.2.2.1
  have HR := Lib.hid hr
  have HR2 := Lib.hid hr2
  have HR3 := Lib.hid hr3
  have HL := Lib.hid hl
  have HIS := Lib.hid infoF
  have hc3 := hr3.2.1
  clear hr hr2 hr3 hl
  go_enter Try.func13, Try.ntmps13
  go_wp2_with fail
  go_loopw [9, 18] (fun s i wr => PutAt w fs s i wr) (fun _ i _ => len - (intOf i).toNat)
  case atStart => exact ⟨0, none, 0, 0, Nat.zero_le _, rfl, rfl, by simpa [manyB] using OwnB.nil _ _ _, by simp [manyB], Touch.refl _ _⟩
  case round =>
    obtain ⟨k, a1, n1, c1, hk, rfl, rfl, ho, hn, ht⟩ := hrel
    have HO := Lib.hid ho
    have HT := Lib.hid ht
    have HN := Lib.hid hn
    clear ho ht hn
    rw [HL.out] at hk
    by_cases hlt : k < len
    case pos =>
      have hlt' : (k : Int) < len := by omega
      have hr := HR.out.still HT.out
      obtain ⟨b, off, rfl⟩ := hr.some (by omega)
      have hk1 : k < fs.length := by rw [HL.out]; exact hlt
      obtain ⟨c0, c1', c2⟩ := hr.cells k hk1
      have hrow := hr.rows fs[k] (List.getElem_mem hk1)
      have hst := manyB_step fs k hk1
      have hone : oneB fs[k] = if fs[k].ys.length ≤ 300 then putF fs[k].k fs[k].v fs[k].ys else [] := rfl
      have hml := manyB_length (fs.take k)
      have hnl := HN.out
      generalize fs[k] = f at *
      have HST := Lib.hid hst
      have HONE := Lib.hid hone
      have HROW := Lib.hid hrow
      have hn4 : n1 ≤ 3792 := by omega
      clear hr hrow hst hone hml hnl
      obtain ⟨fk, fv, fa, fc, fy⟩ := f
      simp only at c0 c1' c2
      by_cases h12 : k < 12
      case neg =>
        have h12' : ¬ (k : Int) < 12 := by omega
        have t1 := (Touch.refl wr (fun _ => False)).alloc (.cells #[.int .i64 fk, .int .i64 fv, .slice fa fy.length fc] 24)
        have T1 := Lib.hid t1
        have HNX : RowKit.Hid (manyB (fs.take (k + 1)) = manyB (fs.take k)) := Lib.hid (by rw [HST.out, if_neg h12])
        clear t1
        go_wp2
        refine ⟨⟨k + 1, a1, n1, c1, by rw [HL.out]; omega, by go_num, rfl, ?_, ?_, HT.out.trans T1.out (fun _ _ h => h)⟩, by simp [intOf]; omega⟩
        · rw [HNX.out]; exact HO.out.touch T1.out (fun _ _ h => h)
        · rw [HNX.out]; exact HN.out
      case pos =>
      have h12' : (k : Int) < 12 := by omega
      by_cases h300 : fy.length ≤ 300
      case neg =>
        have h300' : ¬ (fy.length : Int) ≤ 300 := by omega
        have t1 := (Touch.refl wr (fun _ => False)).alloc (.cells #[.int .i64 fk, .int .i64 fv, .slice fa fy.length fc] 24)
        have T1 := Lib.hid t1
        have HNX : RowKit.Hid (manyB (fs.take (k + 1)) = manyB (fs.take k)) := Lib.hid (by rw [HST.out, if_pos h12, HONE.out, if_neg h300, List.append_nil])
        clear t1
        go_wp2
        refine ⟨⟨k + 1, a1, n1, c1, by rw [HL.out]; omega, by go_num, rfl, ?_, ?_, HT.out.trans T1.out (fun _ _ h => h)⟩, by simp [intOf]; omega⟩
        · rw [HNX.out]; exact HO.out.touch T1.out (fun _ _ h => h)
        · rw [HNX.out]; exact HN.out
      case pos =>
        have h300' : (fy.length : Int) ≤ 300 := by omega
        obtain ⟨W1, hW1⟩ : ∃ W, wr.alloc (.cells #[.int .i64 fk, .int .i64 fv, .slice fa fy.length fc] 24) = W := ⟨_, rfl⟩
        have t1 : Touch wr W1 (fun _ => False) := hW1 ▸ (Touch.refl _ _).alloc _
        have HR1 := Lib.hid (HROW.out.touch t1 (fun _ _ => .inr (fun h => h)))
        have HNX : RowKit.Hid (manyB (fs.take (k + 1)) = manyB (fs.take k) ++ putF fk fv fy) := Lib.hid (by rw [HST.out, if_pos h12, HONE.out, if_pos h300])
        have T1 := Lib.hid t1
        have hpl := putF_length fk fv fy
        have HW1 := Lib.hid hW1
        clear t1 hW1
        go_wp2_with fail
        rw [HW1.out]
        (with_reducible refine (rput_any _ _ _ _ _ _ _ HR1.out).mono ?_)
        rintro e w2 ⟨a4, c4, rfl, hf2⟩
        obtain ⟨-, hr4⟩ := hf2.row'
        have HT2 := Lib.hid (HT.out.trans (T1.out.trans hf2.2 (fun _ _ h => h)) (fun _ _ h => h))
        have HO2 := Lib.hid (HO.out.touch (T1.out.trans hf2.2 (fun _ _ h => h)) (fun _ _ h => h))
        have HR4 := Lib.hid hr4
        clear hf2 hr4
        generalize putF fk fv fy = P at *
        have HLN : RowKit.Hid ((manyB (fs.take k) ++ P).length = n1 + P.length) := Lib.hid (by simp [← HN.out])
        go_wp2_with (at_builtin; (with_reducible refine wp_appB HO2.out HR4.out (HT2.out.under (Nat.le_refl _)) (Nat.le_refl _) HT2.out.size rfl _ _ rfl rfl rfl (n1 + P.length) _ rfl HLN.out (by omega) ?_); intro a5 c5 w5 hown hrow hg hb; have HO5 := Lib.hid hown; have HT5 := Lib.hid (Touch.ofBelow (S := fun _ => False) hb (fun k h1 h2 => by omega)); clear hown hrow hg hb)
        refine ⟨⟨k + 1, a5, n1 + P.length, c5, by rw [HL.out]; omega, by go_num, rfl, ?_, ?_, HT5.out⟩, by simp [intOf]; omega⟩
        · rw [HNX.out]; exact HO5.out
        · rw [HNX.out, HLN.out]
    case neg =>
      obtain rfl : len = k := by omega
      have hlt' : ¬ (len : Int) < len := by omega
      have htk : fs.take len = fs := List.take_of_length_le (by rw [HL.out]; exact Nat.le_refl _)
      have ho := HO.out
      have hn := HN.out
      rw [htk] at ho hn
      have HO := Lib.hid ho
      have hml := manyB_length fs
      have hn4 : n1 ≤ 3792 := by omega
      have hr2 := HR2.out.touch HT.out (fun _ _ => .inr (fun h => h))
      have HR2 := Lib.hid hr2
      have hmo := hr2.1
      have HLN : RowKit.Hid ((manyB fs ++ more).length = n1 + len2) := Lib.hid (by simp [hmo]; omega)
      clear ho htk hml hr2 hmo hn
      go_wp2_with (at_builtin; (with_reducible refine wp_appB HO.out HR2.out (HT.out.under (Nat.le_refl _)) (Nat.le_refl _) HT.out.size rfl _ _ rfl rfl rfl (n1 + len2) _ rfl HLN.out (by omega) ?_); intro a5 c5 w5 hown hrow hg hb; have HO5 := Lib.hid hown; have HT5 := Lib.hid (Touch.ofBelow (S := fun _ => False) hb (fun k h1 h2 => by omega)); clear hown hrow hg hb)
      generalize hZ : manyB fs ++ more = Z at *
      have HZ := Lib.hid hZ
      clear hZ
      have hnl : n1 + len2 ≤ 200000 := by omega
      generalize n1 + len2 = NL at *
      go_loopw [45] (fun i wr => XorAt w len3 NL Z a5 c5 i wr) (fun i _ => len3 - (intOf i).toNat)
      case atStart => exact ⟨0, Z, Nat.zero_le _, rfl, HO5.out, HLN.out, HT5.out, fun _ => rfl⟩
      case round =>
        obtain ⟨k, zs, hk, rfl, ho, hzl, ht, hz⟩ := hrel
        have HO := Lib.hid ho
        have HT := Lib.hid ht
        have HZL := Lib.hid hzl
        have HZZ := Lib.hid hz
        clear ho ht hzl hz
        by_cases hlt : k < len3
        case neg =>
          obtain rfl : len3 = k := by omega
          have hlt' : ¬ (len3 : Int) < len3 := by omega
          go_wp2
          go_ret
          refine ⟨a5, c5, zs, by rw [HZL.out]; rfl, ?_, ?_, fun h => by rw [HZ.out]; exact HZZ.out h⟩
          · rw [HZL.out]; exact ⟨HO.out, HT.out⟩
          · rw [HZL.out, HZ.out, HLN.out]
        case pos =>
        have hlt' : (k : Int) < len3 := by omega
        have hr3 := HR3.out.old (HT.out.under (Nat.le_refl _))
        obtain ⟨g1, g2, g3, g4, g5⟩ := hr3
        have hk1 : k < ps.length := by omega
        obtain ⟨b3, off3, rfl, hbl, hc⟩ : ∃ b off, a3 = some ⟨b, off, none⟩ ∧ b < wr.heap.size ∧ ∀ i, (h : i < ps.length) → wr.cell? ⟨b, off + i, none⟩ = some (.int .i64 ps[i]) := by
          rcases g5 with h | h
          · omega
          · exact h
        have ck := hc k hk1
        have hp := g4 ps[k] (List.getElem_mem hk1)
        generalize ps[k] = p at *
        obtain ⟨hp1, hp2⟩ := hp
        clear hc g1 g2 g3 g4 g5 hbl
        by_cases h3 : k < 3
        case neg =>
          have h3' : ¬ (k : Int) < 3 := by omega
          go_wp2
          exact ⟨⟨k + 1, zs, by omega, by go_num, HO.out, HZL.out, HT.out, HZZ.out⟩, by simp [intOf]; omega⟩
        case pos =>
        have h3' : (k : Int) < 3 := by omega
        by_cases h0 : 0 < NL
        case neg =>
          obtain rfl : NL = 0 := by omega
          go_wp2
          exact ⟨⟨k + 1, zs, by omega, by go_num, HO.out, HZL.out, HT.out, HZZ.out⟩, by simp [intOf]; omega⟩
        case pos =>
          have h0' : (0 : Int) < NL := by omega
          obtain ⟨j, hj⟩ : ∃ j, u64N p % NL = j := ⟨_, rfl⟩
          have hjl : j < NL := by rw [← hj]; exact Nat.mod_lt _ h0
          have hw := u64N_wrap p
          have hul := u64N_lt p
          have hmod : ((u64N p : Nat) : Int).tmod (NL : Int) = (j : Nat) := by
            rw [Int.tmod_eq_emod_of_nonneg (by omega), ← hj]; rfl
          obtain ⟨a7, c7, hv7, hr7, hp7⟩ := HO.out.row
          rw [HZL.out] at hv7 hr7
          simp only [Value.slice.injEq, true_and] at hv7
          obtain ⟨rfl, rfl⟩ := hv7
          obtain ⟨b6, o6, rfl⟩ := hr7.some h0
          obtain hp7 | ⟨g, hp7, hg1, hg2⟩ := hp7
          · cases hp7
          simp only [Option.some.injEq, Addr.mk.injEq] at hp7
          obtain ⟨rfl, rfl, -⟩ := hp7
          have cj := HO.out.at HZL.out j hjl (by rw [HZL.out]; exact hjl)
          have fj := HO.out.free HZL.out j
          rw [← gb_get zs j (by rw [HZL.out]; exact hjl)] at cj
          have hyb : gb zs j < 256 := gb_lt zs HO.out.small j
          have hxor := u8_xor_nat (gb zs j) x hyb hx
          have hy2 : gb zs j ^^^ x < 256 := Nat.xor_lt_two_pow (n := 8) hyb hx
          have ho14 := HO.out.stored HZL.out j _ hy2
          rw [← hxor] at ho14
          have HO14 := Lib.hid ho14
          have HT14 := Lib.hid (HT.out.setCell ⟨b6, j, none⟩ (.int .u8 (bits BinOp.xor IntKind.u8 (gb zs j : Int) (x : Int))) (fun hh => by have : b6 < w.heap.size := hh; omega))
          have hji : (j : Int) < NL := by omega
          have HK : RowKit.Hid (w.heap.size ≤ b6) := Lib.hid hg1
          clear hxor ho14 hy2 hr7 hj hg1 hg2
          go_wp2
          refine ⟨⟨k + 1, _, by omega, by go_num, HO14.out, by rw [List.length_set]; exact HZL.out, HT14.out, fun h => by omega⟩, by simp [intOf]; omega⟩
end Go.Proofs.Ytjmhfbfpndpkkaa
