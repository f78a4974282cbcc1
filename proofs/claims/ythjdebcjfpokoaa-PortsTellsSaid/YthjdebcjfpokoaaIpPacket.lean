/- What the law's own Packet hands back: some bytes. -/
import Derived.Test.YthjdebcjfpokoaaIpRBuild
import Derived.Test.YthjdebcjfpokoaaArgs2
import Derived.Laws.BitsAllLaws
set_option linter.unusedVariables false
namespace Go.Proofs.Ythjdebcjfpokoaa
open Go.RowKit

/-- Some bytes in a row. -/
def SomeRow (w w' : World) (m : Nat) (e : Ending) : Prop := ∃ a n c zs, e = .returned (.slice a n c) ∧ RowB w' a n c zs ∧ n ≤ m ∧ Touch w w' (fun _ => False)
/-- The loop's state: the row, some bytes. -/
def OwnSome (w : World) (v : Value) (n : Nat) (wr : World) : Prop := ∃ zs, OwnB wr (w.heap.size + 1) 5 v zs ∧ zs.length = n ∧ Touch w wr (fun _ => False)

theorem OwnB.rowOf {w : World} {base : Nat} {E : TypeId} {a : Option Addr} {n c : Nat} {zs : List Nat} (h : OwnB w base E (.slice a n c) zs) (hn : zs.length = n) : RowB w a n c zs := by
  obtain ⟨a2, c2, hv, hr, _⟩ := h.row
  rw [hn] at hv hr
  simp only [Value.slice.injEq, true_and] at hv
  obtain ⟨rfl, rfl⟩ := hv
  exact hr
set_option maxRecDepth 20000 in
set_option maxHeartbeats 8000000 in
theorem packet_any (h : HArg) (ok : h.Ok) (a1 : Option Addr) (l1 c1 : Nat) (xs : List Nat) (ap : Option Addr) (lp cp : Nat) (ps : List Int) (x : Nat) (fix : Bool) (cut : Int) (w : World)
    (hr : RowB w a1 l1 c1 xs) (hi : RowI w ap lp cp ps) (hx8 : x < 256) (hcut : isI64 cut) (hl1 : l1 ≤ 3000) :
    Calls Try.prog 14 #[.agg (acs h), .slice a1 l1 c1, .slice ap lp cp, .int .u8 x, .bool fix, .int .i64 cut] w fun e w' => SomeRow w w' (20 + l1) e := by
  obtain ⟨W1, hW1⟩ : ∃ W, w.alloc (.cells (acs h) 24) = W := ⟨_, rfl⟩
  have t1 : Touch w W1 (fun _ => False) := hW1 ▸ (Touch.refl _ _).alloc _
  have hsz : w.heap.size + 1 = W1.heap.size := by rw [← hW1]; simp
  have H := rbuild_any h ok W1
  simp only [acs] at hW1 H ⊢
  have H' := Lib.hid H
  have HW1 := Lib.hid hW1
  have HT1 := Lib.hid t1
  have HSZ := Lib.hid hsz
  have HX := Lib.hid hr.1
  have HR := Lib.hid (hr.touch t1 (fun _ _ => .inr (fun h => h)))
  have HI := Lib.hid hi
  have hbl := builtF_length h
  have HBL := Lib.hid hbl
  have hcl : (builtF h ++ xs).length = 20 + l1 := by simp [hbl, hr.1]
  have HCL := Lib.hid hcl
  clear hcl hbl H hW1 t1 hsz hr hi
  go_enter Try.func14, Try.ntmps14
  go_wp2_with fail
  rw [HW1.out]
  (with_reducible refine H'.out.mono ?_)
  rintro e w2 ⟨a2, c2, rfl, hf2⟩
  obtain ⟨hown2, t2⟩ := hf2
  have HO2 := Lib.hid (hown2.base (base' := w.heap.size + 1) (fun k hk => by have := (hown2.own.lt k hk).1; have := HSZ.out; omega))
  have HR2 := Lib.hid (HR.out.touch t2 (fun _ _ => .inr (fun h => h)))
  have HT2 := Lib.hid (HT1.out.trans t2 (fun _ _ h => h))
  have HS2 := Lib.hid t2.size
  clear hown2 t2
  go_wp2_with (at_builtin; refine wpList_appendB rfl _ _ 25 rfl 5 Try.underlying25 infoB (w.heap.size + 1) (.slice a2 20 c2) (builtF h) rfl HO2.out _ _ _ xs rfl HR2.out (20 + l1) (builtF h ++ xs) rfl HCL.out (by omega) (by have := HS2.out; have := HSZ.out; omega) w.heap.size w (HT2.out.below (fun _ _ h => h.elim) (Nat.le_refl _)) (Nat.le_succ _) ?_; intro a3 c3 w3 hown3 hr3 hg3 hb3 hs3 hp3 hl3)
  obtain ⟨b3, o3, rfl⟩ := hr3.some (by omega)
  obtain hp3 | ⟨g3, hp3, hg31, hg32⟩ := hp3
  · cases hp3
  simp only [Option.some.injEq, Addr.mk.injEq] at hp3
  obtain ⟨rfl, rfl, -⟩ := hp3
  have hle := hr3.2.1
  have hos : OwnSome w (.slice (some ⟨b3, 0, none⟩) (20 + l1) c3) (20 + l1) w3 := ⟨_, hown3, HCL.out, Touch.ofBelow hb3 (fun k h1 h2 => by omega)⟩
  clear hown3 hr3 hg3 hb3 hs3 hl3
  have hnb : 20 + l1 ≤ 3020 := by omega
  have hn20 : 20 ≤ 20 + l1 := by omega
  generalize hn : 20 + l1 = n at *
  have HNN := Lib.hid hn
  have hlp := HI.out.2.1
  have hcp := HI.out.2.2.1
  go_loopw [24] (fun i wr => ∃ k : Nat, k ≤ lp ∧ i = .int .i64 k ∧ OwnSome w (.slice (some ⟨b3, 0, none⟩) n c3) n wr) (fun i _ => lp - (intOf i).toNat)
  case atStart => exact ⟨0, Nat.zero_le _, rfl, hos⟩
  case round =>
    obtain ⟨k, hk, rfl, zs, hown, hzl, ht⟩ := hrel
    by_cases hlt : k < lp
    · obtain hz | ⟨bp, op, rfl, hbp, hcell⟩ := HI.out.2.2.2.2
      · omega
      have hkp : k < ps.length := by rw [HI.out.1]; exact hlt
      have hc0 := hcell k hkp
      have hbd := HI.out.2.2.2.1 _ (List.getElem_mem hkp)
      have hck : wr.cell? ⟨bp, op + k, none⟩ = some (.int .i64 ps[k]) := (ht.cell (p := ⟨bp, op + k, none⟩) hbp (fun h => h)).trans hc0
      clear hc0 hcell
      generalize ps[k] = q at *
      have hkI : (k : Int) < lp := by omega
      by_cases h3 : k < 3
      · have h3I : (k : Int) < 3 := by omega
        obtain ⟨j, hj⟩ : ∃ j, u64N q % n = j := ⟨_, rfl⟩
        have hjn : j < n := by rw [← hj]; exact Nat.mod_lt _ (by omega)
        have hjI : (j : Int) < n := by omega
        have e1 : ((u64N q : Int) % (n : Int)) = (j : Int) := by rw [← hj]; simp
        have hn0 : ((n : Int) == 0) = false := beq_eq_false_iff_ne.2 (by omega)
        have hn1 : ¬ (n : Int) = 0 := by omega
        have HO := Lib.hid hown
        have HZL := Lib.hid hzl
        have HT := Lib.hid ht
        have cj := hown.at hzl j hjn (by omega)
        have fj := hown.free hzl j
        rw [← gb_get _ _ (by omega)] at cj
        have hyb : gb zs j < 256 := gb_lt _ hown.small j
        have hxor := u8_xor_nat (gb zs j) x hyb hx8
        clear hown hzl ht hj hn
        have hu := u64N_wrap q
        go_wp2_with fail
        have hy2 : gb zs j ^^^ x < 256 := Nat.xor_lt_two_pow (n := 8) hyb hx8
        have ho := HO.out.stored HZL.out j _ hy2
        exact ⟨⟨k + 1, by omega, by go_num, _, ho, by simp [HZL.out], HT.out.setCell ⟨b3, j, none⟩ _ (fun hh => by have h5 : b3 < w.heap.size := hh; omega)⟩, by simp [intOf]; omega⟩
      · have h3I : ¬ (k : Int) < 3 := by omega
        have HO := Lib.hid hown
        have HZL := Lib.hid hzl
        have HT := Lib.hid ht
        clear hown hzl ht
        go_wp2_with fail
        exact ⟨⟨k + 1, by omega, by go_num, _, HO.out, HZL.out, HT.out⟩, by simp [intOf]; omega⟩
    · have hkI : ¬ (k : Int) < lp := by omega
      have c0 := hown.at hzl 0 (by omega) (by omega)
      rw [← gb_get _ _ (by omega)] at c0
      have hb0 : gb zs 0 < 256 := gb_lt _ hown.small 0
      have h15 : bits BinOp.and IntKind.u8 (gb zs 0 : Int) 15 = (gb zs 0 : Int) % 16 := mask_u8 _ 4 (by decide) 15 rfl (by omega) (by omega)
      obtain ⟨m, hm⟩ : ∃ m, 4 * (gb zs 0 % 16) = m := ⟨_, rfl⟩
      have hm4 : 4 * ((gb zs 0 : Int) % 16) = (m : Int) := by omega
      have hm64 : m ≤ 60 := by omega
      obtain ⟨t, htt⟩ : ∃ t, u64N cut % n = t := ⟨_, rfl⟩
      have htn : t < n := by rw [← htt]; exact Nat.mod_lt _ (by omega)
      have e1 : ((u64N cut : Int) % (n : Int)) = (t : Int) := by rw [← htt]; simp
      have hn0 : ((n : Int) == 0) = false := beq_eq_false_iff_ne.2 (by omega)
      have hn1 : ¬ (n : Int) = 0 := by omega
      have hsub : (n : Int) - (t : Int) ≤ (c3 : Int) := by omega
      have hsub0 : (0 : Int) ≤ (n : Int) - (t : Int) := by omega
      have hi0 : 0 < n := by omega
      have HO := Lib.hid hown
      have HZL := Lib.hid hzl
      have HT := Lib.hid ht
      have HM4 := Lib.hid hm4
      obtain ⟨v10, c10⟩ : ∃ v, wr.cell? ⟨b3, 10, none⟩ = some v := ⟨_, HO.out.at HZL.out 10 (by omega) (by rw [HZL.out]; omega)⟩
      obtain ⟨v11, c11⟩ : ∃ v, wr.cell? ⟨b3, 11, none⟩ = some v := ⟨_, HO.out.at HZL.out 11 (by omega) (by rw [HZL.out]; omega)⟩
      have f10 := HO.out.free HZL.out 10
      have f11 := HO.out.free HZL.out 11
      have ho1 := HO.out.stored HZL.out 10 0 (by omega)
      have hl1' : (zs.set 10 0).length = n := by simp [HZL.out]
      have ho2 := ho1.stored hl1' 11 0 (by omega)
      have hl2' : ((zs.set 10 0).set 11 0).length = n := by simp [HZL.out]
      have i10 : (10 : Int) < n := by omega
      have i11 : (11 : Int) < n := by omega
      have hc3 : ¬ c3 = 0 := by omega
      have HO2 := Lib.hid ho2
      have HL2 := Lib.hid hl2'
      have T2 := Lib.hid ((HT.out.setCell ⟨b3, 10, none⟩ (.int .u8 0) (fun hh => by have h5 : b3 < w.heap.size := hh; omega)).setCell ⟨b3, 11, none⟩ (.int .u8 0) (fun hh => by have h5 : b3 < w.heap.size := hh; omega))
      have hu := u64N_wrap cut
      clear hzl hown ht hm htt hn hos hm4 ho1 ho2 hl1' hl2'
      generalize hN : netF (((zs.set 10 0).set 11 0).take (4 * (gb zs 0 % 16))) = N at *
      have hnl : 0 ≤ N ∧ N ≤ 65535 := by rw [← hN]; exact netF_le _
      have HN := Lib.hid hN
      clear hN
      go_wp2_with (go_at_call 21; go_must (refine (net_any _ _ _ (((zs.set 10 0).set 11 0).take (4 * (gb zs 0 % 16))) _ ((HO2.out.rowOf HL2.out).take _ (by omega))).mono ?_; rintro e w9 ⟨rfl, n9, rfl⟩; rw [HN.out]; have HO3 := Lib.hid (HO2.out.drewN n9); have T3 := Lib.hid (T2.out.drewN n9); have d10 := HO3.out.at HL2.out 10 (by omega) (by rw [HL2.out]; omega); have d11 := HO3.out.at HL2.out 11 (by omega) (by rw [HL2.out]; omega); have q10 := HO3.out.free HL2.out 10; have q11 := HO3.out.free HL2.out 11))
      · go_ret
        have hx1 : (N / 256).toNat < 256 := by omega
        have hx2 : (N % 256).toNat < 256 := by omega
        have ho4 := HO3.out.stored HL2.out 10 _ hx1
        have hl4 : (((zs.set 10 0).set 11 0).set 10 (N / 256).toNat).length = n := by simp [HZL.out]
        have ho5 := ho4.stored hl4 11 _ hx2
        rw [show (((N / 256).toNat : Nat) : Int) = N / 256 from by omega, show (((N % 256).toNat : Nat) : Int) = N % 256 from by omega] at ho5
        have hb : b3 < w.heap.size → False := fun h => by omega
        exact ⟨some ⟨b3, 0, none⟩, n - t, c3, _, rfl, (ho5.rowOf (by simp [HZL.out])).take (n - t) (by omega), by have := HNN.out; omega, (T3.out.setCell ⟨b3, 10, none⟩ _ hb).setCell ⟨b3, 11, none⟩ _ hb⟩
      all_goals (go_ret; exact ⟨some ⟨b3, 0, none⟩, n - t, c3, _, rfl, (HO.out.rowOf HZL.out).take (n - t) (by omega), by have := HNN.out; omega, HT.out⟩)
end Go.Proofs.Ythjdebcjfpokoaa
