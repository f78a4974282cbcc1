/- The reference's disk: Read, Names, pick, Copy. -/
import Derived.Test.YtmokcfmlolohaaaRdkOpsZ
import Derived.Test.YtmokcfmlolohaaaDskNmsZ
set_option linter.unusedVariables false
set_option linter.unusedSimpArgs false
namespace Go.Proofs.Ytmokcfmlolohaaa
open Go.RowKit

theorem enter_rnames (a : Value) (w : World) : (callFunc 20 #[a]).run Try.prog w = .ok (.enter 20 #[a]) w := by kernel_rfl
theorem enter_rread (a b : Value) (w : World) : (callFunc 45 #[a, b]).run Try.prog w = .ok (.enter 45 #[a, b]) w := by kernel_rfl
theorem enter_rpick (a b : Value) (w : World) : (callFunc 65 #[a, b]).run Try.prog w = .ok (.enter 65 #[a, b]) w := by kernel_rfl
theorem infoStrR : (Try.prog.info? 9).map (fun i => (i.zero, i.size, i.bytes)) = some (some (.string ByteArray.empty), 1, 16) := by kernel_rfl
/-- The kth of them. -/
def pickK (ps : List Nat) (k : Nat) : Nat := ps.getD k 0
set_option maxRecDepth 20000 in
set_option maxHeartbeats 4000000 in
theorem rpick_any (w : World) (a : Option Addr) (n c : Nat) (ps : List Nat) (hr : RowB w a n c ps) (k : Nat) :
    Calls Try.prog 65 #[.slice a n c, .int .i64 k] w fun e w' => e = .returned (.int .i64 (pickK ps k)) ∧ w = w' := by
  have hl := hr.1
  have hnc := hr.2.1
  have hnm := hr.2.2.1
  by_cases hk : n ≤ k
  · have e : pickK ps k = 0 := by unfold pickK; rw [List.getD_eq_getElem?_getD, List.getElem?_eq_none (by omega)]; rfl
    have hkI : (n : Int) ≤ k := by omega
    rw [e]
    clear hr e
    go_enter Try.func65, Try.ntmps65
    go_wp2_with fail
    go_ret
    exact ⟨rfl, rfl⟩
  · have hkl : k < ps.length := by omega
    have e : pickK ps k = ps[k] := by unfold pickK; simp [hkl]
    have hkI : ¬ (n : Int) ≤ k := by omega
    have hb := hr.2.2.2.2.1 _ (List.getElem_mem hkl)
    obtain ⟨b, off, ea, hc⟩ : ∃ b off, a = some ⟨b, off, none⟩ ∧ ∀ i (h : i < ps.length), w.cell? ⟨b, off + i, none⟩ = some (.int .u8 (ps[i] : Nat)) := by
      rcases hr.2.2.2.2.2 with h | h
      · omega
      · exact h
    have p0 := hc k hkl
    rw [e]
    obtain ⟨z, hz⟩ : ∃ z, ps[k] = z := ⟨_, rfl⟩
    rw [hz] at p0 hb ⊢
    have hw : wrap64 (z : Int) = z := by unfold wrap64; omega
    subst ea
    have hkn : k < n := by omega
    clear hr hc e hz
    go_enter Try.func65, Try.ntmps65
    go_wp2_with fail
    try rw [hw]
    go_ret
    exact ⟨rfl, rfl⟩
set_option maxRecDepth 20000 in
set_option maxHeartbeats 8000000 in
theorem rnames_any (w : World) (m : Nat) (h : RH) (R : RS) (x : RM w m h R) (hnl : R.N.length ≤ 100000) :
    Calls Try.prog 20 #[.pointer (some ⟨m, 0, none⟩)] w fun e w' => ∃ a c, e = .returned (.slice a R.N.length c) ∧ OwnS w' w.heap.size 9 1 (.slice a R.N.length c) ((R.N.map RN.n).map (fun k => [Value.string k])) ∧ Touch w w' (fun _ => False) := by
  obtain ⟨n, hn⟩ : ∃ n, R.N.length = n := ⟨_, rfl⟩
  have c1 := x.cells.2.1
  have hr := x.now
  rw [hn] at c1 hr hnl ⊢
  have hnc := hr.hcap
  have hnm := hr.hmax
  have HR := Lib.hid hr
  have HLL := Lib.hid hn
  clear hr hn x
  go_enter Try.func20, Try.ntmps20
  go_wp2_with fail
  go_loopw [3, 11] (fun s3 s11 wr => ∃ (i : Nat) (a' : Option Addr) (c' : Nat), i ≤ n ∧ s11 = .int .i64 i ∧ s3 = .slice a' i c' ∧ OwnS wr w.heap.size 9 1 (.slice a' i c') (((R.N.take i).map RN.n).map (fun k => [Value.string k])) ∧ Touch w wr (fun _ => False)) (fun _ s11 _ => n - (RowKit.intOf s11).toNat)
  case atStart => exact ⟨0, none, 0, Nat.zero_le _, rfl, rfl, OwnS.nil _ _ _ _, Touch.refl _ _⟩
  case round =>
    obtain ⟨i, a', c', hi, rfl, rfl, ho, ht⟩ := hrel
    have HO := Lib.hid ho
    have HT := Lib.hid ht
    clear ho ht
    by_cases hlt : i < n
    case neg =>
      obtain rfl : n = i := by omega
      have htk : R.N.take n = R.N := List.take_of_length_le (by rw [HLL.out]; exact Nat.le_refl _)
      have HTK := Lib.hid htk
      clear htk
      go_wp2_with fail
      go_ret
      refine ⟨a', c', rfl, ?_, HT.out⟩
      have := HO.out
      rwa [HTK.out] at this
    case pos =>
      have hlI : (i : Int) < n := by omega
      have hkL : i < R.N.length := by rw [HLL.out]; exact hlt
      have r1 := HR.out.still HT.out
      obtain ⟨b1, o1, e1⟩ := r1.some (by omega)
      rw [e1] at r1
      obtain ⟨p0, p1⟩ := row2_cell r1 i hkL _ _ rfl
      have HTK := Lib.hid (List.take_succ_eq_append_getElem hkL)
      obtain ⟨q, hq⟩ : ∃ q, R.N[i] = q := ⟨_, rfl⟩
      rw [hq] at p0 p1 HTK
      obtain ⟨qn, qf⟩ := q
      simp only at p0 p1 HTK
      have hwk : wrap64 ((i : Int) + 1) = (i : Int) + 1 := by unfold wrap64; omega
      have HWK := Lib.hid hwk
      obtain ⟨W4, hW4⟩ : ∃ W, wr.alloc (.cells #[.string qn, .int .i64 qf] 76) = W := ⟨_, rfl⟩
      have g4 : W4.heap[wr.heap.size]? = some (.cells #[.string qn, .int .i64 qf] 76 (0, 0)) := hW4 ▸ heap_alloc_new ..
      have t4 : Touch wr W4 (fun _ => False) := hW4 ▸ (Touch.refl wr _).alloc _
      have HT4 := Lib.hid (HT.out.trans t4 (fun _ _ h => h))
      have y0 : W4.cell? ⟨wr.heap.size, 0, none⟩ = some (.string qn) := cell_of_cells g4 0
      have HW4 := Lib.hid hW4
      have HSZ := Lib.hid HT4.out.size
      obtain ⟨W5, hW5⟩ : ∃ W, W4.alloc (.cells #[.string qn] 9) = W := ⟨_, rfl⟩
      have HO5 := Lib.hid ((HO.out.still t4).still (show Touch W4 W5 (fun _ => False) from hW5 ▸ (Touch.refl W4 _).alloc _))
      have HW5 := Lib.hid hW5
      rw [e1]
      clear r1 hq hW4 g4 hwk t4 hW5
      go_upto_region 5 with (fail)
      rw [HW4.out]
      clear p0 p1
      go_wp2_with (at_builtin; rw [HW5.out]; (with_reducible refine wp_add1 HO5.out HW5.out (row := [.string qn]) rfl rfl (by simp [Value.oneCell']) (by omega) 37 Try.underlying37 _ 16 infoStrR rfl (by decide) (by decide) HSZ.out rfl _ _ rfl rfl rfl ?_); intro a6 c6 w6 ho6 ht6 hn6; have HO6 := Lib.hid ho6; have HT6 := Lib.hid ht6; clear ho6 ht6 hn6)
      have HX : RowKit.Hid (∃ (i' : Nat) (a'' : Option Addr) (c'' : Nat), i' ≤ n ∧ Value.int .i64 ((i : Int) + 1) = .int .i64 i' ∧ Value.slice a6 (i + 1) c6 = .slice a'' i' c'' ∧ OwnS w6 w.heap.size 9 1 (.slice a'' i' c'') (((R.N.take i').map RN.n).map (fun k => [Value.string k])) ∧ Touch w w6 (fun _ => False)) := Lib.hid (by
        refine ⟨i + 1, a6, c6, by omega, by go_num, rfl, ?_, HT4.out.trans HT6.out (fun x hx h => ?_)⟩
        · rw [HTK.out, List.map_append, List.map_append]
          exact HO6.out
        · obtain ⟨y, hy, rfl⟩ := bown_block h
          have := (HO5.out.row'.2.2 y hy).1
          omega)
      try rw [HWK.out]
      go_roundw
      · exact HX.out
      · simp only [RowKit.intOf]; omega
def rRead (R : RS) (k : ByteArray) : List Nat := match rFind R.N k with
  | none => []
  | some i => (fcAt R i).b
set_option maxRecDepth 20000 in
set_option maxHeartbeats 8000000 in
theorem rread_any (w : World) (m : Nat) (h : RH) (R : RS) (x : RM w m h R) (v : RV R) (k : ByteArray) :
    Calls Try.prog 45 #[.pointer (some ⟨m, 0, none⟩), .string k] w fun e w' => ∃ a c, e = .returned (.tuple #[.slice a (rRead R k).length c, .bool (rFind R.N k).isSome]) ∧ RowB w' a (rRead R k).length c (rRead R k) ∧ Touch w w' (fun _ => False) := by
  have c1 := x.cells.2.1
  have HFN := Lib.hid (rfind_any w h.na R.N.length h.nc R.N x.now k)
  have HX := Lib.hid x
  have HV := Lib.hid v
  clear x v
  cases ho : rFind R.N k with
  | none =>
    have e : rRead R k = [] := by unfold rRead; rw [ho]
    rw [e]
    rw [ho] at HFN
    simp only [fI] at HFN
    clear ho e
    go_enter Try.func45, Try.ntmps45
    go_wp2_with fail
    (with_reducible refine HFN.out.mono ?_)
    rintro e w2 ⟨rfl, t2⟩
    have HT := Lib.hid t2
    clear t2
    go_wp2_with fail
    go_ret2
    exact ⟨none, 0, rfl, RowB.nil _ _ _ (by decide), HT.out⟩
  | some i =>
    have HI := Lib.hid (HV.out.find ho)
    have e : rRead R k = (fcAt R i).b := by unfold rRead; rw [ho]
    rw [e]
    rw [ho] at HFN
    simp only [fI] at HFN
    have hlI : ¬ (i : Int) < 0 := by omega
    clear ho e
    go_enter Try.func45, Try.ntmps45
    go_wp2_with fail
    (with_reducible refine HFN.out.mono ?_)
    rintro e w2 ⟨rfl, t2⟩
    have HT := Lib.hid t2
    have HM := Lib.hid (HX.out.still t2)
    obtain ⟨g, off, y, ef, eL, ey, hil, k0, -, hyr, hym⟩ := HM.out.file HI.out
    have kc := HM.out.cells.1
    have hfc := HM.out.fl.hcap
    have hfm := HM.out.fl.hmax
    rw [ef] at kc
    have HYR := Lib.hid hyr
    have HEY : RowKit.Hid (fcAt R i = y.fc) := Lib.hid (by rw [fcAt_get HI.out, ey])
    have hyb : y.b.length ≤ 1048576 := by have := (HV.out.bl _ (List.getElem_mem HI.out)).1; rw [ey] at this; exact this
    clear t2 ef eL ey hym hyr c1
    go_wp2_with (at_builtin; refine wpList_appendB rfl _ _ 29 rfl 5 Try.underlying29 infoB w2.heap.size (.slice none 0 0) [] rfl (OwnB.nil _ _ _) _ _ _ y.b rfl HYR.out y.b.length y.b rfl rfl (by omega) (Nat.le_refl _) w2.heap.size w2 (Below.refl _ _) (Nat.le_refl _) ?_; intro a5 c5 w5 hown5 hr5 hg5 hb5 hs5 hp5 hl5; have t5 : Touch w2 w5 (fun _ => False) := (Touch.refl _ (fun _ => False)).grown hg5 (fun k hk _ => by cases hk); have HR5 := Lib.hid hr5; have HT5 := Lib.hid (HT.out.trans t5 (fun _ _ h => h)); clear hr5 hb5 hs5 hp5 hg5 hl5 t5 hown5)
    go_ret2
    rw [HEY.out]
    exact ⟨a5, c5, rfl, HR5.out, HT5.out⟩
end Go.Proofs.Ytmokcfmlolohaaa
