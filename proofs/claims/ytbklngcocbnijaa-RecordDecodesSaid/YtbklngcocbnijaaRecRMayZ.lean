/- Records: may one be? What the reference's MayRecord answers. -/
import Derived.Test.YtbklngcocbnijaaRecMayZ
import Derived.Test.YtbklngcocbnijaaRecSameZ
import Derived.Deep.DeepCutAuto
set_option linter.unusedVariables false
set_option linter.unusedSimpArgs false
namespace Go.Proofs.Ytbklngcocbnijaa
open Go.RowKit

def mayPB (p : RecD) : Bool :=
  (if p.kind = 1 ∨ p.kind = 2 then mayTB p.t else true) && decide (p.bs.length ≤ 16) && p.bs.all mayKB && idB p.fb && cntB p.fg && timB p.fs && cntB p.gen && idB p.be && timB p.un && cntB p.ct
theorem zero_ok : idB 0 = true ∧ cntB 0 = true ∧ timB 0 = true := by decide
theorem mayP_eq (r : RecD) (h1 : 1 ≤ r.kind) (h2 : r.kind ≤ 6) : mayPB (plainD r) = mayRB r := by
  obtain ⟨z1, z2, z3⟩ := zero_ok
  have h : r.kind = 1 ∨ r.kind = 2 ∨ r.kind = 3 ∨ r.kind = 4 ∨ r.kind = 5 ∨ r.kind = 6 := by omega
  obtain ⟨kind, t, fb, fg, fs, gen, bs, be, un, ct⟩ := r
  simp only at h
  rcases h with rfl | rfl | rfl | rfl | rfl | rfl <;> simp [mayPB, plainD, mayRB, z1, z2, z3]
  · cases cntB gen <;> cases decide (bs.length ≤ 16) <;> simp
theorem plain_kind (r : RecD) : (plainD r).kind = r.kind := by
  unfold plainD
  repeat' split
  all_goals simp_all

set_option maxRecDepth 20000 in
set_option maxHeartbeats 4000000 in
theorem rmay_out (r : RecD) (a : Option Addr) (cap : Nat) (w : World) (hk : r.kind < 1 ∨ 6 < r.kind) :
    Calls Try.prog 19 #[.agg (rcs r a cap)] w fun e w' => e = .returned (.bool (mayRB r)) ∧ Touch w w' (fun _ => False) := by
  have hp : mayRB r = false := by unfold mayRB; rw [if_neg (by omega), if_neg (by omega), if_neg (by omega), if_neg (by omega), if_neg (by omega), if_neg (by omega)]
  rw [hp]
  clear hp
  obtain ⟨kind, ⟨src, dst, proto, sport, dport⟩, fb, fg, fs, gen, bs, be, un, ct⟩ := r
  simp only at hk
  simp only [rcs]
  rcases hk with h | h
  · go_enter Try.func19, Try.ntmps19
    go_wp2
    all_goals (go_ret; exact ⟨rfl, (Touch.refl w (fun _ => False)).alloc _⟩)
  · have h' : ¬ kind < 1 := by omega
    go_enter Try.func19, Try.ntmps19
    go_wp2
    all_goals (go_ret; exact ⟨rfl, (Touch.refl w (fun _ => False)).alloc _⟩)

/-- Behind Plain: the parameter's block holds the plain record. -/
def RMayAt (w : World) (p : RecD) (wx : World) : Prop :=
  ∃ a' c', wx.heap[w.heap.size]? = some (.cells (rcs p a' c') 29 (0, 0)) ∧ RowK wx a' p.bs.length c' p.bs ∧ Touch w wx (fun _ => False)
/-- At the head of the loop over its backends. -/
def RMayL (w : World) (p : RecD) (a' : Option Addr) (c' k : Nat) (wx : World) : Prop :=
  wx.heap[w.heap.size]? = some (.cells (rcs p a' c') 29 (0, 0)) ∧ RowK wx a' p.bs.length c' p.bs ∧ Touch w wx (fun _ => False) ∧ (p.bs.take k).all mayKB = true

set_option maxRecDepth 20000 in
set_option maxHeartbeats 8000000 in
theorem rmay_in (r : RecD) (a : Option Addr) (cap : Nat) (w : World) (h1 : 1 ≤ r.kind) (h6 : r.kind ≤ 6) (hr : RowK w a r.bs.length cap r.bs) (hl : r.bs.length ≤ 100000) :
    Calls Try.prog 19 #[.agg (rcs r a cap)] w fun e w' => e = .returned (.bool (mayRB r)) ∧ Touch w w' (fun _ => False) := by
  have hme := mayP_eq r h1 h6
  have hpk := plain_kind r
  obtain ⟨W1, hW1⟩ : ∃ W, w.alloc (.cells (rcs r a cap) 29) = W := ⟨_, rfl⟩
  have t1 : Touch w W1 (fun _ => False) := hW1 ▸ (Touch.refl _ _).alloc _
  have hg1 : W1.heap[w.heap.size]? = some (.cells (rcs r a cap) 29 (0, 0)) := hW1 ▸ heap_alloc_new w _
  obtain ⟨p, hp⟩ : ∃ p, plainD r = p := ⟨_, rfl⟩
  have HC : RowKit.Hid (Calls Try.prog 16 #[.agg (rcs r a cap)] W1 fun e w' => RecIs W1 w' p e) := Lib.hid (hp ▸ rplain_any r a cap W1 (hr.still t1) hl)
  rw [hp] at hme hpk
  have HG1 := Lib.hid hg1
  have HT1 := Lib.hid t1
  have HSZ : RowKit.Hid (w.heap.size < W1.heap.size) := Lib.hid (heap_lt hg1)
  have HIR := Lib.hid infoRec
  have HME := Lib.hid hme
  generalize mayRB r = m at *
  obtain ⟨kind, ⟨src, dst, proto, sport, dport⟩, fb, fg, fs, gen, bs, be, un, ct⟩ := r
  simp only at h1 h6 hpk
  clear hr hl hp hg1 t1 hme
  have h1' : ¬ kind < 1 := by omega
  have h6' : ¬ 6 < kind := by omega
  simp only [rcs] at hW1
  simp only [rcs]
  obtain ⟨k0, k1, k2, k3, k4, k5, k6, k7, k8, k9, k10, k11, k12, k13⟩ := rcells_of HG1.out
  simp only at k0 k1 k2 k3 k4 k5 k6 k7 k8 k9 k10 k11 k12 k13
  go_enter Try.func19, Try.ntmps19
  go_upto_region 3 with fail
  go_cut [] (fun wx => RMayAt w p wx)
  case first =>
    go_wp2_with (first
      | (go_at_call 16; refine HC.out.mono ?_; rintro e w4 ⟨a4, c4, rfl, ho4, t4⟩; have HG4 := Lib.hid (t4.keeps HG1.out (fun h => h)); have HO := Lib.hid ho4; have HT4 := Lib.hid (HT1.out.trans t4 (fun _ _ h => h)); clear ho4 t4)
      | (refine store_row rfl 29 (.tmp 1) (.tmp 14) rfl w.heap.size _ rfl rfl _ _ HG4.out HIR.out rfl (rcs_all _ _ _) ?_))
    go_meet
    have tS : Touch w4 (w4.setRow w.heap.size (rcs p a4 c4)) (fun k => k = w.heap.size) := (Touch.refl w4 (fun k => k = w.heap.size)).setRow _ _ (fun _ => rfl)
    have n1 := HSZ.out
    obtain ⟨-, hrow, hlo⟩ := HO.out.row
    exact ⟨a4, c4, setRow_heap _ _ _ _ _ _ HG4.out, hrow.touch tS (fun x hx => .inr (fun h => by have := (hlo x hx).1; omega)), HT4.out.trans tS (fun k h1 h2 => by omega)⟩
  case rest =>
    clear k0 k1 k2 k3 k4 k5 k6 k7 k8 k9 k10 k11 k12 k13
    obtain ⟨a4, c4, hg, hk, ht⟩ := hcut
    have HG := Lib.hid hg
    have HK := Lib.hid hk
    have HT := Lib.hid ht
    have HMB : RowKit.Hid (m = ((if p.kind = 1 ∨ p.kind = 2 then mayTB p.t else true) && decide (p.bs.length ≤ 16) && p.bs.all mayKB && idB p.fb && cntB p.fg && timB p.fs && cntB p.gen && idB p.be && timB p.un && cntB p.ct)) := Lib.hid (by rw [← HME.out]; rfl)
    clear hg hk ht HG1 HC HT1 HME hW1
    clear h1' h6'
    obtain ⟨pk, ⟨psrc, pdst, pproto, psport, pdport⟩, pfb, pfg, pfs, pgen, pbs, pbe, pun, pct⟩ := p
    simp only at hpk HMB HK
    subst hpk
    have HC2 : RowKit.Hid (∀ w, Calls Try.prog 44 #[.agg #[.int .u32 psrc, .int .u32 pdst, .int .i64 pproto, .int .i64 psport, .int .i64 pdport]] w fun e w' => e = .returned (.bool (mayTB ⟨psrc, pdst, pproto, psport, pdport⟩)) ∧ Touch w w' (fun _ => False)) := Lib.hid (fun w => rmayT_any ⟨psrc, pdst, pproto, psport, pdport⟩ w)
    generalize mayTB _ = T at *
    have hcase : pk = 1 ∨ pk = 2 ∨ (pk ≠ 1 ∧ pk ≠ 2) := by omega
    rcases hcase with rfl | rfl | ⟨n1, n2⟩
    · clear h1 h6
      obtain ⟨k0, k1, k2, k3, k4, k5, k6, k7, k8, k9, k10, k11, k12, k13⟩ := rcells_of HG.out
      simp only at k0 k1 k2 k3 k4 k5 k6 k7 k8 k9 k10 k11 k12 k13
      go_wp2_with (go_at_call 44; (with_reducible refine (HC2.out _).mono ?_); rintro e w9 ⟨rfl, t9⟩; have HG := Lib.hid (t9.keeps HG.out (fun h => h)); have HK := Lib.hid (HK.out.still t9); have HT := Lib.hid (HT.out.trans t9 (fun _ _ h => h)); clear t9; clear k0 k1 k2 k3 k4 k5 k6 k7 k8 k9 k10 k11 k12 k13; obtain ⟨k0, k1, k2, k3, k4, k5, k6, k7, k8, k9, k10, k11, k12, k13⟩ := rcells_of HG.out; simp only at k0 k1 k2 k3 k4 k5 k6 k7 k8 k9 k10 k11 k12 k13)
      all_goals first
        | (go_ret; refine ⟨ret_bool ?_, HT.out⟩; rw [HMB.out]; clear HMB HG HT HK HC2 k0 k1 k2 k3 k4 k5 k6 k7 k8 k9 k10 k11 k12 k13; first | (have hd : decide (pbs.length ≤ 16) = false := decide_eq_false (by omega); simp [hd]; done) | (simp_all; done))
        | skip
      go_loopw [39] (fun i wr => ∃ k : Nat, k ≤ pbs.length ∧ i = .int .i64 k ∧ RMayL w ⟨1, ⟨psrc, pdst, pproto, psport, pdport⟩, pfb, pfg, pfs, pgen, pbs, pbe, pun, pct⟩ a4 c4 k wr) (fun i _ => pbs.length - (intOf i).toNat)
      case atStart => exact ⟨0, Nat.zero_le _, rfl, HG.out, HK.out, HT.out, by simp⟩
      case round =>
        clear k0 k1 k2 k3 k4 k5 k6 k7 k8 k9 k10 k11 k12 k13 HG HK HT
        obtain ⟨k, hk, rfl, hg, hk2, ht, hall⟩ := hrel
        simp only at hk2 hall
        have HG := Lib.hid hg
        have HK := Lib.hid hk2
        have HT := Lib.hid ht
        have HE := Lib.hid hall
        clear hg hk2 ht hall
        by_cases hlt : k < pbs.length
        case neg =>
          obtain rfl : pbs.length = k := by omega
          have hlt' : ¬ (pbs.length : Int) < pbs.length := by omega
          have hd : decide (pbs.length ≤ 16) = true := decide_eq_true (by omega)
          have hA : pbs.all mayKB = true := by have h := HE.out; rwa [List.take_length] at h
          have hm := HMB.out
          rw [hd, hA] at hm
          have HM2 := Lib.hid hm
          clear HMB hm hd hA HE HK HC2
          obtain ⟨k0, k1, k2, k3, k4, k5, k6, k7, k8, k9, k10, k11, k12, k13⟩ := rcells_of HG.out
          simp only at k0 k1 k2 k3 k4 k5 k6 k7 k8 k9 k10 k11 k12 k13
          go_wp2_with (first
            | (go_at_call 46; (with_reducible refine (rid_any _ _).mono ?_); rintro e w' ⟨rfl, rfl⟩)
            | (go_at_call 47; (with_reducible refine (rcount_any _ _).mono ?_); rintro e w' ⟨rfl, rfl⟩)
            | (go_at_call 48; (with_reducible refine (rtime_any _ _).mono ?_); rintro e w' ⟨rfl, rfl⟩))
          all_goals (go_ret; refine ⟨ret_bool ?_, HT.out⟩; rw [HM2.out]; clear HM2 HG HT k0 k1 k2 k3 k4 k5 k6 k7 k8 k9 k10 k11 k12 k13; simp_all)
        case pos =>
          have hr := HK.out
          have hcap := hr.hmax
          have hcap1 := hr.hcap
          obtain ⟨b, off, rfl⟩ := hr.some (by omega)
          obtain ⟨c0, c1, c2⟩ := hr.cells k hlt
          have HF : RowKit.Hid ((pbs.take (k + 1)).all mayKB = mayKB pbs[k]) := Lib.hid (by rw [List.take_succ_eq_append_getElem hlt, List.all_append, HE.out]; simp)
          have HX : RowKit.Hid (mayKB pbs[k] = false → pbs.all mayKB = false) := Lib.hid (fun h => by
            cases hh : pbs.all mayKB with
            | false => rfl
            | true => rw [List.all_eq_true] at hh; rw [hh _ (List.getElem_mem hlt)] at h; cases h)
          generalize pbs[k] = f at *
          have i1 : (k : Int) < pbs.length := by omega
          clear hr HE
          go_wp2_with (go_at_call 45; (with_reducible refine (rmayK_any _ _).mono ?_); rintro e w' ⟨rfl, t9⟩; have t9 := ((Touch.refl _ (fun _ => False)).alloc _).trans t9 (fun _ _ h => h); have HG := Lib.hid (t9.keeps HG.out (fun h => h)); have HK := Lib.hid (HK.out.still t9); have HT := Lib.hid (HT.out.trans t9 (fun _ _ h => h)); clear t9)
          all_goals first
            | (go_roundw
               case rel => exact ⟨k + 1, hlt, by go_num, HG.out, HK.out, HT.out, by rw [HF.out]; simp_all⟩
               case measure => simp [intOf]; omega)
            | (go_ret
               refine ⟨ret_bool ?_, HT.out⟩
               rw [HMB.out, HX.out (by simp_all)]; simp)
    · clear h1 h6
      obtain ⟨k0, k1, k2, k3, k4, k5, k6, k7, k8, k9, k10, k11, k12, k13⟩ := rcells_of HG.out
      simp only at k0 k1 k2 k3 k4 k5 k6 k7 k8 k9 k10 k11 k12 k13
      go_wp2_with (go_at_call 44; (with_reducible refine (HC2.out _).mono ?_); rintro e w9 ⟨rfl, t9⟩; have HG := Lib.hid (t9.keeps HG.out (fun h => h)); have HK := Lib.hid (HK.out.still t9); have HT := Lib.hid (HT.out.trans t9 (fun _ _ h => h)); clear t9; clear k0 k1 k2 k3 k4 k5 k6 k7 k8 k9 k10 k11 k12 k13; obtain ⟨k0, k1, k2, k3, k4, k5, k6, k7, k8, k9, k10, k11, k12, k13⟩ := rcells_of HG.out; simp only at k0 k1 k2 k3 k4 k5 k6 k7 k8 k9 k10 k11 k12 k13)
      all_goals first
        | (go_ret; refine ⟨ret_bool ?_, HT.out⟩; rw [HMB.out]; clear HMB HG HT HK HC2 k0 k1 k2 k3 k4 k5 k6 k7 k8 k9 k10 k11 k12 k13; first | (have hd : decide (pbs.length ≤ 16) = false := decide_eq_false (by omega); simp [hd]; done) | (simp_all; done))
        | skip
      go_loopw [39] (fun i wr => ∃ k : Nat, k ≤ pbs.length ∧ i = .int .i64 k ∧ RMayL w ⟨2, ⟨psrc, pdst, pproto, psport, pdport⟩, pfb, pfg, pfs, pgen, pbs, pbe, pun, pct⟩ a4 c4 k wr) (fun i _ => pbs.length - (intOf i).toNat)
      case atStart => exact ⟨0, Nat.zero_le _, rfl, HG.out, HK.out, HT.out, by simp⟩
      case round =>
        clear k0 k1 k2 k3 k4 k5 k6 k7 k8 k9 k10 k11 k12 k13 HG HK HT
        obtain ⟨k, hk, rfl, hg, hk2, ht, hall⟩ := hrel
        simp only at hk2 hall
        have HG := Lib.hid hg
        have HK := Lib.hid hk2
        have HT := Lib.hid ht
        have HE := Lib.hid hall
        clear hg hk2 ht hall
        by_cases hlt : k < pbs.length
        case neg =>
          obtain rfl : pbs.length = k := by omega
          have hlt' : ¬ (pbs.length : Int) < pbs.length := by omega
          have hd : decide (pbs.length ≤ 16) = true := decide_eq_true (by omega)
          have hA : pbs.all mayKB = true := by have h := HE.out; rwa [List.take_length] at h
          have hm := HMB.out
          rw [hd, hA] at hm
          have HM2 := Lib.hid hm
          clear HMB hm hd hA HE HK HC2
          obtain ⟨k0, k1, k2, k3, k4, k5, k6, k7, k8, k9, k10, k11, k12, k13⟩ := rcells_of HG.out
          simp only at k0 k1 k2 k3 k4 k5 k6 k7 k8 k9 k10 k11 k12 k13
          go_wp2_with (first
            | (go_at_call 46; (with_reducible refine (rid_any _ _).mono ?_); rintro e w' ⟨rfl, rfl⟩)
            | (go_at_call 47; (with_reducible refine (rcount_any _ _).mono ?_); rintro e w' ⟨rfl, rfl⟩)
            | (go_at_call 48; (with_reducible refine (rtime_any _ _).mono ?_); rintro e w' ⟨rfl, rfl⟩))
          all_goals (go_ret; refine ⟨ret_bool ?_, HT.out⟩; rw [HM2.out]; clear HM2 HG HT k0 k1 k2 k3 k4 k5 k6 k7 k8 k9 k10 k11 k12 k13; simp_all)
        case pos =>
          have hr := HK.out
          have hcap := hr.hmax
          have hcap1 := hr.hcap
          obtain ⟨b, off, rfl⟩ := hr.some (by omega)
          obtain ⟨c0, c1, c2⟩ := hr.cells k hlt
          have HF : RowKit.Hid ((pbs.take (k + 1)).all mayKB = mayKB pbs[k]) := Lib.hid (by rw [List.take_succ_eq_append_getElem hlt, List.all_append, HE.out]; simp)
          have HX : RowKit.Hid (mayKB pbs[k] = false → pbs.all mayKB = false) := Lib.hid (fun h => by
            cases hh : pbs.all mayKB with
            | false => rfl
            | true => rw [List.all_eq_true] at hh; rw [hh _ (List.getElem_mem hlt)] at h; cases h)
          generalize pbs[k] = f at *
          have i1 : (k : Int) < pbs.length := by omega
          clear hr HE
          go_wp2_with (go_at_call 45; (with_reducible refine (rmayK_any _ _).mono ?_); rintro e w' ⟨rfl, t9⟩; have t9 := ((Touch.refl _ (fun _ => False)).alloc _).trans t9 (fun _ _ h => h); have HG := Lib.hid (t9.keeps HG.out (fun h => h)); have HK := Lib.hid (HK.out.still t9); have HT := Lib.hid (HT.out.trans t9 (fun _ _ h => h)); clear t9)
          all_goals first
            | (go_roundw
               case rel => exact ⟨k + 1, hlt, by go_num, HG.out, HK.out, HT.out, by rw [HF.out]; simp_all⟩
               case measure => simp [intOf]; omega)
            | (go_ret
               refine ⟨ret_bool ?_, HT.out⟩
               rw [HMB.out, HX.out (by simp_all)]; simp)
    · have b1 : (pk == 1) = false := beq_eq_false_iff_ne.2 n1
      have b2 : (pk == 2) = false := beq_eq_false_iff_ne.2 n2
      have HMB : RowKit.Hid (m = (true && decide (pbs.length ≤ 16) && pbs.all mayKB && idB pfb && cntB pfg && timB pfs && cntB pgen && idB pbe && timB pun && cntB pct)) := Lib.hid (by rw [HMB.out, if_neg (by omega)])
      clear h1 h6 n1 n2
      obtain ⟨k0, k1, k2, k3, k4, k5, k6, k7, k8, k9, k10, k11, k12, k13⟩ := rcells_of HG.out
      simp only at k0 k1 k2 k3 k4 k5 k6 k7 k8 k9 k10 k11 k12 k13
      go_wp2_with (go_at_call 44; (with_reducible refine (HC2.out _).mono ?_); rintro e w9 ⟨rfl, t9⟩; have HG := Lib.hid (t9.keeps HG.out (fun h => h)); have HK := Lib.hid (HK.out.still t9); have HT := Lib.hid (HT.out.trans t9 (fun _ _ h => h)); clear t9; clear k0 k1 k2 k3 k4 k5 k6 k7 k8 k9 k10 k11 k12 k13; obtain ⟨k0, k1, k2, k3, k4, k5, k6, k7, k8, k9, k10, k11, k12, k13⟩ := rcells_of HG.out; simp only at k0 k1 k2 k3 k4 k5 k6 k7 k8 k9 k10 k11 k12 k13)
      all_goals first
        | (go_ret; refine ⟨ret_bool ?_, HT.out⟩; rw [HMB.out]; clear HMB HG HT HK HC2 k0 k1 k2 k3 k4 k5 k6 k7 k8 k9 k10 k11 k12 k13; first | (have hd : decide (pbs.length ≤ 16) = false := decide_eq_false (by omega); simp [hd]; done) | (simp_all; done))
        | skip
      go_loopw [39] (fun i wr => ∃ k : Nat, k ≤ pbs.length ∧ i = .int .i64 k ∧ RMayL w ⟨pk, ⟨psrc, pdst, pproto, psport, pdport⟩, pfb, pfg, pfs, pgen, pbs, pbe, pun, pct⟩ a4 c4 k wr) (fun i _ => pbs.length - (intOf i).toNat)
      case atStart => exact ⟨0, Nat.zero_le _, rfl, HG.out, HK.out, HT.out, by simp⟩
      case round =>
        clear k0 k1 k2 k3 k4 k5 k6 k7 k8 k9 k10 k11 k12 k13 HG HK HT
        obtain ⟨k, hk, rfl, hg, hk2, ht, hall⟩ := hrel
        simp only at hk2 hall
        have HG := Lib.hid hg
        have HK := Lib.hid hk2
        have HT := Lib.hid ht
        have HE := Lib.hid hall
        clear hg hk2 ht hall
        by_cases hlt : k < pbs.length
        case neg =>
          obtain rfl : pbs.length = k := by omega
          have hlt' : ¬ (pbs.length : Int) < pbs.length := by omega
          have hd : decide (pbs.length ≤ 16) = true := decide_eq_true (by omega)
          have hA : pbs.all mayKB = true := by have h := HE.out; rwa [List.take_length] at h
          have hm := HMB.out
          rw [hd, hA] at hm
          have HM2 := Lib.hid hm
          clear HMB hm hd hA HE HK HC2
          obtain ⟨k0, k1, k2, k3, k4, k5, k6, k7, k8, k9, k10, k11, k12, k13⟩ := rcells_of HG.out
          simp only at k0 k1 k2 k3 k4 k5 k6 k7 k8 k9 k10 k11 k12 k13
          go_wp2_with (first
            | (go_at_call 46; (with_reducible refine (rid_any _ _).mono ?_); rintro e w' ⟨rfl, rfl⟩)
            | (go_at_call 47; (with_reducible refine (rcount_any _ _).mono ?_); rintro e w' ⟨rfl, rfl⟩)
            | (go_at_call 48; (with_reducible refine (rtime_any _ _).mono ?_); rintro e w' ⟨rfl, rfl⟩))
          all_goals (go_ret; refine ⟨ret_bool ?_, HT.out⟩; rw [HM2.out]; clear HM2 HG HT k0 k1 k2 k3 k4 k5 k6 k7 k8 k9 k10 k11 k12 k13; simp_all)
        case pos =>
          have hr := HK.out
          have hcap := hr.hmax
          have hcap1 := hr.hcap
          obtain ⟨b, off, rfl⟩ := hr.some (by omega)
          obtain ⟨c0, c1, c2⟩ := hr.cells k hlt
          have HF : RowKit.Hid ((pbs.take (k + 1)).all mayKB = mayKB pbs[k]) := Lib.hid (by rw [List.take_succ_eq_append_getElem hlt, List.all_append, HE.out]; simp)
          have HX : RowKit.Hid (mayKB pbs[k] = false → pbs.all mayKB = false) := Lib.hid (fun h => by
            cases hh : pbs.all mayKB with
            | false => rfl
            | true => rw [List.all_eq_true] at hh; rw [hh _ (List.getElem_mem hlt)] at h; cases h)
          generalize pbs[k] = f at *
          have i1 : (k : Int) < pbs.length := by omega
          clear hr HE
          go_wp2_with (go_at_call 45; (with_reducible refine (rmayK_any _ _).mono ?_); rintro e w' ⟨rfl, t9⟩; have t9 := ((Touch.refl _ (fun _ => False)).alloc _).trans t9 (fun _ _ h => h); have HG := Lib.hid (t9.keeps HG.out (fun h => h)); have HK := Lib.hid (HK.out.still t9); have HT := Lib.hid (HT.out.trans t9 (fun _ _ h => h)); clear t9)
          all_goals first
            | (go_roundw
               case rel => exact ⟨k + 1, hlt, by go_num, HG.out, HK.out, HT.out, by rw [HF.out]; simp_all⟩
               case measure => simp [intOf]; omega)
            | (go_ret
               refine ⟨ret_bool ?_, HT.out⟩
               rw [HMB.out, HX.out (by simp_all)]; simp)
end Go.Proofs.Ytbklngcocbnijaa
