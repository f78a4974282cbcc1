/- Records: the small questions: is it a number, a time, a port, a tuple, a backend? -/
import Derived.Test.YtbklngcocbnijaaRecSameK
set_option linter.unusedVariables false
set_option linter.unusedSimpArgs false
namespace Go.Proofs.Ytbklngcocbnijaa
open Go.RowKit

def idB (n : Int) : Bool := decide (0 ≤ n ∧ n ≤ 65535)
def cntB (n : Int) : Bool := decide (0 ≤ n ∧ n ≤ 1000000)
def timB (n : Int) : Bool := decide (0 ≤ n ∧ n ≤ 1099511627776)
def verB (n : Int) : Bool := decide (1 ≤ n ∧ n ≤ 3)
theorem idB_iff (n : Int) : idB n = true ↔ 0 ≤ n ∧ n ≤ 65535 := by unfold idB; exact decide_eq_true_iff
theorem cntB_iff (n : Int) : cntB n = true ↔ 0 ≤ n ∧ n ≤ 1000000 := by unfold cntB; exact decide_eq_true_iff
theorem timB_iff (n : Int) : timB n = true ↔ 0 ≤ n ∧ n ≤ 1099511627776 := by unfold timB; exact decide_eq_true_iff
theorem verB_iff (n : Int) : verB n = true ↔ 1 ≤ n ∧ n ≤ 3 := by unfold verB; exact decide_eq_true_iff
def mayTB (t : TupD) : Bool := decide ((t.proto = 6 ∨ t.proto = 17) ∧ (0 ≤ t.sport ∧ t.sport ≤ 65535) ∧ 0 ≤ t.dport ∧ t.dport ≤ 65535)
def mayKB (b : BkD) : Bool := decide ((0 ≤ b.id ∧ b.id ≤ 65535) ∧ 1 ≤ b.weight ∧ b.weight ≤ 10)
theorem mayTB_iff (t : TupD) : mayTB t = true ↔ ((t.proto = 6 ∨ t.proto = 17) ∧ (0 ≤ t.sport ∧ t.sport ≤ 65535) ∧ 0 ≤ t.dport ∧ t.dport ≤ 65535) := by unfold mayTB; exact decide_eq_true_iff
theorem mayKB_iff (b : BkD) : mayKB b = true ↔ ((0 ≤ b.id ∧ b.id ≤ 65535) ∧ 1 ≤ b.weight ∧ b.weight ≤ 10) := by unfold mayKB; exact decide_eq_true_iff
def tcs (t : TupD) : Array Value := #[.int .u32 t.src, .int .u32 t.dst, .int .i64 t.proto, .int .i64 t.sport, .int .i64 t.dport]
theorem ret_bool {a b : Bool} (h : a = b) : Ending.returned (.bool a) = .returned (.bool b) := by rw [h]
set_option maxHeartbeats 1000000
theorem isId_any (n : Int) (w : World) :
    Calls Try.prog 39 #[.int .i64 n] w fun e w' => e = .returned (.bool (idB n)) ∧ w' = w := by
  have HM := Lib.hid (idB_iff n)
  generalize idB n = m at *
  go_enter Try.func39, Try.ntmps39
  go_wp2
  all_goals (go_ret; refine ⟨ret_bool ?_, rfl⟩; rw [Bool.eq_iff_iff, HM.out]; clear HM; (first | (simp_all; done) | (simp_all; omega)))
theorem isCount_any (n : Int) (w : World) :
    Calls Try.prog 40 #[.int .i64 n] w fun e w' => e = .returned (.bool (cntB n)) ∧ w' = w := by
  have HM := Lib.hid (cntB_iff n)
  generalize cntB n = m at *
  go_enter Try.func40, Try.ntmps40
  go_wp2
  all_goals (go_ret; refine ⟨ret_bool ?_, rfl⟩; rw [Bool.eq_iff_iff, HM.out]; clear HM; (first | (simp_all; done) | (simp_all; omega)))
theorem isTime_any (n : Int) (w : World) :
    Calls Try.prog 41 #[.int .i64 n] w fun e w' => e = .returned (.bool (timB n)) ∧ w' = w := by
  have HM := Lib.hid (timB_iff n)
  generalize timB n = m at *
  go_enter Try.func41, Try.ntmps41
  go_wp2
  all_goals (go_ret; refine ⟨ret_bool ?_, rfl⟩; rw [Bool.eq_iff_iff, HM.out]; clear HM; (first | (simp_all; done) | (simp_all; omega)))
theorem isPort_any (n : Int) (w : World) :
    Calls Try.prog 70 #[.int .i64 n] w fun e w' => e = .returned (.bool (idB n)) ∧ w' = w := by
  have HM := Lib.hid (idB_iff n)
  generalize idB n = m at *
  go_enter Try.func70, Try.ntmps70
  go_wp2
  all_goals (go_ret; refine ⟨ret_bool ?_, rfl⟩; rw [Bool.eq_iff_iff, HM.out]; clear HM; (first | (simp_all; done) | (simp_all; omega)))
theorem isVersion_any (n : Int) (w : World) :
    Calls Try.prog 50 #[.int .i64 n] w fun e w' => e = .returned (.bool (verB n)) ∧ w' = w := by
  have HM := Lib.hid (verB_iff n)
  generalize verB n = m at *
  go_enter Try.func50, Try.ntmps50
  go_wp2
  all_goals (go_ret; refine ⟨ret_bool ?_, rfl⟩; rw [Bool.eq_iff_iff, HM.out]; clear HM; (first | (simp_all; done) | (simp_all; omega)))
theorem rid_any (n : Int) (w : World) :
    Calls Try.prog 46 #[.int .i64 n] w fun e w' => e = .returned (.bool (idB n)) ∧ w' = w := by
  have HM := Lib.hid (idB_iff n)
  generalize idB n = m at *
  go_enter Try.func46, Try.ntmps46
  go_wp2
  all_goals (go_ret; refine ⟨ret_bool ?_, rfl⟩; rw [Bool.eq_iff_iff, HM.out]; clear HM; (first | (simp_all; done) | (simp_all; omega)))
theorem rcount_any (n : Int) (w : World) :
    Calls Try.prog 47 #[.int .i64 n] w fun e w' => e = .returned (.bool (cntB n)) ∧ w' = w := by
  have HM := Lib.hid (cntB_iff n)
  generalize cntB n = m at *
  go_enter Try.func47, Try.ntmps47
  go_wp2
  all_goals (go_ret; refine ⟨ret_bool ?_, rfl⟩; rw [Bool.eq_iff_iff, HM.out]; clear HM; (first | (simp_all; done) | (simp_all; omega)))
theorem rtime_any (n : Int) (w : World) :
    Calls Try.prog 48 #[.int .i64 n] w fun e w' => e = .returned (.bool (timB n)) ∧ w' = w := by
  have HM := Lib.hid (timB_iff n)
  generalize timB n = m at *
  go_enter Try.func48, Try.ntmps48
  go_wp2
  all_goals (go_ret; refine ⟨ret_bool ?_, rfl⟩; rw [Bool.eq_iff_iff, HM.out]; clear HM; (first | (simp_all; done) | (simp_all; omega)))
theorem rversion_any (n : Int) (w : World) :
    Calls Try.prog 51 #[.int .i64 n] w fun e w' => e = .returned (.bool (verB n)) ∧ w' = w := by
  have HM := Lib.hid (verB_iff n)
  generalize verB n = m at *
  go_enter Try.func51, Try.ntmps51
  go_wp2
  all_goals (go_ret; refine ⟨ret_bool ?_, rfl⟩; rw [Bool.eq_iff_iff, HM.out]; clear HM; (first | (simp_all; done) | (simp_all; omega)))

theorem rmayT_any (t : TupD) (w : World) :
    Calls Try.prog 44 #[.agg (tcs t)] w fun e w' => e = .returned (.bool (mayTB t)) ∧ Touch w w' (fun _ => False) := by
  have HM := Lib.hid (mayTB_iff t)
  generalize mayTB t = m at *
  simp only [tcs]
  go_enter Try.func44, Try.ntmps44
  go_wp2
  all_goals (go_ret; refine ⟨ret_bool ?_, (Touch.refl _ _).alloc _⟩; rw [Bool.eq_iff_iff, HM.out]; clear HM; (first | (simp_all; done) | (simp_all; omega)))
theorem mayT_any (t : TupD) (w : World) :
    Calls Try.prog 38 #[.agg (tcs t)] w fun e w' => e = .returned (.bool (mayTB t)) ∧ Touch w w' (fun _ => False) := by
  have HM := Lib.hid (mayTB_iff t)
  have H1 := Lib.hid (idB_iff t.sport)
  have H2 := Lib.hid (idB_iff t.dport)
  generalize mayTB t = m at *
  simp only [tcs]
  go_enter Try.func38, Try.ntmps38
  go_wp2_with (go_at_call 70; (with_reducible refine (isPort_any _ _).mono ?_); rintro e w' ⟨rfl, rfl⟩)
  all_goals (go_ret; refine ⟨ret_bool ?_, (Touch.refl _ _).alloc _⟩; rw [Bool.eq_iff_iff, HM.out, ← H1.out, ← H2.out]; clear HM H1 H2; (first | (simp_all; done) | (simp_all; omega)))
theorem rmayK_any (b : BkD) (w : World) :
    Calls Try.prog 45 #[.agg #[.int .i64 b.id, .int .u32 b.addr, .int .i64 b.weight]] w fun e w' => e = .returned (.bool (mayKB b)) ∧ Touch w w' (fun _ => False) := by
  have HM := Lib.hid (mayKB_iff b)
  have H1 := Lib.hid (idB_iff b.id)
  generalize mayKB b = m at *
  go_enter Try.func45, Try.ntmps45
  go_wp2_with (go_at_call 46; (with_reducible refine (rid_any _ _).mono ?_); rintro e w' ⟨rfl, rfl⟩)
  all_goals (go_ret; refine ⟨ret_bool ?_, (Touch.refl _ _).alloc _⟩; rw [Bool.eq_iff_iff, HM.out, ← H1.out]; clear HM H1; (first | (simp_all; done) | (simp_all; omega)))
theorem noK_any (b : BkD) (w : World) :
    Calls Try.prog 43 #[.agg #[.int .i64 b.id, .int .u32 b.addr, .int .i64 b.weight]] w fun e w' => e = .returned (.bool (!mayKB b)) ∧ Touch w w' (fun _ => False) := by
  have HM := Lib.hid (mayKB_iff b)
  have H1 := Lib.hid (idB_iff b.id)
  generalize mayKB b = m at *
  go_enter Try.func43, Try.ntmps43
  go_wp2_with (go_at_call 39; (with_reducible refine (isId_any _ _).mono ?_); rintro e w' ⟨rfl, rfl⟩)
  all_goals (go_ret; refine ⟨ret_bool ?_, (Touch.refl _ _).alloc _⟩; have hm := HM.out; rw [← H1.out] at hm; clear HM H1; cases m <;> (first | (simp_all; done) | (simp_all; omega)))

/-- Where the first backend stands that may not be. -/
theorem indexFunc_any (a : Option Addr) (len cap : Nat) (bs : List BkD) (w : World) (hr : RowK w a len cap bs) :
    Calls Try.prog 71 #[.slice a len cap, .func (.func 43) #[] #[]] w fun e w' => ∃ n : Int, e = .returned (.int .i64 n) ∧ decide (0 ≤ n) = !(bs.all mayKB) ∧ Touch w w' (fun _ => False) := by
  have hl1 := hr.len
  have hcap := hr.hmax
  have hcap1 := hr.hcap
  have HR := Lib.hid hr
  have HL1 := Lib.hid hl1
  clear hr hl1
  go_enter Try.func71, Try.ntmps71
  go_wp2_with fail
  go_loopw [8] (fun i wr => ∃ k : Nat, k ≤ len ∧ i = .int .i64 k ∧ Touch w wr (fun _ => False) ∧ (bs.take k).all mayKB = true) (fun i _ => len - (intOf i).toNat)
  case atStart => exact ⟨0, Nat.zero_le _, rfl, Touch.refl _ _, by simp⟩
  case round =>
    obtain ⟨k, hk, rfl, ht, he⟩ := hrel
    have HT := Lib.hid ht
    have HE := Lib.hid he
    clear he ht
    by_cases hlt : k < len
    case neg =>
      obtain rfl : len = k := by omega
      have hlt' : ¬ (len : Int) < len := by omega
      go_wp2
      go_ret
      refine ⟨-1, rfl, ?_, HT.out⟩
      have h := HE.out
      rw [← HL1.out, List.take_length] at h
      rw [h]; rfl
    case pos =>
    have hr := HR.out.still HT.out
    obtain ⟨b, off, rfl⟩ := hr.some (by omega)
    have hk1 : k < bs.length := by rw [HL1.out]; exact hlt
    obtain ⟨c0, c1, c2⟩ := hr.cells k hk1
    have HF : RowKit.Hid ((bs.take (k + 1)).all mayKB = mayKB bs[k]) := Lib.hid (by rw [List.take_succ_eq_append_getElem hk1, List.all_append, HE.out]; simp)
    have HG : RowKit.Hid (mayKB bs[k] = false → bs.all mayKB = false) := Lib.hid (fun h => by
      cases hh : bs.all mayKB with
      | false => rfl
      | true => rw [List.all_eq_true] at hh; rw [hh _ (List.getElem_mem hk1)] at h; cases h)
    generalize bs[k] = f at *
    have i1 : (k : Int) < len := by omega
    clear hr
    go_wp2_with (go_at_call 43; (with_reducible refine (noK_any _ _).mono ?_); rintro e w' ⟨rfl, t9⟩; have HT := Lib.hid (HT.out.trans t9 (fun _ _ h => h)); clear t9)
    all_goals first
      | (go_roundw
         case rel => exact ⟨k + 1, hlt, by go_num, HT.out, by rw [HF.out]; simp_all⟩
         case measure => simp [intOf]; omega)
      | (go_ret
         refine ⟨k, rfl, ?_, HT.out⟩
         rw [HG.out (by simp_all)]; simp)
theorem contains_any (a : Option Addr) (len cap : Nat) (bs : List BkD) (w : World) (hr : RowK w a len cap bs) :
    Calls Try.prog 42 #[.slice a len cap, .func (.func 43) #[] #[]] w fun e w' => e = .returned (.bool (!(bs.all mayKB))) ∧ Touch w w' (fun _ => False) := by
  generalize hA : bs.all mayKB = A
  have H := Lib.hid (indexFunc_any a len cap bs w hr)
  rw [hA] at H
  clear hr hA
  go_enter Try.func42, Try.ntmps42
  go_wp2_with (go_at_call 71; (with_reducible refine H.out.mono ?_); rintro e w' ⟨n, rfl, hn, t9⟩; have HN := Lib.hid hn; have HT := Lib.hid t9; clear hn t9)
  all_goals (go_ret; refine ⟨ret_bool ?_, HT.out⟩; first | exact HN.out | (rw [← HN.out]; simp_all; done))
end Go.Proofs.Ytbklngcocbnijaa
