/- DiskFails holds: just the nth operation fails, and it does nothing. -/
import Derived.Test.YtmokcfmlolohaaaDskAwk
import Derived.Test.YtmokcfmlolohaaaFrDiskFails
import Derived.Deep.LoopGhost
set_option linter.unusedVariables false
set_option linter.unusedSimpArgs false
namespace Go.Proofs.Ytmokcfmlolohaaa
open Go.RowKit

theorem modK (x m : Int) (h0 : 0 < m) (h1 : m ≤ 100000) : ∃ N : Nat, wrap64 ((IntKind.u64.wrap x).tmod m) = (N : Int) ∧ (N : Int) < m := by
  have hu : 0 ≤ IntKind.u64.wrap x := by simp only [IntKind.wrap_u64]; omega
  have h2 : (IntKind.u64.wrap x).tmod m = (IntKind.u64.wrap x) % m := Int.tmod_eq_emod_of_nonneg hu
  have h3 := Int.emod_nonneg (IntKind.u64.wrap x) (show m ≠ 0 by omega)
  have h4 := Int.emod_lt_of_pos (IntKind.u64.wrap x) h0
  rw [h2]
  generalize (IntKind.u64.wrap x) % m = y at *
  refine ⟨y.toNat, ?_, by omega⟩
  unfold wrap64
  omega
def sF : ByteArray := ⟨#[102]⟩
def cF (g : Nat) : DkCh := ⟨0, sF, ⟨#[]⟩, some g⟩
theorem allF (g : Nat) : dkAll [] [cF g] = [⟨sF, some g⟩] := by kernel_rfl
theorem getF' (g : Nat) : getN [⟨sF, some g⟩] sF = some g := by kernel_rfl
theorem sF_name : 1 ≤ sF.size ∧ sF.size ≤ 16 := by decide
theorem sF_sz : szN sF := by unfold szN; decide
/-- The disk has so many bytes, in its one file. -/
structure FSt (st : DkS) (i fl want : Nat) : Prop where
  q : st.q = 1000
  o : st.ops = i
  f : st.fail = fl
  s : st.S = []
  c : (want = 0 ∧ st.C = []) ∨ ∃ g, st.C = [cF g] ∧ (st.F g).b.length = want
theorem FSt.len {st : DkS} {i fl want : Nat} (h : FSt st i fl want) : st.C.length ≤ 1 := by
  rcases h.c with ⟨-, e⟩ | ⟨g, e, -⟩ <;> rw [e] <;> simp
theorem FSt.size {st : DkS} {i fl want : Nat} (h : FSt st i fl want) : dkSz st = want := by
  rcases h.c with ⟨h0, e⟩ | ⟨g, e, hl⟩
  · have : st.N = [] := by unfold DkS.N; rw [h.s, e]; rfl
    rw [szF_is, this, h0]; rfl
  · have : st.N = [⟨sF, some g⟩] := by unfold DkS.N; rw [h.s, e, allF]
    rw [szF_is, this]
    unfold szF
    simp [hl]
theorem FSt.fault {st : DkS} {i want : Nat} (h : FSt st i 1 want) (hi : i ≤ 100) (x g : Nat) : dkAppE st sF 1 = 8 ∧ FSt (dkAppS st sF g [x]) (i + 1) 0 want := by
  have h1 : st.fail = 1 := h.f
  have e : dkAppE st sF 1 = 8 := by unfold dkAppE; rw [if_pos h1]
  have e2 : dkAppS st sF g [x] = dkOp st := by
    unfold dkAppS
    rw [show ([x] : List Nat).length = 1 from rfl, e, if_pos (by decide)]
  refine ⟨e, ?_⟩
  rw [e2]
  refine ⟨h.q, ?_, ?_, h.s, h.c⟩
  · show wrap64 (st.ops + 1) = _
    rw [h.o]; unfold wrap64; omega
  · show (if st.fail = 0 then 0 else st.fail - 1) = _
    rw [h1]; rfl
theorem FSt.more {st : DkS} {i fl want : Nat} (h : FSt st i fl want) (hf : fl ≠ 1) (hi : i ≤ 100) (hw : want ≤ 100) (x g : Nat) : dkAppE st sF 1 = 0 ∧ FSt (dkAppS st sF g [x]) (i + 1) (fl - 1) (want + 1) := by
  have h1 : ¬ st.fail = 1 := by rw [h.f]; omega
  have hsz := h.size
  have hq := h.q
  have hroom : ∀ o, (∀ g, o = some g → (st.F g).b.length = want) → st.N.length ≤ 1 → dkRoom st o 1 = true := by
    intro o ho hl
    unfold dkRoom
    rw [hsz, hq]
    simp only [Bool.and_eq_true, decide_eq_true_eq]
    refine ⟨by omega, ?_⟩
    cases o with
    | none => simp only [Bool.and_eq_true, decide_eq_true_eq]; omega
    | some g => simp only [decide_eq_true_eq]; rw [ho g rfl]; omega
  have ho : wrap64 (st.ops + 1) = ((i + 1 : Nat) : Int) := by rw [h.o]; unfold wrap64; omega
  have hfl : (if st.fail = 0 then 0 else st.fail - 1) = ((fl - 1 : Nat) : Int) := by rw [h.f]; split <;> omega
  rcases h.c with ⟨h0, e⟩ | ⟨g0, e, hl⟩
  · have hN : st.N = [] := by unfold DkS.N; rw [h.s, e]; rfl
    have hr := hroom none (fun _ h => by cases h) (by rw [hN]; decide)
    have hE : dkAppE st sF 1 = 0 := by unfold dkAppE; rw [if_neg h1, if_neg (fun h => h sF_name), hN, show getN [] sF = none from rfl, hr, if_pos rfl]
    have e2 : dkAppS st sF g [x] = { dkOp st with C := st.C ++ [⟨0, sF, ⟨#[]⟩, some g⟩], F := fPut st.F g ⟨[x], 0⟩ } := by
      unfold dkAppS
      rw [show ([x] : List Nat).length = 1 from rfl, hE, if_neg (by decide), hN]
      rfl
    refine ⟨hE, ?_⟩
    rw [e2]
    exact ⟨h.q, ho, hfl, h.s, .inr ⟨g, by rw [e]; rfl, by simp only [fPut_same]; simp [h0]⟩⟩
  · have hN : st.N = [⟨sF, some g0⟩] := by unfold DkS.N; rw [h.s, e, allF]
    have hr := hroom (some g0) (fun g h => by cases h; exact hl) (by rw [hN]; simp)
    have hE : dkAppE st sF 1 = 0 := by unfold dkAppE; rw [if_neg h1, if_neg (fun h => h sF_name), hN, getF', hr, if_pos rfl]
    have e2 : dkAppS st sF g [x] = { dkOp st with F := fPut st.F g0 ⟨(st.F g0).b ++ [x], (st.F g0).s⟩ } := by
      unfold dkAppS
      rw [show ([x] : List Nat).length = 1 from rfl, hE, if_neg (by decide), hN, getF']
    refine ⟨hE, ?_⟩
    rw [e2]
    exact ⟨h.q, ho, hfl, h.s, .inr ⟨g0, e, by simp only [fPut_same]; simp [hl]⟩⟩
set_option maxRecDepth 20000 in
set_option maxHeartbeats 16000000 in
theorem fails3_walk (x y : Int) (w : World) : Calls Try.prog 8 #[.int .i64 x, .int .i64 y] w fun e w' => e = .returned (.bool true) ∧ Touch w w' (fun _ => False) := by
  obtain ⟨m, hm, hm1⟩ := modK x 12 (by decide) (by decide)
  obtain ⟨K, hK, hK1⟩ := modK y 15 (by decide) (by decide)
  obtain ⟨n, hn⟩ : ∃ n : Nat, n = m + 1 := ⟨_, rfl⟩
  have hn2 : wrap64 ((m : Int) + 1) = (n : Int) := by unfold wrap64; omega
  have HM := Lib.hid hm
  have HK := Lib.hid hK
  have HN2 := Lib.hid hn2
  have hn12 : 1 ≤ n ∧ n ≤ 12 := by omega
  have hK15 : K < 15 := by omega
  clear hm hK hn2
  go_enter Try.func8, Try.ntmps8
  go_upto_region 2 with (fail)
  rw [HM.out, HK.out, HN2.out]
  clear hn hm1 hK1
  go_wp2_with fail
  refine (dnew_any w 1000 (by decide)).mono ?_
  rintro e w1 ⟨d, h1, rfl, n1⟩
  have HF := Lib.hid (n1.fail n (by omega))
  clear n1
  go_wp2_with fail
  refine HF.out.mono ?_
  rintro e w2 ⟨rfl, h2, n2, -, -, -⟩
  have HD : RowKit.Hid (∃ st, DkN w w2 d h2 st ∧ FSt st 0 n 0) := Lib.hid ⟨_, n2, rfl, rfl, (by show max (n : Int) 0 = n; omega), rfl, .inl ⟨rfl, rfl⟩⟩
  clear n2
  go_wp2_with fail
  go_loopw [6, 23] (fun s6 s23 wr => ∃ (i want : Nat) (h : DkH) (st : DkS), i ≤ K ∧ s23 = .int .i64 i ∧ s6 = .int .i64 want ∧ DkN w wr d h st ∧ FSt st i (n - i) want ∧ want = (if i < n then i else i - 1)) (fun _ s23 _ => K - (RowKit.intOf s23).toNat)
  case atStart =>
    obtain ⟨st, hd, hs⟩ := HD.out
    exact ⟨0, 0, h2, st, Nat.zero_le _, rfl, rfl, hd, hs, by rw [if_pos (by omega)]⟩
  case round =>
    obtain ⟨i, want, h, st, hi, rfl, rfl, hd, hs, hw⟩ := hrel
    have HN := Lib.hid hd
    have HS := Lib.hid hs
    have HW := Lib.hid hw
    have hwl : want ≤ 14 := by split at hw <;> omega
    clear hd hs hw HD HF
    by_cases hlt : i < K
    case neg =>
      obtain rfl : K = i := by omega
      have hlI : ¬ (K : Int) < K := by omega
      have HSZ := Lib.hid (dsize_any wr d h st HN.out.m)
      rw [HS.out.size] at HSZ
      have HOP : RowKit.Hid (∀ W, Touch wr W (fun _ => False) → Calls Try.prog 31 #[.pointer (some ⟨d, 0, none⟩)] W fun e w' => e = .returned (.int .i64 (K : Int)) ∧ W = w') := Lib.hid (fun W t => by
        have := dops_any W d h st (HN.out.m.still t)
        rwa [HS.out.o] at this)
      have hww : ((want : Int) == want) = true := by simp
      have hkk : ((K : Int) == K) = true := by simp
      go_wp2_with (first
        | (go_at_call 30; (with_reducible refine HSZ.out.mono ?_); rintro e w5 ⟨rfl, t5⟩; have HT5 := Lib.hid t5; clear t5)
        | (go_at_call 31; (with_reducible refine (HOP.out _ HT5.out).mono ?_); rintro e w6 ⟨rfl, rfl⟩)
        | (go_at_call 13; (with_reducible refine (awake3 _).mono ?_); rintro e w7 ⟨rfl, t7⟩; have HT7 := Lib.hid ((HN.out.t.trans HT5.out (fun _ _ h => h)).trans t7 (fun _ _ h => h)); clear t7))
      go_ret
      exact ⟨rfl, HT7.out⟩
    case pos =>
      have hlI : (i : Int) < K := by omega
      have hi8 : IntKind.u8.wrap (i : Int) = (i : Int) := by simp [IntKind.wrap, IntKind.bits, IntKind.signed]; omega
      have hwk : wrap64 ((i : Int) + 1) = (i : Int) + 1 := by unfold wrap64; omega
      have hwn : wrap64 ((n : Int) - 1) = ((n - 1 : Nat) : Int) := by unfold wrap64; omega
      have hr1 := lit_row wr [i] #[.int .u8 (i : Nat)] 1 rfl rfl (by intro x hx; rw [List.mem_singleton.1 hx]; omega) (by decide)
      have tt1 := (Touch.refl wr (fun _ => False)).alloc (.cells #[.int .u8 (i : Nat)] 5)
      have HA := Lib.hid ((HN.out.still tt1).app sF sF_sz hr1 (fun x hx => .inr (fun hf => by cases hx; have h1 := HN.out.m.lt _ hf; have h1 : wr.heap.size < wr.heap.size := h1; omega)) (by have := HS.out.len; omega))
      have HI8 := Lib.hid hi8
      have HWK := Lib.hid hwk
      have HWN := Lib.hid hwn
      rw [show ([i] : List Nat).length = 1 from rfl] at HA
      clear hr1 tt1 hi8 hwk hwn
      go_upto_region 8 with (fail)
      have hi8 := HI8.out
      go_wp2_with fail
      clear hi8
      by_cases hin : i = n - 1
      · have hf1 : n - i = 1 := by omega
        have hs1 := HS.out
        rw [hf1] at hs1
        have HST := Lib.hid (fun g => hs1.fault (by omega) i g)
        rw [(HST.out 0).1] at HA
        have hiI : (i : Int) = (n : Int) - 1 := by omega
        have hiB : ((i : Int) == (n : Int) - 1) = true := by simpa using hiI
        have HII := Lib.hid hiI
        have HRL : RowKit.Hid (want = (if i + 1 < n then i + 1 else i + 1 - 1)) := Lib.hid (by have := HW.out; rw [if_pos (by omega)] at this; rw [if_neg (by omega)]; omega)
        have HN0 : RowKit.Hid (0 = n - (i + 1)) := Lib.hid (by omega)
        clear hs1 hf1 hiI hin
        refine HA.out.mono ?_
        rintro e w2 ⟨g, -, rfl, h', n', -, -, -⟩
        have HX : RowKit.Hid (∃ (i' want' : Nat) (h : DkH) (st : DkS), i' ≤ K ∧ Value.int .i64 ((i : Int) + 1) = .int .i64 i' ∧ Value.int .i64 (want : Int) = .int .i64 want' ∧ DkN w w2 d h st ∧ FSt st i' (n - i') want' ∧ want' = (if i' < n then i' else i' - 1)) := Lib.hid ⟨i + 1, want, h', _, by omega, by go_num, rfl, n', by rw [← HN0.out]; exact (HST.out g).2, HRL.out⟩
        clear n'
        go_wp2_with fail
        go_roundw
        · exact HX.out
        · simp only [RowKit.intOf]; omega
      · have hs1 := HS.out
        have HST := Lib.hid (fun g => hs1.more (by omega) (by omega) (by omega) i g)
        rw [(HST.out 0).1] at HA
        have hiI : ¬ (i : Int) = (n : Int) - 1 := by omega
        have hiB : ((i : Int) == (n : Int) - 1) = false := by simpa using hiI
        have HRL : RowKit.Hid (want + 1 = (if i + 1 < n then i + 1 else i + 1 - 1)) := Lib.hid (by have := HW.out; split at this <;> split <;> omega)
        have HN0 : RowKit.Hid (n - i - 1 = n - (i + 1)) := Lib.hid (by omega)
        clear hs1 hiI hin
        refine HA.out.mono ?_
        rintro e w2 ⟨g, -, rfl, h', n', -, -, -⟩
        have HX : RowKit.Hid (∃ (i' want' : Nat) (h : DkH) (st : DkS), i' ≤ K ∧ Value.int .i64 ((i : Int) + 1) = .int .i64 i' ∧ Value.int .i64 ((want : Int) + 1) = .int .i64 want' ∧ DkN w w2 d h st ∧ FSt st i' (n - i') want' ∧ want' = (if i' < n then i' else i' - 1)) := Lib.hid ⟨i + 1, want + 1, h', _, by omega, by go_num, by go_num, n', by rw [← HN0.out]; exact (HST.out g).2, HRL.out⟩
        clear n'
        go_wp2_with fail
        go_roundw
        · exact HX.out
        · simp only [RowKit.intOf]; omega
theorem diskFails_holds : Rows.DiskFailsSaid := by
  refine diskFails.said fun H enc W base v0 v1 d0 d1 p0 p1 h0 h1 => ?_
  obtain ⟨a, rfl, _⟩ := h0.i64 Try.underlying3
  obtain ⟨b, rfl, _⟩ := h1.i64 Try.underlying3
  exact (fails3_walk a b W).mono fun e w' h => ⟨h.1, h.2.below (fun _ _ h => h.elim) (Nat.le_refl _)⟩
end Go.Proofs.Ytmokcfmlolohaaa
