/- MigrateParts answers true for any record, any formats: in two parts it is as at once. No condition. -/
import Derived.Test.YtbklngcocbnijaaMigLaw
import Derived.Test.YtbklngcocbnijaaMigMath
import Derived.Test.YtbklngcocbnijaaRecSame
import Derived.Test.YtbklngcocbnijaaRecMath
import Derived.Test.YtbklngcocbnijaaFrMigrateParts
import Derived.Test.YtbklngcocbnijaaLoadH
import Derived.Deep.DeepCutAuto
import Derived.Deep.RegionHeld3
set_option linter.unusedVariables false
set_option linter.unusedSimpArgs false
namespace Go.Proofs.Ytbklngcocbnijaa
open Go.RowKit

theorem mig_fine (r : RecD) (a : Option Addr) (cap : Nat) (f t : Int) (w : World) (hr : RowK w a r.bs.length cap r.bs) (hl : r.bs.length ≤ 100000) (hb : leadB f t = true) (hm : mayRB r = true) :
    Calls Try.prog 31 #[.agg (rcs r a cap), .int .i64 f, .int .i64 t] w fun e w' => ∃ (a' : Option Addr) (c' : Nat), e = .returned (.tuple #[.agg (rcs (movD r f t) a' c'), .int .i64 0]) ∧ OwnK w' w.heap.size (.slice a' (movD r f t).bs.length c') (movD r f t).bs ∧ Touch w w' (fun _ => False) := by
  have he : migE r f t = 0 := by unfold migE; rw [hb, hm]; rfl
  have hv : migR r f t = movD r f t := by unfold migR; rw [he, if_pos rfl]
  have := mig_any r a cap f t w hr hl
  unfold MigIs at this
  rwa [hv, he] at this
/-- Behind the four migrations. -/
def PartAt (w : World) (B9 : Nat) (r : RecD) (a : Option Addr) (cap : Nat) (p1 : RecD) (a9 : Option Addr) (c9 : Nat) (wx : World) : Prop :=
  wx.heap[B9]? = some (.cells (rcs p1 a9 c9) 29 (0, 0)) ∧ wx.heap[w.heap.size]? = some (.cells (rcs r a cap) 29 (0, 0)) ∧ RowK wx a9 p1.bs.length c9 p1.bs ∧ RowK wx a r.bs.length cap r.bs ∧ Touch w wx (fun _ => False)
theorem movD_less (r : RecD) (f t : Int) : (movD r f t).bs.length ≤ r.bs.length := by
  have h : ∀ q : RecD, (gen1 q).bs = q.bs ∧ (seen0 q).bs = q.bs := fun q => ⟨gen1_bs q, seen0_bs q⟩
  have hp : (plainD r).bs.length ≤ r.bs.length := by
    unfold plainD
    repeat' split
    all_goals simp
  have hi : (inD r f).bs.length ≤ r.bs.length := by
    unfold inD
    split
    · simp only
      split
      · simpa using hp
      · exact hp
    · simp [zeroR]
  unfold movD
  repeat' split
  · rw [(h _).1]; exact hi
  · rw [(h _).2, (h _).1]; exact hi
  · rw [(h _).2]; exact hi
  · exact hi

set_option maxRecDepth 20000 in
set_option maxHeartbeats 16000000 in
theorem parts_walk (r : RecD) (a : Option Addr) (cap : Nat) (f b t : Int) (w : World) (hr : RowK w a r.bs.length cap r.bs) (hf64 : -9223372036854775808 ≤ f ∧ f ≤ 9223372036854775807) (hb64 : -9223372036854775808 ≤ b ∧ b ≤ 9223372036854775807) (ht64 : -9223372036854775808 ≤ t ∧ t ≤ 9223372036854775807) :
    Calls Try.prog 12 #[.agg (rcs r a cap), .int .i64 f, .int .i64 b, .int .i64 t] w fun e w' => e = .returned (.bool true) ∧ Touch w w' (fun _ => False) := by
  obtain ⟨W1, hW1⟩ : ∃ W, w.alloc (.cells (rcs r a cap) 29) = W := ⟨_, rfl⟩
  have t1 : Touch w W1 (fun _ => False) := hW1 ▸ (Touch.refl _ _).alloc _
  have HB : RowKit.Hid (W1.heap[w.heap.size]? = some (.cells (rcs r a cap) 29 (0, 0))) := Lib.hid (hW1 ▸ heap_alloc_new w _)
  have HR := Lib.hid (hr.still t1)
  have HT := Lib.hid t1
  have HIR := Lib.hid infoRec
  have HLL0 : RowKit.Hid (∀ W, Calls Try.prog 29 #[.agg (rcs r a cap)] W fun e w' => e = .returned (.bool (lightM r)) ∧ Touch W w' (fun _ => False)) := Lib.hid (fun W => lightM_any r a cap W)
  have HM0 : RowKit.Hid (∀ W, RowK W a r.bs.length cap r.bs → Calls Try.prog 18 #[.agg (rcs r a cap)] W fun e w' => e = .returned (.bool (mayRB r)) ∧ Touch W w' (fun _ => False)) := Lib.hid (fun W h => mayR_any r a cap W h)
  cases hlb : lightM r with
  | false =>
    have HLL : RowKit.Hid (∀ W, Calls Try.prog 29 #[.agg (rcs r a cap)] W fun e w' => e = .returned (.bool false) ∧ Touch W w' (fun _ => False)) := Lib.hid (hlb ▸ HLL0.out)
    have HM := HM0
    clear hr t1 hlb hf64 hb64 ht64 HLL0
    simp only [rcs] at hW1
    simp only [rcs]
    go_enter Try.func12, Try.ntmps12
    go_wp2_with (first
    | (refine load_rowH 29 (.tmp 4) rfl rfl w.heap.size rfl _ _ _ _ HB.out Try.underlying29 rfl HIR.out ?_)
    | (go_at_call 29; (refine (HLL.out _).mono ?_); rintro e w2 ⟨rfl, t9⟩; (try have HB := Lib.hid (t9.keeps HB.out (fun h => h))); (try have HF9 := Lib.hid (t9.keeps HF9.out (fun h => h))); (try have HF11 := Lib.hid (t9.keeps HF11.out (fun h => h))); (try have HF13 := Lib.hid (t9.keeps HF13.out (fun h => h))); (try have HF15 := Lib.hid (t9.keeps HF15.out (fun h => h))); (try have HR := Lib.hid (HR.out.still t9)); (try have HX9 := Lib.hid (HX9.out.still t9)); (try have HX11 := Lib.hid (HX11.out.still t9)); (try have HX13 := Lib.hid (HX13.out.still t9)); (try have HX15 := Lib.hid (HX15.out.still t9)); have HT := Lib.hid (HT.out.trans t9 (fun _ _ h => h)); clear t9)
    | (go_at_call 30; (with_reducible refine (awake9 _).mono ?_); rintro e w2 ⟨rfl, t9⟩; have HT := Lib.hid (HT.out.trans t9 (fun _ _ h => h)); clear t9)
    | (go_at_call 18; (refine (HM.out _ HR.out).mono ?_); rintro e w2 ⟨rfl, t9⟩; (try have HB := Lib.hid (t9.keeps HB.out (fun h => h))); (try have HF9 := Lib.hid (t9.keeps HF9.out (fun h => h))); (try have HF11 := Lib.hid (t9.keeps HF11.out (fun h => h))); (try have HF13 := Lib.hid (t9.keeps HF13.out (fun h => h))); (try have HF15 := Lib.hid (t9.keeps HF15.out (fun h => h))); (try have HR := Lib.hid (HR.out.still t9)); (try have HX9 := Lib.hid (HX9.out.still t9)); (try have HX11 := Lib.hid (HX11.out.still t9)); (try have HX13 := Lib.hid (HX13.out.still t9)); (try have HX15 := Lib.hid (HX15.out.still t9)); have HT := Lib.hid (HT.out.trans t9 (fun _ _ h => h)); clear t9))
    go_ret
    exact ⟨rfl, HT.out⟩
  | true =>
  have HLL : RowKit.Hid (∀ W, Calls Try.prog 29 #[.agg (rcs r a cap)] W fun e w' => e = .returned (.bool true) ∧ Touch W w' (fun _ => False)) := Lib.hid (hlb ▸ HLL0.out)
  cases hmb : mayRB r with
  | false =>
    have HM : RowKit.Hid (∀ W, RowK W a r.bs.length cap r.bs → Calls Try.prog 18 #[.agg (rcs r a cap)] W fun e w' => e = .returned (.bool false) ∧ Touch W w' (fun _ => False)) := Lib.hid (hmb ▸ HM0.out)
    clear hr t1 hlb hmb hf64 hb64 ht64 HLL0 HM0
    simp only [rcs] at hW1
    simp only [rcs]
    go_enter Try.func12, Try.ntmps12
    go_wp2_with (first
    | (refine load_rowH 29 (.tmp 4) rfl rfl w.heap.size rfl _ _ _ _ HB.out Try.underlying29 rfl HIR.out ?_)
    | (go_at_call 29; (refine (HLL.out _).mono ?_); rintro e w2 ⟨rfl, t9⟩; (try have HB := Lib.hid (t9.keeps HB.out (fun h => h))); (try have HF9 := Lib.hid (t9.keeps HF9.out (fun h => h))); (try have HF11 := Lib.hid (t9.keeps HF11.out (fun h => h))); (try have HF13 := Lib.hid (t9.keeps HF13.out (fun h => h))); (try have HF15 := Lib.hid (t9.keeps HF15.out (fun h => h))); (try have HR := Lib.hid (HR.out.still t9)); (try have HX9 := Lib.hid (HX9.out.still t9)); (try have HX11 := Lib.hid (HX11.out.still t9)); (try have HX13 := Lib.hid (HX13.out.still t9)); (try have HX15 := Lib.hid (HX15.out.still t9)); have HT := Lib.hid (HT.out.trans t9 (fun _ _ h => h)); clear t9)
    | (go_at_call 30; (with_reducible refine (awake9 _).mono ?_); rintro e w2 ⟨rfl, t9⟩; have HT := Lib.hid (HT.out.trans t9 (fun _ _ h => h)); clear t9)
    | (go_at_call 18; (refine (HM.out _ HR.out).mono ?_); rintro e w2 ⟨rfl, t9⟩; (try have HB := Lib.hid (t9.keeps HB.out (fun h => h))); (try have HF9 := Lib.hid (t9.keeps HF9.out (fun h => h))); (try have HF11 := Lib.hid (t9.keeps HF11.out (fun h => h))); (try have HF13 := Lib.hid (t9.keeps HF13.out (fun h => h))); (try have HF15 := Lib.hid (t9.keeps HF15.out (fun h => h))); (try have HR := Lib.hid (HR.out.still t9)); (try have HX9 := Lib.hid (HX9.out.still t9)); (try have HX11 := Lib.hid (HX11.out.still t9)); (try have HX13 := Lib.hid (HX13.out.still t9)); (try have HX15 := Lib.hid (HX15.out.still t9)); have HT := Lib.hid (HT.out.trans t9 (fun _ _ h => h)); clear t9))
    go_ret
    exact ⟨rfl, HT.out⟩
  | true =>
  have HM : RowKit.Hid (∀ W, RowK W a r.bs.length cap r.bs → Calls Try.prog 18 #[.agg (rcs r a cap)] W fun e w' => e = .returned (.bool true) ∧ Touch W w' (fun _ => False)) := Lib.hid (hmb ▸ HM0.out)
  have hl : r.bs.length ≤ 100000 := by have : r.bs.length ≤ 40 := of_decide_eq_true hlb; omega
  obtain ⟨f', hf'⟩ : ∃ f', 1 + (u64N f : Int) % 3 = f' := ⟨_, rfl⟩
  have hf1 : 1 ≤ f' ∧ f' ≤ 3 := by omega
  obtain ⟨B0, hB0⟩ : ∃ B0, (u64N b : Int) % (4 - f') = B0 := ⟨_, rfl⟩
  have hB1 : 0 ≤ B0 ∧ B0 < 4 - f' := ⟨hB0 ▸ Int.emod_nonneg _ (by omega), hB0 ▸ Int.emod_lt_of_pos _ (by omega)⟩
  obtain ⟨b', hb'⟩ : ∃ b', f' + B0 = b' := ⟨_, rfl⟩
  obtain ⟨T0, hT0⟩ : ∃ T0, (u64N t : Int) % (4 - b') = T0 := ⟨_, rfl⟩
  have hT1 : 0 ≤ T0 ∧ T0 < 4 - b' := ⟨hT0 ▸ Int.emod_nonneg _ (by omega), hT0 ▸ Int.emod_lt_of_pos _ (by omega)⟩
  obtain ⟨t', ht'⟩ : ∃ t', b' + T0 = t' := ⟨_, rfl⟩
  have hm2 : (u64N b : Int).tmod (4 - f') = B0 := by rw [Int.tmod_eq_emod_of_nonneg (by omega), hB0]
  have hm3 : (u64N t : Int).tmod (4 - b') = T0 := by rw [Int.tmod_eq_emod_of_nonneg (by omega), hT0]
  have hz2 : ((4 - f' : Int) == 0) = false := beq_eq_false_iff_ne.2 (by omega)
  have hz3 : ((4 - b' : Int) == 0) = false := beq_eq_false_iff_ne.2 (by omega)
  have hw1 := u64N_wrap f
  have hw2 := u64N_wrap b
  have hw3 := u64N_wrap t
  have HV1 := Lib.hid hf'
  have HV2 := Lib.hid hb'
  have HV3 := Lib.hid ht'
  have l1 : leadB f' t' = true := (leadB_iff _ _).2 (by omega)
  have l2 : leadB f' b' = true := (leadB_iff _ _).2 (by omega)
  have l3 : leadB b' t' = true := (leadB_iff _ _).2 (by omega)
  have l4 : leadB f' f' = true := (leadB_iff _ _).2 (by omega)
  have hmm := mov_mov r f' b' t' (by omega) (by omega) (by omega) (by omega)
  have hms := mov_self r f' (by omega) (by omega)
  have hmk := mov_kind r f' t' l1
  have hmt := mov_tuple r f' t' l1
  have hmr := mov_rest r f' t' l1
  have hm1 := mov_may r f' t' l1 hmb
  have hmy := mov_may r f' b' l2 hmb
  have hb1 : 1 ≤ b' ∧ b' ≤ 3 := by omega
  have ht1' : 1 ≤ t' ∧ t' ≤ 3 := by omega
  obtain ⟨p1, hp1⟩ : ∃ p, movD r f' t' = p := ⟨_, rfl⟩
  obtain ⟨p2, hp2⟩ : ∃ p, movD r f' b' = p := ⟨_, rfl⟩
  obtain ⟨p3, hp3⟩ : ∃ p, movD p2 b' t' = p := ⟨_, rfl⟩
  obtain ⟨p4, hp4⟩ : ∃ p, inD r f' = p := ⟨_, rfl⟩
  have q1 : p1.bs.length ≤ 100000 := by have := movD_less r f' t'; rw [hp1] at this; omega
  have q2 : p2.bs.length ≤ 100000 := by have := movD_less r f' b'; rw [hp2] at this; omega
  have q3 : p3.bs.length ≤ 100000 := by have := movD_less p2 b' t'; rw [hp3] at this; omega
  have q4 : p4.bs.length ≤ 100000 := by have := movD_less r f' f'; rw [hms, hp4] at this; omega
  rw [hp1] at hmk hmt hmr hm1 hmm
  rw [hp2] at hmy hmm
  rw [hp3] at hmm
  have KM1 : RowKit.Hid (∀ W, RowK W a r.bs.length cap r.bs → Calls Try.prog 31 #[.agg (rcs r a cap), .int .i64 f', .int .i64 t'] W fun e w' => ∃ (a' : Option Addr) (c' : Nat), e = .returned (.tuple #[.agg (rcs p1 a' c'), .int .i64 0]) ∧ OwnK w' W.heap.size (.slice a' p1.bs.length c') p1.bs ∧ Touch W w' (fun _ => False)) := Lib.hid (fun W h => hp1 ▸ mig_fine r a cap f' t' W h hl l1 hmb)
  have KM2 : RowKit.Hid (∀ W, RowK W a r.bs.length cap r.bs → Calls Try.prog 31 #[.agg (rcs r a cap), .int .i64 f', .int .i64 b'] W fun e w' => ∃ (a' : Option Addr) (c' : Nat), e = .returned (.tuple #[.agg (rcs p2 a' c'), .int .i64 0]) ∧ OwnK w' W.heap.size (.slice a' p2.bs.length c') p2.bs ∧ Touch W w' (fun _ => False)) := Lib.hid (fun W h => hp2 ▸ mig_fine r a cap f' b' W h hl l2 hmb)
  have KM3 : RowKit.Hid (∀ (ax : Option Addr) (cx : Nat) W, RowK W ax p2.bs.length cx p2.bs → Calls Try.prog 31 #[.agg (rcs p2 ax cx), .int .i64 b', .int .i64 t'] W fun e w' => ∃ (a' : Option Addr) (c' : Nat), e = .returned (.tuple #[.agg (rcs p3 a' c'), .int .i64 0]) ∧ OwnK w' W.heap.size (.slice a' p3.bs.length c') p3.bs ∧ Touch W w' (fun _ => False)) := Lib.hid (fun ax cx W h => hp3 ▸ mig_fine p2 ax cx b' t' W h q2 l3 hmy)
  have KM4 : RowKit.Hid (∀ W, RowK W a r.bs.length cap r.bs → Calls Try.prog 31 #[.agg (rcs r a cap), .int .i64 f', .int .i64 f'] W fun e w' => ∃ (a' : Option Addr) (c' : Nat), e = .returned (.tuple #[.agg (rcs p4 a' c'), .int .i64 0]) ∧ OwnK w' W.heap.size (.slice a' p4.bs.length c') p4.bs ∧ Touch W w' (fun _ => False)) := Lib.hid (fun W h => by have := mig_fine r a cap f' f' W h hl l4 hmb; rwa [hms, hp4] at this)
  have KI : RowKit.Hid (∀ W, RowK W a r.bs.length cap r.bs → Calls Try.prog 22 #[.agg (rcs r a cap), .int .i64 f'] W fun e w' => RecIs W w' p4 e) := Lib.hid (fun W h => hp4 ▸ in_any r a cap f' W h hl)
  have KS1 : RowKit.Hid (∀ (a1 : Option Addr) (c1 : Nat) (a2 : Option Addr) (c2 : Nat) (W : World), RowK W a1 p1.bs.length c1 p1.bs → RowK W a2 p3.bs.length c2 p3.bs → Calls Try.prog 20 #[.agg (rcs p1 a1 c1), .agg (rcs p3 a2 c2)] W fun e w' => e = .returned (.bool true) ∧ Touch W w' (fun _ => False)) :=
    Lib.hid (fun a1 c1 a2 c2 W h1 h2 => by have := same_any p1 a1 c1 p3 a2 c2 W h1 q1 h2 q3; rwa [(sameR_iff p1 p3).2 hmm.symm] at this)
  have KS2 : RowKit.Hid (∀ (a1 : Option Addr) (c1 : Nat) (a2 : Option Addr) (c2 : Nat) (W : World), RowK W a1 p4.bs.length c1 p4.bs → RowK W a2 p4.bs.length c2 p4.bs → Calls Try.prog 20 #[.agg (rcs p4 a1 c1), .agg (rcs p4 a2 c2)] W fun e w' => e = .returned (.bool true) ∧ Touch W w' (fun _ => False)) :=
    Lib.hid (fun a1 c1 a2 c2 W h1 h2 => by have := same_any p4 a1 c1 p4 a2 c2 W h1 q4 h2 q4; rwa [(sameR_iff p4 p4).2 rfl] at this)
  have KS3 : RowKit.Hid (r.kind ≠ 1 → r.kind ≠ 3 → ∀ (a1 : Option Addr) (c1 : Nat) (W : World), RowK W a1 p1.bs.length c1 p1.bs → RowK W a r.bs.length cap r.bs → Calls Try.prog 20 #[.agg (rcs p1 a1 c1), .agg (rcs r a cap)] W fun e w' => e = .returned (.bool true) ∧ Touch W w' (fun _ => False)) :=
    Lib.hid (fun n1 n3 a1 c1 W h1 h2 => by have := same_any p1 a1 c1 r a cap W h1 q1 h2 hl; rwa [(sameR_iff p1 r).2 (hmr n1 n3)] at this)
  have KM : RowKit.Hid (∀ (a1 : Option Addr) (c1 : Nat) W, RowK W a1 p1.bs.length c1 p1.bs → Calls Try.prog 18 #[.agg (rcs p1 a1 c1)] W fun e w' => e = .returned (.bool true) ∧ Touch W w' (fun _ => False)) := Lib.hid (fun a1 c1 W h => by have := mayR_any p1 a1 c1 W h; rwa [hm1] at this)
  have HMK := Lib.hid hmk
  have HMT := Lib.hid hmt
  clear hmk hmt hr t1 hlb hmb HLL0 HM0 hl hf' hb' ht' hB0 hT0 l1 l2 l3 l4 hmm hms hmr hm1 hmy hp1 hp2 hp3 hp4 q1 q2 q3 q4
  simp only [rcs] at hW1
  simp only [rcs]
  go_enter Try.func12, Try.ntmps12
  go_upto_region 4 with (first
  | (refine load_rowH 29 (.tmp 4) rfl rfl w.heap.size rfl _ _ _ _ HB.out Try.underlying29 rfl HIR.out ?_)
  | (go_at_call 29; (refine (HLL.out _).mono ?_); rintro e w2 ⟨rfl, t9⟩; (try have HB := Lib.hid (t9.keeps HB.out (fun h => h))); (try have HF9 := Lib.hid (t9.keeps HF9.out (fun h => h))); (try have HF11 := Lib.hid (t9.keeps HF11.out (fun h => h))); (try have HF13 := Lib.hid (t9.keeps HF13.out (fun h => h))); (try have HF15 := Lib.hid (t9.keeps HF15.out (fun h => h))); (try have HR := Lib.hid (HR.out.still t9)); (try have HX9 := Lib.hid (HX9.out.still t9)); (try have HX11 := Lib.hid (HX11.out.still t9)); (try have HX13 := Lib.hid (HX13.out.still t9)); (try have HX15 := Lib.hid (HX15.out.still t9)); have HT := Lib.hid (HT.out.trans t9 (fun _ _ h => h)); clear t9)
  | (go_at_call 30; (with_reducible refine (awake9 _).mono ?_); rintro e w2 ⟨rfl, t9⟩; have HT := Lib.hid (HT.out.trans t9 (fun _ _ h => h)); clear t9)
  | (go_at_call 18; (refine (HM.out _ HR.out).mono ?_); rintro e w2 ⟨rfl, t9⟩; (try have HB := Lib.hid (t9.keeps HB.out (fun h => h))); (try have HF9 := Lib.hid (t9.keeps HF9.out (fun h => h))); (try have HF11 := Lib.hid (t9.keeps HF11.out (fun h => h))); (try have HF13 := Lib.hid (t9.keeps HF13.out (fun h => h))); (try have HF15 := Lib.hid (t9.keeps HF15.out (fun h => h))); (try have HR := Lib.hid (HR.out.still t9)); (try have HX9 := Lib.hid (HX9.out.still t9)); (try have HX11 := Lib.hid (HX11.out.still t9)); (try have HX13 := Lib.hid (HX13.out.still t9)); (try have HX15 := Lib.hid (HX15.out.still t9)); have HT := Lib.hid (HT.out.trans t9 (fun _ _ h => h)); clear t9))
  rw [HV1.out]
  go_upto_region 5 with fail
  rw [HV2.out]
  go_upto_region 6 with fail
  rw [HV3.out]
  clear hw1 hw2 hw3 hm2 hm3 hz2 hz3
  go_upto_region 10 with (first
  | (refine load_rowH 29 (.tmp 4) rfl rfl w.heap.size rfl _ _ _ _ HB.out Try.underlying29 rfl HIR.out ?_)
  | (refine load_rowH 29 (.tmp 11) rfl rfl w11.heap.size rfl _ _ _ _ HF11.out Try.underlying29 rfl HIR.out ?_)
  | (go_at_call 31; (with_reducible refine (KM1.out _ HR.out).mono ?_); rintro e w9 ⟨a9, c9, rfl, ho, t8⟩; obtain ⟨v9, hv9⟩ : ∃ W, w9.alloc (.cells (rcs p1 a9 c9) 29) = W := ⟨_, rfl⟩; have tA : Touch w9 v9 (fun _ => False) := hv9 ▸ (Touch.refl w9 (fun _ => False)).alloc (.cells (rcs p1 a9 c9) 29); have t9 := t8.trans tA (fun _ _ h => h); (try have HB := Lib.hid (t9.keeps HB.out (fun h => h))); (try have HF9 := Lib.hid (t9.keeps HF9.out (fun h => h))); (try have HF11 := Lib.hid (t9.keeps HF11.out (fun h => h))); (try have HF13 := Lib.hid (t9.keeps HF13.out (fun h => h))); (try have HF15 := Lib.hid (t9.keeps HF15.out (fun h => h))); (try have HR := Lib.hid (HR.out.still t9)); (try have HX9 := Lib.hid (HX9.out.still t9)); (try have HX11 := Lib.hid (HX11.out.still t9)); (try have HX13 := Lib.hid (HX13.out.still t9)); (try have HX15 := Lib.hid (HX15.out.still t9)); have HT := Lib.hid (HT.out.trans t9 (fun _ _ h => h)); have HF9 : RowKit.Hid (v9.heap[w9.heap.size]? = some (.cells (rcs p1 a9 c9) 29 (0, 0))) := Lib.hid (hv9 ▸ heap_alloc_new w9 _); have HX9 := Lib.hid (ho.row.2.1.still tA); clear t8 t9 tA ho; simp only [rcs] at hv9; simp only [rcs])
  | (go_at_call 31; (with_reducible refine (KM2.out _ HR.out).mono ?_); rintro e w11 ⟨a11, c11, rfl, ho, t8⟩; obtain ⟨v11, hv11⟩ : ∃ W, w11.alloc (.cells (rcs p2 a11 c11) 29) = W := ⟨_, rfl⟩; have tA : Touch w11 v11 (fun _ => False) := hv11 ▸ (Touch.refl w11 (fun _ => False)).alloc (.cells (rcs p2 a11 c11) 29); have t9 := t8.trans tA (fun _ _ h => h); (try have HB := Lib.hid (t9.keeps HB.out (fun h => h))); (try have HF9 := Lib.hid (t9.keeps HF9.out (fun h => h))); (try have HF11 := Lib.hid (t9.keeps HF11.out (fun h => h))); (try have HF13 := Lib.hid (t9.keeps HF13.out (fun h => h))); (try have HF15 := Lib.hid (t9.keeps HF15.out (fun h => h))); (try have HR := Lib.hid (HR.out.still t9)); (try have HX9 := Lib.hid (HX9.out.still t9)); (try have HX11 := Lib.hid (HX11.out.still t9)); (try have HX13 := Lib.hid (HX13.out.still t9)); (try have HX15 := Lib.hid (HX15.out.still t9)); have HT := Lib.hid (HT.out.trans t9 (fun _ _ h => h)); have HF11 : RowKit.Hid (v11.heap[w11.heap.size]? = some (.cells (rcs p2 a11 c11) 29 (0, 0))) := Lib.hid (hv11 ▸ heap_alloc_new w11 _); have HX11 := Lib.hid (ho.row.2.1.still tA); clear t8 t9 tA ho; simp only [rcs] at hv11; simp only [rcs])
  | (go_at_call 31; (with_reducible refine (KM3.out _ _ _ HX11.out).mono ?_); rintro e w13 ⟨a13, c13, rfl, ho, t8⟩; obtain ⟨v13, hv13⟩ : ∃ W, w13.alloc (.cells (rcs p3 a13 c13) 29) = W := ⟨_, rfl⟩; have tA : Touch w13 v13 (fun _ => False) := hv13 ▸ (Touch.refl w13 (fun _ => False)).alloc (.cells (rcs p3 a13 c13) 29); have t9 := t8.trans tA (fun _ _ h => h); (try have HB := Lib.hid (t9.keeps HB.out (fun h => h))); (try have HF9 := Lib.hid (t9.keeps HF9.out (fun h => h))); (try have HF11 := Lib.hid (t9.keeps HF11.out (fun h => h))); (try have HF13 := Lib.hid (t9.keeps HF13.out (fun h => h))); (try have HF15 := Lib.hid (t9.keeps HF15.out (fun h => h))); (try have HR := Lib.hid (HR.out.still t9)); (try have HX9 := Lib.hid (HX9.out.still t9)); (try have HX11 := Lib.hid (HX11.out.still t9)); (try have HX13 := Lib.hid (HX13.out.still t9)); (try have HX15 := Lib.hid (HX15.out.still t9)); have HT := Lib.hid (HT.out.trans t9 (fun _ _ h => h)); have HF13 : RowKit.Hid (v13.heap[w13.heap.size]? = some (.cells (rcs p3 a13 c13) 29 (0, 0))) := Lib.hid (hv13 ▸ heap_alloc_new w13 _); have HX13 := Lib.hid (ho.row.2.1.still tA); clear t8 t9 tA ho; simp only [rcs] at hv13; simp only [rcs])
  | (go_at_call 31; (with_reducible refine (KM4.out _ HR.out).mono ?_); rintro e w15 ⟨a15, c15, rfl, ho, t8⟩; obtain ⟨v15, hv15⟩ : ∃ W, w15.alloc (.cells (rcs p4 a15 c15) 29) = W := ⟨_, rfl⟩; have tA : Touch w15 v15 (fun _ => False) := hv15 ▸ (Touch.refl w15 (fun _ => False)).alloc (.cells (rcs p4 a15 c15) 29); have t9 := t8.trans tA (fun _ _ h => h); (try have HB := Lib.hid (t9.keeps HB.out (fun h => h))); (try have HF9 := Lib.hid (t9.keeps HF9.out (fun h => h))); (try have HF11 := Lib.hid (t9.keeps HF11.out (fun h => h))); (try have HF13 := Lib.hid (t9.keeps HF13.out (fun h => h))); (try have HF15 := Lib.hid (t9.keeps HF15.out (fun h => h))); (try have HR := Lib.hid (HR.out.still t9)); (try have HX9 := Lib.hid (HX9.out.still t9)); (try have HX11 := Lib.hid (HX11.out.still t9)); (try have HX13 := Lib.hid (HX13.out.still t9)); (try have HX15 := Lib.hid (HX15.out.still t9)); have HT := Lib.hid (HT.out.trans t9 (fun _ _ h => h)); have HF15 : RowKit.Hid (v15.heap[w15.heap.size]? = some (.cells (rcs p4 a15 c15) 29 (0, 0))) := Lib.hid (hv15 ▸ heap_alloc_new w15 _); have HX15 := Lib.hid (ho.row.2.1.still tA); clear t8 t9 tA ho; simp only [rcs] at hv15; simp only [rcs]))
  go_cut [104] (fun x wx => x = .bool false ∧ PartAt w w9.heap.size r a cap p1 a9 c9 wx)
  case first =>
    go_wp2_with fail
    have td := (Touch.refl v15 (fun _ => False)).drew
    have t9 : Touch v15 v15.drew (fun _ => False) := td
    (try have HB := Lib.hid (t9.keeps HB.out (fun h => h))); (try have HF9 := Lib.hid (t9.keeps HF9.out (fun h => h))); (try have HF11 := Lib.hid (t9.keeps HF11.out (fun h => h))); (try have HF13 := Lib.hid (t9.keeps HF13.out (fun h => h))); (try have HF15 := Lib.hid (t9.keeps HF15.out (fun h => h))); (try have HR := Lib.hid (HR.out.still t9)); (try have HX9 := Lib.hid (HX9.out.still t9)); (try have HX11 := Lib.hid (HX11.out.still t9)); (try have HX13 := Lib.hid (HX13.out.still t9)); (try have HX15 := Lib.hid (HX15.out.still t9)); have HT := Lib.hid (HT.out.trans t9 (fun _ _ h => h))
    clear td t9 KM1 KM2 KM3 KM4 HLL HM
    go_region_held3 (fun w' => (w'.cell? ⟨w9.heap.size, 0, none⟩ = some (.int .i64 p1.kind) ∧ w'.cell? ⟨w9.heap.size, 1, none⟩ = some (.int .u32 p1.t.src) ∧ w'.cell? ⟨w9.heap.size, 2, none⟩ = some (.int .u32 p1.t.dst) ∧ w'.cell? ⟨w9.heap.size, 3, none⟩ = some (.int .i64 p1.t.proto) ∧ w'.cell? ⟨w9.heap.size, 4, none⟩ = some (.int .i64 p1.t.sport) ∧ w'.cell? ⟨w9.heap.size, 5, none⟩ = some (.int .i64 p1.t.dport) ∧ w'.cell? ⟨w9.heap.size, 6, none⟩ = some (.int .i64 p1.fb) ∧ w'.cell? ⟨w9.heap.size, 7, none⟩ = some (.int .i64 p1.fg) ∧ w'.cell? ⟨w9.heap.size, 8, none⟩ = some (.int .i64 p1.fs) ∧ w'.cell? ⟨w9.heap.size, 9, none⟩ = some (.int .i64 p1.gen) ∧ w'.cell? ⟨w9.heap.size, 10, none⟩ = some (.slice a9 p1.bs.length c9) ∧ w'.cell? ⟨w9.heap.size, 11, none⟩ = some (.int .i64 p1.be) ∧ w'.cell? ⟨w9.heap.size, 12, none⟩ = some (.int .i64 p1.un) ∧ w'.cell? ⟨w9.heap.size, 13, none⟩ = some (.int .i64 p1.ct)) ∧ (w'.cell? ⟨w13.heap.size, 0, none⟩ = some (.int .i64 p3.kind) ∧ w'.cell? ⟨w13.heap.size, 1, none⟩ = some (.int .u32 p3.t.src) ∧ w'.cell? ⟨w13.heap.size, 2, none⟩ = some (.int .u32 p3.t.dst) ∧ w'.cell? ⟨w13.heap.size, 3, none⟩ = some (.int .i64 p3.t.proto) ∧ w'.cell? ⟨w13.heap.size, 4, none⟩ = some (.int .i64 p3.t.sport) ∧ w'.cell? ⟨w13.heap.size, 5, none⟩ = some (.int .i64 p3.t.dport) ∧ w'.cell? ⟨w13.heap.size, 6, none⟩ = some (.int .i64 p3.fb) ∧ w'.cell? ⟨w13.heap.size, 7, none⟩ = some (.int .i64 p3.fg) ∧ w'.cell? ⟨w13.heap.size, 8, none⟩ = some (.int .i64 p3.fs) ∧ w'.cell? ⟨w13.heap.size, 9, none⟩ = some (.int .i64 p3.gen) ∧ w'.cell? ⟨w13.heap.size, 10, none⟩ = some (.slice a13 p3.bs.length c13) ∧ w'.cell? ⟨w13.heap.size, 11, none⟩ = some (.int .i64 p3.be) ∧ w'.cell? ⟨w13.heap.size, 12, none⟩ = some (.int .i64 p3.un) ∧ w'.cell? ⟨w13.heap.size, 13, none⟩ = some (.int .i64 p3.ct)) ∧ (w'.cell? ⟨w15.heap.size, 0, none⟩ = some (.int .i64 p4.kind) ∧ w'.cell? ⟨w15.heap.size, 1, none⟩ = some (.int .u32 p4.t.src) ∧ w'.cell? ⟨w15.heap.size, 2, none⟩ = some (.int .u32 p4.t.dst) ∧ w'.cell? ⟨w15.heap.size, 3, none⟩ = some (.int .i64 p4.t.proto) ∧ w'.cell? ⟨w15.heap.size, 4, none⟩ = some (.int .i64 p4.t.sport) ∧ w'.cell? ⟨w15.heap.size, 5, none⟩ = some (.int .i64 p4.t.dport) ∧ w'.cell? ⟨w15.heap.size, 6, none⟩ = some (.int .i64 p4.fb) ∧ w'.cell? ⟨w15.heap.size, 7, none⟩ = some (.int .i64 p4.fg) ∧ w'.cell? ⟨w15.heap.size, 8, none⟩ = some (.int .i64 p4.fs) ∧ w'.cell? ⟨w15.heap.size, 9, none⟩ = some (.int .i64 p4.gen) ∧ w'.cell? ⟨w15.heap.size, 10, none⟩ = some (.slice a15 p4.bs.length c15) ∧ w'.cell? ⟨w15.heap.size, 11, none⟩ = some (.int .i64 p4.be) ∧ w'.cell? ⟨w15.heap.size, 12, none⟩ = some (.int .i64 p4.un) ∧ w'.cell? ⟨w15.heap.size, 13, none⟩ = some (.int .i64 p4.ct)) ∧ (w'.cell? ⟨w.heap.size, 0, none⟩ = some (.int .i64 r.kind) ∧ w'.cell? ⟨w.heap.size, 1, none⟩ = some (.int .u32 r.t.src) ∧ w'.cell? ⟨w.heap.size, 2, none⟩ = some (.int .u32 r.t.dst) ∧ w'.cell? ⟨w.heap.size, 3, none⟩ = some (.int .i64 r.t.proto) ∧ w'.cell? ⟨w.heap.size, 4, none⟩ = some (.int .i64 r.t.sport) ∧ w'.cell? ⟨w.heap.size, 5, none⟩ = some (.int .i64 r.t.dport) ∧ w'.cell? ⟨w.heap.size, 6, none⟩ = some (.int .i64 r.fb) ∧ w'.cell? ⟨w.heap.size, 7, none⟩ = some (.int .i64 r.fg) ∧ w'.cell? ⟨w.heap.size, 8, none⟩ = some (.int .i64 r.fs) ∧ w'.cell? ⟨w.heap.size, 9, none⟩ = some (.int .i64 r.gen) ∧ w'.cell? ⟨w.heap.size, 10, none⟩ = some (.slice a r.bs.length cap) ∧ w'.cell? ⟨w.heap.size, 11, none⟩ = some (.int .i64 r.be) ∧ w'.cell? ⟨w.heap.size, 12, none⟩ = some (.int .i64 r.un) ∧ w'.cell? ⟨w.heap.size, 13, none⟩ = some (.int .i64 r.ct)))
      (first | (with_reducible exact ⟨rcells_of HF9.out, rcells_of HF13.out, rcells_of HF15.out, rcells_of HB.out⟩) | go_keep)
      (first
      | (go_at_call 22; refine (KI.out _ HR.out).mono ?_; rintro e w20 ⟨a20, c20, rfl, ho, t9⟩; (try have HB := Lib.hid (t9.keeps HB.out (fun h => h))); (try have HF9 := Lib.hid (t9.keeps HF9.out (fun h => h))); (try have HF11 := Lib.hid (t9.keeps HF11.out (fun h => h))); (try have HF13 := Lib.hid (t9.keeps HF13.out (fun h => h))); (try have HF15 := Lib.hid (t9.keeps HF15.out (fun h => h))); (try have HR := Lib.hid (HR.out.still t9)); (try have HX9 := Lib.hid (HX9.out.still t9)); (try have HX11 := Lib.hid (HX11.out.still t9)); (try have HX13 := Lib.hid (HX13.out.still t9)); (try have HX15 := Lib.hid (HX15.out.still t9)); have HT := Lib.hid (HT.out.trans t9 (fun _ _ h => h)); have HX20 := Lib.hid ho.row.2.1; clear t9 ho)
      | (have _u := HX20; go_at_call 20; refine (KS2.out _ _ _ _ _ HX15.out HX20.out).mono ?_; rintro e w21 ⟨rfl, t9⟩; (try have HB := Lib.hid (t9.keeps HB.out (fun h => h))); (try have HF9 := Lib.hid (t9.keeps HF9.out (fun h => h))); (try have HF11 := Lib.hid (t9.keeps HF11.out (fun h => h))); (try have HF13 := Lib.hid (t9.keeps HF13.out (fun h => h))); (try have HF15 := Lib.hid (t9.keeps HF15.out (fun h => h))); (try have HR := Lib.hid (HR.out.still t9)); (try have HX9 := Lib.hid (HX9.out.still t9)); (try have HX11 := Lib.hid (HX11.out.still t9)); (try have HX13 := Lib.hid (HX13.out.still t9)); (try have HX15 := Lib.hid (HX15.out.still t9)); have HT := Lib.hid (HT.out.trans t9 (fun _ _ h => h)); clear t9)
      | (go_at_call 20; refine (KS1.out _ _ _ _ _ HX9.out HX13.out).mono ?_; rintro e w19 ⟨rfl, t9⟩; (try have HB := Lib.hid (t9.keeps HB.out (fun h => h))); (try have HF9 := Lib.hid (t9.keeps HF9.out (fun h => h))); (try have HF11 := Lib.hid (t9.keeps HF11.out (fun h => h))); (try have HF13 := Lib.hid (t9.keeps HF13.out (fun h => h))); (try have HF15 := Lib.hid (t9.keeps HF15.out (fun h => h))); (try have HR := Lib.hid (HR.out.still t9)); (try have HX9 := Lib.hid (HX9.out.still t9)); (try have HX11 := Lib.hid (HX11.out.still t9)); (try have HX13 := Lib.hid (HX13.out.still t9)); (try have HX15 := Lib.hid (HX15.out.still t9)); have HT := Lib.hid (HT.out.trans t9 (fun _ _ h => h)); clear t9))
    all_goals (go_wp2_with fail; go_meet; exact ⟨rfl, HF9.out, HB.out, HX9.out, HR.out, HT.out⟩)
  case rest =>
  obtain ⟨rfl, hp1, hp2, hp3, hp4, hp5⟩ := hcut
  clear HB HR HT HF9 HX9 HF11 HX11 HF13 HX13 HF15 HX15 HLL HM KM1 KM2 KM3 KM4 hv9 hv11 hv13 hv15 hW1 HV1 HV2 HV3 HMK
  have HF9 := Lib.hid hp1
  have HB := Lib.hid hp2
  have HX9 := Lib.hid hp3
  have HR := Lib.hid hp4
  have HT := Lib.hid hp5
  clear hp1 hp2 hp3 hp4 hp5
  obtain ⟨k0, k1, k2, k3, k4, k5, k6, k7, k8, k9, k10, k11, k12, k13⟩ := rcells_of HB.out
  obtain ⟨j0, j1, j2, j3, j4, j5, j6, j7, j8, j9, j10, j11, j12, j13⟩ := rcells_of HF9.out
  clear KS1 KS2 KI k7 k8 k9 k10 k11 k12 k13 j7 j8 j9 j10 j11 j12 j13
  by_cases h1 : r.kind = 1
  · obtain ⟨e1, e2⟩ := HMT.out h1
    rw [e1] at j1 j2 j3 j4 j5
    rw [e2] at j6
    have b1 : (r.kind == 1) = true := beq_iff_eq.2 h1
    have b2 : (r.kind != 1) = false := by rw [bne, b1]; rfl
    clear h1 e1 e2 KS3
    go_upto_region 16 with fail
    go_wp2_with (first
      | (refine wpList_load_row rfl 29 (.tmp 9) rfl w9.heap.size rfl _ _ _ _ HF9.out Try.underlying29 rfl HIR.out ?_)
      | (go_at_call 18; (with_reducible refine (KM.out _ _ _ HX9.out).mono ?_); rintro e w23 ⟨rfl, t9⟩; (try have HB := Lib.hid (t9.keeps HB.out (fun h => h))); (try have HF9 := Lib.hid (t9.keeps HF9.out (fun h => h))); (try have HF11 := Lib.hid (t9.keeps HF11.out (fun h => h))); (try have HF13 := Lib.hid (t9.keeps HF13.out (fun h => h))); (try have HF15 := Lib.hid (t9.keeps HF15.out (fun h => h))); (try have HR := Lib.hid (HR.out.still t9)); (try have HX9 := Lib.hid (HX9.out.still t9)); (try have HX11 := Lib.hid (HX11.out.still t9)); (try have HX13 := Lib.hid (HX13.out.still t9)); (try have HX15 := Lib.hid (HX15.out.still t9)); have HT := Lib.hid (HT.out.trans t9 (fun _ _ h => h)); clear t9)
      | (go_at_call 30; (with_reducible refine (awake9 _).mono ?_); rintro e w24 ⟨rfl, t9⟩; have HT := Lib.hid (HT.out.trans t9 (fun _ _ h => h)); clear t9))
    go_ret
    exact ⟨rfl, HT.out⟩
  by_cases h3 : r.kind = 3
  · have b1 : (r.kind == 1) = false := beq_eq_false_iff_ne.2 h1
    have b2 : (r.kind != 1) = true := bne_iff_ne.2 h1
    have b3 : (r.kind == 3) = true := beq_iff_eq.2 h3
    have b4 : (r.kind != 3) = false := by rw [bne, b3]; rfl
    clear h1 h3 KS3
    go_upto_region 16 with fail
    go_wp2_with (first
      | (refine wpList_load_row rfl 29 (.tmp 9) rfl w9.heap.size rfl _ _ _ _ HF9.out Try.underlying29 rfl HIR.out ?_)
      | (go_at_call 18; (with_reducible refine (KM.out _ _ _ HX9.out).mono ?_); rintro e w23 ⟨rfl, t9⟩; (try have HB := Lib.hid (t9.keeps HB.out (fun h => h))); (try have HF9 := Lib.hid (t9.keeps HF9.out (fun h => h))); (try have HF11 := Lib.hid (t9.keeps HF11.out (fun h => h))); (try have HF13 := Lib.hid (t9.keeps HF13.out (fun h => h))); (try have HF15 := Lib.hid (t9.keeps HF15.out (fun h => h))); (try have HR := Lib.hid (HR.out.still t9)); (try have HX9 := Lib.hid (HX9.out.still t9)); (try have HX11 := Lib.hid (HX11.out.still t9)); (try have HX13 := Lib.hid (HX13.out.still t9)); (try have HX15 := Lib.hid (HX15.out.still t9)); have HT := Lib.hid (HT.out.trans t9 (fun _ _ h => h)); clear t9)
      | (go_at_call 30; (with_reducible refine (awake9 _).mono ?_); rintro e w24 ⟨rfl, t9⟩; have HT := Lib.hid (HT.out.trans t9 (fun _ _ h => h)); clear t9))
    go_ret
    exact ⟨rfl, HT.out⟩
  · have b1 : (r.kind == 1) = false := beq_eq_false_iff_ne.2 h1
    have b2 : (r.kind != 1) = true := bne_iff_ne.2 h1
    have b4 : (r.kind != 3) = true := bne_iff_ne.2 h3
    have KSX := Lib.hid (fun (a1 : Option Addr) (c1 : Nat) (W : World) (x1 : RowK W a1 p1.bs.length c1 p1.bs) (x2 : RowK W a r.bs.length cap r.bs) => KS3.out h1 h3 a1 c1 W x1 x2)
    clear h1 h3 KS3
    go_upto_region 14 with fail
    go_upto_region 16 with (first
      | (refine load_rowH 29 (.tmp 9) rfl rfl w9.heap.size rfl _ _ _ _ HF9.out Try.underlying29 rfl HIR.out ?_)
      | (refine load_rowH 29 (.tmp 4) rfl rfl w.heap.size rfl _ _ _ _ HB.out Try.underlying29 rfl HIR.out ?_)
      | (go_at_call 20; (with_reducible refine (KSX.out _ _ _ HX9.out HR.out).mono ?_); rintro e w22 ⟨rfl, t9⟩; (try have HB := Lib.hid (t9.keeps HB.out (fun h => h))); (try have HF9 := Lib.hid (t9.keeps HF9.out (fun h => h))); (try have HF11 := Lib.hid (t9.keeps HF11.out (fun h => h))); (try have HF13 := Lib.hid (t9.keeps HF13.out (fun h => h))); (try have HF15 := Lib.hid (t9.keeps HF15.out (fun h => h))); (try have HR := Lib.hid (HR.out.still t9)); (try have HX9 := Lib.hid (HX9.out.still t9)); (try have HX11 := Lib.hid (HX11.out.still t9)); (try have HX13 := Lib.hid (HX13.out.still t9)); (try have HX15 := Lib.hid (HX15.out.still t9)); have HT := Lib.hid (HT.out.trans t9 (fun _ _ h => h)); clear t9))
    go_wp2_with (first
      | (refine wpList_load_row rfl 29 (.tmp 9) rfl w9.heap.size rfl _ _ _ _ HF9.out Try.underlying29 rfl HIR.out ?_)
      | (go_at_call 18; (with_reducible refine (KM.out _ _ _ HX9.out).mono ?_); rintro e w23 ⟨rfl, t9⟩; (try have HB := Lib.hid (t9.keeps HB.out (fun h => h))); (try have HF9 := Lib.hid (t9.keeps HF9.out (fun h => h))); (try have HF11 := Lib.hid (t9.keeps HF11.out (fun h => h))); (try have HF13 := Lib.hid (t9.keeps HF13.out (fun h => h))); (try have HF15 := Lib.hid (t9.keeps HF15.out (fun h => h))); (try have HR := Lib.hid (HR.out.still t9)); (try have HX9 := Lib.hid (HX9.out.still t9)); (try have HX11 := Lib.hid (HX11.out.still t9)); (try have HX13 := Lib.hid (HX13.out.still t9)); (try have HX15 := Lib.hid (HX15.out.still t9)); have HT := Lib.hid (HT.out.trans t9 (fun _ _ h => h)); clear t9)
      | (go_at_call 30; (with_reducible refine (awake9 _).mono ?_); rintro e w24 ⟨rfl, t9⟩; have HT := Lib.hid (HT.out.trans t9 (fun _ _ h => h)); clear t9))
    go_ret
    exact ⟨rfl, HT.out⟩
theorem migrateParts_holds : Rows.MigratePartsSaid := by
  refine migrateParts.said fun H enc W base v0 v1 v2 v3 d0 d1 d2 d3 p0 p1 p2 p3 h0 h1 h2 h3 => ?_
  obtain ⟨r, a, cap, rfl, ok, hr⟩ := h0.recD
  obtain ⟨f, rfl, f1, f2, _⟩ := h1.i64 Try.underlying3
  obtain ⟨b, rfl, b1, b2, _⟩ := h2.i64 Try.underlying3
  obtain ⟨t, rfl, t1, t2, _⟩ := h3.i64 Try.underlying3
  exact (parts_walk r a cap f b t W hr ⟨f1, f2⟩ ⟨b1, b2⟩ ⟨t1, t2⟩).mono fun e w' h => ⟨h.1, h.2.under (Nat.le_refl _)⟩
end Go.Proofs.Ytbklngcocbnijaa
