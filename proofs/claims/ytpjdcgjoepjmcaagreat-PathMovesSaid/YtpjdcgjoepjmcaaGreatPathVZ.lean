/- As many flows as may be: pure facts, and contracts of the law's calls. -/
import Derived.Test.YtpjdcgjoepjmcaaGreatPathWZ
set_option linter.unusedVariables false
set_option linter.unusedSimpArgs false
namespace Go.Proofs.YtpjdcgjoepjmcaaGreat
open Go.RowKit

def kN (i : Nat) : TupD := ⟨(i : Int), 0, 6, 0, 0⟩
def bk1 : BkD := ⟨1, 1, 1⟩
def fN (i : Nat) : FlD := ⟨kN i, 1, 1, 0⟩
theorem gmay1 : gmay [bk1] = true := by decide +kernel
theorem kN_ok (i : Nat) (hi : i < 1000) : TupOk (kN i) := by
  have z : (0 : Int) ≤ 4294967295 := by decide
  have z1 : (-9223372036854775808 : Int) ≤ 0 ∧ (0 : Int) ≤ 9223372036854775807 := by decide
  have z2 : (-9223372036854775808 : Int) ≤ 6 ∧ (6 : Int) ≤ 9223372036854775807 := by decide
  have z3 : (0 : Int) ≤ (i : Int) := by omega
  have z4 : (i : Int) ≤ 4294967295 := by omega
  exact ⟨⟨z3, z4⟩, ⟨Int.le_refl 0, z⟩, z2, z1, z1⟩
theorem kN_may (i : Nat) : mayTB (kN i) = true := by
  have z : (0 : Int) ≤ 65535 := by decide
  exact (mayTB_iff _).2 ⟨.inl rfl, ⟨Int.le_refl 0, z⟩, Int.le_refl 0, z⟩
theorem kN_inj {i j : Nat} (h : kN i = kN j) : i = j := by
  have := congrArg TupD.src h
  simp only [kN] at this
  omega
theorem fN_may (i : Nat) : mayFB (fN i) = true := by
  unfold mayFB
  rw [show mayTB (fN i).t = true from kN_may i, Bool.true_and]
  have z1 : (0 : Int) ≤ 1 ∧ (1 : Int) ≤ 65535 := by decide
  have z2 : (0 : Int) ≤ 1 ∧ (1 : Int) ≤ 1000000 := by decide
  have z3 : (0 : Int) ≤ 0 ∧ (0 : Int) ≤ 1099511627776 := by decide
  unfold rngF
  exact decide_eq_true ⟨z1, z2, z3⟩
structure RM (M : List FlD) (c : Nat) : Prop where
  len : M.length = c
  has : ∀ j : Nat, hasF M (kN j) = decide (j < c)
theorem RM.perm {M M' : List FlD} {c : Nat} (p : M.Perm M') (r : RM M' c) : RM M c := ⟨p.length_eq.trans r.len, fun j => (hasF_perm p _).trans (r.has j)⟩
theorem RM.zero : RM [] 0 := ⟨rfl, fun j => by simp [hasF]⟩
theorem room_step {M : List FlD} {c m i : Nat} (r : RM M c) (hc : c = min i m) :
    keepR M m (fN i) false = (if i < m then [recF 1 (fN i)] else []) ∧ RM (keepM M m (fN i) false) (min (i + 1) m) := by
  have hh : hasF M (fN i).t = false := by
    rw [show hasF M (fN i).t = decide (i < c) from r.has i]
    exact decide_eq_false (by omega)
  have hp : putB M m (fN i) = decide (i < m) := by
    unfold putB
    rw [fN_may, hh, r.len, Bool.true_and, Bool.false_or, Bool.eq_iff_iff, decide_eq_true_iff, decide_eq_true_iff]
    omega
  have hd : delF M (fN i).t = M := delF_none (fun h => by rw [← hasF_iff, hh] at h; cases h)
  unfold keepR keepM
  simp only [Bool.false_eq_true, if_false, hh, Bool.false_and]
  unfold putF
  rw [hp]
  by_cases hi : i < m
  · rw [decide_eq_true hi]
    simp only [if_true, if_pos hi]
    refine ⟨trivial, ?_⟩
    rw [hd]
    refine ⟨by simp only [List.length_cons, r.len]; omega, fun j => ?_⟩
    have : hasF (fN i :: M) (kN j) = (decide (kN i = kN j) || hasF M (kN j)) := rfl
    rw [this, r.has j, Bool.eq_iff_iff, Bool.or_eq_true, decide_eq_true_iff, decide_eq_true_iff, decide_eq_true_iff]
    constructor
    · rintro (h | h)
      · have := kN_inj h; omega
      · omega
    · intro h
      by_cases hj : j = i
      · exact .inl (by rw [hj])
      · exact .inr (by omega)
  · rw [decide_eq_false hi]
    simp only [Bool.false_eq_true, if_false, if_neg hi]
    exact ⟨trivial, by rw [show min (i + 1) m = c by omega]; exact r⟩
theorem room_end {M : List FlD} {c m : Nat} (r : RM M c) (hc : 0 < c) (hc2 : c ≤ 99) (hn : (M.map FlD.t).Nodup) :
    keepR M m (fN 0) true = [recF 2 ⟨kN 0, 0, 0, 0⟩] ∧ (keepM M m (fN 0) true).length = c - 1 ∧ hasF (keepM M m (fN 0) true) (kN 99) = false := by
  have hh : hasF M (fN 0).t = true := by
    rw [show hasF M (fN 0).t = decide (0 < c) from r.has 0]
    exact decide_eq_true hc
  have hl := delF_len hn (fN 0).t
  rw [hh] at hl
  unfold keepR keepM
  simp only [if_true, hh] at hl ⊢
  refine ⟨rfl, by have := r.len; omega, ?_⟩
  rw [Bool.eq_false_iff]
  intro h
  rw [hasF_iff] at h
  obtain ⟨f, hf, he⟩ := List.mem_map.1 h
  have h2 : hasF M (kN 99) = true := (hasF_iff _ _).2 (List.mem_map.2 ⟨f, (List.mem_filter.1 hf).1, he⟩)
  rw [r.has 99] at h2
  have := of_decide_eq_true h2
  omega
theorem room_last {M : List FlD} {m : Nat} (h : hasF M (kN 99) = false) (hl : M.length < m) : keepR M m (fN 99) false = [recF 1 (fN 99)] := by
  have hh : hasF M (fN 99).t = false := h
  have hp : putB M m (fN 99) = true := by
    unfold putB
    rw [fN_may, hh, Bool.true_and, Bool.false_or, decide_eq_true_iff]
    omega
  unfold keepR
  simp only [Bool.false_eq_true, if_false, hh, Bool.false_and, hp, if_true]
theorem modN (x m : Int) (h0 : 0 < m) (h1 : m ≤ 1000) : ∃ N : Nat, wrap64 ((IntKind.u64.wrap x).tmod m) = (N : Int) ∧ (N : Int) < m := by
  have hu : 0 ≤ IntKind.u64.wrap x := by simp only [IntKind.wrap_u64]; omega
  have h2 : (IntKind.u64.wrap x).tmod m = (IntKind.u64.wrap x) % m := Int.tmod_eq_emod_of_nonneg hu
  have h3 := Int.emod_nonneg (IntKind.u64.wrap x) (show m ≠ 0 by omega)
  have h4 := Int.emod_lt_of_pos (IntKind.u64.wrap x) h0
  rw [h2]
  generalize (IntKind.u64.wrap x) % m = y at *
  refine ⟨y.toNat, ?_, by omega⟩
  unfold wrap64
  omega
/-- A packet of the law's tuple of a number. -/
theorem pktN (W : World) (g : Nat) (h : FH) (m : Nat) (M : List FlD) (d : FS W g h m 1000 M) (C : Nat) (ab : Option Addr) (lb cb G mv : Nat) (c : ChP W C 13 [bk1] (tabF [bk1] 13) ab lb cb G mv) (i : Nat) (hi : i < 1000) (flags : Int) (ma : Option Addr) (mc : Nat) (hr : RowB W ma 40 mc (madeF (kOf (kN i)) 9 flags []))
    (b : Bool) (hb : decide ((kN i).proto = 6 ∧ bits BinOp.and IntKind.i64 flags 5 ≠ 0) = b) (rs : List RecD) (M' : List FlD) (hrs : keepR M m (fN i) b = rs) (hM : keepM M m (fN i) b = M') :
    Calls Tryz.prog 18 #[.agg (cfg23 m), .pointer (some ⟨g, 0, none⟩), .pointer (some ⟨C, 0, none⟩), .int .i64 1, .int .i64 0, .slice ma 40 mc] W fun e w' => ∃ pa pn pc qa qc, e = .returned (.agg (planV 2 0 1 (.slice pa pn pc) (.slice qa rs.length qc))) ∧ RowS w' qa rs.length qc 14 (rs.map rcl) ∧ (∀ x, qa = some x → W.heap.size ≤ x.block) ∧ FStep W w' g h m 1000 M' := by
  refine (packet_any 168364297 13 m 20 1500 200 20000 3 1 0 W g h m 1000 M d C 13 [bk1] (tabF [bk1] 13) ab lb cb G mv c (by omega) (by omega) ⟨by decide, by decide⟩ (fun b hb => by obtain rfl := List.mem_singleton.1 hb; exact ⟨by decide, by decide⟩) ma 40 mc _ hr).mono ?_
  intro e w' hp
  rw [pk_made (kN i) (kN_ok i hi) (kN_may i) 9 flags [] (by simp) (fun x hx => by cases hx) (by decide) 168364297 1500 1 0 m (by decide) [bk1] (tabF [bk1] 13) 13 M ⟨by decide, by decide⟩ bk1 (back_one prm13 bk1 gmay1 M (kN i) (kN_may i)), hb] at hp
  obtain ⟨pa, pn, pc, q, he, hx, hq, hs⟩ := hp
  have hq : RecsIs W w' q (keepR M m (fN i) b) := hq
  have hs : FStep W w' g h m 1000 (keepM M m (fN i) b) := hs
  rw [hrs] at hq
  rw [hM] at hs
  obtain ⟨qa, qc, rfl, hrow, hqb⟩ := hq
  exact ⟨pa, pn, pc, qa, qc, he, hrow, fun x hx => (hqb x hx).1, hs⟩
theorem flag0 (i : Nat) : decide ((kN i).proto = 6 ∧ bits BinOp.and IntKind.i64 0 5 ≠ 0) = false := decide_eq_false (fun h => h.2 (by decide))
theorem flag1 (i : Nat) : decide ((kN i).proto = 6 ∧ bits BinOp.and IntKind.i64 1 5 ≠ 0) = true := decide_eq_true ⟨rfl, by decide⟩
theorem madeN (i : Nat) (hi : i < 1000) (flags : Int) (hf : flags = 0 ∨ flags = 1) (W : World) : Calls Tryz.prog 27 #[.agg (tcs (kN i)), .int .i64 9, .int .i64 flags, .slice none 0 0] W fun e w' => ∃ a' cap', e = .returned (.slice a' 40 cap') ∧ FreshB W w' (.slice a' 40 cap') (madeF (kOf (kN i)) 9 flags []) :=
  made_any (kOf (kN i)) (ok_k (kN_ok i hi)) 9 flags none 0 0 [] W (RowB.nil _ _ _ (by omega)) (by omega) (by simp [isI64]) (by rcases hf with rfl | rfl <;> simp [isI64]) 40 (by simp [sizeK, kOf, kN])
set_option maxRecDepth 20000 in
set_option maxHeartbeats 4000000 in
theorem kclo_any (i : Nat) (hi : i < 1000) (w : World) : Calls Tryz.prog 31 #[.int .i64 (i : Int)] w fun e w' => e = .returned (.agg (tcs (kN i))) ∧ Touch w w' (fun _ => False) := by
  have hw : IntKind.u32.wrap (i : Int) = (i : Int) := by rw [IntKind.wrap_u32]; omega
  go_enter Tryz.func31, Tryz.ntmps31
  go_wp2_with fail
  exact ret_row rfl rfl w.heap.size 37 (tcs (kN i)) (0, 0) _ rfl (heap_alloc_new ..) Tryz.underlying37 rfl infoT ⟨rfl, (Touch.refl w _).alloc _⟩
end Go.Proofs.YtpjdcgjoepjmcaaGreat
