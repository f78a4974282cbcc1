/- A flow that moves from one backend to another: pure facts, a packet of any tuple. -/
import Derived.Test.YtpjdcgjoepjmcaaGreatPathVZ
import Derived.Test.YtpjdcgjoepjmcaaGreatPathDZ
set_option linter.unusedVariables false
set_option linter.unusedSimpArgs false
namespace Go.Proofs.YtpjdcgjoepjmcaaGreat
open Go.RowKit

def bk2 : BkD := ⟨2, 2, 1⟩
theorem gmay2 : gmay [bk2] = true := by decide +kernel
theorem mayF_x {t : TupD} (ht : mayTB t = true) {b g s : Int} (hb : 0 ≤ b ∧ b ≤ 65535) (hg : 0 ≤ g ∧ g ≤ 1000000) (hs : 0 ≤ s ∧ s ≤ 1099511627776) : mayFB ⟨t, b, g, s⟩ = true := by
  unfold mayFB
  rw [show mayTB (⟨t, b, g, s⟩ : FlD).t = true from ht, Bool.true_and]
  unfold rngF
  exact decide_eq_true ⟨hb, hg, hs⟩
theorem hasF_one (f : FlD) : hasF [f] f.t = true := (hasF_iff _ _).2 (List.mem_cons_self ..)
theorem getF_one (f : FlD) : getF [f] f.t = f := getF_of (M := [f]) (by simp) (List.mem_cons_self ..)
theorem delF_one (f : FlD) : delF [f] f.t = [] := by unfold delF; simp
theorem mv_1 {t : TupD} (ht : mayTB t = true) {g : Int} (hg : 0 ≤ g ∧ g ≤ 1000000) : keepR [] 4 ⟨t, 1, g, 0⟩ false = [recF 1 ⟨t, 1, g, 0⟩] ∧ keepM [] 4 ⟨t, 1, g, 0⟩ false = [⟨t, 1, g, 0⟩] := by
  have hp : putB [] 4 ⟨t, 1, g, 0⟩ = true := by unfold putB; rw [mayF_x ht (by decide) hg (by decide)]; rfl
  have hh : hasF [] t = false := rfl
  unfold keepR keepM putF
  simp only [Bool.false_eq_true, if_false, hh, Bool.false_and, hp, if_true]
  exact ⟨trivial, rfl⟩
theorem mv_2 {t : TupD} (ht : mayTB t = true) {g : Int} (hg : 0 ≤ g + 1 ∧ g + 1 ≤ 1000000) : keepR [⟨t, 1, g, 0⟩] 4 ⟨t, 2, g + 1, 3⟩ false = [recF 1 ⟨t, 2, g + 1, 3⟩] ∧ keepM [⟨t, 1, g, 0⟩] 4 ⟨t, 2, g + 1, 3⟩ false = [⟨t, 2, g + 1, 3⟩] := by
  have h1 : hasF [⟨t, 1, g, 0⟩] t = true := hasF_one ⟨t, 1, g, 0⟩
  have h2 : getF [⟨t, 1, g, 0⟩] t = ⟨t, 1, g, 0⟩ := getF_one ⟨t, 1, g, 0⟩
  have h3 : delF [⟨t, 1, g, 0⟩] t = [] := delF_one ⟨t, 1, g, 0⟩
  have hp : putB [⟨t, 1, g, 0⟩] 4 ⟨t, 2, g + 1, 3⟩ = true := by unfold putB; rw [mayF_x ht (by decide) hg (by decide), h1]; rfl
  unfold keepR keepM putF
  simp [h1, h2, h3, hp]
theorem mv_3 {t : TupD} (g a b : Int) (hb : 0 ≤ b ∧ b ≤ 1099511627776) (hab : a ≤ b) : keepR [⟨t, 2, g, a⟩] 4 ⟨t, 2, g, b⟩ false = [] ∧ keepM [⟨t, 2, g, a⟩] 4 ⟨t, 2, g, b⟩ false = [⟨t, 2, g, b⟩] := by
  have h1 : hasF [⟨t, 2, g, a⟩] t = true := hasF_one ⟨t, 2, g, a⟩
  have h2 : getF [⟨t, 2, g, a⟩] t = ⟨t, 2, g, a⟩ := getF_one ⟨t, 2, g, a⟩
  unfold keepR keepM
  simp only [Bool.false_eq_true, if_false, h1, h2, decide_true, Bool.and_self, if_true]
  refine ⟨trivial, ?_⟩
  have h3 : delF [⟨t, 2, g, a⟩] t = [] := delF_one ⟨t, 2, g, a⟩
  have h4 : touchB [⟨t, 2, g, a⟩] t b = true := by unfold touchB; rw [h1, h2, (timB_iff b).2 hb]; simp [hab]
  unfold touchF
  rw [if_pos h4, h2, h3]
theorem mv_4 {t : TupD} (g a b : Int) : keepR [⟨t, 2, g, a⟩] 4 ⟨t, 2, g, b⟩ true = [recF 2 ⟨t, 0, 0, 0⟩] ∧ keepM [⟨t, 2, g, a⟩] 4 ⟨t, 2, g, b⟩ true = [] := by
  have h1 : hasF [⟨t, 2, g, a⟩] t = true := hasF_one ⟨t, 2, g, a⟩
  have h3 : delF [⟨t, 2, g, a⟩] t = [] := delF_one ⟨t, 2, g, a⟩
  unfold keepR keepM
  simp only [h1, h3, if_true]
  exact ⟨trivial, trivial⟩
/-- A packet of a tuple, where one backend is. -/
theorem pktG (W : World) (g : Nat) (h : FH) (M : List FlD) (d : FS W g h 4 100 M) (C : Nat) (bk : BkD) (hgm : gmay [bk] = true) (hba : 0 ≤ bk.addr ∧ bk.addr ≤ 4294967295) (ab : Option Addr) (lb cb G mv : Nat) (c : ChP W C 13 [bk] (tabF [bk] 13) ab lb cb G mv) (t : TupD) (ot : TupOk t) (hm : mayTB t = true) (gen now : Int) (hnow : 0 ≤ now ∧ now ≤ 1099511627776) (flags : Int) (ma : Option Addr) (n mc : Nat) (hr : RowB W ma n mc (madeF (kOf t) 9 flags []))
    (b : Bool) (hb : decide (t.proto = 6 ∧ bits BinOp.and IntKind.i64 flags 5 ≠ 0) = b) (rs : List RecD) (M' : List FlD) (hrs : keepR M 4 ⟨t, bk.id, gen, now⟩ b = rs) (hM : keepM M 4 ⟨t, bk.id, gen, now⟩ b = M') :
    Calls Tryz.prog 18 #[.agg (cfg23 4), .pointer (some ⟨g, 0, none⟩), .pointer (some ⟨C, 0, none⟩), .int .i64 gen, .int .i64 now, .slice ma n mc] W fun e w' => ∃ pa pn pc qa qc, e = .returned (.agg (planV 2 0 bk.id (.slice pa pn pc) (.slice qa rs.length qc))) ∧ RowS w' qa rs.length qc 14 (rs.map rcl) ∧ (∀ x, qa = some x → W.heap.size ≤ x.block ∧ ∃ cs m, w'.heap[x.block]? = some (.cells cs 85 m)) ∧ FStep W w' g h 4 100 M' := by
  refine (packet_any 168364297 13 4 20 1500 200 20000 3 gen now W g h 4 100 M d C 13 [bk] (tabF [bk] 13) ab lb cb G mv c (by omega) (by omega) ⟨by decide, by decide⟩ (fun b hb => by obtain rfl := List.mem_singleton.1 hb; exact hba) ma n mc _ hr).mono ?_
  intro e w' hp
  rw [pk_made t ot hm 9 flags [] (by simp) (fun x hx => by cases hx) (by decide) 168364297 1500 gen now 4 (by decide) [bk] (tabF [bk] 13) 13 M hnow bk (back_one prm13 bk hgm M t hm), hb] at hp
  obtain ⟨pa, pn, pc, q, he, hx, hq, hs⟩ := hp
  have hq : RecsIs W w' q (keepR M 4 ⟨t, bk.id, gen, now⟩ b) := hq
  have hs : FStep W w' g h 4 100 (keepM M 4 ⟨t, bk.id, gen, now⟩ b) := hs
  rw [hrs] at hq
  rw [hM] at hs
  obtain ⟨qa, qc, rfl, hrow, hqb⟩ := hq
  exact ⟨pa, pn, pc, qa, qc, he, hrow, fun x hx => ⟨(hqb x hx).1, (hqb x hx).2.2⟩, hs⟩
theorem madeG (t : TupD) (ot : TupOk t) (flags : Int) (hf : flags = 0 ∨ flags = 4) (n : Nat) (hn : n = 20 + sizeK (kOf t) 0) (W : World) : Calls Tryz.prog 27 #[.agg (tcs t), .int .i64 9, .int .i64 flags, .slice none 0 0] W fun e w' => ∃ a' cap', e = .returned (.slice a' n cap') ∧ FreshB W w' (.slice a' n cap') (madeF (kOf t) 9 flags []) :=
  made_any (kOf t) (ok_k ot) 9 flags none 0 0 [] W (RowB.nil _ _ _ (by omega)) (by omega) (by simp [isI64]) (by rcases hf with rfl | rfl <;> simp [isI64]) n hn
theorem flagX0 (t : TupD) : decide (t.proto = 6 ∧ bits BinOp.and IntKind.i64 0 5 ≠ 0) = false := decide_eq_false (fun h => h.2 (by decide))
theorem flagX4 (t : TupD) : decide (t.proto = 6 ∧ bits BinOp.and IntKind.i64 4 5 ≠ 0) = decide (t.proto = 6) := by
  rw [Bool.eq_iff_iff, decide_eq_true_iff, decide_eq_true_iff]
  exact ⟨fun h => h.1, fun h => ⟨h, by decide⟩⟩
end Go.Proofs.YtpjdcgjoepjmcaaGreat
