/- Records: what Plain of package record answers, but for a set of backends. -/
import Derived.Test.YtbklngcocbnijaaRec
set_option linter.unusedVariables false
set_option linter.unusedSimpArgs false
namespace Go.Proofs.Ytbklngcocbnijaa
open Go.RowKit

set_option maxRecDepth 20000 in
set_option maxHeartbeats 4000000 in
theorem plain_one (r : RecD) (a : Option Addr) (cap : Nat) (w : World) (hk : r.kind = 1) :
    Calls Try.prog 15 #[.agg (rcs r a cap)] w fun e w' => RecIs w w' (plainD r) e := by
  have hp : plainD r = ⟨1, r.t, r.fb, r.fg, r.fs, 0, [], 0, 0, 0⟩ := by unfold plainD; rw [if_pos hk]
  rw [hp]
  clear hp
  obtain ⟨kind, ⟨src, dst, proto, sport, dport⟩, fb, fg, fs, gen, bs, be, un, ct⟩ := r
  simp only at hk
  subst hk
  simp only [rcs, noT]
  go_enter Try.func15, Try.ntmps15
  go_wp2
  all_goals exact recEnd w _ _ ⟨1, ⟨src, dst, proto, sport, dport⟩, fb, fg, fs, 0, [], 0, 0, 0⟩ rfl rfl rfl rfl

set_option maxRecDepth 20000 in
set_option maxHeartbeats 4000000 in
theorem plain_two (r : RecD) (a : Option Addr) (cap : Nat) (w : World) (hk : r.kind = 2) :
    Calls Try.prog 15 #[.agg (rcs r a cap)] w fun e w' => RecIs w w' (plainD r) e := by
  have hp : plainD r = ⟨2, r.t, 0, 0, 0, 0, [], 0, 0, 0⟩ := by unfold plainD; rw [if_neg (by omega), if_pos hk]
  rw [hp]
  clear hp
  obtain ⟨kind, ⟨src, dst, proto, sport, dport⟩, fb, fg, fs, gen, bs, be, un, ct⟩ := r
  simp only at hk
  subst hk
  simp only [rcs, noT]
  go_enter Try.func15, Try.ntmps15
  go_wp2
  all_goals exact recEnd w _ _ ⟨2, ⟨src, dst, proto, sport, dport⟩, 0, 0, 0, 0, [], 0, 0, 0⟩ rfl rfl rfl rfl

set_option maxRecDepth 20000 in
set_option maxHeartbeats 4000000 in
theorem plain_four (r : RecD) (a : Option Addr) (cap : Nat) (w : World) (hk : r.kind = 4) :
    Calls Try.prog 15 #[.agg (rcs r a cap)] w fun e w' => RecIs w w' (plainD r) e := by
  have hp : plainD r = ⟨4, noT, 0, 0, 0, 0, [], r.be, r.un, 0⟩ := by unfold plainD; rw [if_neg (by omega), if_neg (by omega), if_neg (by omega), if_pos hk]
  rw [hp]
  clear hp
  obtain ⟨kind, ⟨src, dst, proto, sport, dport⟩, fb, fg, fs, gen, bs, be, un, ct⟩ := r
  simp only at hk
  subst hk
  simp only [rcs, noT]
  go_enter Try.func15, Try.ntmps15
  go_wp2
  go_region
  all_goals go_wp2
  all_goals exact recEndD w _ _ ⟨4, noT, 0, 0, 0, 0, [], be, un, 0⟩ rfl rfl rfl rfl

set_option maxRecDepth 20000 in
set_option maxHeartbeats 4000000 in
theorem plain_five (r : RecD) (a : Option Addr) (cap : Nat) (w : World) (hk : r.kind = 5) :
    Calls Try.prog 15 #[.agg (rcs r a cap)] w fun e w' => RecIs w w' (plainD r) e := by
  have hp : plainD r = ⟨5, noT, 0, 0, 0, 0, [], r.be, 0, 0⟩ := by unfold plainD; rw [if_neg (by omega), if_neg (by omega), if_neg (by omega), if_neg (by omega), if_pos hk]
  rw [hp]
  clear hp
  obtain ⟨kind, ⟨src, dst, proto, sport, dport⟩, fb, fg, fs, gen, bs, be, un, ct⟩ := r
  simp only at hk
  subst hk
  simp only [rcs, noT]
  go_enter Try.func15, Try.ntmps15
  go_wp2
  all_goals exact recEnd w _ _ ⟨5, noT, 0, 0, 0, 0, [], be, 0, 0⟩ rfl rfl rfl rfl

set_option maxRecDepth 20000 in
set_option maxHeartbeats 4000000 in
theorem plain_six (r : RecD) (a : Option Addr) (cap : Nat) (w : World) (hk : r.kind = 6) :
    Calls Try.prog 15 #[.agg (rcs r a cap)] w fun e w' => RecIs w w' (plainD r) e := by
  have hp : plainD r = ⟨6, noT, 0, 0, 0, 0, [], 0, 0, r.ct⟩ := by unfold plainD; rw [if_neg (by omega), if_neg (by omega), if_neg (by omega), if_neg (by omega), if_neg (by omega), if_pos hk]
  rw [hp]
  clear hp
  obtain ⟨kind, ⟨src, dst, proto, sport, dport⟩, fb, fg, fs, gen, bs, be, un, ct⟩ := r
  simp only at hk
  subst hk
  simp only [rcs, noT]
  go_enter Try.func15, Try.ntmps15
  go_wp2
  all_goals exact recEnd w _ _ ⟨6, noT, 0, 0, 0, 0, [], 0, 0, ct⟩ rfl rfl rfl rfl

set_option maxRecDepth 20000 in
set_option maxHeartbeats 4000000 in
theorem plain_else (r : RecD) (a : Option Addr) (cap : Nat) (w : World) (h1 : r.kind ≠ 1) (h2 : r.kind ≠ 2) (h3 : r.kind ≠ 3) (h4 : r.kind ≠ 4) (h5 : r.kind ≠ 5) (h6 : r.kind ≠ 6) :
    Calls Try.prog 15 #[.agg (rcs r a cap)] w fun e w' => RecIs w w' (plainD r) e := by
  have hp : plainD r = ⟨r.kind, noT, 0, 0, 0, 0, [], 0, 0, 0⟩ := by unfold plainD; rw [if_neg h1, if_neg h2, if_neg h3, if_neg h4, if_neg h5, if_neg h6]
  rw [hp]
  clear hp
  obtain ⟨kind, ⟨src, dst, proto, sport, dport⟩, fb, fg, fs, gen, bs, be, un, ct⟩ := r
  simp only at h1 h2 h3 h4 h5 h6
  have b1 : (kind == 1) = false := beq_eq_false_iff_ne.2 h1
  have b2 : (kind == 2) = false := beq_eq_false_iff_ne.2 h2
  have b3 : (kind == 3) = false := beq_eq_false_iff_ne.2 h3
  have b4 : (kind == 4) = false := beq_eq_false_iff_ne.2 h4
  have b5 : (kind == 5) = false := beq_eq_false_iff_ne.2 h5
  have b6 : (kind == 6) = false := beq_eq_false_iff_ne.2 h6
  simp only [rcs, noT]
  go_enter Try.func15, Try.ntmps15
  go_wp2
  all_goals exact recEnd w _ _ ⟨kind, noT, 0, 0, 0, 0, [], 0, 0, 0⟩ rfl rfl rfl rfl
end Go.Proofs.Ytbklngcocbnijaa
