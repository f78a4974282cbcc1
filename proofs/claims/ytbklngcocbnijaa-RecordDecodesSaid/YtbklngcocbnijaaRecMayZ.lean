/- Records: may one be? What May of package record answers. -/
import Derived.Test.YtbklngcocbnijaaGCZ
import Derived.Test.YtbklngcocbnijaaRecRPlainZ
set_option linter.unusedVariables false
set_option linter.unusedSimpArgs false
namespace Go.Proofs.Ytbklngcocbnijaa
open Go.RowKit

/-- May it be a record? -/
def mayRB (r : RecD) : Bool :=
  if r.kind = 1 then mayTB r.t && idB r.fb && cntB r.fg && timB r.fs
  else if r.kind = 2 then mayTB r.t
  else if r.kind = 3 then cntB r.gen && decide (r.bs.length ≤ 16) && r.bs.all mayKB
  else if r.kind = 4 then idB r.be && timB r.un
  else if r.kind = 5 then idB r.be
  else if r.kind = 6 then cntB r.ct
  else false
theorem heap_two (w : World) (A B : Obj) : ((w.alloc A).alloc B).heap[w.heap.size + 1]? = some B := by
  show ((w.heap.push A).push B)[w.heap.size + 1]? = some B
  rw [Array.getElem?_push, if_pos (by simp)]
theorem still2 (w : World) (A B : Obj) : Touch w ((w.alloc A).alloc B) (fun _ => False) := ((Touch.refl w (fun _ => False)).alloc A).alloc B

set_option maxRecDepth 20000 in
set_option maxHeartbeats 4000000 in
theorem may_k1 (r : RecD) (a : Option Addr) (cap : Nat) (w : World) (hk : r.kind = 1) :
    Calls Try.prog 18 #[.agg (rcs r a cap)] w fun e w' => e = .returned (.bool (mayRB r)) ∧ Touch w w' (fun _ => False) := by
  have hp : mayRB r = (mayTB r.t && idB r.fb && cntB r.fg && timB r.fs) := by unfold mayRB; rw [if_pos hk]
  obtain ⟨kind, ⟨src, dst, proto, sport, dport⟩, fb, fg, fs, gen, bs, be, un, ct⟩ := r
  simp only at hk
  subst hk
  simp only at hp
  have HP := Lib.hid hp
  clear hp
  generalize mayRB _ = m at *
  have HC : RowKit.Hid (∀ w, Calls Try.prog 38 #[.agg #[.int .u32 src, .int .u32 dst, .int .i64 proto, .int .i64 sport, .int .i64 dport]] w fun e w' => e = .returned (.bool (mayTB ⟨src, dst, proto, sport, dport⟩)) ∧ Touch w w' (fun _ => False)) := Lib.hid (fun w => mayT_any ⟨src, dst, proto, sport, dport⟩ w)
  generalize mayTB _ = T at *
  have HH : RowKit.Hid (∀ A, ((w.alloc A).alloc (.cells #[.int .u32 src, .int .u32 dst, .int .i64 proto, .int .i64 sport, .int .i64 dport, .int .i64 fb, .int .i64 fg, .int .i64 fs] 26)).heap[w.heap.size + 1]? = some (.cells #[.int .u32 src, .int .u32 dst, .int .i64 proto, .int .i64 sport, .int .i64 dport, .int .i64 fb, .int .i64 fg, .int .i64 fs] 26 (0, 0))) := Lib.hid (fun A => heap_two w A _)
  simp only [rcs]
  go_enter Try.func18, Try.ntmps18
  go_wp2_with (first
    | (go_at_call 38; (with_reducible refine (HC.out _).mono ?_); rintro e w9 ⟨rfl, t9⟩; have hb := t9.keeps (HH.out _) (fun h => h); have c5 := cell_of_cells hb 5; have c6 := cell_of_cells hb 6; have c7 := cell_of_cells hb 7; simp at c5 c6 c7; have HT := Lib.hid ((still2 w _ _).trans t9 (fun _ _ h => h)); clear t9 hb)
    | (go_at_call 39; (with_reducible refine (isId_any _ _).mono ?_); rintro e w' ⟨rfl, rfl⟩)
    | (go_at_call 40; (with_reducible refine (isCount_any _ _).mono ?_); rintro e w' ⟨rfl, rfl⟩)
    | (go_at_call 41; (with_reducible refine (isTime_any _ _).mono ?_); rintro e w' ⟨rfl, rfl⟩))
  all_goals (go_ret; refine ⟨ret_bool ?_, HT.out⟩; rw [HP.out]; clear HP HT HH HC; simp_all)

set_option maxRecDepth 20000 in
set_option maxHeartbeats 4000000 in
theorem may_k2 (r : RecD) (a : Option Addr) (cap : Nat) (w : World) (hk : r.kind = 2) :
    Calls Try.prog 18 #[.agg (rcs r a cap)] w fun e w' => e = .returned (.bool (mayRB r)) ∧ Touch w w' (fun _ => False) := by
  have hp : mayRB r = (mayTB r.t) := by unfold mayRB; rw [if_neg (by omega), if_pos hk]
  obtain ⟨kind, ⟨src, dst, proto, sport, dport⟩, fb, fg, fs, gen, bs, be, un, ct⟩ := r
  simp only at hk
  subst hk
  simp only at hp
  have HP := Lib.hid hp
  clear hp
  generalize mayRB _ = m at *
  have HC : RowKit.Hid (∀ w, Calls Try.prog 38 #[.agg #[.int .u32 src, .int .u32 dst, .int .i64 proto, .int .i64 sport, .int .i64 dport]] w fun e w' => e = .returned (.bool (mayTB ⟨src, dst, proto, sport, dport⟩)) ∧ Touch w w' (fun _ => False)) := Lib.hid (fun w => mayT_any ⟨src, dst, proto, sport, dport⟩ w)
  generalize mayTB _ = T at *
  simp only [rcs]
  go_enter Try.func18, Try.ntmps18
  go_wp2_with (go_at_call 38; (with_reducible refine (HC.out _).mono ?_); rintro e w9 ⟨rfl, t9⟩; have HT := Lib.hid (((Touch.refl w (fun _ => False)).alloc _).trans t9 (fun _ _ h => h)); clear t9)
  all_goals (go_ret; exact ⟨ret_bool (by rw [HP.out]), HT.out⟩)

set_option maxRecDepth 20000 in
set_option maxHeartbeats 4000000 in
theorem may_k3 (r : RecD) (a : Option Addr) (cap : Nat) (w : World) (hk : r.kind = 3) (hr : RowK w a r.bs.length cap r.bs) :
    Calls Try.prog 18 #[.agg (rcs r a cap)] w fun e w' => e = .returned (.bool (mayRB r)) ∧ Touch w w' (fun _ => False) := by
  have hp : mayRB r = (cntB r.gen && decide (r.bs.length ≤ 16) && r.bs.all mayKB) := by unfold mayRB; rw [if_neg (by omega), if_neg (by omega), if_pos hk]
  obtain ⟨kind, ⟨src, dst, proto, sport, dport⟩, fb, fg, fs, gen, bs, be, un, ct⟩ := r
  simp only at hk
  subst hk
  simp only at hp
  have HP := Lib.hid hp
  clear hp
  generalize mayRB _ = m at *
  have HR := Lib.hid hr
  clear hr
  simp only at HR
  have HC : RowKit.Hid (∀ (B : World), RowK B a bs.length cap bs → Calls Try.prog 42 #[.slice a bs.length cap, .func (.func 43) #[] #[]] B fun e w' => e = .returned (.bool (!(bs.all mayKB))) ∧ Touch B w' (fun _ => False)) := Lib.hid (fun B h => contains_any _ _ _ _ B h)
  generalize bs.all mayKB = K at *
  have HT := Lib.hid (Touch.refl w (fun _ => False))
  simp only [rcs]
  go_enter Try.func18, Try.ntmps18
  go_wp2_with (first
    | (go_at_call 40; (with_reducible refine (isCount_any _ _).mono ?_); rintro e w' ⟨rfl, rfl⟩)
    | (go_at_call 42; (with_reducible refine (HC.out _ (HR.out.still ((Touch.refl w (fun _ => False)).alloc _))).mono ?_); rintro e w9 ⟨rfl, t9⟩; have HT := Lib.hid (((Touch.refl w (fun _ => False)).alloc _).trans t9 (fun _ _ h => h)); clear t9))
  all_goals (go_ret; refine ⟨ret_bool ?_, (by first | exact HT.out | exact (Touch.refl w (fun _ => False)).alloc _)⟩; rw [HP.out]; clear HP HT HR HC; first | (simp_all; done) | (simp_all; omega))

set_option maxRecDepth 20000 in
set_option maxHeartbeats 4000000 in
theorem may_k4 (r : RecD) (a : Option Addr) (cap : Nat) (w : World) (hk : r.kind = 4) :
    Calls Try.prog 18 #[.agg (rcs r a cap)] w fun e w' => e = .returned (.bool (mayRB r)) ∧ Touch w w' (fun _ => False) := by
  have hp : mayRB r = (idB r.be && timB r.un) := by unfold mayRB; rw [if_neg (by omega), if_neg (by omega), if_neg (by omega), if_pos hk]
  obtain ⟨kind, ⟨src, dst, proto, sport, dport⟩, fb, fg, fs, gen, bs, be, un, ct⟩ := r
  simp only at hk
  subst hk
  simp only at hp
  have HP := Lib.hid hp
  clear hp
  generalize mayRB _ = m at *
  simp only [rcs]
  go_enter Try.func18, Try.ntmps18
  go_wp2_with (first
    | (go_at_call 39; (with_reducible refine (isId_any _ _).mono ?_); rintro e w' ⟨rfl, rfl⟩)
    | (go_at_call 41; (with_reducible refine (isTime_any _ _).mono ?_); rintro e w' ⟨rfl, rfl⟩))
  all_goals (go_ret; refine ⟨ret_bool ?_, (Touch.refl w (fun _ => False)).alloc _⟩; rw [HP.out]; clear HP; simp_all)

set_option maxRecDepth 20000 in
set_option maxHeartbeats 4000000 in
theorem may_k5 (r : RecD) (a : Option Addr) (cap : Nat) (w : World) (hk : r.kind = 5) :
    Calls Try.prog 18 #[.agg (rcs r a cap)] w fun e w' => e = .returned (.bool (mayRB r)) ∧ Touch w w' (fun _ => False) := by
  have hp : mayRB r = (idB r.be) := by unfold mayRB; rw [if_neg (by omega), if_neg (by omega), if_neg (by omega), if_neg (by omega), if_pos hk]
  obtain ⟨kind, ⟨src, dst, proto, sport, dport⟩, fb, fg, fs, gen, bs, be, un, ct⟩ := r
  simp only at hk
  subst hk
  simp only at hp
  have HP := Lib.hid hp
  clear hp
  generalize mayRB _ = m at *
  simp only [rcs]
  go_enter Try.func18, Try.ntmps18
  go_wp2_with (go_at_call 39; (with_reducible refine (isId_any _ _).mono ?_); rintro e w' ⟨rfl, rfl⟩)
  all_goals (go_ret; refine ⟨ret_bool ?_, (Touch.refl w (fun _ => False)).alloc _⟩; rw [HP.out])

set_option maxRecDepth 20000 in
set_option maxHeartbeats 4000000 in
theorem may_k6 (r : RecD) (a : Option Addr) (cap : Nat) (w : World) (hk : r.kind = 6) :
    Calls Try.prog 18 #[.agg (rcs r a cap)] w fun e w' => e = .returned (.bool (mayRB r)) ∧ Touch w w' (fun _ => False) := by
  have hp : mayRB r = (cntB r.ct) := by unfold mayRB; rw [if_neg (by omega), if_neg (by omega), if_neg (by omega), if_neg (by omega), if_neg (by omega), if_pos hk]
  obtain ⟨kind, ⟨src, dst, proto, sport, dport⟩, fb, fg, fs, gen, bs, be, un, ct⟩ := r
  simp only at hk
  subst hk
  simp only at hp
  have HP := Lib.hid hp
  clear hp
  generalize mayRB _ = m at *
  simp only [rcs]
  go_enter Try.func18, Try.ntmps18
  go_wp2_with (go_at_call 40; (with_reducible refine (isCount_any _ _).mono ?_); rintro e w' ⟨rfl, rfl⟩)
  all_goals (go_ret; refine ⟨ret_bool ?_, (Touch.refl w (fun _ => False)).alloc _⟩; rw [HP.out])

set_option maxRecDepth 20000 in
set_option maxHeartbeats 4000000 in
theorem may_else (r : RecD) (a : Option Addr) (cap : Nat) (w : World) (h1 : r.kind ≠ 1) (h2 : r.kind ≠ 2) (h3 : r.kind ≠ 3) (h4 : r.kind ≠ 4) (h5 : r.kind ≠ 5) (h6 : r.kind ≠ 6) :
    Calls Try.prog 18 #[.agg (rcs r a cap)] w fun e w' => e = .returned (.bool (mayRB r)) ∧ Touch w w' (fun _ => False) := by
  have hp : mayRB r = false := by unfold mayRB; rw [if_neg h1, if_neg h2, if_neg h3, if_neg h4, if_neg h5, if_neg h6]
  rw [hp]
  clear hp
  obtain ⟨kind, ⟨src, dst, proto, sport, dport⟩, fb, fg, fs, gen, bs, be, un, ct⟩ := r
  simp only at h1 h2 h3 h4 h5 h6
  have b1 : (kind == 1) = false := beq_eq_false_iff_ne.2 h1
  have b2 : (kind == 2) = false := beq_eq_false_iff_ne.2 h2
  have b3 : (kind == 3) = false := beq_eq_false_iff_ne.2 h3
  have b4 : (kind == 4) = false := beq_eq_false_iff_ne.2 h4
  have b5 : (kind == 5) = false := beq_eq_false_iff_ne.2 h5
  have b6 : (kind == 6) = false := beq_eq_false_iff_ne.2 h6
  simp only [rcs]
  go_enter Try.func18, Try.ntmps18
  go_wp2
  all_goals (go_ret; exact ⟨rfl, (Touch.refl w (fun _ => False)).alloc _⟩)
theorem mayR_any (r : RecD) (a : Option Addr) (cap : Nat) (w : World) (hr : RowK w a r.bs.length cap r.bs) :
    Calls Try.prog 18 #[.agg (rcs r a cap)] w fun e w' => e = .returned (.bool (mayRB r)) ∧ Touch w w' (fun _ => False) := by
  by_cases h1 : r.kind = 1
  · exact may_k1 r a cap w h1
  by_cases h2 : r.kind = 2
  · exact may_k2 r a cap w h2
  by_cases h3 : r.kind = 3
  · exact may_k3 r a cap w h3 hr
  by_cases h4 : r.kind = 4
  · exact may_k4 r a cap w h4
  by_cases h5 : r.kind = 5
  · exact may_k5 r a cap w h5
  by_cases h6 : r.kind = 6
  · exact may_k6 r a cap w h6
  exact may_else r a cap w h1 h2 h3 h4 h5 h6
end Go.Proofs.Ytbklngcocbnijaa
