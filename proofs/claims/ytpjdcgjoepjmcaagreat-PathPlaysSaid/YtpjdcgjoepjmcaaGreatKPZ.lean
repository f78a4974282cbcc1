import Derived.Test.YtpjdcgjoepjmcaaGreatKAZ
import Derived.Test.YtpjdcgjoepjmcaaGreatHAZ
import Derived.Deep.DeepCutAuto
set_option linter.unusedVariables false
set_option linter.unusedSimpArgs false
section
namespace Go.Proofs.YtpjdcgjoepjmcaaGreat
open Go.RowKit
def sgC (g : Nat) (f : FlD) : Array Value := #[.pointer (some ⟨g, 0, none⟩), .int .u32 f.t.src, .int .u32 f.t.dst, .int .i64 f.t.proto, .int .i64 f.t.sport, .int .i64 f.t.dport, .int .i64 f.fb, .int .i64 f.fg, .int .i64 f.fs]
def rcl (r : RecD) : List Value := (rcs r none 0).toList
def RecsIs (w w' : World) (v : Value) (rs : List RecD) : Prop := ∃ a c, v = .slice a rs.length c ∧ RowS w' a rs.length c 14 (rs.map rcl) ∧ ∀ x, a = some x → w.heap.size ≤ x.block ∧ x.block < w'.heap.size ∧ ∃ cs m, w'.heap[x.block]? = some (.cells cs 85 m)
theorem recs_nil (w w' : World) : RecsIs w w' (.slice none 0 0) [] := ⟨none, 0, rfl, RowS.nil _ _ _ _ (by omega), fun x hx => by cases hx⟩
theorem recs_one {w W : World} (h : w.heap.size ≤ W.heap.size) (r : RecD) (hr : r.bs = []) : RecsIs w (W.alloc (.cells (rcs r none 0) 85)) (.slice (some ⟨W.heap.size, 0, none⟩) 1 1) [r] := by
 refine ⟨_, 1, rfl, ⟨rfl, Nat.le_refl _, by simp, fun l hl => ?_, .inr ⟨W.heap.size, 0, rfl, by simp, fun i hi j u hu => ?_⟩⟩, fun x hx => by cases hx; exact ⟨h, by simp, _, _, heap_alloc_new ..⟩⟩
 ·obtain rfl := List.mem_singleton.1 hl
  rfl
 ·have hi0 : i = 0 := by simp at hi; omega
  subst hi0
  have hc := cell_of_cells (heap_alloc_new W (.cells (rcs r none 0) 85)) j
  simp only [Nat.zero_mul, Nat.zero_add]
  rw [hc]
  simpa [rcl] using hu
theorem step_touch {w w' : World} {g : Nat} {h : FH} {most idle : Int} {M : List FlD} (s : FStep w w' g h most idle M) : Touch w w' (footF g h) := by
 obtain ⟨_, _, _, _, t, _⟩ := s
 exact t
theorem FStep.still {w w1 w2 : World} {g : Nat} {h : FH} {most idle : Int} {M : List FlD} (s : FStep w w1 g h most idle M) (t : Touch w1 w2 (fun _ => False)) : FStep w w2 g h most idle M := by
 obtain ⟨h', M1, p, q, t1, f⟩ := s
 exact ⟨h', M1, p, q.still t, t1.trans t (fun _ _ h => h.elim), f⟩
theorem FStep.ahead {w w1 w2 : World} {g : Nat} {h : FH} {most idle : Int} {M : List FlD} (t : Touch w w1 (fun _ => False)) (s : FStep w1 w2 g h most idle M) : FStep w w2 g h most idle M := by
 obtain ⟨h', M1, p, q, t1, f⟩ := s
 exact ⟨h', M1, p, q, (t.mono (fun _ _ h => h.elim)).trans t1 (fun _ _ h => h), fun k hk => (f k hk).imp (fun h => h) (fun h => Nat.le_trans t.size h)⟩
theorem FStep.none {w w' : World} {g : Nat} {h : FH} {most idle : Int} {M : List FlD} (d : FS w g h most idle M) (t : Touch w w' (fun _ => False)) : FStep w w' g h most idle M :=
 ⟨h, M, .refl _, d.still t, t.mono (fun _ _ h => h.elim), fun k hk => .inl hk⟩
theorem enter_fdrop (a b : Value) (w : World) : (callFunc 122 #[a, b]).run Tryz.prog w = .ok (.enter 122 #[a, b]) w := by kernel_rfl
theorem enter_ftouch (a b c : Value) (w : World) : (callFunc 123 #[a, b, c]).run Tryz.prog w = .ok (.enter 123 #[a, b, c]) w := by kernel_rfl
theorem enter_fput (a b : Value) (w : World) : (callFunc 124 #[a, b]).run Tryz.prog w = .ok (.enter 124 #[a, b]) w := by kernel_rfl
theorem enter_fget (a b : Value) (w : World) : (callFunc 33 #[a, b]).run Tryz.prog w = .ok (.enter 33 #[a, b]) w := by kernel_rfl
set_option maxRecDepth 20000 in
set_option maxHeartbeats 8000000 in
theorem sdrop_any (w : World) (s g : Nat) (h : FH) (most idle : Int) (M : List FlD) (d : FS w g h most idle M) (f : FlD) (hs : w.heap[s]? = some (.cells (sgC g f) 113 (0, 0))) (hn : ¬ footF g h s) (ok : TupOk f.t) :
 Calls Tryz.prog 84 #[.pointer (some ⟨s, 0, none⟩)] w fun e w' => ∃ v, e = .returned v ∧ RecsIs w w' v [recF 2 ⟨f.t, 0, 0, 0⟩] ∧ FStep w w' g h most idle (delF M f.t) := by
 have HC : RowKit.Hid (∀ W', Touch w W' (footF g h) → W'.cell? ⟨s, 0, none⟩ = some (.pointer (some ⟨g, 0, none⟩)) ∧ W'.cell? ⟨s, 1, none⟩ = some (.int .u32 f.t.src) ∧ W'.cell? ⟨s, 2, none⟩ = some (.int .u32 f.t.dst) ∧ W'.cell? ⟨s, 3, none⟩ = some (.int .i64 f.t.proto) ∧ W'.cell? ⟨s, 4, none⟩ = some (.int .i64 f.t.sport) ∧ W'.cell? ⟨s, 5, none⟩ = some (.int .i64 f.t.dport) ∧ W'.cell? ⟨s, 6, none⟩ = some (.int .i64 f.fb) ∧ W'.cell? ⟨s, 7, none⟩ = some (.int .i64 f.fg) ∧ W'.cell? ⟨s, 8, none⟩ = some (.int .i64 f.fs)) := Lib.hid (fun W' t => by
  have k := t.keeps hs hn
  exact ⟨cell_of_cells k 0, cell_of_cells k 1, cell_of_cells k 2, cell_of_cells k 3, cell_of_cells k 4, cell_of_cells k 5, cell_of_cells k 6, cell_of_cells k 7, cell_of_cells k 8⟩)
 have HCON := Lib.hid (fdrop_any w.drew g h most idle M (d.still (Touch.refl w (fun _ => False)).drew) f.t ok)
 simp only [tcs] at HCON
 have t0 : Touch w w.drew (fun _ => False) := (Touch.refl w _).drew
 have HT0 := Lib.hid t0
 clear d hs t0
 go_enter Tryz.func84, Tryz.ntmps84
 go_wp2_with fail
 have hS := (Touch.refl w (footF g h)).drew
 refine wp_region_sched (fun w' => Touch w w' (footF g h)) [(0, true), (1, true), (2, true), (3, true), (4, true), (5, true), (6, true), (7, true), (8, true), (9, false)] (by kernel_rfl) (by kernel_rfl) rfl (by kernel_rfl) hS ?_
 iterate 9 ((refine walkS_take (v := ?_) (some _) rfl rfl (fun _ _ _ h => h) (by rfl) ?_ ?_; rotate_left; (focus (intro w' hw'; obtain ⟨c0, c1, c2, c3, c4, c5, c6, c7, c8⟩ := HC.out w' hw'; go_simp; (try with_reducible rfl))); (try simp only [Act.put, List.setIfInBounds_toArray, List.set_cons_zero, List.set_cons_succ])))
 (refine walkS_call 12 _ _ _ _ (HCON.out) rfl rfl rfl (by rfl) rfl (enter_fdrop _ _ _) ?_; rintro e w5 ⟨rfl, s5⟩; have HS5 := Lib.hid s5; refine ⟨_, rfl, hS.trans (step_touch s5) (fun _ _ h => h), fun hS => ?_⟩; clear s5; (try simp only [Act.put, List.setIfInBounds_toArray, List.set_cons_zero, List.set_cons_succ]))
 refine walkS_done ?_
 have hst := FStep.ahead HT0.out HS5.out
 obtain ⟨c0, c1, c2, c3, c4, c5, c6, c7, c8⟩ := HC.out w5 (step_touch hst)
 have HST := Lib.hid hst
 clear hst hS HS5
 go_wp2_with fail
 go_ret
 exact ⟨_, rfl, recs_one (step_touch HST.out).size (recF 2 ⟨f.t, 0, 0, 0⟩) rfl, HST.out.still ((Touch.refl w5 _).alloc _)⟩
set_option maxRecDepth 20000 in
set_option maxHeartbeats 8000000 in
theorem stouch_any (w : World) (s g : Nat) (h : FH) (most idle : Int) (M : List FlD) (d : FS w g h most idle M) (f : FlD) (hs : w.heap[s]? = some (.cells (sgC g f) 113 (0, 0))) (hn : ¬ footF g h s) (ok : TupOk f.t) :
 Calls Tryz.prog 86 #[.pointer (some ⟨s, 0, none⟩)] w fun e w' => ∃ v, e = .returned v ∧ RecsIs w w' v [] ∧ FStep w w' g h most idle (touchF M f.t f.fs) := by
 have HC : RowKit.Hid (∀ W', Touch w W' (footF g h) → W'.cell? ⟨s, 0, none⟩ = some (.pointer (some ⟨g, 0, none⟩)) ∧ W'.cell? ⟨s, 1, none⟩ = some (.int .u32 f.t.src) ∧ W'.cell? ⟨s, 2, none⟩ = some (.int .u32 f.t.dst) ∧ W'.cell? ⟨s, 3, none⟩ = some (.int .i64 f.t.proto) ∧ W'.cell? ⟨s, 4, none⟩ = some (.int .i64 f.t.sport) ∧ W'.cell? ⟨s, 5, none⟩ = some (.int .i64 f.t.dport) ∧ W'.cell? ⟨s, 6, none⟩ = some (.int .i64 f.fb) ∧ W'.cell? ⟨s, 7, none⟩ = some (.int .i64 f.fg) ∧ W'.cell? ⟨s, 8, none⟩ = some (.int .i64 f.fs)) := Lib.hid (fun W' t => by
  have k := t.keeps hs hn
  exact ⟨cell_of_cells k 0, cell_of_cells k 1, cell_of_cells k 2, cell_of_cells k 3, cell_of_cells k 4, cell_of_cells k 5, cell_of_cells k 6, cell_of_cells k 7, cell_of_cells k 8⟩)
 have HCON := Lib.hid (ftouch_any w.drew g h most idle M (d.still (Touch.refl w (fun _ => False)).drew) f.t ok f.fs)
 simp only [tcs] at HCON
 have t0 : Touch w w.drew (fun _ => False) := (Touch.refl w _).drew
 have HT0 := Lib.hid t0
 clear d hs t0
 go_enter Tryz.func86, Tryz.ntmps86
 go_wp2_with fail
 have hS := (Touch.refl w (footF g h)).drew
 refine wp_region_sched (fun w' => Touch w w' (footF g h)) [(0, true), (1, true), (2, true), (3, true), (4, true), (5, true), (6, true), (7, true), (8, true), (9, true), (10, true), (11, true), (12, true), (13, true), (14, false)] (by kernel_rfl) (by kernel_rfl) rfl (by kernel_rfl) hS ?_
 iterate 14 ((refine walkS_take (v := ?_) (some _) rfl rfl (fun _ _ _ h => h) (by rfl) ?_ ?_; rotate_left; (focus (intro w' hw'; obtain ⟨c0, c1, c2, c3, c4, c5, c6, c7, c8⟩ := HC.out w' hw'; go_simp; (try with_reducible rfl))); (try simp only [Act.put, List.setIfInBounds_toArray, List.set_cons_zero, List.set_cons_succ])))
 (refine walkS_call 17 _ _ _ _ (HCON.out) rfl rfl rfl (by rfl) rfl (enter_ftouch _ _ _ _) ?_; rintro e w5 ⟨rfl, s5⟩; have HS5 := Lib.hid s5; refine ⟨_, rfl, hS.trans (step_touch s5) (fun _ _ h => h), fun hS => ?_⟩; clear s5; (try simp only [Act.put, List.setIfInBounds_toArray, List.set_cons_zero, List.set_cons_succ]))
 refine walkS_done ?_
 have HST := Lib.hid (FStep.ahead HT0.out HS5.out)
 clear hS HS5
 go_wp2_with fail
 go_ret
 exact ⟨_, rfl, recs_nil _ _, HST.out⟩
set_option maxRecDepth 20000 in
set_option maxHeartbeats 8000000 in
theorem spin_any (w : World) (s g : Nat) (h : FH) (most idle : Int) (M : List FlD) (d : FS w g h most idle M) (f : FlD) (hs : w.heap[s]? = some (.cells (sgC g f) 113 (0, 0))) (hn : ¬ footF g h s) (ok : TupOk f.t) :
 Calls Tryz.prog 87 #[.pointer (some ⟨s, 0, none⟩)] w fun e w' => ∃ v, e = .returned v ∧ RecsIs w w' v (if putB M most f then [recF 1 f] else []) ∧ FStep w w' g h most idle (putF M most f) := by
 have HC : RowKit.Hid (∀ W', Touch w W' (footF g h) → W'.cell? ⟨s, 0, none⟩ = some (.pointer (some ⟨g, 0, none⟩)) ∧ W'.cell? ⟨s, 1, none⟩ = some (.int .u32 f.t.src) ∧ W'.cell? ⟨s, 2, none⟩ = some (.int .u32 f.t.dst) ∧ W'.cell? ⟨s, 3, none⟩ = some (.int .i64 f.t.proto) ∧ W'.cell? ⟨s, 4, none⟩ = some (.int .i64 f.t.sport) ∧ W'.cell? ⟨s, 5, none⟩ = some (.int .i64 f.t.dport) ∧ W'.cell? ⟨s, 6, none⟩ = some (.int .i64 f.fb) ∧ W'.cell? ⟨s, 7, none⟩ = some (.int .i64 f.fg) ∧ W'.cell? ⟨s, 8, none⟩ = some (.int .i64 f.fs)) := Lib.hid (fun W' t => by
  have k := t.keeps hs hn
  exact ⟨cell_of_cells k 0, cell_of_cells k 1, cell_of_cells k 2, cell_of_cells k 3, cell_of_cells k 4, cell_of_cells k 5, cell_of_cells k 6, cell_of_cells k 7, cell_of_cells k 8⟩)
 have hput := fput_any w.drew g h most idle M (d.still (Touch.refl w (fun _ => False)).drew) f ok
 obtain ⟨o, er, hpe, heo⟩ : ∃ (o : Bool) (er : Int), putE M most f = .tuple #[.bool o, .int .i64 er] ∧ (er != 0) = !putB M most f := by
  unfold putE
  cases hm : mayFB f with
  | false =>
    refine ⟨false, 1, rfl, ?_⟩
    have : putB M most f = false := by unfold putB; rw [hm]; rfl
    rw [this]; rfl
  | true =>
    cases hb : putB M most f with
    | false => exact ⟨false, 9, rfl, rfl⟩
    | true => exact ⟨_, 0, rfl, rfl⟩
 rw [hpe] at hput
 have HCON := Lib.hid hput
 simp only [fca] at HCON
 have t0 : Touch w w.drew (fun _ => False) := (Touch.refl w _).drew
 have HT0 := Lib.hid t0
 obtain ⟨b, hb⟩ : ∃ b, putB M most f = b := ⟨_, rfl⟩
 rw [hb] at heo ⊢
 clear d hs t0 hput hpe hb
 go_enter Tryz.func87, Tryz.ntmps87
 go_wp2_with fail
 have hS := (Touch.refl w (footF g h)).drew
 refine wp_region_sched (fun w' => Touch w w' (footF g h)) [(0, true), (1, true), (2, true), (3, true), (4, true), (5, true), (6, true), (7, true), (8, false), (9, true), (10, true), (11, true), (12, true), (13, true)] (by kernel_rfl) (by kernel_rfl) rfl (by kernel_rfl) hS ?_
 iterate 8 ((refine walkS_take (v := ?_) (some _) rfl rfl (fun _ _ _ h => h) (by rfl) ?_ ?_; rotate_left; (focus (intro w' hw'; obtain ⟨c0, c1, c2, c3, c4, c5, c6, c7, c8⟩ := HC.out w' hw'; go_simp; (try with_reducible rfl))); (try simp only [Act.put, List.setIfInBounds_toArray, List.set_cons_zero, List.set_cons_succ])))
 (refine walkS_call 14 _ _ _ _ (HCON.out) rfl rfl rfl (by rfl) rfl (enter_fput _ _ _) ?_; rintro e w5 ⟨rfl, s5⟩; have HS5 := Lib.hid s5; refine ⟨_, rfl, hS.trans (step_touch s5) (fun _ _ h => h), fun hS => ?_⟩; clear s5; (try simp only [Act.put, List.setIfInBounds_toArray, List.set_cons_zero, List.set_cons_succ]))
 iterate 5 ((refine walkS_take (v := ?_) (some _) rfl rfl (fun _ _ _ h => h) (by rfl) ?_ ?_; rotate_left; (focus (intro w' hw'; obtain ⟨c0, c1, c2, c3, c4, c5, c6, c7, c8⟩ := HC.out w' hw'; go_simp; (try with_reducible rfl))); (try simp only [Act.put, List.setIfInBounds_toArray, List.set_cons_zero, List.set_cons_succ])))
 refine walkS_done ?_
 have hst := FStep.ahead HT0.out HS5.out
 obtain ⟨c0, c1, c2, c3, c4, c5, c6, c7, c8⟩ := HC.out w5 (step_touch hst)
 have HST := Lib.hid hst
 clear hst hS HS5
 cases b with
 | true =>
   rw [Bool.not_true] at heo
   go_wp2_with fail
   go_ret
   exact ⟨_, rfl, recs_one (step_touch HST.out).size (recF 1 f) rfl, HST.out.still ((Touch.refl w5 _).alloc _)⟩
 | false =>
   rw [Bool.not_false] at heo
   go_wp2_with fail
   go_ret
   exact ⟨_, rfl, recs_nil _ _, HST.out⟩
set_option maxRecDepth 20000 in
theorem spass_any (w : World) (v : Value) : Calls Tryz.prog 85 #[v] w fun e w' => e = .returned (.slice none 0 0) ∧ w = w' := by
 go_enter Tryz.func85, Tryz.ntmps85
 go_wp2_with fail
 go_ret
 exact ⟨rfl, rfl⟩
end Go.Proofs.YtpjdcgjoepjmcaaGreat
end
section
namespace Go.Proofs.YtpjdcgjoepjmcaaGreat
open Go.RowKit
def keepFn (M : List FlD) (f : FlD) (ends : Bool) : Nat :=
 if ends then (if hasF M f.t then 84 else 85) else if hasF M f.t && decide ((getF M f.t).fb = f.fb) then 86 else 87
theorem keep_any (w : World) (s g : Nat) (h : FH) (most idle : Int) (M : List FlD) (d : FS w g h most idle M) (f : FlD) (hs : w.heap[s]? = some (.cells (sgC g f) 113 (0, 0))) (hn : ¬ footF g h s) (ok : TupOk f.t) (ends : Bool) :
 Calls Tryz.prog (keepFn M f ends) #[.pointer (some ⟨s, 0, none⟩)] w fun e w' => ∃ v, e = .returned v ∧ RecsIs w w' v (keepR M most f ends) ∧ FStep w w' g h most idle (keepM M most f ends) := by
 unfold keepFn keepR keepM
 cases ends with
 | true =>
   simp only [if_true]
   cases hh : hasF M f.t with
   | true => simp only [if_true]; exact sdrop_any w s g h most idle M d f hs hn ok
   | false =>
     simp only [Bool.false_eq_true, if_false]
     rw [delF_none (fun h => by rw [← hasF_iff, hh] at h; cases h)]
     refine (spass_any w _).mono ?_
     rintro e w' ⟨rfl, rfl⟩
     exact ⟨_, rfl, recs_nil _ _, FStep.none d (Touch.refl _ _)⟩
 | false =>
   simp only [Bool.false_eq_true, if_false]
   cases hh : (hasF M f.t && decide ((getF M f.t).fb = f.fb)) with
   | true => simp only [if_true]; exact stouch_any w s g h most idle M d f hs hn ok
   | false => simp only [Bool.false_eq_true, if_false]; exact spin_any w s g h most idle M d f hs hn ok
theorem enter_keep (M : List FlD) (f : FlD) (ends : Bool) (a : Value) (w : World) : (callFunc (keepFn M f ends) #[a]).run Tryz.prog w = .ok (.enter (keepFn M f ends) #[a]) w := by
 unfold keepFn
 split
 ·split
  ·kernel_rfl
  ·kernel_rfl
 ·split
  ·kernel_rfl
  ·kernel_rfl
set_option maxRecDepth 20000 in
set_option maxHeartbeats 12000000 in
theorem rule_any (w : World) (s g : Nat) (h : FH) (most idle : Int) (M : List FlD) (d : FS w g h most idle M) (f : FlD) (hs : w.heap[s]? = some (.cells (sgC g f) 113 (0, 0))) (ok : TupOk f.t) (ends : Bool) :
 Calls Tryz.prog 50 #[.pointer (some ⟨s, 0, none⟩), .bool ends] w fun e w' => e = .returned (.func (.func (keepFn M f ends)) #[] #[]) ∧ Touch w w' (fun _ => False) := by
 have HC : RowKit.Hid (∀ W', Touch w W' (fun _ => False) → W'.cell? ⟨s, 0, none⟩ = some (.pointer (some ⟨g, 0, none⟩)) ∧ W'.cell? ⟨s, 1, none⟩ = some (.int .u32 f.t.src) ∧ W'.cell? ⟨s, 2, none⟩ = some (.int .u32 f.t.dst) ∧ W'.cell? ⟨s, 3, none⟩ = some (.int .i64 f.t.proto) ∧ W'.cell? ⟨s, 4, none⟩ = some (.int .i64 f.t.sport) ∧ W'.cell? ⟨s, 5, none⟩ = some (.int .i64 f.t.dport) ∧ W'.cell? ⟨s, 6, none⟩ = some (.int .i64 f.fb) ∧ W'.cell? ⟨s, 7, none⟩ = some (.int .i64 f.fg) ∧ W'.cell? ⟨s, 8, none⟩ = some (.int .i64 f.fs)) := Lib.hid (fun W' t => by
  have k := t.keeps hs (fun h => h)
  exact ⟨cell_of_cells k 0, cell_of_cells k 1, cell_of_cells k 2, cell_of_cells k 3, cell_of_cells k 4, cell_of_cells k 5, cell_of_cells k 6, cell_of_cells k 7, cell_of_cells k 8⟩)
 have hget : ∀ W', Touch w W' (fun _ => False) → Calls Tryz.prog 33 #[.pointer (some ⟨g, 0, none⟩), .agg (tcs f.t)] W' fun e w' => e = .returned (.tuple #[.agg (fca (getF M f.t)), .bool (hasF M f.t)]) ∧ Touch W' w' (fun _ => False) := fun W' t => fget_any W' g h most idle M (d.still t) f.t ok
 have hfn : ∀ e k : Bool, hasF M f.t = k → e = ends → keepFn M f ends = (if e then (if k then 84 else 85) else if k && decide ((getF M f.t).fb = f.fb) then 86 else 87) := fun e k h1 h2 => by subst h1 h2; rfl
 obtain ⟨y, hy⟩ : ∃ y, getF M f.t = y := ⟨_, rfl⟩
 obtain ⟨kn, hkn⟩ : ∃ kn, hasF M f.t = kn := ⟨_, rfl⟩
 have hfn := hfn ends kn hkn rfl
 rw [hy, hkn] at hget
 rw [hy] at hfn
 obtain ⟨F, hF⟩ : ∃ F, keepFn M f ends = F := ⟨_, rfl⟩
 rw [hF] at hfn ⊢
 have HFN := Lib.hid hfn
 have HGET := Lib.hid hget
 simp only [tcs, fca] at HGET
 clear hget hfn hy hkn d hs hF
 go_enter Tryz.func50, Tryz.ntmps50
 go_wp2_with fail
 go_cut [5, 6] (fun s5 s6 wx => ∃ B, s5 = .pointer (some ⟨B, 0, none⟩) ∧ s6 = .bool kn ∧ wx.heap[B]? = some (.cells (fca y) 83 (0, 0)) ∧ Touch w wx (fun _ => False))
 case first =>
  go_wp2_with fail
  have hS := (Touch.refl w (fun _ => False)).drew
  refine wp_region_tree (fun w' => Touch w w' (fun _ => False)) (.take 0 (.take 1 (.take 2 (.take 3 (.take 4 (.take 5 (.take 6 (.take 7 (.take 8 (.two 9 13 (.take 10 (.take 11 (.take 12 (.one 13 (.one 14 (.take 15 .fin)))))) (.one 9 (.take 10 (.take 11 (.take 12 (.one 14 (.take 15 .fin)))))))))))))))) (by kernel_rfl) (by kernel_rfl) (by kernel_rfl) (by kernel_rfl) hS ?_
  repeat' (first
   | (with_reducible refine walkT_take ?_)
   | (with_reducible refine walkT_one ?_)
   | (with_reducible refine walkT_two ?_ ?_)
   | (with_reducible refine walkT_fin ?_)
   | ((with_reducible show TakeN _ _ _ _ _ _ _ _); ((refine takeN_take (v := ?_) (some _) rfl rfl (fun _ _ _ h => h) (by rfl) ?_ ?_; rotate_left; (focus (intro w' hw'; obtain ⟨c0, c1, c2, c3, c4, c5, c6, c7, c8⟩ := HC.out w' hw'; go_simp; (try with_reducible rfl))); (try simp only [Act.put, List.setIfInBounds_toArray, List.set_cons_zero, List.set_cons_succ]))))
   | ((with_reducible show RunN _ _ _ _ 9 _ _ _); ((refine runN_call 17 33 _ _ _ (HGET.out _ hS) rfl rfl rfl (by rfl) rfl (enter_fget _ _ _) ?_; rintro e w6 ⟨rfl, t6⟩; have hS := hS.trans t6 (fun _ _ h => h); (try have HA := Lib.hid (t6.keeps HA.out (fun h => h))); refine ⟨_, rfl, hS, fun hS => ?_⟩; clear t6; (try simp only [Act.put, List.setIfInBounds_toArray, List.set_cons_zero, List.set_cons_succ]))))
   | ((with_reducible show RunN _ _ _ _ 13 _ _ _); ((have HAL := Lib.hid hS.size; refine runN_new 5 (fun W => .pointer (some ⟨W.heap.size, 0, none⟩)) (fca noF) 83 rfl rfl (by rfl) (by intro W; go_simp <;> first | with_reducible rfl | rfl | exact ⟨rfl, rfl⟩) ?_; intro w7 hw7 hM7 hs7 t7; have hS := hS.trans t7 (fun _ _ h => h.elim); have HA := Lib.hid hM7; refine ⟨hS, fun _ => ?_⟩; clear hw7 hs7 hM7 t7; (try simp only [Act.put, List.setIfInBounds_toArray, List.set_cons_zero, List.set_cons_succ]))))
   | ((with_reducible show RunN _ _ _ _ 14 _ _ _); ((refine runN_store rfl rfl (by rfl) 83 _ _ rfl _ (fca y) rfl rfl _ _ HA.out infoFlow rfl rfl ?_; intro w8 hM8 t8; have HA := Lib.hid hM8; refine ⟨hS.trans t8 (fun k hk e => by have e : k = _ := e; have := HAL.out; omega), fun hS => ?_⟩; clear hM8 t8; (try simp only [Act.put, List.setIfInBounds_toArray, List.set_cons_zero, List.set_cons_succ])))))
  all_goals
   go_wp2_with fail
   go_meet
   exact ⟨_, rfl, rfl, HA.out, hS⟩
 case rest =>
  obtain ⟨B, rfl, rfl, hA, hT⟩ := hcut
  have HA5 := Lib.hid hA
  have HT5 := Lib.hid hT
  clear hA hT
  cases ends with
  | true =>
    cases kn with
    | true =>
      go_wp2_with fail
      go_ret
      exact ⟨by rw [HFN.out]; rfl, HT5.out⟩
    | false =>
      go_wp2_with fail
      go_ret
      exact ⟨by rw [HFN.out]; rfl, HT5.out⟩
  | false =>
    cases kn with
    | false =>
      go_wp2_with fail
      have hS := (Touch.refl wc (fun _ => False)).drew
      refine wp_region_sched (fun w' => Touch wc w' (fun _ => False)) [(0, true), (1, true), (2, true), (3, true), (4, true), (5, true), (6, true), (7, true), (8, true), (9, true), (10, true), (11, true)] (by kernel_rfl) (by kernel_rfl) rfl (by kernel_rfl) hS ?_
      iterate 2 ((refine walkS_take (v := ?_) (some _) rfl rfl (fun _ _ _ h => h) (by rfl) ?_ ?_; rotate_left; (focus (intro w' hw'; obtain ⟨c0, c1, c2, c3, c4, c5, c6, c7, c8⟩ := HC.out w' (HT5.out.trans hw' (fun _ _ h => h)); have y5 : w'.cell? ⟨B, 5, none⟩ = some (.int .i64 y.fb) := cell_of_cells (hw'.keeps HA5.out (fun h => h)) 5; go_simp; (try with_reducible rfl))); (try simp only [Act.put, List.setIfInBounds_toArray, List.set_cons_zero, List.set_cons_succ])))
      iterate 8 (first | (refine walkS_skip (some _) rfl rfl (by rfl) (fun _ _ _ h => h) hS ?_; (try simp only [Act.put, List.setIfInBounds_toArray, List.set_cons_zero, List.set_cons_succ])) | (refine walkS_take (v := ?_) (some _) rfl rfl (fun _ _ _ h => h) (by rfl) ?_ ?_; rotate_left; (focus (intro w' hw'; obtain ⟨c0, c1, c2, c3, c4, c5, c6, c7, c8⟩ := HC.out w' (HT5.out.trans hw' (fun _ _ h => h)); have y5 : w'.cell? ⟨B, 5, none⟩ = some (.int .i64 y.fb) := cell_of_cells (hw'.keeps HA5.out (fun h => h)) 5; go_simp; (try with_reducible rfl))); (try simp only [Act.put, List.setIfInBounds_toArray, List.set_cons_zero, List.set_cons_succ])))
      iterate 2 ((refine walkS_take (v := ?_) (some _) rfl rfl (fun _ _ _ h => h) (by rfl) ?_ ?_; rotate_left; (focus (intro w' hw'; obtain ⟨c0, c1, c2, c3, c4, c5, c6, c7, c8⟩ := HC.out w' (HT5.out.trans hw' (fun _ _ h => h)); have y5 : w'.cell? ⟨B, 5, none⟩ = some (.int .i64 y.fb) := cell_of_cells (hw'.keeps HA5.out (fun h => h)) 5; go_simp; (try with_reducible rfl))); (try simp only [Act.put, List.setIfInBounds_toArray, List.set_cons_zero, List.set_cons_succ])))
      refine walkS_done ?_
      go_wp2_with fail
      go_ret
      exact ⟨by rw [HFN.out]; rfl, HT5.out.trans hS (fun _ _ h => h)⟩
    | true =>
      by_cases hb : y.fb = f.fb
      case pos =>
       have hbb : (y.fb == f.fb) = true := beq_iff_eq.2 hb
       have HB := Lib.hid hb
       clear hb
       go_wp2_with fail
       have hS := (Touch.refl wc (fun _ => False)).drew
       refine wp_region_sched (fun w' => Touch wc w' (fun _ => False)) [(0, true), (1, true), (2, true), (3, true), (4, true), (5, true), (6, true), (7, true), (8, true), (9, true), (10, true), (11, true)] (by kernel_rfl) (by kernel_rfl) rfl (by kernel_rfl) hS ?_
       iterate 2 ((refine walkS_take (v := ?_) (some _) rfl rfl (fun _ _ _ h => h) (by rfl) ?_ ?_; rotate_left; (focus (intro w' hw'; obtain ⟨c0, c1, c2, c3, c4, c5, c6, c7, c8⟩ := HC.out w' (HT5.out.trans hw' (fun _ _ h => h)); have y5 : w'.cell? ⟨B, 5, none⟩ = some (.int .i64 y.fb) := cell_of_cells (hw'.keeps HA5.out (fun h => h)) 5; go_simp; (try with_reducible rfl))); (try simp only [Act.put, List.setIfInBounds_toArray, List.set_cons_zero, List.set_cons_succ])))
       iterate 8 (first | (refine walkS_skip (some _) rfl rfl (by rfl) (fun _ _ _ h => h) hS ?_; (try simp only [Act.put, List.setIfInBounds_toArray, List.set_cons_zero, List.set_cons_succ])) | (refine walkS_take (v := ?_) (some _) rfl rfl (fun _ _ _ h => h) (by rfl) ?_ ?_; rotate_left; (focus (intro w' hw'; obtain ⟨c0, c1, c2, c3, c4, c5, c6, c7, c8⟩ := HC.out w' (HT5.out.trans hw' (fun _ _ h => h)); have y5 : w'.cell? ⟨B, 5, none⟩ = some (.int .i64 y.fb) := cell_of_cells (hw'.keeps HA5.out (fun h => h)) 5; go_simp; (try with_reducible rfl))); (try simp only [Act.put, List.setIfInBounds_toArray, List.set_cons_zero, List.set_cons_succ])))
       iterate 2 ((refine walkS_take (v := ?_) (some _) rfl rfl (fun _ _ _ h => h) (by rfl) ?_ ?_; rotate_left; (focus (intro w' hw'; obtain ⟨c0, c1, c2, c3, c4, c5, c6, c7, c8⟩ := HC.out w' (HT5.out.trans hw' (fun _ _ h => h)); have y5 : w'.cell? ⟨B, 5, none⟩ = some (.int .i64 y.fb) := cell_of_cells (hw'.keeps HA5.out (fun h => h)) 5; go_simp; (try with_reducible rfl))); (try simp only [Act.put, List.setIfInBounds_toArray, List.set_cons_zero, List.set_cons_succ])))
       refine walkS_done ?_
       go_wp2_with fail
       go_ret
       exact ⟨by rw [HFN.out, decide_eq_true HB.out]; rfl, HT5.out.trans hS (fun _ _ h => h)⟩
      case neg =>
       have hbb : (y.fb == f.fb) = false := beq_eq_false_iff_ne.2 hb
       have HB := Lib.hid hb
       clear hb
       go_wp2_with fail
       have hS := (Touch.refl wc (fun _ => False)).drew
       refine wp_region_sched (fun w' => Touch wc w' (fun _ => False)) [(0, true), (1, true), (2, true), (3, true), (4, true), (5, true), (6, true), (7, true), (8, true), (9, true), (10, true), (11, true)] (by kernel_rfl) (by kernel_rfl) rfl (by kernel_rfl) hS ?_
       iterate 2 ((refine walkS_take (v := ?_) (some _) rfl rfl (fun _ _ _ h => h) (by rfl) ?_ ?_; rotate_left; (focus (intro w' hw'; obtain ⟨c0, c1, c2, c3, c4, c5, c6, c7, c8⟩ := HC.out w' (HT5.out.trans hw' (fun _ _ h => h)); have y5 : w'.cell? ⟨B, 5, none⟩ = some (.int .i64 y.fb) := cell_of_cells (hw'.keeps HA5.out (fun h => h)) 5; go_simp; (try with_reducible rfl))); (try simp only [Act.put, List.setIfInBounds_toArray, List.set_cons_zero, List.set_cons_succ])))
       iterate 8 (first | (refine walkS_skip (some _) rfl rfl (by rfl) (fun _ _ _ h => h) hS ?_; (try simp only [Act.put, List.setIfInBounds_toArray, List.set_cons_zero, List.set_cons_succ])) | (refine walkS_take (v := ?_) (some _) rfl rfl (fun _ _ _ h => h) (by rfl) ?_ ?_; rotate_left; (focus (intro w' hw'; obtain ⟨c0, c1, c2, c3, c4, c5, c6, c7, c8⟩ := HC.out w' (HT5.out.trans hw' (fun _ _ h => h)); have y5 : w'.cell? ⟨B, 5, none⟩ = some (.int .i64 y.fb) := cell_of_cells (hw'.keeps HA5.out (fun h => h)) 5; go_simp; (try with_reducible rfl))); (try simp only [Act.put, List.setIfInBounds_toArray, List.set_cons_zero, List.set_cons_succ])))
       iterate 2 ((refine walkS_take (v := ?_) (some _) rfl rfl (fun _ _ _ h => h) (by rfl) ?_ ?_; rotate_left; (focus (intro w' hw'; obtain ⟨c0, c1, c2, c3, c4, c5, c6, c7, c8⟩ := HC.out w' (HT5.out.trans hw' (fun _ _ h => h)); have y5 : w'.cell? ⟨B, 5, none⟩ = some (.int .i64 y.fb) := cell_of_cells (hw'.keeps HA5.out (fun h => h)) 5; go_simp; (try with_reducible rfl))); (try simp only [Act.put, List.setIfInBounds_toArray, List.set_cons_zero, List.set_cons_succ])))
       refine walkS_done ?_
       go_wp2_with fail
       go_ret
       exact ⟨by rw [HFN.out, decide_eq_false HB.out]; rfl, HT5.out.trans hS (fun _ _ h => h)⟩
end Go.Proofs.YtpjdcgjoepjmcaaGreat
end
section
namespace Go.Proofs.YtpjdcgjoepjmcaaGreat
open Go.RowKit
theorem infoPlan : (Tryz.prog.info? 53).map (·.size) = some 5 := by kernel_rfl
def planV (v r b : Int) (p q : Value) : Array Value := #[.int .i64 v, .int .i64 r, .int .i64 b, p, q]
set_option maxRecDepth 20000 in
set_option maxHeartbeats 4000000 in
theorem dropped_any (r : Int) (w : World) : Calls Tryz.prog 47 #[.int .i64 r] w fun e w' => e = .returned (.agg (planV 1 r 0 (.slice none 0 0) (.slice none 0 0))) ∧ Touch w w' (fun _ => False) := by
 obtain ⟨W0, hW0⟩ : ∃ W, w.alloc (.cells (planV 0 0 0 (.slice none 0 0) (.slice none 0 0)) 53) = W := ⟨_, rfl⟩
 have t0 : Touch w W0 (fun _ => False) := hW0 ▸ (Touch.refl w _).alloc _
 have g0 : W0.heap[w.heap.size]? = some (.cells (planV 0 0 0 (.slice none 0 0) (.slice none 0 0)) 53 (0, 0)) := hW0 ▸ heap_alloc_new ..
 have HG0 := Lib.hid g0
 have HT0 := Lib.hid t0
 have HW0 := Lib.hid hW0
 have HPI := Lib.hid infoPlan
 simp only [planV] at HW0
 clear t0 g0 hW0
 go_enter Tryz.func47, Tryz.ntmps47
 go_upto_region 1 with (fail)
 rw [HW0.out]
 go_wp2_with (refine store_row rfl 53 (.tmp 2) (.tmp 5) rfl w.heap.size _ rfl rfl _ _ HG0.out HPI.out rfl rfl ?_)
 refine ret_row rfl rfl w.heap.size _ (planV 1 r 0 (.slice none 0 0) (.slice none 0 0)) _ _ rfl (setRow_heap _ _ _ _ _ _ HG0.out) Tryz.underlying53 rfl infoPlan ?_
 exact ⟨rfl, HT0.out.setRow _ _ (fun h => absurd h (Nat.lt_irrefl _))⟩
structure ChP (w : World) (C n : Nat) (bs : List BkD) (T : List Int) (ab : Option Addr) (lb cb G m : Nat) : Prop where
 hc : w.heap[C]? = some (.cells (chC n ab lb cb (some ⟨G, 0, none⟩) n n m) 100 (0, 0))
 hr : RowK w ab lb cb bs
 hi : RowI w (some ⟨G, 0, none⟩) n n T
theorem ChP.touch {S : Nat → Prop} {w w' : World} {C n : Nat} {bs : List BkD} {T : List Int} {ab : Option Addr} {lb cb G m : Nat} (h : ChP w C n bs T ab lb cb G m) (t : Touch w w' S) (h1 : ¬ S C) (h2 : ∀ x, ab = some x → ¬ S x.block) (h3 : ¬ S G) : ChP w' C n bs T ab lb cb G m :=
 ⟨t.keeps h.hc h1, h.hr.touch t (fun x hx => .inr (h2 x hx)), h.hi.touch t (fun x hx => .inr (fun e => by cases hx; exact h3 e))⟩
theorem ChP.still {w w' : World} {C n : Nat} {bs : List BkD} {T : List Int} {ab : Option Addr} {lb cb G m : Nat} (h : ChP w C n bs T ab lb cb G m) (t : Touch w w' (fun _ => False)) : ChP w' C n bs T ab lb cb G m := h.touch t (fun h => h) (fun _ _ h => h) (fun h => h)
theorem ChP.pick {w : World} {C n : Nat} {bs : List BkD} {T : List Int} {ab : Option Addr} {lb cb G m : Nat} (h : ChP w C n bs T ab lb cb G m) (hn : 0 < n) (hn2 : n ≤ 251) (t : TupD) (ok : TupOk t) :
 Calls Tryz.prog 81 #[.pointer (some ⟨C, 0, none⟩), .agg (tcs t)] w fun e w' => e = .returned (pickV bs T n t) ∧ Touch w w' (fun _ => False) :=
 pick_all n C ab lb cb G m bs T t w hn hn2 ok h.hc h.hr h.hi
theorem bkO_form (o : Option BkD) : ∃ (b : BkD) (x : Bool), bkO o = .tuple #[bkV' b, .bool x] := by
 cases o with
 | none => exact ⟨_, _, rfl⟩
 | some b => exact ⟨_, _, rfl⟩
set_option maxRecDepth 20000 in
set_option maxHeartbeats 12000000 in
theorem backend_any (w : World) (g : Nat) (h : FH) (most idle : Int) (M : List FlD) (d : FS w g h most idle M) (C n : Nat) (bs : List BkD) (T : List Int) (ab : Option Addr) (lb cb G m : Nat) (c : ChP w C n bs T ab lb cb G m) (hn : 0 < n) (hn2 : n ≤ 251) (k : TupD) (ok : TupOk k) :
 Calls Tryz.prog 48 #[.pointer (some ⟨g, 0, none⟩), .pointer (some ⟨C, 0, none⟩), .agg (tcs k)] w fun e w' => e = .returned (bkO (backF bs T n M k)) ∧ Touch w w' (fun _ => False) := by
 obtain ⟨Wa, hWa⟩ : ∃ W, w.alloc (.cells (tcs k) 37) = W := ⟨_, rfl⟩
 obtain ⟨W0, hW0⟩ : ∃ W, Wa.alloc (.cells #[.int .i64 0, .int .u32 0, .int .i64 0] 70) = W := ⟨_, rfl⟩
 have ta : Touch w Wa (fun _ => False) := hWa ▸ (Touch.refl w _).alloc _
 have t0' : Touch Wa W0 (fun _ => False) := hW0 ▸ (Touch.refl Wa _).alloc _
 have t0 := ta.trans t0' (fun _ _ h => h)
 have sa : Wa.heap.size = w.heap.size + 1 := by rw [← hWa]; simp
 have gk : W0.heap[w.heap.size]? = some (.cells (tcs k) 37 (0, 0)) := t0'.keeps (hWa ▸ heap_alloc_new ..) (fun h => h)
 have g0 : W0.heap[w.heap.size + 1]? = some (.cells #[.int .i64 0, .int .u32 0, .int .i64 0] 70 (0, 0)) := by
  rw [← sa]; exact hW0 ▸ heap_alloc_new ..
 have HGET := Lib.hid (fget_any W0 g h most idle M (d.still t0) k ok)
 have HG0 := Lib.hid g0
 have HGK := Lib.hid gk
 have HT0 := Lib.hid t0
 have HWa := Lib.hid hWa
 have HW0 := Lib.hid hW0
 have HCH := Lib.hid (c.still t0)
 obtain ⟨y, hy⟩ : ∃ y, getF M k = y := ⟨_, rfl⟩
 obtain ⟨kn, hkn⟩ : ∃ kn, hasF M k = kn := ⟨_, rfl⟩
 have hbf : backF bs T n M k = (match (if kn then findF bs y.fb else none) with | some b => some b | none => pickO bs T n k) := by subst hy hkn; rfl
 have HBF0 := Lib.hid hbf
 rw [hy, hkn] at HGET
 obtain ⟨q0, q1, q2, q3, q4⟩ : W0.cell? ⟨w.heap.size, 0, none⟩ = some (.int .u32 k.src) ∧ W0.cell? ⟨w.heap.size, 1, none⟩ = some (.int .u32 k.dst) ∧ W0.cell? ⟨w.heap.size, 2, none⟩ = some (.int .i64 k.proto) ∧ W0.cell? ⟨w.heap.size, 3, none⟩ = some (.int .i64 k.sport) ∧ W0.cell? ⟨w.heap.size, 4, none⟩ = some (.int .i64 k.dport) := ⟨cell_of_cells gk 0, cell_of_cells gk 1, cell_of_cells gk 2, cell_of_cells gk 3, cell_of_cells gk 4⟩
 have HQK : RowKit.Hid (∀ X, Touch W0 X (fun _ => False) → X.cell? ⟨w.heap.size, 0, none⟩ = some (.int .u32 k.src) ∧ X.cell? ⟨w.heap.size, 1, none⟩ = some (.int .u32 k.dst) ∧ X.cell? ⟨w.heap.size, 2, none⟩ = some (.int .i64 k.proto) ∧ X.cell? ⟨w.heap.size, 3, none⟩ = some (.int .i64 k.sport) ∧ X.cell? ⟨w.heap.size, 4, none⟩ = some (.int .i64 k.dport)) := Lib.hid (fun X x => by
  have g := x.keeps HGK.out (fun h => h)
  exact ⟨cell_of_cells g 0, cell_of_cells g 1, cell_of_cells g 2, cell_of_cells g 3, cell_of_cells g 4⟩)
 simp only [tcs, fca] at HGET HWa ⊢
 clear hWa hW0 ta t0' t0 gk g0 hbf d c hy hkn sa
 go_enter Tryz.func48, Tryz.ntmps48
 go_upto_region 1 with (fail)
 rw [HWa.out, HW0.out]
 go_wp2_with fail
 (with_reducible refine HGET.out.mono ?_)
 rintro e w1 ⟨rfl, t1⟩
 obtain ⟨W2, hW2⟩ : ∃ W, w1.alloc (.cells (fca y) 83) = W := ⟨_, rfl⟩
 have t2 : Touch w1 W2 (fun _ => False) := hW2 ▸ (Touch.refl w1 _).alloc _
 have g2 : W2.heap[w1.heap.size]? = some (.cells (fca y) 83 (0, 0)) := hW2 ▸ heap_alloc_new ..
 have y1 : W2.cell? ⟨w1.heap.size, 5, none⟩ = some (.int .i64 y.fb) := cell_of_cells g2 5
 have t02 := t1.trans t2 (fun _ _ h => h)
 have HT2 := Lib.hid t02
 have HW2 := Lib.hid hW2
 simp only [fca] at HW2
 clear t1 t2 g2 hW2 t02 q0 q1 q2 q3 q4
 go_upto_region 2 with (fail)
 rw [HW2.out]
 cases kn with
 | false =>
   have HBF := Lib.hid (show backF bs T n M k = pickO bs T n k from HBF0.out)
   have c3 := HCH.out.still HT2.out
   obtain ⟨q0, q1, q2, q3, q4⟩ := HQK.out W2 HT2.out
   have HGX := Lib.hid (HT2.out.keeps HG0.out (fun h => h))
   have HTX := Lib.hid (HT0.out.trans HT2.out (fun _ _ h => h))
   clear y1
   have hpk := c3.pick hn hn2 k ok
   rw [pickV_O] at hpk
   obtain ⟨b', x', hbx⟩ := bkO_form (pickO bs T n k)
   have HRES := Lib.hid (show bkO (backF bs T n M k) = .tuple #[bkV' b', .bool x'] by rw [HBF.out, hbx])
   rw [hbx] at hpk
   have HPK := Lib.hid hpk
   simp only [tcs, bkV'] at HPK
   clear hpk hbx c3
   go_wp2_with (first
    | (go_at_call 81; (with_reducible refine HPK.out.mono ?_); rintro e w6 ⟨rfl, t6⟩; have HG6 := Lib.hid (t6.keeps HGX.out (fun h => h)); have HT6 := Lib.hid (HTX.out.trans t6 (fun _ _ h => h)); clear t6)
    | (refine store_row rfl 70 (.tmp 6) (.tmp 31) rfl (w.heap.size + 1) _ rfl rfl _ _ HG6.out infoBk3 rfl rfl ?_))
   refine ret_row1 rfl rfl (w.heap.size + 1) _ #[.int .i64 b'.id, .int .u32 b'.addr, .int .i64 b'.weight] _ _ rfl (setRow_heap _ _ _ _ _ _ HG6.out) Tryz.underlying70 rfl infoBk3 (.bool x') rfl ?_
   exact ⟨by rw [HRES.out]; rfl, HT6.out.setRow _ _ (fun h => absurd h (by omega))⟩
 | true =>
   have hfd := cfind_any n C ab lb cb (some ⟨G, 0, none⟩) n n m bs y.fb W2 (HCH.out.still HT2.out).hc (HCH.out.still HT2.out).hr
   rw [findV_O] at hfd
   obtain ⟨o, ho⟩ : ∃ o, findF bs y.fb = o := ⟨_, rfl⟩
   rw [ho] at hfd
   have HFO := Lib.hid ho
   clear ho
   cases o with
   | some b =>
     have HFD := Lib.hid hfd
     have HRES := Lib.hid (show bkO (backF bs T n M k) = .tuple #[bkV' b, .bool true] by rw [HBF0.out, if_pos rfl, HFO.out]; rfl)
     simp only [bkO, bkV'] at HFD
     clear hfd
     go_wp2_with fail
     (with_reducible refine HFD.out.mono ?_)
     rintro e w4 ⟨rfl, t4⟩
     obtain ⟨W5, hW5⟩ : ∃ W, w4.alloc (.cells #[.int .i64 b.id, .int .u32 b.addr, .int .i64 b.weight] 70) = W := ⟨_, rfl⟩
     have t5 : Touch w4 W5 (fun _ => False) := hW5 ▸ (Touch.refl w4 _).alloc _
     have g5 : W5.heap[w4.heap.size]? = some (.cells #[.int .i64 b.id, .int .u32 b.addr, .int .i64 b.weight] 70 (0, 0)) := hW5 ▸ heap_alloc_new ..
     have t45 := t4.trans t5 (fun _ _ h => h)
     have HG5 := Lib.hid g5
     have HGX := Lib.hid (t45.keeps (HT2.out.keeps HG0.out (fun h => h)) (fun h => h))
     have HTX := Lib.hid ((HT0.out.trans HT2.out (fun _ _ h => h)).trans t45 (fun _ _ h => h))
     have HW5 := Lib.hid hW5
     clear t4 t5 g5 hW5 t45 y1
     go_upto_region 4 with (fail)
     rw [HW5.out]
     obtain ⟨z0, z1, z2⟩ : W5.cell? ⟨w4.heap.size, 0, none⟩ = some (.int .i64 b.id) ∧ W5.cell? ⟨w4.heap.size, 1, none⟩ = some (.int .u32 b.addr) ∧ W5.cell? ⟨w4.heap.size, 2, none⟩ = some (.int .i64 b.weight) := ⟨cell_of_cells HG5.out 0, cell_of_cells HG5.out 1, cell_of_cells HG5.out 2⟩
     go_wp2_with (refine store_row rfl 70 (.tmp 6) (.tmp 27) rfl (w.heap.size + 1) _ rfl rfl _ _ HGX.out infoBk3 rfl rfl ?_)
     refine ret_row1 rfl rfl (w.heap.size + 1) _ #[.int .i64 b.id, .int .u32 b.addr, .int .i64 b.weight] _ _ rfl (setRow_heap _ _ _ _ _ _ HGX.out) Tryz.underlying70 rfl infoBk3 (.bool true) rfl ?_
     exact ⟨by rw [HRES.out]; rfl, HTX.out.setRow _ _ (fun h => absurd h (by omega))⟩
   | none =>
     have HFD := Lib.hid hfd
     have HBF := Lib.hid (show backF bs T n M k = pickO bs T n k by rw [HBF0.out, if_pos rfl, HFO.out])
     simp only [bkO, bkV', bkZ] at HFD
     clear hfd
     go_wp2_with fail
     (with_reducible refine HFD.out.mono ?_)
     rintro e w4 ⟨rfl, t4⟩
     obtain ⟨W5, hW5⟩ : ∃ W, w4.alloc (.cells #[.int .i64 0, .int .u32 0, .int .i64 0] 70) = W := ⟨_, rfl⟩
     have t5 : Touch w4 W5 (fun _ => False) := hW5 ▸ (Touch.refl w4 _).alloc _
     have t25 := HT2.out.trans (t4.trans t5 (fun _ _ h => h)) (fun _ _ h => h)
     have c3 := HCH.out.still t25
     obtain ⟨q0, q1, q2, q3, q4⟩ := HQK.out W5 t25
     have HGX := Lib.hid (t25.keeps HG0.out (fun h => h))
     have HTX := Lib.hid (HT0.out.trans t25 (fun _ _ h => h))
     have HW5 := Lib.hid hW5
     clear t4 t5 hW5 t25 y1
     go_upto_region 4 with (fail)
     rw [HW5.out]
     have hpk := c3.pick hn hn2 k ok
     rw [pickV_O] at hpk
     obtain ⟨b', x', hbx⟩ := bkO_form (pickO bs T n k)
     have HRES := Lib.hid (show bkO (backF bs T n M k) = .tuple #[bkV' b', .bool x'] by rw [HBF.out, hbx])
     rw [hbx] at hpk
     have HPK := Lib.hid hpk
     simp only [tcs, bkV'] at HPK
     clear hpk hbx c3
     go_wp2_with (first
      | (go_at_call 81; (with_reducible refine HPK.out.mono ?_); rintro e w6 ⟨rfl, t6⟩; have HG6 := Lib.hid (t6.keeps HGX.out (fun h => h)); have HT6 := Lib.hid (HTX.out.trans t6 (fun _ _ h => h)); clear t6)
      | (refine store_row rfl 70 (.tmp 6) (.tmp 31) rfl (w.heap.size + 1) _ rfl rfl _ _ HG6.out infoBk3 rfl rfl ?_))
     refine ret_row1 rfl rfl (w.heap.size + 1) _ #[.int .i64 b'.id, .int .u32 b'.addr, .int .i64 b'.weight] _ _ rfl (setRow_heap _ _ _ _ _ _ HG6.out) Tryz.underlying70 rfl infoBk3 (.bool x') rfl ?_
     exact ⟨by rw [HRES.out]; rfl, HT6.out.setRow _ _ (fun h => absurd h (by omega))⟩
end Go.Proofs.YtpjdcgjoepjmcaaGreat
end
