import Derived.Test.YtpjdcgjoepjmcaaGreatKAZ
import Derived.Test.YtpjdcgjoepjmcaaGreatHAZ
set_option linter.unusedVariables false
set_option linter.unusedSimpArgs false
namespace Go.Proofs.YtpjdcgjoepjmcaaGreat
open Go.RowKit

def sgC (g : Nat) (f : FlD) : Array Value := #[.pointer (some ⟨g, 0, none⟩), .int .u32 f.t.src, .int .u32 f.t.dst, .int .i64 f.t.proto, .int .i64 f.t.sport, .int .i64 f.t.dport, .int .i64 f.fb, .int .i64 f.fg, .int .i64 f.fs]
def rcl (r : RecD) : List Value := (rcs r none 0).toList
def RecsIs (w w' : World) (v : Value) (rs : List RecD) : Prop := ∃ a c, v = .slice a rs.length c ∧ RowS w' a rs.length c 14 (rs.map rcl) ∧ ∀ x, a = some x → w.heap.size ≤ x.block ∧ x.block < w'.heap.size ∧ ∃ cs m, w'.heap[x.block]? = some (.cells cs 85 m)
theorem recs_nil (w w' : World) : RecsIs w w' (.slice none 0 0) [] := ⟨none, 0, rfl, RowS.nil _ _ _ _ (by omega), fun x hx => by cases hx⟩
theorem recs_one {w W : World} (h : w.heap.size ≤ W.heap.size) (r : RecD) (hr : r.bs = []) : RecsIs w (W.alloc (.cells (rcs r none 0) 85)) (.slice (some ⟨W.heap.size, 0, none⟩) 1 1) [r] := by
  refine ⟨_, 1, rfl, ⟨rfl, Nat.le_refl _, by simp, fun l hl => ?_, .inr ⟨W.heap.size, 0, rfl, by simp, fun i hi j u hu => ?_⟩⟩, fun x hx => by cases hx; exact ⟨h, by simp, _, _, heap_alloc_new ..⟩⟩
  · obtain rfl := List.mem_singleton.1 hl
    rfl
  · have hi0 : i = 0 := by simp at hi; omega
    subst hi0
    have hc := cell_of_cells (heap_alloc_new W (.cells (rcs r none 0) 85)) j
    simp only [Nat.zero_mul, Nat.zero_add]
    rw [hc]
    simpa [rcl] using hu
theorem step_touch {w w' : World} {g : Nat} {h : FH} {most idle : Int} {M : List FlD} (s : FStep w w' g h most idle M) : Touch w w' (footF g h) := by
  obtain ⟨_, _, _, _, t, _⟩ := s
  exact t
theorem FStep.still {w w1 w2 : World} {g : Nat} {h : FH} {most idle : Int} {M : List FlD} (s : FStep w w1 g h most idle M) (t : Touch w1 w2 (fun _ => False)) : FStep w w2 g h most idle M := by
  obtain ⟨h', M1, p, q, t1, f⟩ := s
  exact ⟨h', M1, p, q.still t, t1.trans t (fun _ _ h => h.elim), f⟩
theorem FStep.ahead {w w1 w2 : World} {g : Nat} {h : FH} {most idle : Int} {M : List FlD} (t : Touch w w1 (fun _ => False)) (s : FStep w1 w2 g h most idle M) : FStep w w2 g h most idle M := by
  obtain ⟨h', M1, p, q, t1, f⟩ := s
  exact ⟨h', M1, p, q, (t.mono (fun _ _ h => h.elim)).trans t1 (fun _ _ h => h), fun k hk => (f k hk).imp (fun h => h) (fun h => Nat.le_trans t.size h)⟩
theorem FStep.none {w w' : World} {g : Nat} {h : FH} {most idle : Int} {M : List FlD} (d : FS w g h most idle M) (t : Touch w w' (fun _ => False)) : FStep w w' g h most idle M :=
  ⟨h, M, .refl _, d.still t, t.mono (fun _ _ h => h.elim), fun k hk => .inl hk⟩
theorem enter_fdrop (a b : Value) (w : World) : (callFunc 122 #[a, b]).run Tryz.prog w = .ok (.enter 122 #[a, b]) w := by kernel_rfl
theorem enter_ftouch (a b c : Value) (w : World) : (callFunc 123 #[a, b, c]).run Tryz.prog w = .ok (.enter 123 #[a, b, c]) w := by kernel_rfl
theorem enter_fput (a b : Value) (w : World) : (callFunc 124 #[a, b]).run Tryz.prog w = .ok (.enter 124 #[a, b]) w := by kernel_rfl
theorem enter_fget (a b : Value) (w : World) : (callFunc 33 #[a, b]).run Tryz.prog w = .ok (.enter 33 #[a, b]) w := by kernel_rfl
set_option maxRecDepth 20000 in
set_option maxHeartbeats 8000000 in
theorem sdrop_any (w : World) (s g : Nat) (h : FH) (most idle : Int) (M : List FlD) (d : FS w g h most idle M) (f : FlD) (hs : w.heap[s]? = some (.cells (sgC g f) 113 (0, 0))) (hn : ¬ footF g h s) (ok : TupOk f.t) :
    Calls Tryz.prog 84 #[.pointer (some ⟨s, 0, none⟩)] w fun e w' => ∃ v, e = .returned v ∧ RecsIs w w' v [recF 2 ⟨f.t, 0, 0, 0⟩] ∧ FStep w w' g h most idle (delF M f.t) := by
  have HC : RowKit.Hid (∀ W', Touch w W' (footF g h) → W'.cell? ⟨s, 0, none⟩ = some (.pointer (some ⟨g, 0, none⟩)) ∧ W'.cell? ⟨s, 1, none⟩ = some (.int .u32 f.t.src) ∧ W'.cell? ⟨s, 2, none⟩ = some (.int .u32 f.t.dst) ∧ W'.cell? ⟨s, 3, none⟩ = some (.int .i64 f.t.proto) ∧ W'.cell? ⟨s, 4, none⟩ = some (.int .i64 f.t.sport) ∧ W'.cell? ⟨s, 5, none⟩ = some (.int .i64 f.t.dport) ∧ W'.cell? ⟨s, 6, none⟩ = some (.int .i64 f.fb) ∧ W'.cell? ⟨s, 7, none⟩ = some (.int .i64 f.fg) ∧ W'.cell? ⟨s, 8, none⟩ = some (.int .i64 f.fs)) := Lib.hid (fun W' t => by
    have k := t.keeps hs hn
    exact ⟨cell_of_cells k 0, cell_of_cells k 1, cell_of_cells k 2, cell_of_cells k 3, cell_of_cells k 4, cell_of_cells k 5, cell_of_cells k 6, cell_of_cells k 7, cell_of_cells k 8⟩)
  have HCON := Lib.hid (fdrop_any w.drew g h most idle M (d.still (Touch.refl w (fun _ => False)).drew) f.t ok)
  simp only [tcs] at HCON
  have t0 : Touch w w.drew (fun _ => False) := (Touch.refl w _).drew
  have HT0 := Lib.hid t0
  clear d hs t0
  go_enter Tryz.func84, Tryz.ntmps84
  go_wp2_with fail
  have hS := (Touch.refl w (footF g h)).drew
  refine wp_region_sched (fun w' => Touch w w' (footF g h)) [(0, true), (1, true), (2, true), (3, true), (4, true), (5, true), (6, true), (7, true), (8, true), (9, false)] (by kernel_rfl) (by kernel_rfl) rfl (by kernel_rfl) hS ?_
  (refine walkS_take (v := ?_) (some 3) rfl rfl (fun _ _ _ h => h) (by rfl) ?_ ?_; rotate_left; (focus (intro w' hw'; obtain ⟨c0, c1, c2, c3, c4, c5, c6, c7, c8⟩ := HC.out w' hw'; go_simp; (try with_reducible rfl))); (try simp only [Act.put, List.setIfInBounds_toArray, List.set_cons_zero, List.set_cons_succ]))
  (refine walkS_take (v := ?_) (some 4) rfl rfl (fun _ _ _ h => h) (by rfl) ?_ ?_; rotate_left; (focus (intro w' hw'; obtain ⟨c0, c1, c2, c3, c4, c5, c6, c7, c8⟩ := HC.out w' hw'; go_simp; (try with_reducible rfl))); (try simp only [Act.put, List.setIfInBounds_toArray, List.set_cons_zero, List.set_cons_succ]))
  (refine walkS_take (v := ?_) (some 5) rfl rfl (fun _ _ _ h => h) (by rfl) ?_ ?_; rotate_left; (focus (intro w' hw'; obtain ⟨c0, c1, c2, c3, c4, c5, c6, c7, c8⟩ := HC.out w' hw'; go_simp; (try with_reducible rfl))); (try simp only [Act.put, List.setIfInBounds_toArray, List.set_cons_zero, List.set_cons_succ]))
  (refine walkS_take (v := ?_) (some 6) rfl rfl (fun _ _ _ h => h) (by rfl) ?_ ?_; rotate_left; (focus (intro w' hw'; obtain ⟨c0, c1, c2, c3, c4, c5, c6, c7, c8⟩ := HC.out w' hw'; go_simp; (try with_reducible rfl))); (try simp only [Act.put, List.setIfInBounds_toArray, List.set_cons_zero, List.set_cons_succ]))
  (refine walkS_take (v := ?_) (some 7) rfl rfl (fun _ _ _ h => h) (by rfl) ?_ ?_; rotate_left; (focus (intro w' hw'; obtain ⟨c0, c1, c2, c3, c4, c5, c6, c7, c8⟩ := HC.out w' hw'; go_simp; (try with_reducible rfl))); (try simp only [Act.put, List.setIfInBounds_toArray, List.set_cons_zero, List.set_cons_succ]))
  (refine walkS_take (v := ?_) (some 8) rfl rfl (fun _ _ _ h => h) (by rfl) ?_ ?_; rotate_left; (focus (intro w' hw'; obtain ⟨c0, c1, c2, c3, c4, c5, c6, c7, c8⟩ := HC.out w' hw'; go_simp; (try with_reducible rfl))); (try simp only [Act.put, List.setIfInBounds_toArray, List.set_cons_zero, List.set_cons_succ]))
  (refine walkS_take (v := ?_) (some 9) rfl rfl (fun _ _ _ h => h) (by rfl) ?_ ?_; rotate_left; (focus (intro w' hw'; obtain ⟨c0, c1, c2, c3, c4, c5, c6, c7, c8⟩ := HC.out w' hw'; go_simp; (try with_reducible rfl))); (try simp only [Act.put, List.setIfInBounds_toArray, List.set_cons_zero, List.set_cons_succ]))
  (refine walkS_take (v := ?_) (some 10) rfl rfl (fun _ _ _ h => h) (by rfl) ?_ ?_; rotate_left; (focus (intro w' hw'; obtain ⟨c0, c1, c2, c3, c4, c5, c6, c7, c8⟩ := HC.out w' hw'; go_simp; (try with_reducible rfl))); (try simp only [Act.put, List.setIfInBounds_toArray, List.set_cons_zero, List.set_cons_succ]))
  (refine walkS_take (v := ?_) (some 11) rfl rfl (fun _ _ _ h => h) (by rfl) ?_ ?_; rotate_left; (focus (intro w' hw'; obtain ⟨c0, c1, c2, c3, c4, c5, c6, c7, c8⟩ := HC.out w' hw'; go_simp; (try with_reducible rfl))); (try simp only [Act.put, List.setIfInBounds_toArray, List.set_cons_zero, List.set_cons_succ]))
  (refine walkS_call 12 _ _ _ _ (HCON.out) rfl rfl rfl (by rfl) rfl (enter_fdrop _ _ _) ?_; rintro e w5 ⟨rfl, s5⟩; have HS5 := Lib.hid s5; refine ⟨_, rfl, hS.trans (step_touch s5) (fun _ _ h => h), fun hS => ?_⟩; clear s5; (try simp only [Act.put, List.setIfInBounds_toArray, List.set_cons_zero, List.set_cons_succ]))
  refine walkS_done ?_
  have hst := FStep.ahead HT0.out HS5.out
  obtain ⟨c0, c1, c2, c3, c4, c5, c6, c7, c8⟩ := HC.out w5 (step_touch hst)
  have HST := Lib.hid hst
  clear hst hS HS5
  go_wp2_with fail
  go_ret
  exact ⟨_, rfl, recs_one (step_touch HST.out).size (recF 2 ⟨f.t, 0, 0, 0⟩) rfl, HST.out.still ((Touch.refl w5 _).alloc _)⟩
set_option maxRecDepth 20000 in
set_option maxHeartbeats 8000000 in
theorem stouch_any (w : World) (s g : Nat) (h : FH) (most idle : Int) (M : List FlD) (d : FS w g h most idle M) (f : FlD) (hs : w.heap[s]? = some (.cells (sgC g f) 113 (0, 0))) (hn : ¬ footF g h s) (ok : TupOk f.t) :
    Calls Tryz.prog 86 #[.pointer (some ⟨s, 0, none⟩)] w fun e w' => ∃ v, e = .returned v ∧ RecsIs w w' v [] ∧ FStep w w' g h most idle (touchF M f.t f.fs) := by
  have HC : RowKit.Hid (∀ W', Touch w W' (footF g h) → W'.cell? ⟨s, 0, none⟩ = some (.pointer (some ⟨g, 0, none⟩)) ∧ W'.cell? ⟨s, 1, none⟩ = some (.int .u32 f.t.src) ∧ W'.cell? ⟨s, 2, none⟩ = some (.int .u32 f.t.dst) ∧ W'.cell? ⟨s, 3, none⟩ = some (.int .i64 f.t.proto) ∧ W'.cell? ⟨s, 4, none⟩ = some (.int .i64 f.t.sport) ∧ W'.cell? ⟨s, 5, none⟩ = some (.int .i64 f.t.dport) ∧ W'.cell? ⟨s, 6, none⟩ = some (.int .i64 f.fb) ∧ W'.cell? ⟨s, 7, none⟩ = some (.int .i64 f.fg) ∧ W'.cell? ⟨s, 8, none⟩ = some (.int .i64 f.fs)) := Lib.hid (fun W' t => by
    have k := t.keeps hs hn
    exact ⟨cell_of_cells k 0, cell_of_cells k 1, cell_of_cells k 2, cell_of_cells k 3, cell_of_cells k 4, cell_of_cells k 5, cell_of_cells k 6, cell_of_cells k 7, cell_of_cells k 8⟩)
  have HCON := Lib.hid (ftouch_any w.drew g h most idle M (d.still (Touch.refl w (fun _ => False)).drew) f.t ok f.fs)
  simp only [tcs] at HCON
  have t0 : Touch w w.drew (fun _ => False) := (Touch.refl w _).drew
  have HT0 := Lib.hid t0
  clear d hs t0
  go_enter Tryz.func86, Tryz.ntmps86
  go_wp2_with fail
  have hS := (Touch.refl w (footF g h)).drew
  refine wp_region_sched (fun w' => Touch w w' (footF g h)) [(0, true), (1, true), (2, true), (3, true), (4, true), (5, true), (6, true), (7, true), (8, true), (9, true), (10, true), (11, true), (12, true), (13, true), (14, false)] (by kernel_rfl) (by kernel_rfl) rfl (by kernel_rfl) hS ?_
  (refine walkS_take (v := ?_) (some 3) rfl rfl (fun _ _ _ h => h) (by rfl) ?_ ?_; rotate_left; (focus (intro w' hw'; obtain ⟨c0, c1, c2, c3, c4, c5, c6, c7, c8⟩ := HC.out w' hw'; go_simp; (try with_reducible rfl))); (try simp only [Act.put, List.setIfInBounds_toArray, List.set_cons_zero, List.set_cons_succ]))
  (refine walkS_take (v := ?_) (some 4) rfl rfl (fun _ _ _ h => h) (by rfl) ?_ ?_; rotate_left; (focus (intro w' hw'; obtain ⟨c0, c1, c2, c3, c4, c5, c6, c7, c8⟩ := HC.out w' hw'; go_simp; (try with_reducible rfl))); (try simp only [Act.put, List.setIfInBounds_toArray, List.set_cons_zero, List.set_cons_succ]))
  (refine walkS_take (v := ?_) (some 5) rfl rfl (fun _ _ _ h => h) (by rfl) ?_ ?_; rotate_left; (focus (intro w' hw'; obtain ⟨c0, c1, c2, c3, c4, c5, c6, c7, c8⟩ := HC.out w' hw'; go_simp; (try with_reducible rfl))); (try simp only [Act.put, List.setIfInBounds_toArray, List.set_cons_zero, List.set_cons_succ]))
  (refine walkS_take (v := ?_) (some 6) rfl rfl (fun _ _ _ h => h) (by rfl) ?_ ?_; rotate_left; (focus (intro w' hw'; obtain ⟨c0, c1, c2, c3, c4, c5, c6, c7, c8⟩ := HC.out w' hw'; go_simp; (try with_reducible rfl))); (try simp only [Act.put, List.setIfInBounds_toArray, List.set_cons_zero, List.set_cons_succ]))
  (refine walkS_take (v := ?_) (some 7) rfl rfl (fun _ _ _ h => h) (by rfl) ?_ ?_; rotate_left; (focus (intro w' hw'; obtain ⟨c0, c1, c2, c3, c4, c5, c6, c7, c8⟩ := HC.out w' hw'; go_simp; (try with_reducible rfl))); (try simp only [Act.put, List.setIfInBounds_toArray, List.set_cons_zero, List.set_cons_succ]))
  (refine walkS_take (v := ?_) (some 8) rfl rfl (fun _ _ _ h => h) (by rfl) ?_ ?_; rotate_left; (focus (intro w' hw'; obtain ⟨c0, c1, c2, c3, c4, c5, c6, c7, c8⟩ := HC.out w' hw'; go_simp; (try with_reducible rfl))); (try simp only [Act.put, List.setIfInBounds_toArray, List.set_cons_zero, List.set_cons_succ]))
  (refine walkS_take (v := ?_) (some 9) rfl rfl (fun _ _ _ h => h) (by rfl) ?_ ?_; rotate_left; (focus (intro w' hw'; obtain ⟨c0, c1, c2, c3, c4, c5, c6, c7, c8⟩ := HC.out w' hw'; go_simp; (try with_reducible rfl))); (try simp only [Act.put, List.setIfInBounds_toArray, List.set_cons_zero, List.set_cons_succ]))
  (refine walkS_take (v := ?_) (some 10) rfl rfl (fun _ _ _ h => h) (by rfl) ?_ ?_; rotate_left; (focus (intro w' hw'; obtain ⟨c0, c1, c2, c3, c4, c5, c6, c7, c8⟩ := HC.out w' hw'; go_simp; (try with_reducible rfl))); (try simp only [Act.put, List.setIfInBounds_toArray, List.set_cons_zero, List.set_cons_succ]))
  (refine walkS_take (v := ?_) (some 11) rfl rfl (fun _ _ _ h => h) (by rfl) ?_ ?_; rotate_left; (focus (intro w' hw'; obtain ⟨c0, c1, c2, c3, c4, c5, c6, c7, c8⟩ := HC.out w' hw'; go_simp; (try with_reducible rfl))); (try simp only [Act.put, List.setIfInBounds_toArray, List.set_cons_zero, List.set_cons_succ]))
  (refine walkS_take (v := ?_) (some 12) rfl rfl (fun _ _ _ h => h) (by rfl) ?_ ?_; rotate_left; (focus (intro w' hw'; obtain ⟨c0, c1, c2, c3, c4, c5, c6, c7, c8⟩ := HC.out w' hw'; go_simp; (try with_reducible rfl))); (try simp only [Act.put, List.setIfInBounds_toArray, List.set_cons_zero, List.set_cons_succ]))
  (refine walkS_take (v := ?_) (some 13) rfl rfl (fun _ _ _ h => h) (by rfl) ?_ ?_; rotate_left; (focus (intro w' hw'; obtain ⟨c0, c1, c2, c3, c4, c5, c6, c7, c8⟩ := HC.out w' hw'; go_simp; (try with_reducible rfl))); (try simp only [Act.put, List.setIfInBounds_toArray, List.set_cons_zero, List.set_cons_succ]))
  (refine walkS_take (v := ?_) (some 14) rfl rfl (fun _ _ _ h => h) (by rfl) ?_ ?_; rotate_left; (focus (intro w' hw'; obtain ⟨c0, c1, c2, c3, c4, c5, c6, c7, c8⟩ := HC.out w' hw'; go_simp; (try with_reducible rfl))); (try simp only [Act.put, List.setIfInBounds_toArray, List.set_cons_zero, List.set_cons_succ]))
  (refine walkS_take (v := ?_) (some 15) rfl rfl (fun _ _ _ h => h) (by rfl) ?_ ?_; rotate_left; (focus (intro w' hw'; obtain ⟨c0, c1, c2, c3, c4, c5, c6, c7, c8⟩ := HC.out w' hw'; go_simp; (try with_reducible rfl))); (try simp only [Act.put, List.setIfInBounds_toArray, List.set_cons_zero, List.set_cons_succ]))
  (refine walkS_take (v := ?_) (some 16) rfl rfl (fun _ _ _ h => h) (by rfl) ?_ ?_; rotate_left; (focus (intro w' hw'; obtain ⟨c0, c1, c2, c3, c4, c5, c6, c7, c8⟩ := HC.out w' hw'; go_simp; (try with_reducible rfl))); (try simp only [Act.put, List.setIfInBounds_toArray, List.set_cons_zero, List.set_cons_succ]))
  (refine walkS_call 17 _ _ _ _ (HCON.out) rfl rfl rfl (by rfl) rfl (enter_ftouch _ _ _ _) ?_; rintro e w5 ⟨rfl, s5⟩; have HS5 := Lib.hid s5; refine ⟨_, rfl, hS.trans (step_touch s5) (fun _ _ h => h), fun hS => ?_⟩; clear s5; (try simp only [Act.put, List.setIfInBounds_toArray, List.set_cons_zero, List.set_cons_succ]))
  refine walkS_done ?_
  have HST := Lib.hid (FStep.ahead HT0.out HS5.out)
  clear hS HS5
  go_wp2_with fail
  go_ret
  exact ⟨_, rfl, recs_nil _ _, HST.out⟩
set_option maxRecDepth 20000 in
set_option maxHeartbeats 8000000 in
theorem spin_any (w : World) (s g : Nat) (h : FH) (most idle : Int) (M : List FlD) (d : FS w g h most idle M) (f : FlD) (hs : w.heap[s]? = some (.cells (sgC g f) 113 (0, 0))) (hn : ¬ footF g h s) (ok : TupOk f.t) :
    Calls Tryz.prog 87 #[.pointer (some ⟨s, 0, none⟩)] w fun e w' => ∃ v, e = .returned v ∧ RecsIs w w' v (if putB M most f then [recF 1 f] else []) ∧ FStep w w' g h most idle (putF M most f) := by
  have HC : RowKit.Hid (∀ W', Touch w W' (footF g h) → W'.cell? ⟨s, 0, none⟩ = some (.pointer (some ⟨g, 0, none⟩)) ∧ W'.cell? ⟨s, 1, none⟩ = some (.int .u32 f.t.src) ∧ W'.cell? ⟨s, 2, none⟩ = some (.int .u32 f.t.dst) ∧ W'.cell? ⟨s, 3, none⟩ = some (.int .i64 f.t.proto) ∧ W'.cell? ⟨s, 4, none⟩ = some (.int .i64 f.t.sport) ∧ W'.cell? ⟨s, 5, none⟩ = some (.int .i64 f.t.dport) ∧ W'.cell? ⟨s, 6, none⟩ = some (.int .i64 f.fb) ∧ W'.cell? ⟨s, 7, none⟩ = some (.int .i64 f.fg) ∧ W'.cell? ⟨s, 8, none⟩ = some (.int .i64 f.fs)) := Lib.hid (fun W' t => by
    have k := t.keeps hs hn
    exact ⟨cell_of_cells k 0, cell_of_cells k 1, cell_of_cells k 2, cell_of_cells k 3, cell_of_cells k 4, cell_of_cells k 5, cell_of_cells k 6, cell_of_cells k 7, cell_of_cells k 8⟩)
  have hput := fput_any w.drew g h most idle M (d.still (Touch.refl w (fun _ => False)).drew) f ok
  obtain ⟨o, er, hpe, heo⟩ : ∃ (o : Bool) (er : Int), putE M most f = .tuple #[.bool o, .int .i64 er] ∧ (er != 0) = !putB M most f := by
    unfold putE
    cases hm : mayFB f with
    | false =>
      refine ⟨false, 1, rfl, ?_⟩
      have : putB M most f = false := by unfold putB; rw [hm]; rfl
      rw [this]; rfl
    | true =>
      cases hb : putB M most f with
      | false => exact ⟨false, 9, rfl, rfl⟩
      | true => exact ⟨_, 0, rfl, rfl⟩
  rw [hpe] at hput
  have HCON := Lib.hid hput
  simp only [fca] at HCON
  have t0 : Touch w w.drew (fun _ => False) := (Touch.refl w _).drew
  have HT0 := Lib.hid t0
  obtain ⟨b, hb⟩ : ∃ b, putB M most f = b := ⟨_, rfl⟩
  rw [hb] at heo ⊢
  clear d hs t0 hput hpe hb
  go_enter Tryz.func87, Tryz.ntmps87
  go_wp2_with fail
  have hS := (Touch.refl w (footF g h)).drew
  refine wp_region_sched (fun w' => Touch w w' (footF g h)) [(0, true), (1, true), (2, true), (3, true), (4, true), (5, true), (6, true), (7, true), (8, false), (9, true), (10, true), (11, true), (12, true), (13, true)] (by kernel_rfl) (by kernel_rfl) rfl (by kernel_rfl) hS ?_
  (refine walkS_take (v := ?_) (some 6) rfl rfl (fun _ _ _ h => h) (by rfl) ?_ ?_; rotate_left; (focus (intro w' hw'; obtain ⟨c0, c1, c2, c3, c4, c5, c6, c7, c8⟩ := HC.out w' hw'; go_simp; (try with_reducible rfl))); (try simp only [Act.put, List.setIfInBounds_toArray, List.set_cons_zero, List.set_cons_succ]))
  (refine walkS_take (v := ?_) (some 7) rfl rfl (fun _ _ _ h => h) (by rfl) ?_ ?_; rotate_left; (focus (intro w' hw'; obtain ⟨c0, c1, c2, c3, c4, c5, c6, c7, c8⟩ := HC.out w' hw'; go_simp; (try with_reducible rfl))); (try simp only [Act.put, List.setIfInBounds_toArray, List.set_cons_zero, List.set_cons_succ]))
  (refine walkS_take (v := ?_) (some 8) rfl rfl (fun _ _ _ h => h) (by rfl) ?_ ?_; rotate_left; (focus (intro w' hw'; obtain ⟨c0, c1, c2, c3, c4, c5, c6, c7, c8⟩ := HC.out w' hw'; go_simp; (try with_reducible rfl))); (try simp only [Act.put, List.setIfInBounds_toArray, List.set_cons_zero, List.set_cons_succ]))
  (refine walkS_take (v := ?_) (some 9) rfl rfl (fun _ _ _ h => h) (by rfl) ?_ ?_; rotate_left; (focus (intro w' hw'; obtain ⟨c0, c1, c2, c3, c4, c5, c6, c7, c8⟩ := HC.out w' hw'; go_simp; (try with_reducible rfl))); (try simp only [Act.put, List.setIfInBounds_toArray, List.set_cons_zero, List.set_cons_succ]))
  (refine walkS_take (v := ?_) (some 10) rfl rfl (fun _ _ _ h => h) (by rfl) ?_ ?_; rotate_left; (focus (intro w' hw'; obtain ⟨c0, c1, c2, c3, c4, c5, c6, c7, c8⟩ := HC.out w' hw'; go_simp; (try with_reducible rfl))); (try simp only [Act.put, List.setIfInBounds_toArray, List.set_cons_zero, List.set_cons_succ]))
  (refine walkS_take (v := ?_) (some 11) rfl rfl (fun _ _ _ h => h) (by rfl) ?_ ?_; rotate_left; (focus (intro w' hw'; obtain ⟨c0, c1, c2, c3, c4, c5, c6, c7, c8⟩ := HC.out w' hw'; go_simp; (try with_reducible rfl))); (try simp only [Act.put, List.setIfInBounds_toArray, List.set_cons_zero, List.set_cons_succ]))
  (refine walkS_take (v := ?_) (some 12) rfl rfl (fun _ _ _ h => h) (by rfl) ?_ ?_; rotate_left; (focus (intro w' hw'; obtain ⟨c0, c1, c2, c3, c4, c5, c6, c7, c8⟩ := HC.out w' hw'; go_simp; (try with_reducible rfl))); (try simp only [Act.put, List.setIfInBounds_toArray, List.set_cons_zero, List.set_cons_succ]))
  (refine walkS_take (v := ?_) (some 13) rfl rfl (fun _ _ _ h => h) (by rfl) ?_ ?_; rotate_left; (focus (intro w' hw'; obtain ⟨c0, c1, c2, c3, c4, c5, c6, c7, c8⟩ := HC.out w' hw'; go_simp; (try with_reducible rfl))); (try simp only [Act.put, List.setIfInBounds_toArray, List.set_cons_zero, List.set_cons_succ]))
  (refine walkS_call 14 _ _ _ _ (HCON.out) rfl rfl rfl (by rfl) rfl (enter_fput _ _ _) ?_; rintro e w5 ⟨rfl, s5⟩; have HS5 := Lib.hid s5; refine ⟨_, rfl, hS.trans (step_touch s5) (fun _ _ h => h), fun hS => ?_⟩; clear s5; (try simp only [Act.put, List.setIfInBounds_toArray, List.set_cons_zero, List.set_cons_succ]))
  (refine walkS_take (v := ?_) (some 5) rfl rfl (fun _ _ _ h => h) (by rfl) ?_ ?_; rotate_left; (focus (intro w' hw'; obtain ⟨c0, c1, c2, c3, c4, c5, c6, c7, c8⟩ := HC.out w' hw'; go_simp; (try with_reducible rfl))); (try simp only [Act.put, List.setIfInBounds_toArray, List.set_cons_zero, List.set_cons_succ]))
  (refine walkS_take (v := ?_) (some 15) rfl rfl (fun _ _ _ h => h) (by rfl) ?_ ?_; rotate_left; (focus (intro w' hw'; obtain ⟨c0, c1, c2, c3, c4, c5, c6, c7, c8⟩ := HC.out w' hw'; go_simp; (try with_reducible rfl))); (try simp only [Act.put, List.setIfInBounds_toArray, List.set_cons_zero, List.set_cons_succ]))
  (refine walkS_take (v := ?_) (some 16) rfl rfl (fun _ _ _ h => h) (by rfl) ?_ ?_; rotate_left; (focus (intro w' hw'; obtain ⟨c0, c1, c2, c3, c4, c5, c6, c7, c8⟩ := HC.out w' hw'; go_simp; (try with_reducible rfl))); (try simp only [Act.put, List.setIfInBounds_toArray, List.set_cons_zero, List.set_cons_succ]))
  (refine walkS_take (v := ?_) (some 3) rfl rfl (fun _ _ _ h => h) (by rfl) ?_ ?_; rotate_left; (focus (intro w' hw'; obtain ⟨c0, c1, c2, c3, c4, c5, c6, c7, c8⟩ := HC.out w' hw'; go_simp; (try with_reducible rfl))); (try simp only [Act.put, List.setIfInBounds_toArray, List.set_cons_zero, List.set_cons_succ]))
  (refine walkS_take (v := ?_) (some 4) rfl rfl (fun _ _ _ h => h) (by rfl) ?_ ?_; rotate_left; (focus (intro w' hw'; obtain ⟨c0, c1, c2, c3, c4, c5, c6, c7, c8⟩ := HC.out w' hw'; go_simp; (try with_reducible rfl))); (try simp only [Act.put, List.setIfInBounds_toArray, List.set_cons_zero, List.set_cons_succ]))
  refine walkS_done ?_
  have hst := FStep.ahead HT0.out HS5.out
  obtain ⟨c0, c1, c2, c3, c4, c5, c6, c7, c8⟩ := HC.out w5 (step_touch hst)
  have HST := Lib.hid hst
  clear hst hS HS5
  cases b with
  | true =>
    rw [Bool.not_true] at heo
    go_wp2_with fail
    go_ret
    exact ⟨_, rfl, recs_one (step_touch HST.out).size (recF 1 f) rfl, HST.out.still ((Touch.refl w5 _).alloc _)⟩
  | false =>
    rw [Bool.not_false] at heo
    go_wp2_with fail
    go_ret
    exact ⟨_, rfl, recs_nil _ _, HST.out⟩
set_option maxRecDepth 20000 in
theorem spass_any (w : World) (v : Value) : Calls Tryz.prog 85 #[v] w fun e w' => e = .returned (.slice none 0 0) ∧ w = w' := by
  go_enter Tryz.func85, Tryz.ntmps85
  go_wp2_with fail
  go_ret
  exact ⟨rfl, rfl⟩
end Go.Proofs.YtpjdcgjoepjmcaaGreat
