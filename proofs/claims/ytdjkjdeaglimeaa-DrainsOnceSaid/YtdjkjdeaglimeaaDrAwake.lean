/- Backends that drain: awake; a set that there isn't. -/
import Derived.Test.YtdjkjdeaglimeaaDrDue
set_option linter.unusedVariables false
set_option linter.unusedSimpArgs false
namespace Go.Proofs.Ytdjkjdeaglimeaa
open Go.RowKit

theorem sort_le {x : DR} {M : List DR} (hs : SortQ ((x :: M).map qd)) : ∀ y ∈ M, x.u ≤ y.u := by
  intro y hy
  rw [List.map_cons] at hs
  have := (List.pairwise_cons.1 hs).1 (qd y) (List.mem_map.2 ⟨y, hy, rfl⟩)
  rcases (ltQ_iff _ _).1 this with h | ⟨h, _⟩
  · exact Int.le_of_lt h
  · exact Int.le_of_eq h
theorem due_filter : ∀ {M : List DR} (hs : SortQ (M.map qd)) (now : Int), dueD M now = M.filter (fun d => decide (d.u ≤ now)) ∧ restD M now = M.filter (fun d => !decide (d.u ≤ now))
  | [], _, _ => ⟨rfl, rfl⟩
  | x :: M, hs, now => by
    have hle := sort_le hs
    have hs2 : SortQ (M.map qd) := by rw [List.map_cons] at hs; exact (List.pairwise_cons.1 hs).2
    obtain ⟨i1, i2⟩ := due_filter hs2 now
    unfold dueD restD at *
    rw [List.takeWhile_cons, List.dropWhile_cons, List.filter_cons, List.filter_cons]
    by_cases h : x.u ≤ now
    · simp only [h, decide_true, if_true, Bool.not_true, Bool.false_eq_true, if_false]
      exact ⟨by rw [i1], i2⟩
    · simp only [h, decide_false, Bool.false_eq_true, if_false, Bool.not_false, if_true]
      refine ⟨(List.filter_eq_nil_iff.2 fun y hy => ?_).symm, ?_⟩
      · have := hle y hy; simp; omega
      · congr 1
        refine (List.filter_eq_self.2 fun y hy => ?_).symm
        have := hle y hy; simp; omega
/-- A set that was made since w. -/
structure DN (w w' : World) (s : Nat) (h : DH) (M : List DR) : Prop where
  q : DS w' s h M
  t : Touch w w' (fun _ => False)
  f : ∀ k, footD s h k → w.heap.size ≤ k
section
variable {w w1 w2 : World} {s : Nat} {h : DH} {M M' A R : List DR} {v : Value}
theorem DN.step (n : DN w w1 s h M) (x : DStep w1 w2 s h M') : ∃ h' M1, M1.Perm M' ∧ DN w w2 s h' M1 ∧ (∀ k, footD s h' k → footD s h k ∨ w1.heap.size ≤ k) ∧ Touch w1 w2 (footD s h) := by
  obtain ⟨h', M1, p, q, t, f⟩ := x
  refine ⟨h', M1, p, ⟨q, n.t.trans t (fun k hk hf => by have := n.f k hf; omega), fun k hk => ?_⟩, f, t⟩
  rcases f k hk with h | h
  · exact n.f k h
  · exact Nat.le_trans n.t.size h
theorem DN.due (n : DN w w1 s h M) (x : DDue w1 w2 s h A R v) :
    ∃ a c h', v = .slice a A.length c ∧ OwnS w2 w1.heap.size 3 1 (.slice a A.length c) (icells A) ∧ (∀ x, a = some x → ¬ footD s h' x.block) ∧ DN w w2 s h' R ∧ (∀ k, footD s h' k → footD s h k ∨ w1.heap.size ≤ k) ∧ Touch w1 w2 (footD s h) := by
  obtain ⟨a, c, h', rfl, ho, q, t, f, d⟩ := x
  refine ⟨a, c, h', rfl, ho, d, ⟨q, n.t.trans t (fun k hk hf => by have := n.f k hf; omega), fun k hk => ?_⟩, f, t⟩
  rcases f k hk with h | h
  · exact n.f k h
  · exact Nat.le_trans n.t.size h
theorem DN.touch {S : Nat → Prop} (n : DN w w1 s h M) (t : Touch w1 w2 S) (h1 : ∀ k, footD s h k → ¬ S k) (h2 : ∀ k, k < w.heap.size → ¬ S k) : DN w w2 s h M :=
  ⟨n.q.touch t h1, n.t.trans t (fun k hk hs => h2 k hk hs), n.f⟩
theorem DN.still (n : DN w w1 s h M) (t : Touch w1 w2 (fun _ => False)) : DN w w2 s h M := n.touch t (fun _ _ h => h) (fun _ _ h => h)
end
theorem icell_one {w : World} {g o n c : Nat} {A : List DR} (r : RowS w (some ⟨g, o, none⟩) n c 1 (icells A)) (i : Nat) (hi : i < A.length) : w.cell? ⟨g, o + i, none⟩ = some (.int .i64 (gd A i).b) := by
  have := r.cell i (by simpa [icells] using hi) 0 (.int .i64 (gd A i).b) (by simp [icells, gd_get A i hi])
  simpa using this
set_option maxRecDepth 20000 in
set_option maxHeartbeats 8000000 in
theorem awake12 (w : World) : Calls Try.prog 39 #[] w fun e w' => e = .returned (.bool true) ∧ Touch w w' (fun _ => False) := by
  go_enter Try.func39, Try.ntmps39
  go_wp2_with fail
  refine (dnew_any w).mono ?_
  rintro e w0 ⟨s, h, rfl, q0, t0, f0⟩
  have N0 := Lib.hid (DN.mk q0 t0 f0)
  have h1 := dput_any w0 s h [] q0 2 9
  have e1 : setDE [] 2 9 = 0 := by decide
  have e2 : putD [] 2 9 = [⟨2, 9⟩] := by unfold putD; rw [e1]; rfl
  rw [e1, e2] at h1
  have HS1 := Lib.hid h1
  clear h1 q0 t0 f0 e1 e2
  go_wp2_with fail
  refine HS1.out.mono ?_
  rintro e w1 ⟨rfl, s1⟩
  obtain ⟨hh1, M1, p1, n1, -, -⟩ := N0.out.step s1
  obtain rfl := List.perm_singleton.1 p1
  have h2 := dput_any w1 s hh1 [⟨2, 9⟩] n1.q 1 10
  have e1 : setDE [⟨2, 9⟩] 1 10 = 0 := by decide
  have e2 : putD [⟨2, 9⟩] 1 10 = [⟨1, 10⟩, ⟨2, 9⟩] := by unfold putD; rw [e1]; rfl
  rw [e1, e2] at h2
  have HS2 := Lib.hid h2
  have N1 := Lib.hid n1
  clear h2 s1 n1 p1 e1 e2
  go_wp2_with fail
  refine HS2.out.mono ?_
  rintro e w2 ⟨rfl, s2⟩
  obtain ⟨hh2, M2, p2, n2, -, -⟩ := N1.out.step s2
  obtain ⟨f1, f2⟩ := due_filter n2.q.q.1 9
  have d1 : dueD M2 9 = [⟨2, 9⟩] := by
    rw [f1]
    exact List.perm_singleton.1 (p2.filter _)
  have d2 : restD M2 9 = [⟨1, 10⟩] := by
    rw [f2]
    exact List.perm_singleton.1 (p2.filter _)
  have h3 := ddue_any w2 s hh2 M2 n2.q 9
  rw [d1, d2] at h3
  have HS3 := Lib.hid h3
  have N2 := Lib.hid n2
  clear h3 s2 n2 p2 f1 f2 d1 d2
  go_wp2_with fail
  refine HS3.out.mono ?_
  rintro e w3 ⟨v, rfl, s3⟩
  obtain ⟨a, c, hh3, rfl, ho, -, n3, -, -⟩ := N2.out.due s3
  obtain ⟨_, hr, _⟩ := ho.row'
  obtain ⟨g, o, rfl⟩ := hr.some (by decide)
  have y0 := icell_one hr 0 (by decide)
  have hmax := hr.hmax
  have hcap := hr.hcap
  have h4 := dis_any w3 s hh3 _ n3.q 1 (by constructor <;> decide)
  have h5 := dis_any w3 s hh3 _ n3.q 2 (by constructor <;> decide)
  have e1 : hasD [⟨1, 10⟩] 1 = true := by decide
  have e2 : hasD [⟨1, 10⟩] 2 = false := by decide
  rw [e1] at h4
  rw [e2] at h5
  have HI1 := Lib.hid h4
  have HI2 := Lib.hid h5
  have HT := Lib.hid n3.t
  have x0 : w3.cell? ⟨g, o, none⟩ = some (.int .i64 2) := y0
  clear s3 ho hr n3 h4 h5 e1 e2 y0
  go_wp2_with fail
  refine HI1.out.mono ?_
  rintro e w5 ⟨rfl, rfl⟩
  go_wp2_with fail
  refine HI2.out.mono ?_
  rintro e w5 ⟨rfl, rfl⟩
  go_wp2_with fail
  go_ret
  exact ⟨rfl, HT.out⟩
theorem dnlen (w : World) : Calls Try.prog 38 #[.pointer none] w fun e w' => e = .returned (.int .i64 0) ∧ w = w' := by
  go_enter Try.func38, Try.ntmps38
  go_wp2
  go_ret
  exact ⟨rfl, rfl⟩
theorem dnuntil (w : World) (b : Int) : Calls Try.prog 33 #[.pointer none, .int .i64 b] w fun e w' => e = .returned (.tuple #[.int .i64 0, .bool false]) ∧ w = w' := by
  go_enter Try.func33, Try.ntmps33
  go_wp2
  go_ret2
  exact ⟨rfl, rfl⟩
theorem dnis (w : World) (b : Int) : Calls Try.prog 35 #[.pointer none, .int .i64 b] w fun e w' => e = .returned (.bool false) ∧ w = w' := by
  go_enter Try.func35, Try.ntmps35
  go_wp2_with fail
  refine (dnuntil w b).mono ?_
  rintro e w' ⟨rfl, rfl⟩
  go_wp2_with fail
  go_ret
  exact ⟨rfl, rfl⟩
theorem dnput (w : World) (b u : Int) : Calls Try.prog 27 #[.pointer none, .int .i64 b, .int .i64 u] w fun e w' => e = .returned (.int .i64 1) ∧ w = w' := by
  go_enter Try.func27, Try.ntmps27
  go_wp2
  go_ret
  exact ⟨rfl, rfl⟩
theorem dnclear (w : World) (b : Int) : Calls Try.prog 29 #[.pointer none, .int .i64 b] w fun e w' => e = .returned (.bool false) ∧ w = w' := by
  go_enter Try.func29, Try.ntmps29
  go_wp2_with fail
  refine (dnis w b).mono ?_
  rintro e w' ⟨rfl, rfl⟩
  go_wp2_with fail
  go_ret
  exact ⟨rfl, rfl⟩
theorem dndue (w : World) (u : Int) : Calls Try.prog 31 #[.pointer none, .int .i64 u] w fun e w' => e = .returned (.slice none 0 0) ∧ w = w' := by
  go_enter Try.func31, Try.ntmps31
  go_wp2
  go_ret
  exact ⟨rfl, rfl⟩
theorem dnall (w : World) : Calls Try.prog 37 #[.pointer none] w fun e w' => e = .returned (.slice none 0 0) ∧ w = w' := by
  go_enter Try.func37, Try.ntmps37
  go_wp2
  go_ret
  exact ⟨rfl, rfl⟩
end Go.Proofs.Ytdjkjdeaglimeaa
