/- A disk's bytes under appends alone: never more than its quota. -/
import Derived.Test.YtmokcfmlolohaaaDskAwk
import Derived.Test.YtmokcfmlolohaaaDskSame
set_option linter.unusedVariables false
set_option linter.unusedSimpArgs false
namespace Go.Proofs.Ytmokcfmlolohaaa
open Go.RowKit

theorem enter_dnames (a : Value) (w : World) : (callFunc 29 #[a]).run Try.prog w = .ok (.enter 29 #[a]) w := by kernel_rfl
def lenF (F : Nat → DkFc) (x : NmD) : Nat := match x.f with | some g => (F g).b.length | none => 0
theorem szF_cons (F : Nat → DkFc) (x : NmD) (N : List NmD) : szF F (x :: N) = lenF F x + szF F N := by unfold szF lenF; rw [List.map_cons, List.sum_cons]; rfl
theorem lenF_put {F : Nat → DkFc} {g : Nat} {v : DkFc} {x : NmD} (h : x.f ≠ some g) : lenF (fPut F g v) x = lenF F x := by
  unfold lenF
  cases e : x.f with
  | none => rfl
  | some k =>
    simp only
    rw [fPut_ne _ _ (fun e2 => h (by rw [e, e2]))]
theorem lenF_at {F : Nat → DkFc} {g : Nat} {v : DkFc} {x : NmD} (h : x.f = some g) : lenF (fPut F g v) x = v.b.length := by
  unfold lenF
  rw [h]
  simp only
  rw [fPut_same]
theorem szF_put_none {F : Nat → DkFc} {g : Nat} {v : DkFc} : ∀ {N : List NmD}, (∀ x ∈ N, x.f ≠ some g) → szF (fPut F g v) N = szF F N
  | [], _ => rfl
  | x :: N, h => by
    rw [szF_cons, szF_cons, lenF_put (h x List.mem_cons_self), szF_put_none (fun y hy => h y (List.mem_cons_of_mem _ hy))]
theorem szF_put_at {F : Nat → DkFc} {g : Nat} {v : DkFc} : ∀ {N : List NmD}, (N.map NmD.f).Nodup → some g ∈ N.map NmD.f → szF (fPut F g v) N + (F g).b.length = szF F N + v.b.length
  | [], _, h => by cases h
  | x :: N, hn, h => by
    rw [List.map_cons, List.nodup_cons] at hn
    rw [szF_cons, szF_cons]
    rw [List.map_cons, List.mem_cons] at h
    by_cases e : x.f = some g
    · have h2 : ∀ y ∈ N, y.f ≠ some g := fun y hy he => hn.1 (by rw [e, ← he]; exact List.mem_map.2 ⟨y, hy, rfl⟩)
      rw [lenF_at e, szF_put_none h2]
      have h3 : lenF F x = (F g).b.length := by unfold lenF; rw [e]
      omega
    · have h4 : some g ∈ N.map NmD.f := by
        rcases h with h | h
        · exact absurd h.symm e
        · exact h
      have := szF_put_at (F := F) (v := v) hn.2 h4
      rw [lenF_put e]
      omega
structure QI (q : Int) (k : Nat) (st : DkS) : Prop where
  qe : st.q = q
  c : st.C.length ≤ k
  z : (dkSz st : Int) ≤ q
  d : (st.N.map NmD.f).Nodup
theorem QI.new {q : Int} (h0 : 0 ≤ q) (h1 : q < 200) : QI q 0 (dkNew q) where
  qe := by unfold dkNew; simp only; omega
  c := Nat.le_refl _
  z := by show ((0 : Nat) : Int) ≤ q; omega
  d := List.nodup_nil
theorem QI.mono {q : Int} {k : Nat} {st : DkS} (h : QI q k st) : QI q (k + 1) st := ⟨h.qe, Nat.le_succ_of_le h.c, h.z, h.d⟩
theorem QI.no {q : Int} {k : Nat} {st : DkS} (h : QI q k st) {n : ByteArray} {g : Nat} {xs : List Nat} (he : dkAppE st n xs.length ≠ 0) : dkAppS st n g xs = dkOp st ∧ QI q (k + 1) (dkOp st) ∧ dkSz (dkOp st) = dkSz st := by
  refine ⟨by unfold dkAppS; rw [if_pos he], ⟨h.qe, Nat.le_succ_of_le h.c, h.z, h.d⟩, rfl⟩
theorem delN_same {N : List NmD} {n : ByteArray} (h : hasN N n = false) : delN N n = N := by
  unfold delN
  rw [List.filter_eq_self]
  intro x hx
  have h2 : ¬ n ∈ N.map NmD.n := fun h3 => by rw [(hasN_iff _ _).2 h3] at h; cases h
  rw [Bool.not_eq_true', decide_eq_false_iff_not]
  exact fun e => h2 (e ▸ List.mem_map.2 ⟨x, hx, rfl⟩)
theorem QI.yes {w : World} {d : Nat} {hh : DkH} {q : Int} {k : Nat} {st : DkS} (h : QI q k st) (m : DkM w d hh st) {n : ByteArray} {g : Nat} (hg : hh.T g = .out) {xs : List Nat} (he : dkAppE st n xs.length = 0) : QI q (k + 1) (dkAppS st n g xs) ∧ dkSz (dkAppS st n g xs) = dkSz st + xs.length := by
  have hroom : dkRoom st (getN st.N n) xs.length = true := by
    unfold dkAppE at he
    split at he
    · cases he
    · split at he
      · cases he
      · split at he
        · assumption
        · cases he
  have hz : (dkSz st : Int) + xs.length ≤ q := by
    unfold dkRoom at hroom
    rw [Bool.and_eq_true] at hroom
    have := of_decide_eq_true hroom.1
    rw [h.qe] at this
    exact this
  have hc := h.c
  cases hn : getN st.N n with
  | none =>
    have e : dkAppS st n g xs = { dkOp st with C := st.C ++ [⟨0, n, ⟨#[]⟩, some g⟩], F := fPut st.F g ⟨xs, 0⟩ } := by
      unfold dkAppS
      rw [if_neg (by rw [he]; simp), hn]
    have hh2 : hasN st.N n = false := by rw [m.hasget n, hn]; rfl
    have hN : DkS.N { dkOp st with C := st.C ++ [⟨0, n, ⟨#[]⟩, some g⟩], F := fPut st.F g ⟨xs, 0⟩ } = ⟨n, some g⟩ :: st.N := by
      show dkAll st.S (st.C ++ [⟨0, n, ⟨#[]⟩, some g⟩]) = _
      rw [dkAll_snoc]
      show dkDo st.N _ = _
      unfold dkDo
      rw [if_pos rfl]
      unfold putN
      rw [delN_same hh2]
    have hf : ∀ x ∈ st.N, x.f ≠ some g := fun x hx e => by
      obtain ⟨-, -, g', h1, h2⟩ := m.goodN.ref x hx
      rw [e] at h1
      cases h1
      rw [hg] at h2
      cases h2
    have hs : dkSz { dkOp st with C := st.C ++ [⟨0, n, ⟨#[]⟩, some g⟩], F := fPut st.F g ⟨xs, 0⟩ } = dkSz st + xs.length := by
      rw [szF_is, hN, szF_is, szF_cons]
      show lenF (fPut st.F g ⟨xs, 0⟩) _ + szF (fPut st.F g ⟨xs, 0⟩) st.N = _
      rw [szF_put_none hf, lenF_at rfl]
      exact Nat.add_comm _ _
    rw [e]
    refine ⟨⟨h.qe, ?_, by rw [hs]; omega, ?_⟩, hs⟩
    · show (st.C ++ [_]).length ≤ _
      rw [List.length_append, List.length_singleton]
      omega
    · rw [hN, List.map_cons, List.nodup_cons]
      refine ⟨fun h2 => ?_, h.d⟩
      obtain ⟨x, hx, e2⟩ := List.mem_map.1 h2
      exact hf x hx e2
  | some f =>
    have e : dkAppS st n g xs = { dkOp st with F := fPut st.F f ⟨(st.F f).b ++ xs, (st.F f).s⟩ } := by
      unfold dkAppS
      rw [if_neg (by rw [he]; simp), hn]
    have hs : dkSz { dkOp st with F := fPut st.F f ⟨(st.F f).b ++ xs, (st.F f).s⟩ } = dkSz st + xs.length := by
      rw [szF_is, szF_is]
      show szF (fPut st.F f ⟨(st.F f).b ++ xs, (st.F f).s⟩) st.N = _
      have := szF_put_at (F := st.F) (v := ⟨(st.F f).b ++ xs, (st.F f).s⟩) h.d (List.mem_map.2 ⟨_, getN_mem hn, rfl⟩)
      simp only [List.length_append] at this
      omega
    rw [e]
    exact ⟨⟨h.qe, Nat.le_succ_of_le hc, by rw [hs]; omega, h.d⟩, hs⟩
theorem neI_same (a b : Int) (h : a = b) (x y : Operand) (W : World) :
    (do eqGuard BinOp.neq 3 x y (.int .i64 a) (.int .i64 b); binOp BinOp.neq 3 (.int .i64 a) (.int .i64 b) : Sem Value).run Try.prog W = .ok (.bool false) W := by
  subst h
  go_simp
theorem gtI_no (a b : Int) (h : a ≤ b) (x y : Operand) (W : World) :
    (do eqGuard BinOp.gtr 3 x y (.int .i64 a) (.int .i64 b); binOp BinOp.gtr 3 (.int .i64 a) (.int .i64 b) : Sem Value).run Try.prog W = .ok (.bool false) W := by
  go_simp
theorem eqE_no (a : Int) (h : a ≠ 0) (x y : Operand) (W : World) :
    (do eqGuard BinOp.eql 42 x y (.int .i64 a) (.int .i64 0); binOp BinOp.eql 42 (.int .i64 a) (.int .i64 0) : Sem Value).run Try.prog W = .ok (.bool false) W := by
  have hb : (a == 0) = false := by simpa using h
  go_simp
theorem neE_yes (a : Int) (h : a ≠ 0) (x y : Operand) (W : World) :
    (do eqGuard BinOp.neq 42 x y (.int .i64 a) (.int .i64 0); binOp BinOp.neq 42 (.int .i64 a) (.int .i64 0) : Sem Value).run Try.prog W = .ok (.bool true) W := by
  have hb : (a == 0) = false := by simpa using h
  go_simp
end Go.Proofs.Ytmokcfmlolohaaa
