/- Raw of both readers as one. -/
import Derived.Test.YtjmhfbfpndpkkaaOctRfn
set_option linter.unusedVariables false
namespace Go.Proofs.Ytjmhfbfpndpkkaa
open Go.RowKit

/-- A new row that a call hands back. -/
def GotR (w w' : World) (v : Value) (ys : List Nat) : Prop := ∃ a3 c3, v = .slice a3 ys.length c3 ∧ RowB w' a3 ys.length c3 ys ∧ ∀ x, a3 = some x → w.heap.size ≤ x.block
theorem GotR.none (w w' : World) : GotR w w' (.slice Option.none 0 0) [] := ⟨Option.none, 0, rfl, RowB.nil _ _ _ (by omega), fun x hx => by cases hx⟩
theorem GotR.touch {w w1 w2 : World} {v : Value} {ys : List Nat} {M : Nat} (h : GotR w w1 v ys) (t : Touch w1 w2 (fun k => k = M)) (hM : M < w.heap.size) : GotR w w2 v ys := by
  obtain ⟨a, c, h1, h2, h3⟩ := h
  exact ⟨a, c, h1, h2.touch t (fun x hx => .inr (fun e => by have := h3 x hx; omega)), h3⟩

set_option maxHeartbeats 1000000 in
theorem rraw_any (G : Nat) (a : Option Addr) (len cap : Nat) (xs : List Nat) (err : Int) (n : Nat) (w : World) (h : RdB w G a len cap xs err) (hn0 : 0 < n) (hn : n ≤ len) (hlen : len ≤ 140737488355328) :
    Calls Try.prog 36 #[.pointer (some ⟨G, 0, none⟩), .int .i64 n] w fun e w' => ∃ a3 c3, e = .returned (.slice a3 n c3) ∧ ∃ w1, TookB G a len cap xs err n w w1 ∧ FreshB w1 w' (.slice a3 n c3) (xs.take n) := by
  have H := Lib.hid (take_some G a len cap xs err n w h hn0 hn)
  clear h
  go_enter Try.func36, Try.ntmps36
  go_wp2_with fail
  refine H.out.mono ?_
  rintro e w1 ⟨rfl, hto⟩
  have HT := Lib.hid hto
  obtain ⟨a', hrd, hrow, ht, hb⟩ := hto
  have H2 := Lib.hid (clone_any a n cap (xs.take n) w1 hrow (by omega))
  clear hrow hrd
  go_wp2_with (go_at_call 32; refine H2.out.mono ?_; rintro e w2 ⟨a3, c3, rfl, hf⟩)
  go_ret
  exact ⟨a3, c3, rfl, w1, HT.out, hf⟩

theorem rd_Raw (G M : Nat) (xs : List Nat) (err n : Int) (w : World) (h : Rd w G M xs err) (hGM : G ≠ M) (hM : M < w.heap.size) (hlen : xs.length ≤ 140737488355328) :
    Calls Try.prog 36 #[.pointer (some ⟨G, 0, none⟩), .int .i64 n] w fun e w' => ∃ v, e = .returned v ∧ GotR w w' v (rawN n.toNat xs) ∧ Rd w' G M (nxtX n.toNat xs) (nxtE n.toNat xs err) ∧ Touch w w' (fun k => k = G) := by
  obtain ⟨a, cap, h1, h2⟩ := h
  by_cases h0 : n ≤ 0
  · refine (rraw_none G a _ cap xs err n w h1 h0).mono ?_
    rintro e w' ⟨rfl, rfl⟩
    have e0 : n.toNat = 0 := by omega
    rw [e0]
    refine ⟨_, rfl, by simpa [rawN] using GotR.none w' w', ?_, Touch.refl _ _⟩
    have e1 : nxtX 0 xs = xs := by simp [nxtX]
    have e2 : nxtE 0 xs err = err := by simp [nxtE]
    rw [e1, e2]
    exact ⟨a, cap, h1, h2⟩
  obtain ⟨m, rfl⟩ : ∃ m : Nat, n = m := ⟨n.toNat, by omega⟩
  rw [Int.toNat_natCast]
  by_cases hn : m ≤ xs.length
  · refine (rraw_any G a _ cap xs err m w h1 (by omega) hn hlen).mono ?_
    rintro e w' ⟨a3, c3, rfl, w1, ht, hf⟩
    obtain ⟨r1, r2⟩ := Rd.took (M := M) hn h2 ht
    have hsz := r2.size
    refine ⟨_, rfl, ?_, r1.still hf.2, r2.trans hf.2 (fun _ _ h => h.elim)⟩
    obtain ⟨a4, c4, hv, hr, hp⟩ := hf.1.row
    unfold rawN
    rw [if_pos hn]
    have hl : (xs.take m).length = m := by simp; omega
    refine ⟨a3, c3, by rw [hl], ?_, fun x hx => ?_⟩
    · rw [hl] at hv hr ⊢
      simp only [Value.slice.injEq, true_and] at hv
      obtain ⟨rfl, rfl⟩ := hv
      exact hr
    · simp only [Value.slice.injEq] at hv
      obtain ⟨rfl, _, rfl⟩ := hv
      rcases hp with h | ⟨g, h, hg, _⟩
      · rw [hx] at h; cases h
      · rw [hx] at h; cases h; simp; omega
  · refine (rraw_short G a _ cap xs err m w h1 (by omega)).mono ?_
    rintro e w' ⟨rfl, hr, ht⟩
    obtain ⟨e1, e2, _, e4⟩ := nxt_bad (err := err) hn
    rw [e1, e2, e4]
    exact ⟨_, rfl, GotR.none _ _, Rd.none hr, ht⟩

end Go.Proofs.Ytjmhfbfpndpkkaa
