/- What the reference's reader answers and leaves. -/
import Derived.Test.YthjdebcjfpokoaaOctRef
set_option linter.unusedVariables false
namespace Go.Proofs.Ythjdebcjfpokoaa
open Go.RowKit

/-- The reference's reader in block M has the bytes xs left, and the error err. -/
structure RfB (w : World) (M : Nat) (a : Option Addr) (len cap : Nat) (xs : List Nat) (err : Int) : Prop where
  head : w.heap[M]? = some (.cells #[.slice a len cap, .int .i64 err] 67 (0, 0))
  row : RowB w a len cap xs
  apart : ∀ x, a = some x → len = 0 ∨ x.block ≠ M
theorem RfB.lt {w : World} {G : Nat} {a : Option Addr} {len cap : Nat} {xs : List Nat} {err : Int} (h : RfB w G a len cap xs err) : G < w.heap.size := (Array.getElem?_eq_some_iff.1 h.head).1
theorem RfB.touch {w w' : World} {G : Nat} {a : Option Addr} {len cap : Nat} {xs : List Nat} {err : Int} {S : Nat → Prop} (h : RfB w G a len cap xs err) (t : Touch w w' S) (hG : ¬ S G) (ha : ∀ x, a = some x → len = 0 ∨ ¬ S x.block) : RfB w' G a len cap xs err :=
  ⟨(t.block G h.lt hG).trans h.head, h.row.touch t ha, h.apart⟩
/-- What taking n bytes leaves and hands back. -/
def TookR (M : Nat) (a : Option Addr) (len cap : Nat) (xs : List Nat) (n : Nat) (w w' : World) (v : Value) : Prop :=
  ∃ a3 c3 a', v = .slice a3 n c3 ∧ RowB w' a3 n c3 (xs.take n) ∧ (∀ x, a3 = some x → w.heap.size ≤ x.block) ∧ RfB w' M a' (len - n) (cap - n) (xs.drop n) 0 ∧ (∀ x, a' = some x → ∃ y, a = some y ∧ x.block = y.block) ∧ Touch w w' (fun k => k = M)

set_option maxHeartbeats 1000000 in
theorem rf_raw_bad (M : Nat) (a : Option Addr) (len cap : Nat) (xs : List Nat) (err n : Int) (w : World) (h : RfB w M a len cap xs err) (hn : err ≠ 0 ∨ (len : Int) < n) :
    Calls Try.prog 67 #[.pointer (some ⟨M, 0, none⟩), .int .i64 n] w fun e w' => e = .returned (.slice none 0 0) ∧ RfB w' M none 0 0 [] 2 ∧ Touch w w' (fun k => k = M) := by
  obtain ⟨hh, hrow, hap⟩ := h
  have hc0 := cell_of_cells hh 0
  have hc1 := cell_of_cells hh 1
  have hf0 := free_of_cells hh 0
  have hf1 := free_of_cells hh 1
  simp at hc0 hc1
  have fin : RfB ((w.setCell ⟨M, 1, none⟩ (.int .i64 2)).setCell ⟨M, 0, none⟩ (.slice none 0 0)) M none 0 0 [] 2 ∧ Touch w ((w.setCell ⟨M, 1, none⟩ (.int .i64 2)).setCell ⟨M, 0, none⟩ (.slice none 0 0)) (fun k => k = M) := by
    refine ⟨⟨?_, RowB.nil _ _ _ (by omega), by simp⟩, ?_⟩
    · have e := heap_setCell_same _ M 0 _ _ (.slice none 0 0) (heap_setCell_same w M 1 _ _ (.int .i64 2) hh)
      simpa using e
    · have T : Touch w (w.setCell ⟨M, 1, none⟩ (.int .i64 2)) (fun k => k = M) := (Touch.refl _ _).setCell ⟨M, 1, none⟩ _ (fun _ => rfl)
      exact T.setCell ⟨M, 0, none⟩ _ (fun _ => rfl)
  have FIN := Lib.hid fin
  clear fin
  by_cases h0 : n < 0
  · have hz : err ≠ 0 := by rcases hn with h | h <;> omega
    have he : (err == 0) = false := beq_eq_false_iff_ne.2 hz
    go_enter Try.func67, Try.ntmps67
    go_wp2
    go_ret
    exact ⟨rfl, FIN.out.1, FIN.out.2⟩
  by_cases hz : err = 0
  · subst hz
    have hl : (len : Int) < n := by rcases hn with h | h <;> omega
    clear hn
    go_enter Try.func67, Try.ntmps67
    go_wp2
    go_ret
    exact ⟨rfl, FIN.out.1, FIN.out.2⟩
  · have he : (err == 0) = false := beq_eq_false_iff_ne.2 hz
    clear hn
    go_enter Try.func67, Try.ntmps67
    go_wp2
    go_ret
    exact ⟨rfl, FIN.out.1, FIN.out.2⟩
set_option maxHeartbeats 1000000 in
theorem rf_raw_ok (M : Nat) (a : Option Addr) (len cap : Nat) (xs : List Nat) (n : Nat) (w : World) (h : RfB w M a len cap xs 0) (hn : n ≤ len) (hlen : len ≤ 140737488355328) :
    Calls Try.prog 67 #[.pointer (some ⟨M, 0, none⟩), .int .i64 n] w fun e w' => ∃ v, e = .returned v ∧ TookR M a len cap xs n w w' v := by
  obtain ⟨hh, hrow, hap⟩ := h
  have hM : M < w.heap.size := (Array.getElem?_eq_some_iff.1 hh).1
  have hc0 := cell_of_cells hh 0
  have hc1 := cell_of_cells hh 1
  simp at hc0 hc1
  have hle := hrow.2.1
  have hcm := hrow.2.2.1
  have hxl := hrow.1
  have i1 : ¬ (n : Int) < 0 := by omega
  have i2 : ¬ (len : Int) < (n : Int) := by omega
  have i3 : (n : Int) ≤ (len : Int) := by omega
  have i5 : n ≤ cap := by omega
  have hrt := hrow.take n (by omega)
  have hnl : ([] ++ xs.take n).length = n := by simp; omega
  have hs0 : n ≤ 140737488355328 := by omega
  by_cases hcn : cap = n
  · have hcn := hcn.symm; subst hcn; have hln : len = n := (by omega); subst hln
    go_enter Try.func67, Try.ntmps67
    go_wp2_with (at_builtin; refine wpList_appendB rfl _ _ 25 rfl 5 Try.underlying25 infoB w.heap.size (.slice none 0 0) [] rfl (OwnB.nil _ _ _) _ _ _ (xs.take len) rfl hrt len (xs.take len) rfl hnl hs0 (Nat.le_refl _) w.heap.size w (Below.refl _ _) (Nat.le_refl _) ?_; intro a3 c3 w3 hown3 hr3 hg3 hb3 hs3 hp3 hl3; have hh3 := (hg3.block M hM (by simp [Value.ownBlock])).trans hh; have hc3 := cell_of_cells hh3 0; simp at hc3; have hf3 := free_of_cells hh3 0)
    go_ret
    have T1 : Touch w w3 (fun _ => False) := Touch.ofBelow hb3 (fun k h1 h2 => by omega)
    have hro : RowB w3 a len len xs := hrow.touch T1 (fun _ _ => .inr (fun h => h))
    have T2 : Touch w3 (w3.setCell ⟨M, 0, none⟩ (.slice a 0 0)) (fun k => k = M) := (Touch.refl _ _).setCell ⟨M, 0, none⟩ _ (fun _ => rfl)
    refine ⟨_, rfl, a3, c3, a, rfl, ?_, ?_, ⟨?_, ?_, fun x hx => .inl (by omega)⟩, fun x hx => ⟨x, hx, rfl⟩, ?_⟩
    · have := hr3.touch T2 (fun x hx => .inr (fun hk => by
        rcases hp3 with h | ⟨g, h, hg, _⟩
        · rw [hx] at h; cases h
        · rw [hx] at h; cases h; simp at hk; omega))
      simpa using this
    · intro x hx
      rcases hp3 with h | ⟨g, h, hg, _⟩
      · rw [hx] at h; cases h
      · rw [hx] at h; cases h; exact hg
    · have e := heap_setCell_same w3 M 0 _ _ (.slice a 0 0) hh3
      simpa using e
    · have e : xs.drop len = [] := List.drop_of_length_le (by omega)
      rw [e, Nat.sub_self]
      exact RowB.nil _ _ _ (by omega)
    · have := (T1.mono (T := fun k => k = M) (fun _ _ h => h.elim)).trans T2 (fun _ _ h => h)
      simpa using this
  · have hcn' : ¬ n = cap := fun h => hcn h.symm
    go_enter Try.func67, Try.ntmps67
    go_wp2_with (at_builtin; refine wpList_appendB rfl _ _ 25 rfl 5 Try.underlying25 infoB w.heap.size (.slice none 0 0) [] rfl (OwnB.nil _ _ _) _ _ _ (xs.take n) rfl hrt n (xs.take n) rfl hnl hs0 (Nat.le_refl _) w.heap.size w (Below.refl _ _) (Nat.le_refl _) ?_; intro a3 c3 w3 hown3 hr3 hg3 hb3 hs3 hp3 hl3; have hh3 := (hg3.block M hM (by simp [Value.ownBlock])).trans hh; have hc3 := cell_of_cells hh3 0; simp at hc3; have hf3 := free_of_cells hh3 0)
    go_ret
    have T1 : Touch w w3 (fun _ => False) := Touch.ofBelow hb3 (fun k h1 h2 => by omega)
    have T2 : Touch w3 (w3.setCell ⟨M, 0, none⟩ (.slice (a.map (fun x => x.add n)) (len - n) (cap - n))) (fun k => k = M) := (Touch.refl _ _).setCell ⟨M, 0, none⟩ _ (fun _ => rfl)
    have hro : RowB (w3.setCell ⟨M, 0, none⟩ (.slice (a.map (fun x => x.add n)) (len - n) (cap - n))) a len cap xs := (hrow.touch T1 (fun _ _ => .inr (fun h => h))).touch T2 (fun x hx => by rcases hap x hx with h | h; exact .inl h; exact .inr h)
    have hblk : ∀ x, a.map (fun x => x.add n) = some x → ∃ y, a = some y ∧ x.block = y.block := by
      intro x hx
      cases a with
      | none => simp at hx
      | some y =>
        simp only [Option.map_some, Option.some.injEq] at hx
        exact ⟨y, rfl, by rw [← hx]; unfold Addr.add; split <;> rfl⟩
    refine ⟨_, rfl, a3, c3, a.map (fun x => x.add n), rfl, ?_, ?_, ⟨?_, hro.dropMap n (by omega), fun x hx => ?_⟩, hblk, (T1.mono (T := fun k => k = M) (fun _ _ h => h.elim)).trans T2 (fun _ _ h => h)⟩
    · exact hr3.touch T2 (fun x hx => .inr (fun hk => by
        rcases hp3 with h | ⟨g, h, hg, _⟩
        · rw [hx] at h; cases h
        · rw [hx] at h; cases h; simp at hk; omega))
    · intro x hx
      rcases hp3 with h | ⟨g, h, hg, _⟩
      · rw [hx] at h; cases h
      · rw [hx] at h; cases h; exact hg
    · have e := heap_setCell_same w3 M 0 _ _ (.slice (a.map (fun x => x.add n)) (len - n) (cap - n)) hh3
      simpa using e
    · obtain ⟨y, hy, hxy⟩ := hblk x hx
      rcases hap y hy with h | h
      · exact .inl (by omega)
      · right; rw [hxy]; exact h
set_option maxHeartbeats 1000000 in
theorem rf_raw_ok_neg (M : Nat) (a : Option Addr) (len cap : Nat) (xs : List Nat) (n : Int) (w : World) (h : RfB w M a len cap xs 0) (hn : n < 0) (hlen : len ≤ 140737488355328) :
    Calls Try.prog 67 #[.pointer (some ⟨M, 0, none⟩), .int .i64 n] w fun e w' => ∃ v, e = .returned v ∧ TookR M a len cap xs 0 w w' v := by
  obtain ⟨hh, hrow, hap⟩ := h
  have hM : M < w.heap.size := (Array.getElem?_eq_some_iff.1 hh).1
  have hc0 := cell_of_cells hh 0
  have hc1 := cell_of_cells hh 1
  simp at hc0 hc1
  have hle := hrow.2.1
  have hcm := hrow.2.2.1
  have hxl := hrow.1
  have i2 : ¬ (len : Int) < 0 := by omega
  have hrt := hrow.take 0 (Nat.zero_le _)
  have hnl : ([] ++ xs.take 0).length = 0 := by simp
  have hs0 : 0 ≤ 140737488355328 := by omega
  by_cases hcn : cap = 0
  · have hln : len = 0 := (by omega); subst hcn; subst hln
    go_enter Try.func67, Try.ntmps67
    go_wp2_with (at_builtin; refine wpList_appendB rfl _ _ 25 rfl 5 Try.underlying25 infoB w.heap.size (.slice none 0 0) [] rfl (OwnB.nil _ _ _) _ _ _ (xs.take 0) rfl hrt 0 (xs.take 0) rfl hnl hs0 (Nat.le_refl _) w.heap.size w (Below.refl _ _) (Nat.le_refl _) ?_; intro a3 c3 w3 hown3 hr3 hg3 hb3 hs3 hp3 hl3; have hh3 := (hg3.block M hM (by simp [Value.ownBlock])).trans hh; have hc3 := cell_of_cells hh3 0; simp at hc3; have hf3 := free_of_cells hh3 0)
    go_ret
    have T1 : Touch w w3 (fun _ => False) := Touch.ofBelow hb3 (fun k h1 h2 => by omega)
    have hro : RowB w3 a 0 0 xs := hrow.touch T1 (fun _ _ => .inr (fun h => h))
    have T2 : Touch w3 (w3.setCell ⟨M, 0, none⟩ (.slice a 0 0)) (fun k => k = M) := (Touch.refl _ _).setCell ⟨M, 0, none⟩ _ (fun _ => rfl)
    refine ⟨_, rfl, a3, c3, a, rfl, ?_, ?_, ⟨?_, ?_, fun x hx => .inl (by omega)⟩, fun x hx => ⟨x, hx, rfl⟩, ?_⟩
    · have := hr3.touch T2 (fun x hx => .inr (fun hk => by
        rcases hp3 with h | ⟨g, h, hg, _⟩
        · rw [hx] at h; cases h
        · rw [hx] at h; cases h; simp at hk; omega))
      simpa using this
    · intro x hx
      rcases hp3 with h | ⟨g, h, hg, _⟩
      · rw [hx] at h; cases h
      · rw [hx] at h; cases h; exact hg
    · have e := heap_setCell_same w3 M 0 _ _ (.slice a 0 0) hh3
      simpa using e
    · have e : xs.drop 0 = [] := List.drop_of_length_le (by omega)
      rw [e, Nat.sub_self]
      exact RowB.nil _ _ _ (by omega)
    · have := (T1.mono (T := fun k => k = M) (fun _ _ h => h.elim)).trans T2 (fun _ _ h => h)
      simpa using this
  · have hcn' : ¬ 0 = cap := fun h => hcn h.symm
    go_enter Try.func67, Try.ntmps67
    go_wp2_with (at_builtin; refine wpList_appendB rfl _ _ 25 rfl 5 Try.underlying25 infoB w.heap.size (.slice none 0 0) [] rfl (OwnB.nil _ _ _) _ _ _ (xs.take 0) rfl hrt 0 (xs.take 0) rfl hnl hs0 (Nat.le_refl _) w.heap.size w (Below.refl _ _) (Nat.le_refl _) ?_; intro a3 c3 w3 hown3 hr3 hg3 hb3 hs3 hp3 hl3; have hh3 := (hg3.block M hM (by simp [Value.ownBlock])).trans hh; have hc3 := cell_of_cells hh3 0; simp at hc3; have hf3 := free_of_cells hh3 0)
    go_ret
    have T1 : Touch w w3 (fun _ => False) := Touch.ofBelow hb3 (fun k h1 h2 => by omega)
    have T2 : Touch w3 (w3.setCell ⟨M, 0, none⟩ (.slice a len cap)) (fun k => k = M) := (Touch.refl _ _).setCell ⟨M, 0, none⟩ _ (fun _ => rfl)
    have hro : RowB (w3.setCell ⟨M, 0, none⟩ (.slice a len cap)) a len cap xs := (hrow.touch T1 (fun _ _ => .inr (fun h => h))).touch T2 (fun x hx => by rcases hap x hx with h | h; exact .inl h; exact .inr h)
    have hblk : ∀ x, a = some x → ∃ y, a = some y ∧ x.block = y.block := fun x hx => ⟨x, hx, rfl⟩
    refine ⟨_, rfl, a3, c3, a, rfl, ?_, ?_, ⟨?_, (by simpa using hro), fun x hx => ?_⟩, hblk, (T1.mono (T := fun k => k = M) (fun _ _ h => h.elim)).trans T2 (fun _ _ h => h)⟩
    · exact hr3.touch T2 (fun x hx => .inr (fun hk => by
        rcases hp3 with h | ⟨g, h, hg, _⟩
        · rw [hx] at h; cases h
        · rw [hx] at h; cases h; simp at hk; omega))
    · intro x hx
      rcases hp3 with h | ⟨g, h, hg, _⟩
      · rw [hx] at h; cases h
      · rw [hx] at h; cases h; exact hg
    · have e := heap_setCell_same w3 M 0 _ _ (.slice a len cap) hh3
      simpa using e
    · obtain ⟨y, hy, hxy⟩ := hblk x hx
      rcases hap y hy with h | h
      · exact .inl (by omega)
      · right; rw [hxy]; exact h
end Go.Proofs.Ythjdebcjfpokoaa
