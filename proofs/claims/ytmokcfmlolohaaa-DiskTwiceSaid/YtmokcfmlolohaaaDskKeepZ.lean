/- A file is cut, is made sure; what picks say. -/
import Derived.Test.YtmokcfmlolohaaaDskSetZ
set_option linter.unusedVariables false
set_option linter.unusedSimpArgs false
namespace Go.Proofs.Ytmokcfmlolohaaa
open Go.RowKit

theorem OwnB.take {w : World} {base : Nat} {E : TypeId} {a : Option Addr} {L c : Nat} {xs : List Nat} (h : OwnB w base E (.slice a L c) xs) (hl : xs.length = L) (n : Nat) (hn : n ≤ L) : OwnB w base E (.slice a n c) (xs.take n) := by
  subst hl
  have e : (xs.take n).length = n := by rw [List.length_take]; omega
  refine ⟨?_, fun x hx => h.small x (List.mem_of_mem_take hx), by have := h.short; rw [e]; omega⟩
  rw [e, List.map_take]
  obtain ⟨h1, h2⟩ := h.own
  refine ⟨by simp; omega, ?_⟩
  rcases h2 with ⟨hv, h0⟩ | ⟨g, cap, cur, hv, hb, hg, hnc, hcm, hcs, htake⟩
  · simp only [Value.slice.injEq] at hv
    obtain ⟨rfl, -, rfl⟩ := hv
    have : n = 0 := by omega
    subst this
    exact .inl ⟨rfl, rfl⟩
  · simp only [Value.slice.injEq] at hv
    obtain ⟨rfl, -, rfl⟩ := hv
    refine .inr ⟨g, c, cur, rfl, hb, hg, by omega, hcm, hcs, ?_⟩
    rw [← htake, List.take_take]
    congr 1
    omega
def keepF (F : Nat → DkFc) (g n : Nat) : Nat → DkFc := fPut F g ⟨(F g).b.take n, n⟩
theorem enter_dkeep (a b : Value) (w : World) : (callFunc 52 #[a, b]).run Try.prog w = .ok (.enter 52 #[a, b]) w := by kernel_rfl
set_option maxRecDepth 20000 in
set_option maxHeartbeats 8000000 in
theorem dkeep_any (w : World) (d : Nat) (h : DkH) (st : DkS) (m : DkM w d h st) (g : Nat) (hg : h.T g = .fb) (n : Nat) (hn : n ≤ (st.F g).b.length) :
    Calls Try.prog 52 #[.pointer (some ⟨g, 0, none⟩), .int .i64 n] w fun e w' => e = .returned (.tuple #[]) ∧ DkStep w w' d h { st with F := keepF st.F g n } := by
  have f := m.files g hg
  obtain ⟨c0, c1⟩ := f.cells
  have f0 := free_of_cells f.head 0
  have f1 := free_of_cells f.head 1
  obtain ⟨a0, cap0, hv0, hrow, -⟩ := f.own.row
  simp only [Value.slice.injEq] at hv0
  obtain ⟨rfl, -, rfl⟩ := hv0
  have hcap := hrow.2.1
  obtain ⟨L, hL⟩ : ∃ L, (st.F g).b.length = L := ⟨_, rfl⟩
  obtain ⟨W1, hW1⟩ : ∃ W, w.setCell ⟨g, 0, none⟩ (.slice (h.ao g) n (h.co g)) = W := ⟨_, rfl⟩
  have g1 := heap_setCell_same w g 0 _ _ (.slice (h.ao g) n (h.co g)) f.head
  rw [hW1] at g1
  have t1 : Touch w W1 (fun k => k = g) := hW1 ▸ (Touch.refl w _).into 0 _
  have x1 := free_of_cells g1 1
  have x1c : W1.cell? ⟨g, 1, none⟩ = some (.int .i64 (st.F g).s) := cell_of_cells g1 1
  obtain ⟨W2, hW2⟩ : ∃ W, W1.setCell ⟨g, 1, none⟩ (.int .i64 n) = W := ⟨_, rfl⟩
  have g2 := heap_setCell_same W1 g 1 _ _ (.int .i64 n) g1
  rw [hW2] at g2
  have t2 : Touch w W2 (fun k => k = g) := hW2 ▸ t1.into 1 _
  have harr : ∀ y, h.ao g = some y → y.block ≠ g := fun y hy e => by have h1 := f.arr y hy; rw [e, hg] at h1; cases h1
  have HR : RowKit.Hid (DkStep w W2 d h { st with F := keepF st.F g n }) := Lib.hid (by
    have e : ((st.F g).b.take n).length = n := by rw [List.length_take]; omega
    refine m.filed hg ⟨(st.F g).b.take n, n⟩ (t2.mono (fun k _ e => .inl e)) (a2 := h.ao g) (c2 := h.co g) ?_ ?_ ?_ ?_ (fun b hb => .inl hb)
    · simp only [e]; exact g2
    · simp only [e]
      exact (f.own.take rfl n hn).touch t2 (fun k hk => by obtain ⟨y, hy, rfl⟩ := bown_block hk; exact harr y hy)
    · simp only [e]; have := f.len; omega
    · simp only [e]; exact Nat.le_refl _)
  rw [hL] at c0 hcap hn
  have i1 : (n : Int) ≤ (h.co g : Int) := by omega
  clear m f hrow t1 t2 g1 g2 harr hL hg
  go_enter Try.func52, Try.ntmps52
  go_wp2_with fail
  go_end0
  exact ⟨rfl, HR.out⟩
def pick0 (ps : List Nat) (most : Nat) : Nat := match ps with
  | [] => 0
  | x :: _ => x % (most + 1)
/-- Picks that are left lie in the box B. -/
def PicksIs (w : World) (B : Nat) (P : Nat → Prop) (ps : List Nat) : Prop := ∃ a l c, w.heap[B]? = some (.cells #[.slice a l c] 77 (0, 0)) ∧ RowB w a l c ps ∧ ∀ x, a = some x → l = 0 ∨ (x.block ≠ B ∧ P x.block)
theorem PicksIs.touch {w w' : World} {B : Nat} {P : Nat → Prop} {ps : List Nat} {S : Nat → Prop} (p : PicksIs w B P ps) (t : Touch w w' S) (h1 : ¬ S B) (h2 : ∀ k, P k → ¬ S k) : PicksIs w' B P ps := by
  obtain ⟨a, l, c, hb, hr, hn⟩ := p
  exact ⟨a, l, c, t.keeps hb h1, hr.touch t (fun x hx => (hn x hx).imp (fun h => h) (fun h => h2 _ h.2)), hn⟩
theorem enter_dnext (a b : Value) (w : World) : (callFunc 48 #[a, b]).run Try.prog w = .ok (.enter 48 #[a, b]) w := by kernel_rfl
set_option maxRecDepth 20000 in
set_option maxHeartbeats 8000000 in
theorem dnext_any (w : World) (B : Nat) (P : Nat → Prop) (ps : List Nat) (p : PicksIs w B P ps) (most : Nat) (hm : most ≤ 100000000) :
    Calls Try.prog 48 #[.pointer (some ⟨B, 0, none⟩), .int .i64 most] w fun e w' => e = .returned (.int .i64 (pick0 ps most)) ∧ PicksIs w' B P ps.tail ∧ Touch w w' (fun k => k = B) := by
  obtain ⟨a, l, c, hb, hr, hn⟩ := p
  have y0 := cell_of_cells hb 0
  have f0 := free_of_cells hb 0
  have hl := hr.1
  cases ps with
  | nil =>
    have hl0 : l = 0 := by rw [← hl]; rfl
    subst hl0
    have HR : RowKit.Hid (PicksIs w B P [] ∧ Touch w w (fun k => k = B)) := Lib.hid ⟨⟨a, 0, c, hb, hr, hn⟩, Touch.refl _ _⟩
    simp only [pick0, List.tail_nil]
    clear hb hr hn hl f0
    go_enter Try.func48, Try.ntmps48
    go_wp2_with fail
    go_ret
    exact ⟨rfl, HR.out⟩
  | cons x t =>
    obtain ⟨h1, h2, h3, h4, h5, h6⟩ := hr
    simp only [List.length_cons] at h1
    obtain ⟨b, off, rfl, hcells⟩ := h6.resolve_left (by omega)
    have hx : x < 256 := h5 x List.mem_cons_self
    have z0 : w.cell? ⟨b, off, none⟩ = some (.int .u8 (x : Nat)) := by
      have := hcells 0 (by simp)
      simpa using this
    have hBP : b ≠ B ∧ P b := (hn _ rfl).resolve_left (by omega)
    have hBb := hBP.1
    simp only [pick0, List.tail_cons]
    obtain ⟨q, hq⟩ : ∃ q, x % (most + 1) = q := ⟨_, rfl⟩
    have hq2 : (x : Int) % ((most : Int) + 1) = (q : Int) := by
      rw [← hq, Int.natCast_emod]; rfl
    rw [hq]
    have HQ := Lib.hid hq2
    have hm1 : ¬ ((most : Int) + 1 = 0) := by omega
    have hm2 : wrap64 ((most : Int) + 1) = (most : Int) + 1 := by unfold wrap64; omega
    have i0 : 0 < (l : Int) := by omega
    have i1 : (1 : Int) ≤ l := by omega
    have i2 : (1 : Int) ≤ c := by omega
    have i3 : ((l : Int) == 0) = false := by rw [Bool.eq_false_iff]; intro e; have := eq_of_beq e; omega
    have hrow : ∀ W off2 c2, Touch w W (fun k => k = B) → (0 < l - 1 → off2 = off + 1) → l - 1 ≤ c2 → c2 ≤ 9223372036854775807 → RowB W (some ⟨b, off2, none⟩) (l - 1) c2 t := by
      intro W off2 c2 tt ho hc2 hc3
      refine ⟨by omega, hc2, hc3, by omega, fun y hy => h5 y (List.mem_cons_of_mem _ hy), ?_⟩
      by_cases h0 : l - 1 = 0
      · exact .inl h0
      · refine .inr ⟨b, off2, rfl, fun i hi => ?_⟩
        have hlt : b < w.heap.size := by
          have h7 : RowB w (some ⟨b, off, none⟩) l c (x :: t) := ⟨by simpa using h1, h2, h3, h4, h5, h6⟩
          exact (h7.lt _ rfl).resolve_left (by omega)
        rw [tt.cell (p := ⟨b, off2 + i, none⟩) hlt (fun e => hBb e), ho (by omega)]
        have := hcells (i + 1) (by simp; omega)
        rw [show off + 1 + i = off + (i + 1) by omega]
        simpa using this
    have HROW := Lib.hid hrow
    have HB := Lib.hid hb
    have HBb := Lib.hid hBP
    clear hcells hq hq2 hl hrow h5 h6 hn hb hBb hBP
    by_cases hc1 : c = 1
    · go_enter Try.func48, Try.ntmps48
      go_wp2_with fail
      have t9 := (Touch.refl w (fun k => k = B)).into 0 (.slice (some ⟨b, off, none⟩) (l - 1) 0)
      have g9 := heap_setCell_same w B 0 _ _ (.slice (some ⟨b, off, none⟩) (l - 1) 0) HB.out
      go_ret
      refine ⟨?_, ⟨_, _, _, g9, HROW.out _ off 0 t9 (by omega) (by omega) (by omega), fun y hy => .inr (by cases hy; exact HBb.out)⟩, t9⟩
      show Ending.returned (Value.int .i64 ((x : Int) % ((most : Int) + 1))) = _
      rw [HQ.out]
    · go_enter Try.func48, Try.ntmps48
      go_wp2_with fail
      have t9 := (Touch.refl w (fun k => k = B)).into 0 (.slice (some ⟨b, off + 1, none⟩) (l - 1) (c - 1))
      have g9 := heap_setCell_same w B 0 _ _ (.slice (some ⟨b, off + 1, none⟩) (l - 1) (c - 1)) HB.out
      go_ret
      refine ⟨?_, ⟨_, _, _, g9, HROW.out _ (off + 1) (c - 1) t9 (fun _ => rfl) (by omega) (by omega), fun y hy => .inr (by cases hy; exact HBb.out)⟩, t9⟩
      show Ending.returned (Value.int .i64 ((x : Int) % ((most : Int) + 1))) = _
      rw [HQ.out]
end Go.Proofs.Ytmokcfmlolohaaa
