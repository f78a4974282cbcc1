/- A disk's operations on files that are there: Sync, Cut. -/
import Derived.Test.YtmokcfmlolohaaaDskKeepZ
import Derived.Test.YtmokcfmlolohaaaDskRoomZ
set_option linter.unusedVariables false
set_option linter.unusedSimpArgs false
namespace Go.Proofs.Ytmokcfmlolohaaa
open Go.RowKit

theorem DkM.then {w w1 w2 : World} {d : Nat} {h : DkH} {st st1 st' : DkS} (m : DkM w d h st) (m1 : DkM w1 d h st1) (t : Touch w w1 (fun k => k = d)) (s : DkStep w1 w2 d h st') : DkStep w w2 d h st' :=
  DkStep.trans m1 (t.mono (fun k _ e => e ▸ footK_d m)) (fun _ h => h) (fun _ hk => .inl hk) s
theorem DkM.after {w w1 w2 : World} {d : Nat} {h : DkH} {st st' : DkS} (m : DkM w d h st) (t : Touch w w1 (fun _ => False)) (s : DkStep w1 w2 d h st') : DkStep w w2 d h st' :=
  DkStep.trans (m.still t) (t.mono (fun k _ e => e.elim)) (fun _ h => h) (fun _ hk => .inl hk) s
theorem dkOn_cases (st : DkS) (k : ByteArray) : (dkOnE st k ≠ 0 ∧ dkOnF st k = none) ∨ (dkOnE st k = 0 ∧ ∃ g, dkOnF st k = some g ∧ getN st.N k = some g) := by
  unfold dkOnE dkOnF
  by_cases h : st.fail = 1
  · rw [if_pos h, if_pos h]; exact .inl ⟨by decide, rfl⟩
  · rw [if_neg h, if_neg h]
    cases hg : getN st.N k with
    | none => exact .inl ⟨by simp, rfl⟩
    | some g => exact .inr ⟨by simp, g, rfl, rfl⟩
def dkSync (st : DkS) (k : ByteArray) : DkS := match dkOnF st k with
  | none => dkOp st
  | some g => { dkOp st with F := fPut st.F g ⟨(st.F g).b, (st.F g).b.length⟩ }
set_option maxRecDepth 20000 in
set_option maxHeartbeats 8000000 in
theorem dsync_any (w : World) (d : Nat) (h : DkH) (st : DkS) (m : DkM w d h st) (k : ByteArray) (hk : szN k) :
    Calls Try.prog 24 #[.pointer (some ⟨d, 0, none⟩), .string k] w fun e w' => e = .returned (.int .i64 (dkOnE st k)) ∧ DkStep w w' d h (dkSync st k) := by
  have HB := Lib.hid (dbeginOn_any w d h st m k hk)
  have HM := Lib.hid m
  unfold dkSync
  rcases dkOn_cases st k with ⟨h0, hF⟩ | ⟨h0, g, hF, hG⟩
  · rw [hF] at HB ⊢
    simp only [pvN, Option.map_none] at HB ⊢
    generalize dkOnE st k = E at *
    have h0b : (E == 0) = false := by simpa using h0
    clear m hF
    go_enter Try.func24, Try.ntmps24
    go_wp2_with fail
    refine HB.out.mono ?_
    rintro e w1 ⟨rfl, m1, t1⟩
    have HR := Lib.hid (HM.out.top m1 t1)
    clear m1 t1
    go_wp2_with fail
    go_ret
    exact ⟨rfl, HR.out⟩
  · rw [hF, h0] at HB
    rw [hF, h0]
    simp only [pvN, Option.map_some] at HB ⊢
    have HG := Lib.hid (m.get hG)
    clear m hF h0 hG
    go_enter Try.func24, Try.ntmps24
    go_wp2_with fail
    refine HB.out.mono ?_
    rintro e w1 ⟨rfl, m1, t1⟩
    have f := m1.files g HG.out
    obtain ⟨c0, c1⟩ := f.cells
    have f1 := free_of_cells f.head 1
    obtain ⟨W2, hW2⟩ : ∃ W, w1.setCell ⟨g, 1, none⟩ (.int .i64 ((st.F g).b.length : Nat)) = W := ⟨_, rfl⟩
    have g2 := heap_setCell_same w1 g 1 _ _ (.int .i64 ((st.F g).b.length : Nat)) f.head
    rw [hW2] at g2
    have t2 : Touch w1 W2 (fun k => k = g) := hW2 ▸ (Touch.refl w1 _).into 1 _
    have HR : RowKit.Hid (DkStep w W2 d h { dkOp st with F := fPut st.F g ⟨(st.F g).b, (st.F g).b.length⟩ }) := Lib.hid (by
      refine HM.out.then m1 t1 (m1.filed HG.out ⟨(st.F g).b, (st.F g).b.length⟩ (t2.mono (fun k _ e => .inl e)) (a2 := h.ao g) (c2 := h.co g) g2 ?_ f.len (Nat.le_refl _) (fun b hb => .inl hb))
      exact f.own.touch t2 (fun k hk => by obtain ⟨y, hy, rfl⟩ := bown_block hk; intro e; have h1 := f.arr y hy; rw [e, HG.out] at h1; cases h1))
    have e9 : (dkOp st).F g = st.F g := rfl
    rw [e9] at c0
    clear m1 t1 f g2 t2 e9
    go_wp2_with fail
    go_ret
    exact ⟨rfl, HR.out⟩
def dkCutE (st : DkS) (k : ByteArray) (n : Int) : Int := match dkOnF st k with
  | none => dkOnE st k
  | some g => if n < 0 ∨ ((st.F g).b.length : Int) < n then 1 else 0
def dkCut (st : DkS) (k : ByteArray) (n : Int) : DkS := match dkOnF st k with
  | none => dkOp st
  | some g => if n < 0 ∨ ((st.F g).b.length : Int) < n then dkOp st else { dkOp st with F := keepF st.F g n.toNat }
set_option maxRecDepth 20000 in
set_option maxHeartbeats 8000000 in
theorem dcut_any (w : World) (d : Nat) (h : DkH) (st : DkS) (m : DkM w d h st) (k : ByteArray) (hk : szN k) (n : Int) :
    Calls Try.prog 28 #[.pointer (some ⟨d, 0, none⟩), .string k, .int .i64 n] w fun e w' => e = .returned (.int .i64 (dkCutE st k n)) ∧ DkStep w w' d h (dkCut st k n) := by
  have HB := Lib.hid (dbeginOn_any w d h st m k hk)
  have HM := Lib.hid m
  unfold dkCut dkCutE
  rcases dkOn_cases st k with ⟨h0, hF⟩ | ⟨h0, g, hF, hG⟩
  · rw [hF] at HB ⊢
    simp only [pvN, Option.map_none] at HB ⊢
    generalize dkOnE st k = E at *
    have h0b : (E == 0) = false := by simpa using h0
    clear m hF
    go_enter Try.func28, Try.ntmps28
    go_wp2_with fail
    refine HB.out.mono ?_
    rintro e w1 ⟨rfl, m1, t1⟩
    have HR := Lib.hid (HM.out.top m1 t1)
    clear m1 t1
    go_wp2_with fail
    go_ret
    exact ⟨rfl, HR.out⟩
  · rw [hF, h0] at HB
    rw [hF]
    simp only [pvN, Option.map_some] at HB ⊢
    have HG := Lib.hid (m.get hG)
    have HL : RowKit.Hid (∀ W, DkM W d h (dkOp st) → W.cell? ⟨g, 0, none⟩ = some (.slice (h.ao g) (st.F g).b.length (h.co g))) := Lib.hid (fun W m1 => (m1.files g HG.out).cells.1)
    obtain ⟨L, hL⟩ : ∃ L, (st.F g).b.length = L := ⟨_, rfl⟩
    rw [hL] at HL ⊢
    have HLL := Lib.hid hL
    clear m hF h0 hG hL
    by_cases hn : n < 0
    · rw [if_pos (.inl hn), if_pos (.inl hn)]
      go_enter Try.func28, Try.ntmps28
      go_wp2_with fail
      refine HB.out.mono ?_
      rintro e w1 ⟨rfl, m1, t1⟩
      have HR := Lib.hid (HM.out.top m1 t1)
      clear m1 t1
      go_wp2_with fail
      go_ret
      exact ⟨rfl, HR.out⟩
    · by_cases hn2 : (L : Int) < n
      · rw [if_pos (.inr hn2), if_pos (.inr hn2)]
        go_enter Try.func28, Try.ntmps28
        go_wp2_with fail
        refine HB.out.mono ?_
        rintro e w1 ⟨rfl, m1, t1⟩
        have HR := Lib.hid (HM.out.top m1 t1)
        have c0 := HL.out w1 m1
        clear m1 t1
        go_wp2_with fail
        go_ret
        exact ⟨rfl, HR.out⟩
      · rw [if_neg (by omega), if_neg (by omega)]
        obtain ⟨j, rfl⟩ : ∃ j : Nat, n = j := ⟨n.toNat, by omega⟩
        have hj : j ≤ (st.F g).b.length := by have := HLL.out; omega
        simp only [Int.toNat_natCast]
        have HJ := Lib.hid hj
        go_enter Try.func28, Try.ntmps28
        go_wp2_with fail
        refine HB.out.mono ?_
        rintro e w1 ⟨rfl, m1, t1⟩
        have c0 := HL.out w1 m1
        have HKP := Lib.hid (dkeep_any w1 d h (dkOp st) m1 g HG.out j HJ.out)
        have HM1 := Lib.hid m1
        have HT1 := Lib.hid t1
        clear m1 t1 hj
        go_wp2_with fail
        refine HKP.out.mono ?_
        rintro e w2 ⟨rfl, s2⟩
        have HR : RowKit.Hid (DkStep w w2 d h { dkOp st with F := keepF st.F g j }) := Lib.hid (HM.out.then HM1.out HT1.out s2)
        clear s2
        go_wp2_with fail
        go_ret
        exact ⟨rfl, HR.out⟩
end Go.Proofs.Ytmokcfmlolohaaa
