/- Frames: what Take of package frame answers. -/
import Derived.Test.YtibpnlhdpdfhiaaDoorFrmHeadZ
set_option linter.unusedVariables false
namespace Go.Proofs.YtibpnlhdpdfhiaaDoor
open Go.RowKit

theorem infoF : (Tryd.prog.info? 33).map (·.size) = some 3 := by kernel_rfl
/-- A frame in block B is read whole. -/
theorem loadF {w : World} {B : Nat} {k v : Int} {a : Option Addr} {n c : Nat} (hb : w.heap[B]? = some (.cells (fcs k v a n c) 33 (0, 0))) :
    (Instr.loadAt 33 (.pointer (some ⟨B, 0, none⟩))).run Tryd.prog w = .ok (.agg #[.int .i64 k, .int .i64 v, .slice a n c]) w :=
  load_at (cs := fcs k v a n c) hb Tryd.underlying33 rfl infoF
/-- .. cell by cell. -/
theorem cellsF {w : World} {B : Nat} {o0 o1 o2 : Value} {T : TypeId} (hb : w.heap[B]? = some (.cells #[o0, o1, o2] T (0, 0))) (v0 v1 v2 : Value) :
    (((w.setCell ⟨B, 0, none⟩ v0).setCell ⟨B, 1, none⟩ v1).setCell ⟨B, 2, none⟩ v2).heap[B]? = some (.cells #[v0, v1, v2] T (0, 0)) := by
  have := heap_setCell_same _ B 2 _ _ v2 (heap_setCell_same _ B 1 _ _ v1 (heap_setCell_same _ B 0 _ _ v0 hb))
  simpa using this
theorem touchF (w : World) (B : Nat) (v0 v1 v2 : Value) : Touch w (((w.setCell ⟨B, 0, none⟩ v0).setCell ⟨B, 1, none⟩ v1).setCell ⟨B, 2, none⟩ v2) (fun k => k = B) :=
  (((Touch.refl w (fun k => k = B)).into 0 v0).into 1 v1).into 2 v2

def tkK (xs : List Nat) : Nat := if tkE xs = 0 then gb xs 4 else 0
def tkV (xs : List Nat) : Nat := if tkE xs = 0 then gb xs 5 else 0
def tkY (xs : List Nat) : List Nat := if tkE xs = 0 then (xs.take (16 + tkN xs)).drop 16 else []
def tkM (xs : List Nat) : Nat := if tkE xs = 0 then 16 + tkN xs else 0
/-- What Take hands back. -/
def TakeIs (w w' : World) (xs : List Nat) (e : Ending) : Prop :=
  ∃ a' cap', e = .returned (.tuple #[.agg (fcs (tkK xs : Nat) (tkV xs : Nat) a' (tkY xs).length cap'), .int .i64 (tkM xs : Nat), .int .i64 (tkE xs : Nat)]) ∧ FreshB w w' (.slice a' (tkY xs).length cap') (tkY xs)
theorem TakeIs.bad {w w' : World} {xs : List Nat} {n : Nat} (hn : tkE xs = n) (h0 : n ≠ 0) (t : Touch w w' (fun _ => False)) : TakeIs w w' xs (.returned (.tuple #[.agg #[.int .i64 0, .int .i64 0, .slice none 0 0], .int .i64 0, .int .i64 (n : Nat)])) := by
  have hn' : ¬ tkE xs = 0 := by omega
  have e1 : tkY xs = [] := by unfold tkY; rw [if_neg hn']
  have e2 : tkK xs = 0 := by unfold tkK; rw [if_neg hn']
  have e3 : tkV xs = 0 := by unfold tkV; rw [if_neg hn']
  have e4 : tkM xs = 0 := by unfold tkM; rw [if_neg hn']
  refine ⟨none, 0, ?_, ?_⟩
  · rw [e1, e2, e3, e4, hn]; rfl
  · rw [e1]; exact ⟨OwnB.nil _ _ _, t⟩
theorem tkN_lt (xs : List Nat) (h : ∀ x ∈ xs, x < 256) : tkN xs < 65536 := by
  have := gb_lt xs h 6
  have := gb_lt xs h 7
  show gb xs 6 * 256 + gb xs 7 < 65536
  omega

set_option maxRecDepth 20000 in
set_option maxHeartbeats 4000000 in
theorem take_any (a : Option Addr) (len cap : Nat) (xs : List Nat) (w : World) (hr : RowB w a len cap xs) (hlen : len ≤ 140737488355328) :
    Calls Tryd.prog 46 #[.slice a len cap] w fun e w' => TakeIs w w' xs e := by
  have hx := hr.1
  have hcap := hr.2.1
  have hn6 := tkN_lt xs hr.2.2.2.2.1
  obtain ⟨W1, hW1⟩ : ∃ W1, w.alloc (.cells #[.int .i64 0, .int .i64 0, .slice none 0 0] 33) = W1 := ⟨_, rfl⟩
  have HT := Lib.hid (hW1 ▸ (Touch.refl _ _).alloc _ : Touch w W1 (fun _ => False))
  have HG1 : RowKit.Hid (W1.heap[w.heap.size]? = some (.cells (fcs 0 0 none 0 0) 33 (0, 0))) := Lib.hid (hW1 ▸ heap_alloc_new w _)
  have HR1 := Lib.hid (hr.touch HT.out (fun _ _ => .inr (fun h => h)))
  have H := Lib.hid (head_any a len cap xs W1 HR1.out hlen)
  have HX := Lib.hid hx
  have HTF := Lib.hid infoF
  clear hr hx
  by_cases hd : hdE xs = 0
  case neg =>
    have he : tkE xs = hdE xs := by unfold tkE; rw [if_pos hd]
    have hv : headV xs = .agg (hcs4 0 0 0 0) := by unfold headV; rw [if_neg hd]
    have hb : ((hdE xs : Int) != 0) = true := bne_iff_ne.2 (by omega)
    have HE := Lib.hid he
    have HV := Lib.hid hv
    have HD := Lib.hid hd
    clear he hv hd
    go_enter Tryd.func46, Tryd.ntmps46
    go_wp2_with fail
    (with_reducible refine H.out.mono ?_)
    rintro e w2 ⟨rfl, t2⟩
    rw [HV.out]
    generalize hdE xs = E at *
    simp only [hcs4]
    have t3 := (Touch.refl w2 (fun _ => False)).alloc (.cells #[.int .i64 0, .int .i64 0, .int .i64 0, .int .u32 0] 104)
    have HB := Lib.hid (t2.trans t3 (fun _ _ h => h))
    have HG := Lib.hid (HB.out.keeps HG1.out (fun h => h))
    clear t2 t3 H
    go_wp2_with (refine store_row rfl 33 (.tmp 2) (.tmp 16) rfl w.heap.size _ rfl rfl _ _ HG.out HTF.out rfl rfl ?_)
    refine ret_row2 rfl rfl w.heap.size 33 (fcs 0 0 none 0 0) (0, 0) _ rfl ?hg Tryd.underlying33 rfl ?hi _ _ rfl rfl ?hR
    case hg => exact setRow_heap _ _ _ _ _ _ HG.out
    case hi => exact HTF.out
    case hR => exact TakeIs.bad HE.out HD.out ((HT.out.trans HB.out (fun _ _ h => h)).setRow _ _ (fun h => absurd h (Nat.lt_irrefl _)))
  case pos =>
  have hv : headV xs = .agg (hcs4 (gb xs 4) (gb xs 5) (tkN xs) (b4 xs 12)) := by unfold headV; rw [if_pos hd]
  have HV := Lib.hid hv
  have HD := Lib.hid hd
  clear hv
  rw [hd] at H
  have hd0 : ¬ hdE xs ≠ 0 := fun h => h hd
  have HD0 := Lib.hid hd0
  have h16 : 16 ≤ len := by
    unfold hdE at hd
    by_cases h : xs.length < 16
    · rw [if_pos h] at hd; omega
    · rw [HX.out] at h; omega
  clear hd hd0
  by_cases hs : len < 16 + tkN xs
  case pos =>
    have he : tkE xs = 2 := by unfold tkE; rw [if_neg HD0.out, if_pos (by rw [HX.out]; exact hs)]
    have HE := Lib.hid he
    have hs' : (len : Int) < 16 + (tkN xs : Nat) := by omega
    clear he hs
    go_enter Tryd.func46, Tryd.ntmps46
    go_wp2_with fail
    (with_reducible refine H.out.mono ?_)
    rintro e w2 ⟨rfl, t2⟩
    rw [HV.out]
    generalize b4 xs 12 = N12 at *
    simp only [hcs4]
    have t3 := (Touch.refl w2 (fun _ => False)).alloc (.cells #[.int .i64 (gb xs 4 : Nat), .int .i64 (gb xs 5 : Nat), .int .i64 (tkN xs : Nat), .int .u32 (N12 : Nat)] 104)
    have HB := Lib.hid (t2.trans t3 (fun _ _ h => h))
    have HG := Lib.hid (HB.out.keeps HG1.out (fun h => h))
    clear t2 t3 H
    go_wp2_with (refine store_row rfl 33 (.tmp 2) (.tmp 25) rfl w.heap.size _ rfl rfl _ _ HG.out HTF.out rfl rfl ?_)
    refine ret_row2 rfl rfl w.heap.size 33 (fcs 0 0 none 0 0) (0, 0) _ rfl ?hg Tryd.underlying33 rfl ?hi _ _ rfl rfl ?hR
    case hg => exact setRow_heap _ _ _ _ _ _ HG.out
    case hi => exact HTF.out
    case hR => exact TakeIs.bad HE.out (by decide) ((HT.out.trans HB.out (fun _ _ h => h)).setRow _ _ (fun h => absurd h (Nat.lt_irrefl _)))
  case neg =>
  obtain ⟨b, off, rfl⟩ := HR1.out.some (by omega)
  have hs' : ¬ (len : Int) < 16 + (tkN xs : Nat) := by omega
  obtain ⟨A, C, hsl, hP⟩ := slice_lh (some ⟨b, off, none⟩) len cap 16 (16 + (tkN xs : Nat) : Int) 16 (16 + tkN xs) rfl (by omega) (by omega) (by omega)
  have HP := Lib.hid hP
  have i1 : (16 : Int) ≤ 16 + (tkN xs : Nat) := by omega
  have i2 : (16 : Int) + (tkN xs : Nat) ≤ cap := by omega
  have hle : 16 + tkN xs - 16 = tkN xs := by omega
  rw [hle] at hsl
  clear hP hle
  go_enter Tryd.func46, Tryd.ntmps46
  go_wp2_with fail
  (with_reducible refine H.out.mono ?_)
  rintro e w2 ⟨rfl, t2⟩
  rw [HV.out]
  generalize hN : b4 xs 12 = N12 at *
  have HN := Lib.hid hN
  simp only [hcs4]
  clear H hN
  go_wp2_with fail
  obtain ⟨W3, hW3⟩ : ∃ W, w2.alloc (.cells #[.int .i64 (gb xs 4 : Nat), .int .i64 (gb xs 5 : Nat), .int .i64 (tkN xs : Nat), .int .u32 (N12 : Nat)] 104) = W := ⟨_, rfl⟩
  obtain ⟨B, hB⟩ : ∃ B, w2.heap.size = B := ⟨_, rfl⟩
  have t3 : Touch w2 W3 (fun _ => False) := hW3 ▸ (Touch.refl _ _).alloc _
  have HK : RowKit.Hid (W3.heap[B]? = some (.cells (hcs4 (gb xs 4 : Nat) (gb xs 5 : Nat) (tkN xs : Nat) (N12 : Nat)) 104 (0, 0))) := Lib.hid (hB ▸ hW3 ▸ heap_alloc_new w2 _)
  have HB := Lib.hid (t2.trans t3 (fun _ _ h => h))
  rw [hW3, hB]
  have HR := Lib.hid (HR1.out.touch HB.out (fun _ _ => .inr (fun h => h)))
  have hrY := HP.out.row _ _ HR.out (by omega)
  rw [show 16 + tkN xs - 16 = tkN xs from by omega] at hrY
  generalize hYd : (xs.take (16 + tkN xs)).drop 16 = Y at *
  have HYD := Lib.hid hYd
  have HY := Lib.hid hrY
  have hyl := hrY.1
  have HYL := Lib.hid hyl
  have c3 := cell_of_cells HK.out 3
  simp [hcs4] at c3
  have h0 : ¬ len < 16 + tkN xs := by omega
  have H0 := Lib.hid h0
  clear hW3 hB t2 t3 hsl hrY hYd hyl h0
  go_quiet ((go_at_call 73; exact Calls.quiet_of_same (crc_same _ _ _ _ _ HY.out)))
  have t4 := (Touch.refl W3 (fun _ => False)).drewN nq
  generalize W3.drewN nq = W4 at *
  have HB := Lib.hid (HB.out.trans t4 (fun _ _ h => h))
  have HK := Lib.hid (t4.keeps HK.out (fun h => h))
  have HY := Lib.hid (HY.out.touch t4 (fun _ _ => .inr (fun h => h)))
  have HG := Lib.hid (HB.out.keeps HG1.out (fun h => h))
  clear t4 c3
  by_cases h5 : (N12 : Int) = crcF Y
  case neg =>
    have he : tkE xs = 5 := by unfold tkE; rw [if_neg HD0.out, if_neg (by rw [HX.out]; exact H0.out), if_pos (by rw [HN.out, HYD.out]; exact h5)]
    have HE := Lib.hid he
    have hb5 : (crcF Y != (N12 : Int)) = true := bne_iff_ne.2 (fun h => h5 h.symm)
    clear he h5
    go_wp2_with (refine store_row rfl 33 (.tmp 2) (.tmp 34) rfl w.heap.size _ rfl rfl _ _ HG.out HTF.out rfl rfl ?_)
    refine ret_row2 rfl rfl w.heap.size 33 (fcs 0 0 none 0 0) (0, 0) _ rfl ?hg Tryd.underlying33 rfl ?hi _ _ rfl rfl ?hR
    case hg => exact setRow_heap _ _ _ _ _ _ HG.out
    case hi => exact HTF.out
    case hR => exact TakeIs.bad HE.out (by decide) ((HT.out.trans HB.out (fun _ _ h => h)).setRow _ _ (fun h => absurd h (Nat.lt_irrefl _)))
  case pos =>
    have he : tkE xs = 0 := by unfold tkE; rw [if_neg HD0.out, if_neg (by rw [HX.out]; exact H0.out), if_neg (by rw [HN.out, HYD.out]; exact fun h => h h5)]
    have HE := Lib.hid he
    have hb5 : (crcF Y != (N12 : Int)) = false := bne_eq_false_iff_eq.2 h5.symm
    have e1 : tkY xs = Y := by unfold tkY; rw [if_pos he]; exact HYD.out
    have e2 : tkK xs = gb xs 4 := by unfold tkK; rw [if_pos he]
    have e3 : tkV xs = gb xs 5 := by unfold tkV; rw [if_pos he]
    have e4 : tkM xs = 16 + tkN xs := by unfold tkM; rw [if_pos he]
    have E1 := Lib.hid e1
    have E2 := Lib.hid e2
    have E3 := Lib.hid e3
    have E4 := Lib.hid e4
    clear he h5 e1 e2 e3 e4
    go_wp2_with fail
    have t0 := (Touch.refl W4 (fun _ => False)).drew
    have HB := Lib.hid (HB.out.trans t0 (fun _ _ h => h))
    have HK := Lib.hid (t0.keeps HK.out (fun h => h))
    have HY := Lib.hid (HY.out.touch t0 (fun _ _ => .inr (fun h => h)))
    have HG := Lib.hid (HB.out.keeps HG1.out (fun h => h))
    obtain ⟨c0, c1⟩ : _ ∧ _ := ⟨cell_of_cells HK.out 0, cell_of_cells HK.out 1⟩
    simp [hcs4] at c0 c1
    clear t0
    go_region_with (go_at_call 74; (with_reducible refine (clone_any _ _ _ _ _ HY.out (by omega)).mono ?_); rintro e w8 ⟨a8, c8, rfl, hf8⟩; have t8 := hf8.2; have HK := Lib.hid (t8.keeps HK.out (fun h => h)); have HG := Lib.hid (t8.keeps HG.out (fun h => h)); have HF := Lib.hid hf8; obtain ⟨d0, d1⟩ : _ ∧ _ := ⟨cell_of_cells HK.out 0, cell_of_cells HK.out 1⟩; simp [hcs4] at d0 d1; obtain ⟨g0, g1, g2⟩ := fcells_of HG.out; have f8 := free_of_cells HG.out; clear t8 hf8)
    all_goals (
      go_wp2
      refine ret_row2 (by rfl) (by rfl) w.heap.size _ _ _ _ (by rfl) (by exact cellsF HG.out _ _ _) Tryd.underlying33 rfl (by exact infoF) _ _ (by rfl) (by rfl) ?_
      refine ⟨a8, c8, ?_, ?_⟩
      · rw [E1.out, E2.out, E3.out, E4.out, HE.out, HYL.out]; rfl
      · rw [E1.out, HYL.out]
        exact HF.out.past (HT.out.trans HB.out (fun _ _ h => h)) (touchF _ _ _ _ _) (fun k hk => ⟨by omega, by have := HT.out.size; have := HB.out.size; have := heap_lt HG1.out; omega⟩))
end Go.Proofs.YtibpnlhdpdfhiaaDoor
