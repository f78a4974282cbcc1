/- Frames: what a frame's bytes tell; what takeHead of package frame answers. -/
import Derived.Test.YtibpnlhdpdfhiaaDoorFrmZ
import Derived.Test.YtibpnlhdpdfhiaaDoorIpRdZ
import Derived.Test.YtibpnlhdpdfhiaaDoorGBZ
import Derived.Test.YtibpnlhdpdfhiaaDoorSliceNZ
import Derived.Test.YtibpnlhdpdfhiaaDoorGAZ
import Derived.Deep.RegionWith
import Derived.Deep.DeepCutAuto
set_option linter.unusedVariables false
namespace Go.Proofs.YtibpnlhdpdfhiaaDoor
open Go.RowKit

def b4 (xs : List Nat) (i : Nat) : Nat := beN [gb xs i, gb xs (i + 1), gb xs (i + 2), gb xs (i + 3)]
def tkN (xs : List Nat) : Nat := gb xs 6 * 256 + gb xs 7
/-- Why a head is refused; 0 where it isn't. -/
def hdE (xs : List Nat) : Nat :=
  if xs.length < 16 then 2 else if xs.take 4 ≠ [103, 111, 105, 116] then 3 else if (b4 xs 8 : Int) ≠ crcF (xs.take 8) then 5 else if 4096 < tkN xs then 4 else 0
/-- Why bytes are refused as a frame. -/
def tkE (xs : List Nat) : Nat :=
  if hdE xs ≠ 0 then hdE xs else if xs.length < 16 + tkN xs then 2 else if (b4 xs 12 : Int) ≠ crcF ((xs.take (16 + tkN xs)).drop 16) then 5 else 0

theorem b4_lt (xs : List Nat) (h : ∀ x ∈ xs, x < 256) (i : Nat) : b4 xs i < 4294967296 := by
  have h0 := gb_lt xs h i
  have h1 := gb_lt xs h (i + 1)
  have h2 := gb_lt xs h (i + 2)
  have h3 := gb_lt xs h (i + 3)
  simp only [b4, beN, List.foldl]
  omega

theorem strB_lit (ys zs : List Nat) (L : List UInt8) (hL : (strB zs).toList = L) (hy : ∀ x ∈ ys, x < 256) (hz : ∀ x ∈ zs, x < 256) : ((strB ys).toList == L) = decide (ys = zs) := by
  subst hL
  by_cases h : ys = zs
  · subst h; simp
  · have : ¬ (strB ys).toList = (strB zs).toList := fun e => h (strB_inj' ys zs hy hz e)
    simp [h, this]
theorem goit_bytes : (strB [103, 111, 105, 116]).toList = [103, 111, 105, 116] := by decide +kernel
theorem e_Raw (G U : Nat) (xs : List Nat) (err : Int) (n : Nat) (N : Int) (hN : N = (n : Nat)) (w : World) (h : RdE w G U xs err) (hn0 : 0 < n) (hn : n ≤ xs.length) (hlen : xs.length ≤ 140737488355328) :
    Calls Tryd.prog 99 #[.pointer (.some ⟨G, 0, none⟩), .int .i64 N] w fun e w' => ∃ a3 c3, e = .returned (.slice a3 n c3) ∧ RdE w' G U (xs.drop n) err ∧ RowB w' a3 n c3 (xs.take n) ∧ Touch w w' (fun k => k = G) := by
  subst hN
  obtain ⟨a, c, h1, h2, h3, h4⟩ := h
  refine (rraw_any G a _ c xs err n w h1 hn0 hn hlen).mono ?_
  rintro e w' ⟨a3, c3, rfl, w1, ht, hf⟩
  obtain ⟨g1, g2⟩ := ht.rdE h2 h3 h4
  exact ⟨a3, c3, rfl, g1.still hf.2, hf.row'.2, g2.trans hf.2 (fun _ _ h => h.elim)⟩

/-- A head's cells. -/
def hcs4 (k v l s : Int) : Array Value := #[.int .i64 k, .int .i64 v, .int .i64 l, .int .u32 s]
def headV (xs : List Nat) : Value := if hdE xs = 0 then .agg (hcs4 (gb xs 4) (gb xs 5) (tkN xs) (b4 xs 12)) else .agg (hcs4 0 0 0 0)

set_option maxRecDepth 20000 in
set_option maxHeartbeats 4000000 in
theorem head_short (a : Option Addr) (len cap : Nat) (xs : List Nat) (w : World) (hr : RowB w a len cap xs) (hs : len < 16) :
    Calls Tryd.prog 75 #[.slice a len cap] w fun e w' => e = .returned (.tuple #[headV xs, .int .i64 (hdE xs)]) ∧ Touch w w' (fun _ => False) := by
  have he : hdE xs = 2 := by unfold hdE; rw [if_pos (by rw [hr.1]; exact hs)]
  have hv : headV xs = .agg (hcs4 0 0 0 0) := by unfold headV; rw [if_neg (by omega)]
  rw [he, hv]
  have hs' : (len : Int) < 16 := by omega
  clear he hv hr hs
  have HTy : RowKit.Hid ((Tryd.prog.info? 104).map (·.size) = some 4) := Lib.hid (by kernel_rfl)
  obtain ⟨W1, hW1⟩ : ∃ W1, w.alloc (.cells #[.int .i64 0, .int .i64 0, .int .i64 0, .int .u32 0] 104) = W1 := ⟨_, rfl⟩
  have HT := Lib.hid (hW1 ▸ (Touch.refl _ _).alloc _ : Touch w W1 (fun _ => False))
  have HG : RowKit.Hid (W1.heap[w.heap.size]? = some (.cells (hcs4 0 0 0 0) 104 (0, 0))) := Lib.hid (hW1 ▸ heap_alloc_new w _)
  go_enter Tryd.func75, Tryd.ntmps75
  go_wp2_with (refine store_row rfl 104 (.tmp 2) (.tmp 9) rfl w.heap.size _ rfl rfl _ _ HG.out HTy.out rfl rfl ?_)
  refine ret_row1 rfl rfl w.heap.size ?t ?cs ?fr _ rfl ?hg Tryd.underlying104 rfl ?hi _ rfl ?hR
  case hg => exact setRow_heap _ _ _ _ _ _ HG.out
  case hi => exact HTy.out
  case hR => exact ⟨rfl, HT.out.setRow _ _ (fun h => absurd h (Nat.lt_irrefl _))⟩

/-- Behind the head's own sum. -/
def HeadAt (W1 : World) (G U B : Nat) (xs : List Nat) (s : Value) (wx : World) : Prop :=
  s = .bool ((b4 xs 8 : Int) != crcF (xs.take 8)) ∧ RdE wx G U [gb xs 12, gb xs 13, gb xs 14, gb xs 15] 0 ∧ Touch W1 wx (fun _ => False) ∧ wx.heap[B]? = some (.cells (hcs4 (gb xs 4 : Nat) (gb xs 5 : Nat) (tkN xs : Nat) 0) 104 (0, 0))

set_option maxRecDepth 20000 in
set_option maxHeartbeats 4000000 in
theorem head_long (a : Option Addr) (len cap : Nat) (xs : List Nat) (w : World) (hr : RowB w a len cap xs) (hs : 16 ≤ len) (hlen : len ≤ 140737488355328) :
    Calls Tryd.prog 75 #[.slice a len cap] w fun e w' => e = .returned (.tuple #[headV xs, .int .i64 (hdE xs)]) ∧ Touch w w' (fun _ => False) := by
  have hx := hr.1
  have hcap := hr.2.1
  have hsm := hr.2.2.2.2.1
  have hs' : ¬ (len : Int) < 16 := by omega
  obtain ⟨b, off, rfl⟩ := hr.some (by omega)
  have HTy : RowKit.Hid ((Tryd.prog.info? 104).map (·.size) = some 4) := Lib.hid (by kernel_rfl)
  obtain ⟨W1, hW1⟩ : ∃ W1, w.alloc (.cells #[.int .i64 0, .int .i64 0, .int .i64 0, .int .u32 0] 104) = W1 := ⟨_, rfl⟩
  have HT := Lib.hid (hW1 ▸ (Touch.refl _ _).alloc _ : Touch w W1 (fun _ => False))
  have HG1 : RowKit.Hid (W1.heap[w.heap.size]? = some (.cells (hcs4 0 0 0 0) 104 (0, 0))) := Lib.hid (hW1 ▸ heap_alloc_new w _)
  have HR1 := Lib.hid (hr.touch HT.out (fun _ _ => .inr (fun h => h)))
  have h16 : xs.take 16 = gb xs 0 :: gb xs 1 :: gb xs 2 :: gb xs 3 :: gb xs 4 :: gb xs 5 :: gb xs 6 :: gb xs 7 :: gb xs 8 :: gb xs 9 :: gb xs 10 :: gb xs 11 :: gb xs 12 :: gb xs 13 :: gb xs 14 :: gb xs 15 :: [] := by
    rw [take_gb xs 16 (by omega)]; rfl
  have H16 := Lib.hid h16
  have HX := Lib.hid hx
  have hrN := HR1.out.take 16 hs
  have HN := Lib.hid (newreader_any (some ⟨b, off, none⟩) 16 cap (xs.take 16) W1 hrN (by decide))
  clear hr hx h16 hrN
  go_enter Tryd.func75, Tryd.ntmps75
  go_wp2_with fail
  (with_reducible refine HN.out.mono ?_)
  rintro e w2 ⟨v2, rfl, hn2⟩
  obtain ⟨G, rfl, hrd, t2, hGE⟩ := hn2.rdE
  have HB := Lib.hid t2
  have HGE := Lib.hid hGE
  have hl16 : (xs.take 16).length = 16 := by simp [HX.out]; omega
  have HRW := Lib.hid (e_Raw G w2.heap.size (xs.take 16) 0 4 4 rfl w2 hrd (by decide) (by rw [hl16]; decide) (by rw [hl16]; decide))
  clear hn2 t2 HN hGE hl16 hrd
  go_wp2_with fail
  (with_reducible refine HRW.out.mono ?_)
  rintro e w3 ⟨a3, c3, rfl, hrd3, hrow3, t3⟩
  have HB := Lib.hid (HB.out.trans t3 (fun k h1 h2 => (by have := HGE.out; omega)))
  have h44 : (xs.take 16).take 4 = xs.take 4 := by rw [List.take_take]; rfl
  rw [h44] at hrow3
  have hsr := str_row hrow3
  rw [H16.out] at hrd3
  have HRD := Lib.hid hrd3
  clear t3 HRW h44 hrd3
  have hst := strB_lit (xs.take 4) [103, 111, 105, 116] [103, 111, 105, 116] goit_bytes (fun x hx => hsm x (List.mem_of_mem_take hx)) (by decide)
  by_cases hm : xs.take 4 = [103, 111, 105, 116]
  case neg =>
    have he : hdE xs = 3 := by unfold hdE; rw [if_neg (by rw [HX.out]; omega), if_pos hm]
    have hv : headV xs = .agg (hcs4 0 0 0 0) := by unfold headV; rw [if_neg (by omega)]
    have HE := Lib.hid he
    have HV := Lib.hid hv
    rw [decide_eq_false hm] at hst
    have HG := Lib.hid (HB.out.keeps HG1.out (fun h => h))
    clear he hv hm
    go_wp2_with (refine store_row rfl 104 (.tmp 2) (.tmp 17) rfl w.heap.size _ rfl rfl _ _ HG.out HTy.out rfl rfl ?_)
    refine ret_row1 rfl rfl w.heap.size ?t ?cs ?fr _ rfl ?hg Tryd.underlying104 rfl ?hi _ rfl ?hR
    case hg => exact setRow_heap _ _ _ _ _ _ HG.out
    case hi => exact HTy.out
    case hR => exact ⟨by rw [HV.out, HE.out]; rfl, (HT.out.trans HB.out (fun _ _ h => h)).setRow _ _ (fun h => absurd h (Nat.lt_irrefl _))⟩
  case pos =>
  rw [decide_eq_true hm] at hst
  have HM := Lib.hid hm
  have HSM := Lib.hid hsm
  clear hm
  go_wp2_with (first
    | (go_at_call 100; (with_reducible refine (e_U8 G w2.heap.size _ _ _ _ HRD.out).mono ?_); rintro e w6 ⟨rfl, hrd, t6⟩; have HRD := Lib.hid hrd; have HB := Lib.hid (HB.out.trans t6 (fun k h1 h2 => (by have := HGE.out; omega))); clear hrd t6)
    | (go_at_call 78; (with_reducible refine (e_U16 G w2.heap.size _ _ _ _ _ HRD.out).mono ?_); rintro e w6 ⟨rfl, hrd, t6⟩; rw [show gb xs 6 * 256 + gb xs 7 = tkN xs from rfl]; have HRD := Lib.hid hrd; have HB := Lib.hid (HB.out.trans t6 (fun k h1 h2 => (by have := HGE.out; omega))); clear hrd t6))
  obtain ⟨W7, hW7⟩ : ∃ W, w6.alloc (.cells #[.int .i64 (gb xs 4 : Nat), .int .i64 (gb xs 5 : Nat), .int .i64 (tkN xs : Nat), .int .u32 0] 104) = W := ⟨_, rfl⟩
  obtain ⟨B, hB⟩ : ∃ B, w6.heap.size = B := ⟨_, rfl⟩
  have t7 : Touch w6 W7 (fun _ => False) := hW7 ▸ (Touch.refl _ _).alloc _
  have HK : RowKit.Hid (W7.heap[B]? = some (.cells (hcs4 (gb xs 4 : Nat) (gb xs 5 : Nat) (tkN xs : Nat) 0) 104 (0, 0))) := Lib.hid (hB ▸ hW7 ▸ heap_alloc_new w6 _)
  have hBE : W1.heap.size ≤ B := by rw [← hB]; exact HB.out.size
  have HBE := Lib.hid hBE
  have hGB : G < B := by have := HRD.out.lt; omega
  rw [hW7, hB]
  have HRD := Lib.hid (HRD.out.still t7)
  have HB := Lib.hid (HB.out.trans t7 (fun _ _ h => h))
  have HR := Lib.hid (HR1.out.touch HB.out (fun _ _ => .inr (fun h => h)))
  have hN8 : beN [gb xs 8, gb xs 9, gb xs 10, gb xs 11] = b4 xs 8 := rfl
  have HN8 := Lib.hid hN8
  have HC8 := Lib.hid (crcF_le (xs.take 8) (fun x hx => HSM.out x (List.mem_of_mem_take hx)))
  have h8c : 8 ≤ cap := by omega
  clear hW7 hB t7 hBE hN8
  go_cut [30] (fun s wx => HeadAt W1 G w2.heap.size B xs s wx)
  case first =>
    go_wp2_with fail
    have t0 := (Touch.refl W7 (fun _ => False)).drew
    have HRD := Lib.hid (HRD.out.still t0)
    have HB := Lib.hid (HB.out.trans t0 (fun _ _ h => h))
    have HR := Lib.hid (HR.out.touch t0 (fun _ _ => .inr (fun h => h)))
    have HK := Lib.hid (t0.keeps HK.out (fun h => h))
    clear t0 hsr hst
    go_region_with (first
      | (go_at_call 73; (with_reducible refine (crc_same _ _ _ _ _ (HR.out.take 8 (by omega))).mono ?_); rintro e w' ⟨rfl, hw'⟩; subst w')
      | (go_at_call 77; (with_reducible refine (e_U32 G w2.heap.size _ _ _ _ _ _ _ HRD.out).mono ?_); rintro e w8 ⟨rfl, hrd, t8⟩; rw [HN8.out]; have HRD := Lib.hid hrd; have HB := Lib.hid (HB.out.trans t8 (fun k h1 h2 => (by have := HGE.out; omega))); have HR := Lib.hid (HR1.out.touch HB.out (fun _ _ => .inr (fun h => h))); have HK := Lib.hid (t8.keeps HK.out (fun h => (by omega))); clear hrd t8))
    all_goals (go_wp2_with fail; go_meet; exact ⟨rfl, HRD.out, HB.out, HK.out⟩)
  case rest =>
    obtain ⟨rfl, hrd, hb, hk⟩ := hcut
    have HRD := Lib.hid hrd
    have HB := Lib.hid hb
    have HK := Lib.hid hk
    have HG := Lib.hid (HB.out.keeps HG1.out (fun h => h))
    have hl16 : ¬ xs.length < 16 := by rw [HX.out]; omega
    have HM' : RowKit.Hid (¬ xs.take 4 ≠ [103, 111, 105, 116]) := Lib.hid (fun h => h HM.out)
    clear hrd hb hk
    by_cases h5 : (b4 xs 8 : Int) = crcF (xs.take 8)
    case neg =>
      have he : hdE xs = 5 := by unfold hdE; rw [if_neg hl16, if_neg HM'.out, if_pos h5]
      have hv : headV xs = .agg (hcs4 0 0 0 0) := by unfold headV; rw [if_neg (by omega)]
      have HE := Lib.hid he
      have HV := Lib.hid hv
      have hb5 : ((b4 xs 8 : Int) != crcF (xs.take 8)) = true := bne_iff_ne.2 h5
      clear he hv h5 hst hsr
      go_wp2_with (first | (refine store_row rfl 104 (.tmp 2) (.tmp 31) rfl w.heap.size _ rfl rfl _ _ HG.out HTy.out rfl rfl ?_))
      refine ret_row1 rfl rfl w.heap.size ?t ?cs ?fr _ rfl ?hg Tryd.underlying104 rfl ?hi _ rfl ?hR
      case hg => exact setRow_heap _ _ _ _ _ _ HG.out
      case hi => exact HTy.out
      case hR => exact ⟨by rw [HV.out, HE.out]; rfl, (HT.out.trans HB.out (fun _ _ h => h)).setRow _ _ (fun h => absurd h (Nat.lt_irrefl _))⟩
    case pos =>
    have hb5 : ((b4 xs 8 : Int) != crcF (xs.take 8)) = false := bne_eq_false_iff_eq.2 h5
    have c2 := cell_of_cells HK.out 2
    simp [hcs4] at c2
    have hn64 : tkN xs < 65536 := by
      have := gb_lt xs HSM.out 6
      have := gb_lt xs HSM.out 7
      show gb xs 6 * 256 + gb xs 7 < 65536
      omega
    by_cases h4 : 4096 < tkN xs
    case pos =>
      have he : hdE xs = 4 := by unfold hdE; rw [if_neg hl16, if_neg HM'.out, if_neg (fun h => h h5), if_pos h4]
      have hv : headV xs = .agg (hcs4 0 0 0 0) := by unfold headV; rw [if_neg (by omega)]
      have HE := Lib.hid he
      have HV := Lib.hid hv
      have h4' : (4096 : Int) < tkN xs := by omega
      clear he hv h5 hst hsr
      go_wp2_with (first | (refine store_row rfl 104 (.tmp 2) (.tmp 35) rfl w.heap.size _ rfl rfl _ _ HG.out HTy.out rfl rfl ?_))
      refine ret_row1 rfl rfl w.heap.size ?t ?cs ?fr _ rfl ?hg Tryd.underlying104 rfl ?hi _ rfl ?hR
      case hg => exact setRow_heap _ _ _ _ _ _ HG.out
      case hi => exact HTy.out
      case hR => exact ⟨by rw [HV.out, HE.out]; rfl, (HT.out.trans HB.out (fun _ _ h => h)).setRow _ _ (fun h => absurd h (Nat.lt_irrefl _))⟩
    case neg =>
    have he : hdE xs = 0 := by unfold hdE; rw [if_neg hl16, if_neg HM'.out, if_neg (fun h => h h5), if_neg h4]
    have hv : headV xs = .agg (hcs4 (gb xs 4) (gb xs 5) (tkN xs) (b4 xs 12)) := by unfold headV; rw [if_pos he]
    have HE := Lib.hid he
    have HV := Lib.hid hv
    have h4' : ¬ (4096 : Int) < tkN xs := by omega
    have hN12 : beN [gb xs 12, gb xs 13, gb xs 14, gb xs 15] = b4 xs 12 := rfl
    have HN12 := Lib.hid hN12
    clear he hv h5 hst hsr hN12
    go_wp2_with fail
    (with_reducible refine (e_U32 G w2.heap.size _ _ _ _ _ _ _ HRD.out).mono ?_)
    rintro e w8 ⟨rfl, hrd, t8⟩
    rw [HN12.out]
    have HB := Lib.hid (HB.out.trans t8 (fun k h1 h2 => (by have := HGE.out; omega)))
    have HK := Lib.hid (t8.keeps HK.out (fun h => (by omega)))
    have c3 := cell_of_cells HK.out 3
    have f3 := free_of_cells HK.out 3
    simp [hcs4] at c3
    have hset := heap_setCell_same w8 B 3 _ _ (.int .u32 (b4 xs 12 : Nat)) HK.out
    have HK2 : RowKit.Hid ((w8.setCell ⟨B, 3, none⟩ (.int .u32 (b4 xs 12 : Nat))).heap[B]? = some (.cells (hcs4 (gb xs 4 : Nat) (gb xs 5 : Nat) (tkN xs : Nat) (b4 xs 12 : Nat)) 104 (0, 0))) := Lib.hid hset
    have HB := Lib.hid (HB.out.setCell ⟨B, 3, none⟩ (.int .u32 (b4 xs 12 : Nat)) (fun h => (by have := HBE.out; simp at h; omega)))
    have HG := Lib.hid (HB.out.keeps HG1.out (fun h => h))
    clear hrd t8 hset
    go_wp2_with (first
      | (refine wpList_load_row rfl 104 (.tmp 5) rfl B rfl _ _ _ _ HK2.out Tryd.underlying104 rfl HTy.out ?_)
      | (refine store_row rfl 104 (.tmp 2) (.tmp 39) rfl w.heap.size _ rfl rfl _ _ HG.out HTy.out rfl rfl ?_))
    refine ret_row1 rfl rfl w.heap.size 104 (hcs4 (gb xs 4 : Nat) (gb xs 5 : Nat) (tkN xs : Nat) (b4 xs 12 : Nat)) (0, 0) _ rfl ?hg Tryd.underlying104 rfl ?hi _ rfl ?hR
    case hg => exact setRow_heap _ _ _ _ _ _ HG.out
    case hi => exact HTy.out
    case hR => exact ⟨by rw [HV.out, HE.out]; rfl, (HT.out.trans HB.out (fun _ _ h => h)).setRow _ _ (fun h => absurd h (Nat.lt_irrefl _))⟩
theorem head_any (a : Option Addr) (len cap : Nat) (xs : List Nat) (w : World) (hr : RowB w a len cap xs) (hlen : len ≤ 140737488355328) :
    Calls Tryd.prog 75 #[.slice a len cap] w fun e w' => e = .returned (.tuple #[headV xs, .int .i64 (hdE xs)]) ∧ Touch w w' (fun _ => False) := by
  by_cases h : len < 16
  · exact head_short a len cap xs w hr h
  · exact head_long a len cap xs w hr (by omega) hlen
end Go.Proofs.YtibpnlhdpdfhiaaDoor
