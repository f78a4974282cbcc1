/- An address as text; a tuple as text. -/
import Derived.Test.YthliikkllagodaaDoorLaidZ
import Derived.Test.YthliikkllagodaaDoorGAZ
import Derived.Test.YthliikkllagodaaDoorRecWZ
import Derived.Lib.ItoaLen
import Derived.Deep.RegionHeld
set_option linter.unusedVariables false
namespace Go.Proofs.YthliikkllagodaaDoor
open Go.RowKit

/-- Bytes as a string, and strings one behind the other. -/
def mkS (l : List UInt8) : ByteArray := ⟨l.toArray⟩
theorem mkS_data (l : List UInt8) : (mkS l).data.toList = l := by simp [mkS]
theorem mkS_of (s : ByteArray) : mkS s.data.toList = s := by cases s; simp [mkS]
theorem mkS_append (a b : List UInt8) : mkS a ++ mkS b = mkS (a ++ b) := by
  apply ByteArray.ext; simp [mkS]
theorem mkS_size (l : List UInt8) : (mkS l).size = l.length := by simp [mkS, ByteArray.size]
theorem mkS_inj {a b : List UInt8} (h : mkS a = mkS b) : a = b := by
  have := congrArg (fun s => s.data.toList) h; simpa [mkS] using this

/-- The four parts of an address. -/
def partsL (x : Int) : List (List UInt8) := [Lib.itoa (x / 16777216), Lib.itoa (x / 65536 % 256), Lib.itoa (x / 256 % 256), Lib.itoa (x % 256)]
def addrL (x : Int) : List UInt8 := Lib.join (partsL x) [46]

theorem itoa_call (n : Int) (w : World) (h0 : -9223372036854775808 ≤ n) (h1 : n ≤ 9223372036854775807) (hT : TabW w) :
    Calls Tryd.prog 70 #[.int .i64 n] w fun e w' => e = .returned (.string (mkS (Lib.itoa n))) ∧ Touch w w' (fun _ => False) :=
  (Tryd.strconv_Itoa n h0 h1 w hT).mono fun e w' ⟨he, k, os, hw⟩ => ⟨he, by
    subst hw
    exact ⟨rfl, rfl, rfl, by simp [Sort.grow, World.drewN], fun b hb _ => by simp [Sort.grow, World.drewN]; exact Array.getElem?_append_left hb⟩⟩
theorem TabW.touch {w w' : World} (h : TabW w) (ht : Touch w w' (fun _ => False)) : TabW w' := h.old (ht.below (fun _ _ h => h.elim) (Nat.le_refl _))

theorem infoStr : (Tryd.prog.info? 9).map (fun i => (i.zero, i.size, i.bytes)) = some (some (.string ByteArray.empty), 1, 16) := by kernel_rfl
theorem map_mkS (l : List (List UInt8)) : (l.map mkS).map (·.data.toList) = l := by
  rw [List.map_map]; conv => rhs; rw [← List.map_id l]
  exact List.map_congr_left fun x _ => mkS_data x
theorem addrL_len (x : Int) (h0 : 0 ≤ x) (h1 : x ≤ 4294967295) : (addrL x).length ≤ 87 := by
  have a := Lib.itoa_length_le (x / 16777216) (by omega) (by omega)
  have b := Lib.itoa_length_le (x / 65536 % 256) (by omega) (by omega)
  have c := Lib.itoa_length_le (x / 256 % 256) (by omega) (by omega)
  have d := Lib.itoa_length_le (x % 256) (by omega) (by omega)
  unfold addrL partsL
  rw [Lib.join_cons]
  simp only [Lib.joinTail, List.map_cons, List.map_nil, List.flatten_cons, List.flatten_nil, List.length_append, List.length_cons, List.length_nil]
  omega
def strs (l : List (List UInt8)) : List Value := l.map fun x => .string (mkS x)

theorem strs_row {w : World} {base : Nat} {a : Option Addr} {n c : Nat} {l : List (List UInt8)} (h : w.ownsRow base 9 1 (.slice a n c) n (strs l)) (hn : 0 < n) :
    ∃ g, a = some ⟨g, 0, none⟩ ∧ g < w.heap.size ∧ (∀ (j : Nat) y, (l.map mkS)[j]? = some y → w.cell? ⟨g, j, none⟩ = some (.string y)) ∧ n ≤ c := by
  have hl := h.1
  rcases h.2 with ⟨h1, h2⟩ | ⟨g, cap, cur, h1, hb, hg, hnc, _, _, _⟩
  · omega
  · simp only [Value.slice.injEq, true_and] at h1
    obtain ⟨rfl, rfl⟩ := h1
    refine ⟨g, rfl, (Array.getElem?_eq_some_iff.1 hg).1, fun j y hy => ?_, hnc⟩
    have hj : j < n * 1 := by
      have := (List.getElem?_eq_some_iff.1 hy).1
      simp [strs] at hl this; omega
    rw [World.ownsRow.cellAt h j hj]
    simp only [strs, List.getElem?_map, Option.map_eq_some_iff] at hy ⊢
    obtain ⟨x, hx, rfl⟩ := hy
    exact ⟨x, hx, rfl⟩

set_option maxRecDepth 20000 in
set_option maxHeartbeats 2000000 in
theorem addr_any (x : Int) (w : World) (h0 : 0 ≤ x) (h1 : x ≤ 4294967295) (hT : TabW w) :
    Calls Tryd.prog 29 #[.int .u32 x] w fun e w' => e = .returned (.string (mkS (addrL x))) ∧ Touch w w' (fun _ => False) := by
  have HII := Lib.hid infoStr
  have HT0 := Lib.hid hT
  go_enter Tryd.func29, Tryd.ntmps29
  go_wp2_with fail
  go_loopw [3, 4] (fun v i wr => ∃ (k : Nat) (a' : Option Addr) (c' : Nat), k ≤ 4 ∧ i = .int .i64 (24 - 8 * k) ∧ v = .slice a' k c' ∧ wr.ownsRow w.heap.size 9 1 (.slice a' k c') k (strs ((partsL x).take k)) ∧ Touch w wr (fun _ => False)) (fun _ i _ => (intOf i + 8).toNat)
  case atStart => exact ⟨0, none, 0, by omega, rfl, rfl, World.ownsRow_nil _ _ _ _, Touch.refl _ _⟩
  case round =>
    obtain ⟨k, a', c', hk, rfl, rfl, ho, ht⟩ := hrel
    have HO := Lib.hid ho
    have HT := Lib.hid ht
    clear ho ht
    have hk' : k = 0 ∨ k = 1 ∨ k = 2 ∨ k = 3 ∨ k = 4 := by omega
    rcases hk' with rfl | rfl | rfl | rfl | rfl
    case inr.inr.inr.inr =>
      obtain ⟨g, rfl, hg, hcells, hcap⟩ := strs_row HO.out (by decide)
      go_wp2_with fail
      refine (Tryd.strings_Join g 0 c' ((partsL x).map mkS) (mkS [46]) wr (fun j y hy => by rw [Nat.zero_add]; exact hcells j y hy) hg (by simp [partsL]) hcap (by rw [map_mkS, mkS_data]; exact Nat.le_trans (addrL_len x h0 h1) (by decide))).mono ?_
      rintro e w4 ⟨rfl, hb⟩
      rw [map_mkS, mkS_data]
      go_wp2_with fail
      go_ret
      exact ⟨rfl, HT.out.trans (Touch.ofBelow (S := fun _ => False) hb (fun k h1 h2 => by omega)) (fun _ _ h => h)⟩
    all_goals
      obtain ⟨N, hN⟩ : ∃ N : Nat, wr.heap.size = N := ⟨_, rfl⟩
      have HS := Lib.hid hN
      clear hN
      go_wp2_with fail
      refine (itoa_call _ _ (by omega) (by omega) (HT0.out.touch HT.out)).mono ?_
      rintro e w4 ⟨rfl, t4⟩
      generalize hs : mkS (Lib.itoa _) = s
      have HSS := Lib.hid hs
      have hz := t4.size
      have t5 := (Touch.refl w4 (fun _ => False)).alloc (.cells #[.string s] 9)
      have HT5 := Lib.hid ((HT.out.trans t4 (fun _ _ h => h)).trans t5 (fun _ _ h => h))
      have HO5 := Lib.hid (ownsRow_touch (ownsRow_touch HO.out t4 (fun _ _ h => h)) t5 (fun _ _ h => h))
      have HQ := Lib.hid (news_of (heap_alloc_new w4 (.cells #[.string s] 9)))
      clear t4 t5 hs HT HO
      go_wp2_with (at_builtin; (with_reducible refine wp_appR HO5.out 106 Tryd.underlying106 _ 16 HII.out rfl (by decide) ⟨w4.heap.size, 0, none⟩ 1 1 _ rfl HQ.out (by simp [Value.oneCell']) (by simp only [maxLen]; omega) (by omega) (HT5.out.under (Nat.le_refl _)) (Nat.le_refl _) HT5.out.size rfl _ _ rfl rfl rfl ?_); intro a4 c4 w6 ho4 hg4 hb4 hp4; have HO4 := Lib.hid ho4; have HT4 := Lib.hid (Touch.ofBelow (S := fun _ => False) hb4 (fun k h1 h2 => by omega)); clear ho4 hg4 hb4 hp4)
      have HF := HO4.out
      rw [← HSS.out] at HF
      first
        | exact ⟨⟨1, a4, c4, by omega, rfl, rfl, HF, HT4.out⟩, by simp [intOf]⟩
        | exact ⟨⟨2, a4, c4, by omega, rfl, rfl, HF, HT4.out⟩, by simp [intOf]⟩
        | exact ⟨⟨3, a4, c4, by omega, rfl, rfl, HF, HT4.out⟩, by simp [intOf]⟩
        | exact ⟨⟨4, a4, c4, by omega, rfl, rfl, HF, HT4.out⟩, by simp [intOf]⟩

def endL (x p : Int) : List UInt8 := addrL x ++ [58] ++ Lib.itoa p
def nameL (p : Int) : List UInt8 := if p = 6 then [116, 99, 112] else if p = 17 then [117, 100, 112] else [63]
def textL (t : TupD) : List UInt8 := nameL t.proto ++ [32] ++ endL t.src t.sport ++ [62] ++ endL t.dst t.dport

set_option maxRecDepth 20000 in
set_option maxHeartbeats 2000000 in
theorem end_any (x p : Int) (w : World) (h0 : 0 ≤ x) (h1 : x ≤ 4294967295) (p0 : -9223372036854775808 ≤ p) (p1 : p ≤ 9223372036854775807) (hT : TabW w) :
    Calls Tryd.prog 80 #[.int .u32 x, .int .i64 p] w fun e w' => e = .returned (.string (mkS (endL x p))) ∧ Touch w w' (fun _ => False) := by
  have HT0 := Lib.hid hT
  have HA := Lib.hid (addr_any x w h0 h1 hT)
  have HI := Lib.hid (fun W hW => itoa_call p W p0 p1 hW)
  have HE : RowKit.Hid (mkS (endL x p) = mkS (addrL x) ++ mkS [58] ++ mkS (Lib.itoa p)) := Lib.hid (by rw [mkS_append, mkS_append]; rfl)
  rw [HE.out]
  have z1 : (mkS (addrL x)).size ≤ 87 := by rw [mkS_size]; exact addrL_len x h0 h1
  have z2 : (mkS (Lib.itoa p)).size ≤ 21 := by rw [mkS_size]; exact Lib.itoa_length_le p p0 p1
  generalize mkS (addrL x) = sa at *
  generalize mkS (Lib.itoa p) = si at *
  go_enter Tryd.func80, Tryd.ntmps80
  go_wp2_with fail
  refine HA.out.mono ?_
  rintro e w1 ⟨rfl, t1⟩
  go_wp2_with fail
  refine (HI.out _ (hT.touch t1)).mono ?_
  rintro e w2 ⟨rfl, t2⟩
  go_wp2_with fail
  go_ret
  exact ⟨rfl, t1.trans t2 (fun _ _ h => h)⟩

theorem name_any (p : Int) (w : World) :
    Calls Tryd.prog 79 #[.int .i64 p] w fun e w' => e = .returned (.string (mkS (nameL p))) ∧ w = w' := by
  by_cases h6 : p = 6
  · subst h6
    go_enter Tryd.func79, Tryd.ntmps79
    go_wp2_with fail
    go_ret
    exact ⟨rfl, rfl⟩
  by_cases h7 : p = 17
  · subst h7
    go_enter Tryd.func79, Tryd.ntmps79
    go_wp2_with fail
    go_ret
    exact ⟨rfl, rfl⟩
  go_enter Tryd.func79, Tryd.ntmps79
  go_wp2_with fail
  go_ret
  exact ⟨by unfold nameL; rw [if_neg h6, if_neg h7]; rfl, rfl⟩

theorem endL_len (x p : Int) (h0 : 0 ≤ x) (h1 : x ≤ 4294967295) (p0 : -9223372036854775808 ≤ p) (p1 : p ≤ 9223372036854775807) : (endL x p).length ≤ 109 := by
  have := addrL_len x h0 h1
  have := Lib.itoa_length_le p p0 p1
  simp only [endL, List.length_append, List.length_cons, List.length_nil]; omega
theorem nameL_len (p : Int) : (nameL p).length ≤ 3 := by unfold nameL; split; · decide
                                                         split <;> decide

set_option maxRecDepth 20000 in
set_option maxHeartbeats 2000000 in
theorem text_any (t : TupD) (ok : TupOk t) (w : World) (hT : TabW w) :
    Calls Tryd.prog 33 #[.agg (tcs t)] w fun e w' => e = .returned (.string (mkS (textL t))) ∧ Touch w w' (fun _ => False) := by
  obtain ⟨W1, hW1⟩ : ∃ W, w.alloc (.cells (tcs t) 47) = W := ⟨_, rfl⟩
  have t1 : Touch w W1 (fun _ => False) := hW1 ▸ (Touch.refl w _).alloc _
  have g1 : W1.heap[w.heap.size]? = some (.cells (tcs t) 47 (0, 0)) := hW1 ▸ heap_alloc_new ..
  have HT1 := Lib.hid (hT.touch t1)
  have HW1 := Lib.hid hW1
  have T1 := Lib.hid t1
  have HG := Lib.hid g1
  obtain ⟨t1', t2', t3', t4', t5'⟩ := t
  obtain ⟨⟨o1, o1'⟩, ⟨o2, o2'⟩, ⟨o3, o3'⟩, ⟨o4, o4'⟩, ⟨o5, o5'⟩⟩ := ok
  simp only at o1 o1' o2 o2' o3 o3' o4 o4' o5 o5'
  have HE : RowKit.Hid (mkS (textL ⟨t1', t2', t3', t4', t5'⟩) = mkS (nameL t3') ++ mkS [32] ++ mkS (endL t1' t4') ++ mkS [62] ++ mkS (endL t2' t5')) := Lib.hid (by simp only [mkS_append]; rfl)
  have HN := Lib.hid (fun W => name_any t3' W)
  have H1 : RowKit.Hid (∀ W, Touch W1 W (fun _ => False) → Calls Tryd.prog 80 #[.int .u32 t1', .int .i64 t4'] W fun e w' => e = .returned (.string (mkS (endL t1' t4'))) ∧ Touch W1 w' (fun _ => False)) :=
    Lib.hid (fun W h => (end_any t1' t4' W o1 o1' o4 o4' (HT1.out.touch h)).mono fun e w' k => ⟨k.1, h.trans k.2 (fun _ _ h => h)⟩)
  have H2 : RowKit.Hid (∀ W, Touch W1 W (fun _ => False) → Calls Tryd.prog 80 #[.int .u32 t2', .int .i64 t5'] W fun e w' => e = .returned (.string (mkS (endL t2' t5'))) ∧ Touch W1 w' (fun _ => False)) :=
    Lib.hid (fun W h => (end_any t2' t5' W o2 o2' o5 o5' (HT1.out.touch h)).mono fun e w' k => ⟨k.1, h.trans k.2 (fun _ _ h => h)⟩)
  have z1 : (mkS (nameL t3')).size ≤ 3 := by rw [mkS_size]; exact nameL_len _
  have z2 : (mkS (endL t1' t4')).size ≤ 109 := by rw [mkS_size]; exact endL_len _ _ o1 o1' o4 o4'
  have z3 : (mkS (endL t2' t5')).size ≤ 109 := by rw [mkS_size]; exact endL_len _ _ o2 o2' o5 o5'
  have HC : RowKit.Hid (∀ W, Touch W1 W (fun _ => False) → W.heap[w.heap.size]? = some (.cells (tcs ⟨t1', t2', t3', t4', t5'⟩) 47 (0, 0))) := Lib.hid (fun W h => h.keeps HG.out (fun h => h))
  rw [HE.out]
  generalize mkS (nameL t3') = s3 at *
  generalize mkS (endL t1' t4') = s1 at *
  generalize mkS (endL t2' t5') = s2 at *
  have T9 := Lib.hid (Touch.refl W1 (fun _ => False)).drew
  clear hW1 t1 g1 hT o1 o1' o2 o2' o3 o3' o4 o4' o5 o5'
  simp only [tcs] at HW1 HG HC ⊢
  go_enter Tryd.func33, Tryd.ntmps33
  go_upto_region 1 with (fail)
  rw [HW1.out]
  obtain ⟨c0, c1, c2, c3, c4⟩ := tcells_of (t := ⟨t1', t2', t3', t4', t5'⟩) HG.out
  simp only at c0 c1 c2 c3 c4
  go_region_held (fun w' => w'.cell? ⟨w.heap.size, 0, none⟩ = some (.int .u32 t1') ∧ w'.cell? ⟨w.heap.size, 1, none⟩ = some (.int .u32 t2') ∧ w'.cell? ⟨w.heap.size, 2, none⟩ = some (.int .i64 t3') ∧ w'.cell? ⟨w.heap.size, 3, none⟩ = some (.int .i64 t4') ∧ w'.cell? ⟨w.heap.size, 4, none⟩ = some (.int .i64 t5'))
    (first | (with_reducible exact tcells_of (t := ⟨t1', t2', t3', t4', t5'⟩) (HC.out _ T9.out)) | go_keep)
    (first
      | (go_at_call 79; (with_reducible refine (HN.out _).mono ?_); rintro e w9 ⟨rfl, rfl⟩)
      | (go_at_call 80; (with_reducible refine (H1.out _ T9.out).mono ?_); rintro e w2 ⟨rfl, t2⟩; have T9 := Lib.hid t2; clear t2; obtain ⟨c0, c1, c2, c3, c4⟩ := tcells_of (t := ⟨t1', t2', t3', t4', t5'⟩) (HC.out _ T9.out); simp only at c0 c1 c2 c3 c4)
      | (go_at_call 80; (with_reducible refine (H2.out _ T9.out).mono ?_); rintro e w2 ⟨rfl, t2⟩; have T9 := Lib.hid t2; clear t2; obtain ⟨c0, c1, c2, c3, c4⟩ := tcells_of (t := ⟨t1', t2', t3', t4', t5'⟩) (HC.out _ T9.out); simp only at c0 c1 c2 c3 c4))
  all_goals (go_wp2; go_ret; exact ⟨rfl, T1.out.trans T9.out (fun _ _ h => h)⟩)
end Go.Proofs.YthliikkllagodaaDoor
