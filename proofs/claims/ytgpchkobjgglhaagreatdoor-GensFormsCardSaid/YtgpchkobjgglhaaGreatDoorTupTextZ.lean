/- An address as text; a tuple as text. -/
import Derived.Test.YtgpchkobjgglhaaGreatDoorLaidZ
import Derived.Test.YtgpchkobjgglhaaGreatDoorGAZ
import Derived.Test.YtgpchkobjgglhaaGreatDoorHCZ
import Derived.Lib.ItoaLen
import Derived.Deep.RegionHeld
set_option linter.unusedVariables false
namespace Go.Proofs.YtgpchkobjgglhaaGreatDoor
open Go.RowKit

/-- Bytes as a string, and strings one behind the other. -/
def mkS (l : List UInt8) : ByteArray := ⟨l.toArray⟩
theorem mkS_data (l : List UInt8) : (mkS l).data.toList = l := by simp [mkS]
theorem mkS_of (s : ByteArray) : mkS s.data.toList = s := by cases s; simp [mkS]
theorem mkS_append (a b : List UInt8) : mkS a ++ mkS b = mkS (a ++ b) := by
  apply ByteArray.ext; simp [mkS]
theorem mkS_size (l : List UInt8) : (mkS l).size = l.length := by simp [mkS, ByteArray.size]
theorem mkS_inj {a b : List UInt8} (h : mkS a = mkS b) : a = b := by
  have := congrArg (fun s => s.data.toList) h; simpa [mkS] using this

/-- The four parts of an address. -/
def partsL (x : Int) : List (List UInt8) := [Lib.itoa (x / 16777216), Lib.itoa (x / 65536 % 256), Lib.itoa (x / 256 % 256), Lib.itoa (x % 256)]
def addrL (x : Int) : List UInt8 := Lib.join (partsL x) [46]

theorem itoa_call (n : Int) (w : World) (h0 : -9223372036854775808 ≤ n) (h1 : n ≤ 9223372036854775807) (hT : TabW w) :
    Calls Tryz.prog 37 #[.int .i64 n] w fun e w' => e = .returned (.string (mkS (Lib.itoa n))) ∧ Touch w w' (fun _ => False) :=
  (Tryz.strconv_Itoa n h0 h1 w hT).mono fun e w' ⟨he, k, os, hw⟩ => ⟨he, by
    subst hw
    exact ⟨rfl, rfl, rfl, by simp [Sort.grow, World.drewN], fun b hb _ => by simp [Sort.grow, World.drewN]; exact Array.getElem?_append_left hb⟩⟩
theorem TabW.touch {w w' : World} (h : TabW w) (ht : Touch w w' (fun _ => False)) : TabW w' := h.old (ht.below (fun _ _ h => h.elim) (Nat.le_refl _))

theorem infoStr : (Tryz.prog.info? 9).map (fun i => (i.zero, i.size, i.bytes)) = some (some (.string ByteArray.empty), 1, 16) := by kernel_rfl
theorem map_mkS (l : List (List UInt8)) : (l.map mkS).map (·.data.toList) = l := by
  rw [List.map_map]; conv => rhs; rw [← List.map_id l]
  exact List.map_congr_left fun x _ => mkS_data x
theorem addrL_len (x : Int) (h0 : 0 ≤ x) (h1 : x ≤ 4294967295) : (addrL x).length ≤ 87 := by
  have a := Lib.itoa_length_le (x / 16777216) (by omega) (by omega)
  have b := Lib.itoa_length_le (x / 65536 % 256) (by omega) (by omega)
  have c := Lib.itoa_length_le (x / 256 % 256) (by omega) (by omega)
  have d := Lib.itoa_length_le (x % 256) (by omega) (by omega)
  unfold addrL partsL
  rw [Lib.join_cons]
  simp only [Lib.joinTail, List.map_cons, List.map_nil, List.flatten_cons, List.flatten_nil, List.length_append, List.length_cons, List.length_nil]
  omega
def strs (l : List (List UInt8)) : List Value := l.map fun x => .string (mkS x)

theorem strs_row {w : World} {base : Nat} {a : Option Addr} {n c : Nat} {l : List (List UInt8)} (h : w.ownsRow base 9 1 (.slice a n c) n (strs l)) (hn : 0 < n) :
    ∃ g, a = some ⟨g, 0, none⟩ ∧ g < w.heap.size ∧ (∀ (j : Nat) y, (l.map mkS)[j]? = some y → w.cell? ⟨g, j, none⟩ = some (.string y)) ∧ n ≤ c := by
  have hl := h.1
  rcases h.2 with ⟨h1, h2⟩ | ⟨g, cap, cur, h1, hb, hg, hnc, _, _, _⟩
  · omega
  · simp only [Value.slice.injEq, true_and] at h1
    obtain ⟨rfl, rfl⟩ := h1
    refine ⟨g, rfl, (Array.getElem?_eq_some_iff.1 hg).1, fun j y hy => ?_, hnc⟩
    have hj : j < n * 1 := by
      have := (List.getElem?_eq_some_iff.1 hy).1
      simp [strs] at hl this; omega
    rw [World.ownsRow.cellAt h j hj]
    simp only [strs, List.getElem?_map, Option.map_eq_some_iff] at hy ⊢
    obtain ⟨x, hx, rfl⟩ := hy
    exact ⟨x, hx, rfl⟩

set_option maxRecDepth 20000 in
set_option maxHeartbeats 2000000 in
theorem addr_any (x : Int) (w : World) (h0 : 0 ≤ x) (h1 : x ≤ 4294967295) (hT : TabW w) :
    Calls Tryz.prog 38 #[.int .u32 x] w fun e w' => e = .returned (.string (mkS (addrL x))) ∧ Touch w w' (fun _ => False) := by
  have HII := Lib.hid infoStr
  have HT0 := Lib.hid hT
  go_enter Tryz.func38, Tryz.ntmps38
  go_wp2_with fail
  go_loopw [3, 4] (fun v i wr => ∃ (k : Nat) (a' : Option Addr) (c' : Nat), k ≤ 4 ∧ i = .int .i64 (24 - 8 * k) ∧ v = .slice a' k c' ∧ wr.ownsRow w.heap.size 9 1 (.slice a' k c') k (strs ((partsL x).take k)) ∧ Touch w wr (fun _ => False)) (fun _ i _ => (intOf i + 8).toNat)
  case atStart => exact ⟨0, none, 0, by omega, rfl, rfl, World.ownsRow_nil _ _ _ _, Touch.refl _ _⟩
  case round =>
    obtain ⟨k, a', c', hk, rfl, rfl, ho, ht⟩ := hrel
    have HO := Lib.hid ho
    have HT := Lib.hid ht
    clear ho ht
    have hk' : k = 0 ∨ k = 1 ∨ k = 2 ∨ k = 3 ∨ k = 4 := by omega
    rcases hk' with rfl | rfl | rfl | rfl | rfl
    case inr.inr.inr.inr =>
      obtain ⟨g, rfl, hg, hcells, hcap⟩ := strs_row HO.out (by decide)
      go_wp2_with fail
      refine (Tryz.strings_Join g 0 c' ((partsL x).map mkS) (mkS [46]) wr (fun j y hy => by rw [Nat.zero_add]; exact hcells j y hy) hg (by simp [partsL]) hcap (by rw [map_mkS, mkS_data]; exact Nat.le_trans (addrL_len x h0 h1) (by decide))).mono ?_
      rintro e w4 ⟨rfl, hb⟩
      rw [map_mkS, mkS_data]
      go_wp2_with fail
      go_ret
      exact ⟨rfl, HT.out.trans (Touch.ofBelow (S := fun _ => False) hb (fun k h1 h2 => by omega)) (fun _ _ h => h)⟩
    all_goals
      obtain ⟨N, hN⟩ : ∃ N : Nat, wr.heap.size = N := ⟨_, rfl⟩
      have HS := Lib.hid hN
      clear hN
      go_wp2_with fail
      refine (itoa_call _ _ (by omega) (by omega) (HT0.out.touch HT.out)).mono ?_
      rintro e w4 ⟨rfl, t4⟩
      generalize hs : mkS (Lib.itoa _) = s
      have HSS := Lib.hid hs
      have hz := t4.size
      have t5 := (Touch.refl w4 (fun _ => False)).alloc (.cells #[.string s] 9)
      have HT5 := Lib.hid ((HT.out.trans t4 (fun _ _ h => h)).trans t5 (fun _ _ h => h))
      have HO5 := Lib.hid (ownsRow_touch (ownsRow_touch HO.out t4 (fun _ _ h => h)) t5 (fun _ _ h => h))
      have HQ := Lib.hid (news_of (heap_alloc_new w4 (.cells #[.string s] 9)))
      clear t4 t5 hs HT HO
      go_wp2_with (at_builtin; (with_reducible refine wp_appR HO5.out 41 Tryz.underlying41 _ 16 HII.out rfl (by decide) ⟨w4.heap.size, 0, none⟩ 1 1 _ rfl HQ.out (by simp [Value.oneCell']) (by simp only [maxLen]; omega) (by omega) (HT5.out.under (Nat.le_refl _)) (Nat.le_refl _) HT5.out.size rfl _ _ rfl rfl rfl ?_); intro a4 c4 w6 ho4 hg4 hb4 hp4; have HO4 := Lib.hid ho4; have HT4 := Lib.hid (Touch.ofBelow (S := fun _ => False) hb4 (fun k h1 h2 => by omega)); clear ho4 hg4 hb4 hp4)
      have HF := HO4.out
      rw [← HSS.out] at HF
      first
        | exact ⟨⟨1, a4, c4, by omega, rfl, rfl, HF, HT4.out⟩, by simp [intOf]⟩
        | exact ⟨⟨2, a4, c4, by omega, rfl, rfl, HF, HT4.out⟩, by simp [intOf]⟩
        | exact ⟨⟨3, a4, c4, by omega, rfl, rfl, HF, HT4.out⟩, by simp [intOf]⟩
        | exact ⟨⟨4, a4, c4, by omega, rfl, rfl, HF, HT4.out⟩, by simp [intOf]⟩

def endL (x p : Int) : List UInt8 := addrL x ++ [58] ++ Lib.itoa p
def nameL (p : Int) : List UInt8 := if p = 6 then [116, 99, 112] else if p = 17 then [117, 100, 112] else [63]
def textL (t : TupD) : List UInt8 := nameL t.proto ++ [32] ++ endL t.src t.sport ++ [62] ++ endL t.dst t.dport

theorem endL_len (x p : Int) (h0 : 0 ≤ x) (h1 : x ≤ 4294967295) (p0 : -9223372036854775808 ≤ p) (p1 : p ≤ 9223372036854775807) : (endL x p).length ≤ 109 := by
  have := addrL_len x h0 h1
  have := Lib.itoa_length_le p p0 p1
  simp only [endL, List.length_append, List.length_cons, List.length_nil]; omega
theorem nameL_len (p : Int) : (nameL p).length ≤ 3 := by unfold nameL; split; · decide
                                                         split <;> decide

end Go.Proofs.YtgpchkobjgglhaaGreatDoor
