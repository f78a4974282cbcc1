/- MaglevRows answers true for any number, any choice of how many slots: a row is begun within the slots, steps by less than all and by something, and comes by each of them. No condition. -/
import Derived.Test.YtcfiaflcgphgbaaMagA
import Derived.Deep.DeepCutAuto
import Derived.Test.YtcfiaflcgphgbaaFrMaglevRows
set_option linter.unusedVariables false
namespace Go.Proofs.Ytcfiaflcgphgbaa
open Go.RowKit

theorem infoBo : (Try.prog.info? 4).map (fun i => (i.zero, i.size, i.bytes)) = some (some (.bool false), 1, 1) := by kernel_rfl
def cBo (x : Bool) : List Value := [.bool x]
/-- A row of truths of the call's own. -/
def OwnL (w : World) (base : Nat) (v : Value) (L : List Bool) : Prop := OwnS w base 4 1 v (L.map cBo)
section
variable {w w' : World} {B G n c : Nat} {L : List Bool} {v : Value}
theorem OwnL.touch {S : Nat → Prop} (h : OwnL w B v L) (t : Touch w w' S) (h1 : ∀ x, v.ownBlock = some x → ¬ S x) : OwnL w' B v L := OwnS.touch h t h1
theorem OwnL.len (h : OwnL w B (.slice (some ⟨G, 0, none⟩) n c) L) : L.length = n := by have := (OwnS.row' h).1; simpa using this
theorem OwnL.at_ (h : OwnL w B (.slice (some ⟨G, 0, none⟩) n c) L) (i : Nat) (hi : i < L.length) : w.cell? ⟨G, i, none⟩ = some (.bool L[i]) := by
  have := (OwnS.row' h).2.1.cell i (by simpa using hi) 0 (.bool L[i]) (by simp [cBo])
  simpa using this
theorem OwnL.free (h : OwnL w B (.slice (some ⟨G, 0, none⟩) n c) L) (i : Nat) : w.frozen? ⟨G, i, none⟩ = false := OwnS.free h i
theorem OwnL.stored (h : OwnL w B (.slice (some ⟨G, 0, none⟩) n c) L) (i : Nat) (hi : i < L.length) (x : Bool) : OwnL (w.setCell ⟨G, i, none⟩ (.bool x)) B (.slice (some ⟨G, 0, none⟩) n c) (L.set i x) := by
  have := OwnS.stored h i (by simpa using hi) 0 (by omega) (.bool x)
  simp only [Nat.mul_one, Nat.add_zero] at this
  unfold OwnL
  rw [List.map_set]
  simpa [cBo] using this
theorem OwnL.lt (h : OwnL w B (.slice (some ⟨G, 0, none⟩) n c) L) : B ≤ G ∧ G < w.heap.size := (OwnS.row' h).2.2 _ rfl
end
theorem zBo_list (n : Nat) : (madeCells (Value.bool false).cells (n * 1)).toList = ((List.replicate n false).map cBo).flatten := by
  rw [Nat.mul_one]; show (madeCells #[Value.bool false] n).toList = _
  rw [toList_madeCells_one, List.map_replicate]
  induction n with
  | zero => rfl
  | succ n ih => rw [List.replicate_succ, List.replicate_succ, List.flatten_cons, ← ih]; rfl
theorem OwnL.made {w : World} {B n g : Nat} (h : w.ownsRow B 4 1 (.slice (some ⟨g, 0, none⟩) n n) n (madeCells (Value.bool false).cells (n * 1)).toList) : OwnL w B (.slice (some ⟨g, 0, none⟩) n n) (List.replicate n false) := by
  rw [zBo_list] at h
  exact ⟨by simpa using h, by intro l hl; obtain ⟨x, _, rfl⟩ := List.mem_map.1 hl; rfl⟩

def prR (j : Nat) : Nat := [3, 13, 61, 251].getD j 0
theorem prR_ok (j : Nat) (h : j < 4) : Prm (prR j) := by
  rcases (by omega : j = 0 ∨ j = 1 ∨ j = 2 ∨ j = 3) with rfl | rfl | rfl | rfl
  · exact prm3
  · exact prm13
  · exact prm61
  · exact prm251

set_option maxRecDepth 20000 in
set_option maxHeartbeats 4000000 in
theorem rowsL_walk (id pick : Int) (w : World) (hid : i64 id) (hpk : i64 pick) :
    Calls Try.prog 7 #[.int .i64 id, .int .i64 pick] w fun e w' => e = .returned (.bool true) ∧ Touch w w' (fun _ => False) := by
  obtain ⟨i0, hi, hz0, hz1, hz2⟩ := info_parts infoBo
  obtain ⟨U, hU⟩ : ∃ U, u64N pick = U := ⟨_, rfl⟩
  have hu : IntKind.u64.wrap pick = (U : Int) := by rw [u64N_wrap, hU]
  have hUl : U < 18446744073709551616 := by rw [← hU]; exact u64N_lt pick
  obtain ⟨j, hj⟩ : ∃ j, U % 4 = j := ⟨_, rfl⟩
  have hj4 : j < 4 := by omega
  have e1 : (U : Int) % 4 = (j : Int) := by omega
  have e2 : (U : Int).tmod 4 = (j : Int) := by rw [Int.tmod_eq_emod_of_nonneg (by omega)]; exact e1
  obtain ⟨W1, hW1⟩ : ∃ W, w.alloc (.cells #[.int .i64 3, .int .i64 13, .int .i64 61, .int .i64 251] 36) = W := ⟨_, rfl⟩
  obtain ⟨n, hn⟩ : ∃ n, prR j = n := ⟨_, rfl⟩
  have hp : Prm n := hn ▸ prR_ok j hj4
  have g1 : W1.heap[w.heap.size]? = some (.cells #[.int .i64 3, .int .i64 13, .int .i64 61, .int .i64 251] 36 (0, 0)) := hW1 ▸ heap_alloc_new ..
  have c1 : W1.cell? ⟨w.heap.size, j, none⟩ = some (.int .i64 (n : Nat)) := by
    rw [cell_of_cells g1 j, ← hn]
    rcases (by omega : j = 0 ∨ j = 1 ∨ j = 2 ∨ j = 3) with rfl | rfl | rfl | rfl <;> rfl
  have HT1 : RowKit.Hid (Touch w W1 (fun _ => False)) := Lib.hid (hW1 ▸ (Touch.refl w _).alloc _)
  have HC1 := Lib.hid c1
  have HW1 := Lib.hid hW1
  have HP := Lib.hid hp
  have hn3 := hp.lo
  have hn251 := hp.hi
  have HROW : RowKit.Hid (∀ W, Calls Try.prog 15 #[.int .i64 id, .int .i64 n] W fun e w' => e = .returned (.tuple #[.int .i64 (offF id n : Nat), .int .i64 (skF id n : Nat)]) ∧ Touch W w' (fun _ => False)) := Lib.hid (fun W => row_any id n W hp hid)
  have ho : offF id n < n := Nat.mod_lt _ (by omega)
  have hs1 : 1 ≤ skF id n := by unfold skF; omega
  have hs2 : skF id n < n := by unfold skF; have : mixF 2 (id4 id) % (n - 1) < n - 1 := Nat.mod_lt _ (by omega); omega
  generalize offF id n = o at *
  generalize skF id n = s at *
  clear hn g1 c1 hW1 hp hj
  go_enter Try.func7, Try.ntmps7
  go_upto_region 2 with (fail)
  rw [HW1.out]
  have c1 := HC1.out
  go_wp2_with (first
    | (go_at_call 15; (with_reducible refine (HROW.out _).mono ?_); rintro e w2 ⟨rfl, t2⟩; have HT2 := Lib.hid (HT1.out.trans t2 (fun _ _ h => h)); clear t2)
    | (at_make; refine wpList_make_full _ rfl _ _ 43 rfl w2.heap.size 4 i0 (.bool false) 1 Try.underlying43 hi hz0 hz1 .i64 .i64 _ _ n rfl rfl rfl rfl (by rw [hz2]; omega) (by simp only [maxLen]; omega) (Nat.le_refl _) ?_; intro w3 own3 grown3))
  have HO0 := Lib.hid (OwnL.made own3)
  have HT0 := Lib.hid (HT2.out.trans ((Touch.refl w2 (fun _ => False)).grown grown3 (by intro k hk; cases hk)) (fun _ _ h => h))
  clear own3 grown3 c1 hu e1 e2 hUl
  obtain ⟨G, hG⟩ : ∃ G, w2.heap.size = G := ⟨_, rfl⟩
  rw [hG] at HO0 ⊢
  have HGG : RowKit.Hid (w.heap.size ≤ G) := Lib.hid (by rw [← hG]; exact HT2.out.size)
  clear hG
  go_loopw [29] (fun i wr => ∃ (k : Nat) (L : List Bool), k ≤ n ∧ i = .int .i64 k ∧ OwnL wr G (.slice (some ⟨G, 0, none⟩) n n) L ∧ L.length = n ∧ (∀ q, q < k → L[(o + q * s) % n]? = some true) ∧ Touch w wr (fun _ => False)) (fun i _ => n - (intOf i).toNat)
  case atStart => exact ⟨0, _, Nat.zero_le _, rfl, HO0.out, by simp, fun q hq => by omega, HT0.out⟩
  case round =>
    obtain ⟨k, L, hk, rfl, hown, hL, hq, ht⟩ := hrel
    have HT := Lib.hid ht
    have HO := Lib.hid hown
    have HQ := Lib.hid hq
    have HL := Lib.hid hL
    by_cases hlt : k < n
    case pos =>
      obtain ⟨x, hx⟩ : ∃ x, (o + k * s) % n = x := ⟨_, rfl⟩
      have hxn : x < n := by rw [← hx]; exact Nat.mod_lt _ (by omega)
      obtain ⟨P, hP⟩ : ∃ P, k * s = P := ⟨_, rfl⟩
      have hPl : P ≤ 63001 := by
        rw [← hP]
        exact Nat.le_trans (Nat.mul_le_mul (show k ≤ 251 by omega) (show s ≤ 251 by omega)) (by omega)
      have hPI : (k : Int) * (s : Int) = (P : Int) := by rw [← hP]; norm_cast
      have hxI : (((o : Int) + (P : Int)) % (n : Int)) = (x : Int) := by rw [← hx, hP]; norm_cast
      have hxT : ((o : Int) + (P : Int)).tmod (n : Int) = (x : Int) := by rw [Int.tmod_eq_emod_of_nonneg (by omega)]; exact hxI
      have hn0 : ((n : Int) == 0) = false := beq_eq_false_iff_ne.2 (by omega)
      have hn1 : ¬ n = 0 := by omega
      have hxL : x < L.length := by rw [hL]; exact hxn
      have cx := hown.at_ x hxL
      have fx := hown.free x
      have HS := Lib.hid (hown.stored x hxL true)
      have HX := Lib.hid hx
      have HT2' : RowKit.Hid (Touch w (wr.setCell ⟨G, x, none⟩ (.bool true)) (fun _ => False)) := Lib.hid (ht.setCell _ _ (fun h => absurd h (by have := HGG.out; show ¬ G < w.heap.size; omega)))
      generalize L[x] = y at *
      have hkI : (k : Int) < n := by omega
      clear hown hL hq ht hx hP
      have b1 : ¬ ((o : Int) < 0) := by omega
      have b2 : ¬ ((o : Int) ≥ (n : Int)) := by omega
      have b3 : ¬ ((s : Int) < 1) := by omega
      have b4 : ¬ ((s : Int) ≥ (n : Int)) := by omega
      go_wp2_with fail
      refine ⟨⟨k + 1, L.set x true, hlt, by go_num, HS.out, by rw [List.length_set]; exact HL.out, fun q hq => ?_, HT2'.out⟩, by simp [intOf]; omega⟩
      rw [List.getElem?_set]
      rcases Nat.lt_or_ge q k with h9 | h9
      · have := HQ.out q h9
        split
        · rfl
        · exact this
      · obtain rfl : q = k := by omega
        rw [HX.out, if_pos rfl, if_pos hxL]
    case neg =>
      obtain rfl : n = k := by omega
      have hlt' : ¬ (n : Int) < n := by omega
      have HALL : RowKit.Hid (∀ x (h : x < L.length), L[x] = true) := Lib.hid (fun x hx => by
        obtain ⟨q, hq1, hq2⟩ := reach n HP.out o s x ho (by omega) hs2 (by rw [← hL]; exact hx)
        have := hq q hq1
        rw [hq2, List.getElem?_eq_getElem hx] at this
        simpa using this)
      clear hown hL hq ht
      go_wp2_with fail
      go_loopw [60] (fun i wr => ∃ k : Nat, k ≤ n ∧ i = .int .i64 k ∧ OwnL wr G (.slice (some ⟨G, 0, none⟩) n n) L ∧ Touch w wr (fun _ => False)) (fun i _ => n - (intOf i).toNat)
      case atStart => exact ⟨0, Nat.zero_le _, rfl, HO.out, HT.out⟩
      case round =>
        obtain ⟨k, hk, rfl, hown, ht⟩ := hrel
        have HT := Lib.hid ht
        have HO := Lib.hid hown
        by_cases hlt : k < n
        case pos =>
          have hxL : k < L.length := by rw [HL.out]; exact hlt
          have cx := hown.at_ k hxL
          rw [HALL.out k hxL] at cx
          have hkI : (k : Int) < n := by omega
          clear hown ht
          go_wp2_with fail
          exact ⟨⟨k + 1, hlt, by go_num, HO.out, HT.out⟩, by simp [intOf]; omega⟩
        case neg =>
          obtain rfl : n = k := by omega
          have hlt' : ¬ (n : Int) < n := by omega
          clear hown ht
          go_wp2_with (go_at_call 8; (with_reducible refine (awake18 _).mono ?_); rintro e w9 ⟨rfl, t9⟩; have HT9 := Lib.hid (HT.out.trans t9 (fun _ _ h => h)); clear t9)
          go_ret
          exact ⟨rfl, HT9.out⟩

theorem maglevRows_holds : Rows.MaglevRowsSaid := by
  refine maglevRows.said fun H enc W base v0 v1 d0 d1 p0 p1 h0 h1 => ?_
  obtain ⟨n, rfl, n1, n2, _⟩ := h0.i64 Try.underlying3
  obtain ⟨p, rfl, m1, m2, _⟩ := h1.i64 Try.underlying3
  exact (rowsL_walk n p W ⟨n1, n2⟩ ⟨m1, m2⟩).mono fun e w' h => ⟨h.1, h.2.below (fun _ _ h => h.elim) (Nat.le_refl _)⟩
end Go.Proofs.Ytcfiaflcgphgbaa
