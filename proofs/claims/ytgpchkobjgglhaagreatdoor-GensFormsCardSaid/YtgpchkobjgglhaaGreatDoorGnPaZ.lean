/- The reference's ParseAddr. -/
import Derived.Test.YtgpchkobjgglhaaGreatDoorGnSpZ
import Derived.Test.YtgpchkobjgglhaaGreatDoorKBZ
set_option linter.unusedVariables false
set_option linter.unusedSimpArgs false
namespace Go.Proofs.YtgpchkobjgglhaaGreatDoor
open Go.RowKit

def AdrE (l : List UInt8) (e : Ending) : Prop := ∃ a b, e = .returned (.tuple #[.int .u32 a, .bool b]) ∧ AdrIs l a b
/-- An address, read so far. -/
def accV (x : Int) (k : Nat) : Int := if k = 0 then 0 else if k = 1 then x / 16777216 else if k = 2 then x / 65536 else if k = 3 then x / 256 else x
def partV (x : Int) (k : Nat) : Int := if k = 0 then x / 16777216 else if k = 1 then x / 65536 % 256 else if k = 2 then x / 256 % 256 else x % 256
theorem part_at {x : Int} {k : Nat} {q : List UInt8} (hk : k < (partsL x).length) (h : (partsL x)[k] = q) : q = Lib.itoa (partV x k) := by
  have hk : k < 4 := hk
  rw [← h]
  rcases (show k = 0 ∨ k = 1 ∨ k = 2 ∨ k = 3 by omega) with rfl | rfl | rfl | rfl <;> rfl
theorem acc_next {x : Int} (h0 : 0 ≤ x) (h1 : x ≤ 4294967295) {k : Nat} (hk : k < 4) : accV x k * 256 % 4294967296 + partV x k = accV x (k + 1) ∧ 0 ≤ partV x k ∧ partV x k ≤ 255 := by
  rcases (show k = 0 ∨ k = 1 ∨ k = 2 ∨ k = 3 by omega) with rfl | rfl | rfl | rfl <;> simp [accV, partV] <;> omega
theorem or_u32P (x y : Int) (i : Nat) (h0 : 0 ≤ x) (hx : x % 2 ^ i = 0) (h1 : x < 4294967296) (hy : 0 ≤ y) (hy1 : y < 2 ^ i) (hy2 : y < 4294967296) : bits BinOp.or IntKind.u32 x y = x + y :=
  bits_join .u32 32 (by decide) (fun n h0 h1 => by simp [IntKind.wrap, IntKind.bits, IntKind.signed]; omega) i x y h0 hx (by omega) hy hy1 (by omega)
theorem adrIs_bad {l : List UInt8} (h : ∀ x, ¬ AdrL l x) (a : Int) (b : Bool) (ha : 0 ≤ a ∧ a ≤ 4294967295) : AdrIs l a b := ⟨ha, fun x h0 h1 e => absurd ⟨h0, h1, e⟩ (h x)⟩
set_option maxRecDepth 20000 in
set_option maxHeartbeats 4000000 in
theorem rpaddr_any (l : List UInt8) (w : World) (hl : l.length ≤ 3000000) :
    Calls Tryz.prog 26 #[.string (mkS l)] w fun e w' => AdrE l e ∧ Touch w w' (fun _ => False) := by
  have hsz : (mkS l).size = l.length := mkS_size l
  have HSP := Lib.hid (rsplit_any l 46 w hl)
  have HSL := Lib.hid (partsOf_len l 46)
  have HAP : RowKit.Hid (∀ x, AdrL l x → partsOf l 46 = (partsL x).map mkS) := Lib.hid (fun x h => adr_parts h)
  have h46 : ((46 : UInt8).toNat : Int) = 46 := rfl
  rw [h46] at HSP
  by_cases h20 : l.length ≤ 20
  case neg =>
    have HE : RowKit.Hid (AdrIs l 0 false) := Lib.hid (adrIs_bad (fun x h => by have := adr_len h; omega) 0 false (by omega))
    obtain ⟨s, hs⟩ : ∃ s, mkS l = s := ⟨_, rfl⟩
    rw [hs] at hsz HSP ⊢
    clear hs
    have hlt : (s.size : Int) > 20 := by omega
    go_enter Tryz.func26, Tryz.ntmps26
    go_wp2_with fail
    go_ret2
    exact ⟨⟨0, false, rfl, HE.out⟩, Touch.refl _ _⟩
  case pos =>
  have hpl : (partsOf l 46).length ≤ 21 := by
    rw [HSL.out]
    have := Lib.countB_le (mkS [46]) (by simp [mkS_size]) _ (mkS l) (Nat.le_refl _)
    omega
  obtain ⟨s, hs⟩ : ∃ s, mkS l = s := ⟨_, rfl⟩
  have HPZ : RowKit.Hid (∀ p ∈ partsOf l 46, p.size ≤ 20) := Lib.hid (fun p hp => by
    have := splitB_size (mkS [46]) (Lib.countB (mkS l) (mkS [46])) (mkS l) p hp
    rw [mkS_size] at this; omega)
  rw [hs] at hsz HSP ⊢
  have hlt : ¬ (s.size : Int) > 20 := by omega
  unfold SplE at HSP
  generalize partsOf l 46 = ps at *
  clear hs
  go_enter Tryz.func26, Tryz.ntmps26
  go_wp2_with fail
  (with_reducible refine HSP.out.mono ?_)
  rintro e w1 ⟨⟨a, cap, rfl, ho⟩, t1⟩
  have HO := Lib.hid ho
  have HT1 := Lib.hid t1
  have hrow := ho.row'.2.1
  have hcap := hrow.hcap
  have hmax := hrow.hmax
  have HR := Lib.hid hrow
  obtain ⟨n, hn⟩ : ∃ n, ps.length = n := ⟨_, rfl⟩
  have HN := Lib.hid hn
  rw [hn] at hcap hpl HR ⊢
  clear ho t1 hrow hn
  go_wp2_with fail
  go_loopw [5, 17] (fun s5 s17 wr => ∃ (k : Nat) (v : Int), k ≤ n ∧ s17 = .int .i64 k ∧ s5 = .int .u32 v ∧ (0 ≤ v ∧ v ≤ 4294967295) ∧ (∀ x, AdrL l x → k ≤ 4 ∧ v = accV x k) ∧ Touch w1 wr (fun _ => False)) (fun _ s17 _ => n - (intOf s17).toNat)
  case atStart => exact ⟨0, 0, Nat.zero_le _, rfl, rfl, by omega, fun x _ => ⟨by omega, rfl⟩, Touch.refl _ _⟩
  case round =>
    obtain ⟨k, v, hk, rfl, rfl, hv, hx, ht⟩ := hrel
    have HX := Lib.hid hx
    have HT := Lib.hid ht
    clear hx ht
    have HTW : RowKit.Hid (Touch w wr (fun _ => False)) := Lib.hid (HT1.out.trans HT.out (fun _ _ h => h))
    by_cases hlt2 : k < n
    case neg =>
      obtain rfl : k = n := by omega
      by_cases h4 : k = 4
      · have HE : RowKit.Hid (AdrIs l v true) := Lib.hid ⟨hv, fun x h0 h1 e => ⟨by have := (HX.out x ⟨h0, h1, e⟩).2; rw [this, h4]; rfl, rfl⟩⟩
        have h4' : ((k : Int) != 4) = false := bne_eq_false_iff_eq.2 (by omega)
        go_wp2_with fail
        go_ret2
        exact ⟨⟨v, true, rfl, HE.out⟩, HTW.out⟩
      · have HE : RowKit.Hid (AdrIs l 0 false) := Lib.hid (adrIs_bad (fun x h => by
          have h5 := HAP.out x h
          have h6 := HN.out
          rw [h5, List.length_map] at h6
          exact h4 (by rw [← h6]; rfl)) 0 false (by omega))
        have h4' : ((k : Int) != 4) = true := bne_iff_ne.2 (by omega)
        go_wp2_with fail
        go_ret2
        exact ⟨⟨0, false, rfl, HE.out⟩, HTW.out⟩
    case pos =>
    have hkp : k < ps.length := by rw [HN.out]; exact hlt2
    have hr := HR.out.still HT.out
    obtain ⟨b, off, rfl⟩ := hr.some (by omega)
    have hk' : k < (ps.map (fun p => [Value.string p])).length := by simpa using hkp
    have c0 := hr.cell k hk' 0 (.string ps[k]) (by simp)
    simp only [Nat.mul_one, Nat.add_zero] at c0
    have hps := HPZ.out ps[k] (List.getElem_mem hkp)
    have HPX : RowKit.Hid (∀ x, AdrL l x → k < 4 ∧ ps[k].data.toList = Lib.itoa (partV x k)) := Lib.hid (fun x h => by
      have h5 := HAP.out x h
      have hk4 : k < 4 := by
        have h6 := HN.out
        rw [h5, List.length_map] at h6
        have : (partsL x).length = 4 := rfl
        omega
      refine ⟨hk4, ?_⟩
      have hk5 : k < (partsL x).length := hk4
      have h7 : ps[k] = mkS (partsL x)[k] := by
        have : ps[k] = ((partsL x).map mkS)[k]'(by simpa using hk5) := by congr 1
        rw [this, List.getElem_map]
      rw [h7, mkS_data]
      exact part_at hk5 rfl)
    generalize ps[k] = p at *
    obtain ⟨q, rfl⟩ : ∃ q, p = mkS q := ⟨p.data.toList, (mkS_of p).symm⟩
    rw [mkS_size] at hps
    rw [mkS_data] at HPX
    have HNU := Lib.hid (rnum_any q wr (by omega))
    have hlI : (k : Int) < n := by omega
    clear hr hk'
    generalize mkS q = sq at *
    go_wp2_with fail
    (with_reducible refine HNU.out.mono ?_)
    rintro e w2 ⟨⟨m, ok, rfl, hni⟩, rfl⟩
    have HNI := Lib.hid hni
    have HGD : RowKit.Hid (∀ x, AdrL l x → m = partV x k ∧ ok = true ∧ 0 ≤ m ∧ m ≤ 255 ∧ k < 4 ∧ 0 ≤ x ∧ x ≤ 4294967295) := Lib.hid (fun x h => by
      obtain ⟨h1, h2⟩ := HPX.out x h
      obtain ⟨-, h4, h5⟩ := acc_next h.1 h.2.1 h1
      obtain ⟨h6, h7⟩ := HNI.out.2 (partV x k) h4 (by omega) h2
      exact ⟨h6, h7, by omega, by omega, h1, h.1, h.2.1⟩)
    have HBD : RowKit.Hid ((ok = false ∨ m < 0 ∨ 255 < m) → AdrIs l 0 false) := Lib.hid (fun hh => adrIs_bad (fun x h => by
      obtain ⟨h1, h2, h3, h4, _⟩ := HGD.out x h
      rcases hh with hh | hh | hh
      · rw [h2] at hh; cases hh
      · omega
      · omega) 0 false (by omega))
    clear hni c0
    cases ok with
    | false =>
      have HE := Lib.hid (HBD.out (.inl rfl))
      clear HBD
      go_wp2_with fail
      go_ret2
      exact ⟨⟨0, false, rfl, HE.out⟩, HTW.out⟩
    | true =>
    by_cases hm0 : m < 0
    · have HE := Lib.hid (HBD.out (.inr (.inl hm0)))
      clear HBD
      go_wp2_with fail
      go_ret2
      exact ⟨⟨0, false, rfl, HE.out⟩, HTW.out⟩
    by_cases hm1 : m > 255
    · have HE := Lib.hid (HBD.out (.inr (.inr hm1)))
      clear HBD
      go_wp2_with fail
      go_ret2
      exact ⟨⟨0, false, rfl, HE.out⟩, HTW.out⟩
    clear HBD
    have hor : bits BinOp.or IntKind.u32 (v * 256 % 4294967296) m = v * 256 % 4294967296 + m := or_u32P _ _ 8 (by omega) (by omega) (by omega) (by omega) (by omega) (by omega)
    go_wp2_with fail
    refine ⟨⟨k + 1, v * 256 % 4294967296 + m, by omega, by go_num, rfl, by omega, fun x h => ?_, HT.out⟩, (by simp [intOf]; try omega)⟩
    obtain ⟨h1, h2, h3, h4, h5, h6, h7⟩ := HGD.out x h
    obtain ⟨h8, -, -⟩ := acc_next h6 h7 h5
    rw [← (HX.out x h).2, ← h1] at h8
    exact ⟨by omega, h8⟩
end Go.Proofs.YtgpchkobjgglhaaGreatDoor
