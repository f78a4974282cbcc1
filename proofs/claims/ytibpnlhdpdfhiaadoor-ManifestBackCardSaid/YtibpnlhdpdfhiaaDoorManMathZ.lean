/- Manifests: what is encoded is decoded as it was. -/
import Derived.Test.YtibpnlhdpdfhiaaDoorManDecZ
import Derived.Test.YtibpnlhdpdfhiaaDoorManEncZ
import Derived.Test.YtibpnlhdpdfhiaaDoorFrmFactZ
import Derived.Test.YtibpnlhdpdfhiaaDoorGBZ
set_option linter.unusedVariables false
namespace Go.Proofs.YtibpnlhdpdfhiaaDoor
open Go.RowKit

theorem nxt_appM {k n m : Nat} (a b : List Nat) (ha : a.length = n) (e : k = n + m) : nxtX k (a ++ b) = nxtX m b := by
  subst e ha
  unfold nxtX
  rw [List.length_append]
  by_cases h : m ≤ b.length
  · rw [if_pos (by omega), if_pos h, List.drop_append]
    simp
  · rw [if_neg (by omega), if_neg h]
theorem val4M (x : Nat) (r : List Nat) (h : x < 4294967296) : valN 4 (beB 4 x ++ r) = x := by rw [valN_pref 4 _ _ (beB_length _ _), (beN_two _).2.2]; omega
theorem val2M (x : Nat) (r : List Nat) (h : x < 65536) : valN 2 (beB 2 x ++ r) = x := by rw [valN_pref 2 _ _ (beB_length _ _), (beN_two _).2.1]; omega
theorem u64M (n : Int) (h : 0 ≤ n) (h1 : n ≤ 1000000) : ((u64N n : Nat) : Int) = n ∧ u64N n ≤ 1000000 := by unfold u64N; omega
theorem segsV_segsM : ∀ (zs : List Int) (r : List Nat), (∀ z ∈ zs, 0 ≤ z ∧ z ≤ 1000000) → segsV zs.length (segsM zs ++ r) = zs
  | [], _, _ => rfl
  | z :: zs, r, h => by
    have hz := u64M z (h z (List.mem_cons_self ..)).1 (h z (List.mem_cons_self ..)).2
    have ih := segsV_segsM zs r (fun y hy => h y (List.mem_cons_of_mem _ hy))
    simp only [List.length_cons, segsV, segsM, List.append_assoc]
    rw [val4M _ _ (by omega), hz.1, nxt_appM _ _ (beB_length 4 _) (show 4 = 4 + 0 from rfl), nxtX_zero, ih]
theorem body_back (n : Int) (zs : List Int) (hn : 0 ≤ n) (hn1 : n ≤ 1000000) (hl : zs.length < 65536) (hz : ∀ z ∈ zs, 0 ≤ z ∧ z ≤ 1000000) :
    ((valN 4 (bodyM n zs) : Nat) : Int) = n ∧ cntM (bodyM n zs) = zs.length ∧ readM (bodyM n zs) = zs ∧ wholeM (bodyM n zs) = true := by
  have hu := u64M n hn hn1
  have hlen : u64N zs.length = zs.length := by unfold u64N; omega
  have e1 : valN 4 (bodyM n zs) = u64N n := by unfold bodyM; rw [List.append_assoc, val4M _ _ (by omega)]
  have e2 : cntM (bodyM n zs) = zs.length := by
    unfold cntM bodyM
    rw [List.append_assoc, nxt_appM _ _ (beB_length 4 _) (show 4 = 4 + 0 from rfl), nxtX_zero, val2M _ _ (by omega), hlen]
  have e3 : nxtX 6 (bodyM n zs) = segsM zs := by
    unfold bodyM
    rw [nxt_appM _ _ (show (beB 4 (u64N n) ++ beB 2 (u64N zs.length)).length = 6 by simp [beB_length]) (show 6 = 6 + 0 from rfl), nxtX_zero]
  refine ⟨by rw [e1]; exact hu.1, e2, ?_, ?_⟩
  · unfold readM
    rw [e2, e3]
    have := segsV_segsM zs [] hz
    rwa [List.append_nil] at this
  · unfold wholeM endM
    rw [e2]
    have hL := bodyM_length n zs
    unfold nxtX nxtE
    rw [if_pos (by omega), if_pos (by omega), List.length_drop, hL]
    simp [endOf]
theorem dec_encM (v n : Int) (zs : List Int) (h : mayM v n zs = true) : dmE (encM v n zs) = 0 ∧ dmV (encM v n zs) = v ∧ dmN (encM v n zs) = n ∧ dmZ (encM v n zs) = zs := by
  obtain ⟨hv, hn, hs, hu⟩ := (mayM_iff v n zs).1 h
  have hz := upM_mem n zs 0 hu
  have hlen := bodyM_length n zs
  have e : encM v n zs = frmF 100 v (bodyM n zs) := by unfold encM; rw [h]; rfl
  obtain ⟨t1, t2, t3, t4, t5⟩ := take_frm 100 v (bodyM n zs) [] (by omega) (by omega) (by omega) (by omega) (by omega) (bodyM_small n zs)
  rw [List.append_nil, ← e] at t1 t2 t3 t4 t5
  have hL : (encM v n zs).length = 16 + (bodyM n zs).length := by rw [e, frmF_length]
  obtain ⟨b1, b2, b3, b4⟩ := body_back n zs (by omega) (by omega) (by omega) (fun z hz' => by have := hz z hz'; omega)
  have hE : dmE (encM v n zs) = 0 := dm_good t1 (by omega) (by omega) (by rw [t3]; exact (manV_iff v).2 hv) (by rw [t5, t3, b1, b3]; exact ⟨b4, h⟩)
  refine ⟨hE, ?_, ?_, ?_⟩
  · unfold dmV; rw [if_pos hE, t3]
  · unfold dmN; rw [if_pos hE, t5, b1]
  · unfold dmZ; rw [if_pos hE, t5, b3]
end Go.Proofs.YtibpnlhdpdfhiaaDoor
