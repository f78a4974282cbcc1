/- A disk's operations on names: Rename, Remove, SyncDir. -/
import Derived.Test.YtmokcfmlolohaaaDskOpsZ
set_option linter.unusedVariables false
set_option linter.unusedSimpArgs false
namespace Go.Proofs.Ytmokcfmlolohaaa
open Go.RowKit

theorem DkGood.del {T : Nat → DkTg} {M : List NmD} (g : DkGood T M) (k : ByteArray) : DkGood T (delN M k) :=
  ⟨Nat.le_trans (List.length_filter_le _ _) g.len, delN_nd g.nd k, fun x hx => g.ref x (List.mem_filter.1 hx).1⟩
theorem DkGood.put {T : Nat → DkTg} {M : List NmD} (g : DkGood T M) (k : ByteArray) (hk : 1 ≤ k.size ∧ k.size ≤ 16) (b : Nat) (hb : T b = .fb) (hl : (putN M k (some b)).length ≤ 200) : DkGood T (putN M k (some b)) := by
  refine ⟨hl, putN_nd g.nd k _, fun x hx => ?_⟩
  rcases List.mem_cons.1 hx with rfl | hx
  · exact ⟨hk.1, hk.2, b, rfl, hb⟩
  · exact g.ref x (List.mem_filter.1 hx).1
theorem DkGood.move {T : Nat → DkTg} {M : List NmD} (g : DkGood T M) (k to_ : ByteArray) (hne : k ≠ to_) (ht : 1 ≤ to_.size ∧ to_.size ≤ 16) (b : Nat) (hb : getN M k = some b) (hT : T b = .fb) : DkGood T (delN (putN M to_ (some b)) k) := by
  have h1 : hasN M k = true := (hasN_iff _ _).2 (List.mem_map.2 ⟨_, getN_mem hb, rfl⟩)
  have h2 := delN_len (putN_nd g.nd to_ (some b)) k
  have h3 : hasN (putN M to_ (some b)) k = true := by rw [hasN_put, h1]; simp
  have h4 := putN_len g.nd to_ (some b)
  rw [h3] at h2
  simp only [if_true] at h2
  have hl := g.len
  refine ⟨by split at h4 <;> omega, delN_nd (putN_nd g.nd to_ _) k, fun x hx => ?_⟩
  rcases List.mem_cons.1 (List.mem_filter.1 hx).1 with rfl | hx
  · exact ⟨ht.1, ht.2, b, rfl, hT⟩
  · exact g.ref x (List.mem_filter.1 hx).1
def dkRenE (st : DkS) (k t : ByteArray) : Int := match dkOnF st k with
  | none => dkOnE st k
  | some _ => if 1 ≤ t.size ∧ t.size ≤ 16 then 0 else 1
def dkRen (st : DkS) (k t : ByteArray) : DkS := match dkOnF st k with
  | none => dkOp st
  | some _ => if (1 ≤ t.size ∧ t.size ≤ 16) ∧ k ≠ t then { dkOp st with C := st.C ++ [⟨1, k, t, none⟩] } else dkOp st
theorem neq_str (a b : ByteArray) (w : World) (c : Bool) (h : decide (a = b) = c) : (a.toList == b.toList) = c := by
  subst h
  rw [Bool.eq_iff_iff, beq_iff_eq, decide_eq_true_iff]
  constructor
  · intro h
    rw [Lib.toList_data, Lib.toList_data] at h
    exact ByteArray.ext (Array.ext' h)
  · rintro rfl; rfl
set_option maxRecDepth 20000 in
set_option maxHeartbeats 8000000 in
theorem dren_any (w : World) (d : Nat) (h : DkH) (st : DkS) (m : DkM w d h st) (k t : ByteArray) (hk : szN k) (ht : szN t) (hCl : st.C.length ≤ 100000) :
    Calls Try.prog 26 #[.pointer (some ⟨d, 0, none⟩), .string k, .string t] w fun e w' => e = .returned (.int .i64 (dkRenE st k t)) ∧ DkStep w w' d h (dkRen st k t) := by
  have HB := Lib.hid (dbeginOn_any w d h st m k hk)
  have HM := Lib.hid m
  unfold dkRen dkRenE
  rcases dkOn_cases st k with ⟨h0, hF⟩ | ⟨h0, g, hF, hG⟩
  · rw [hF] at HB ⊢
    simp only [pvN, Option.map_none] at HB ⊢
    generalize dkOnE st k = E at *
    have h0b : (E == 0) = false := by simpa using h0
    clear m hF
    go_enter Try.func26, Try.ntmps26
    go_wp2_with fail
    refine HB.out.mono ?_
    rintro e w1 ⟨rfl, m1, t1⟩
    have HR := Lib.hid (HM.out.top m1 t1)
    clear m1 t1
    go_wp2_with fail
    go_ret
    exact ⟨rfl, HR.out⟩
  · rw [hF, h0] at HB
    rw [hF]
    simp only [pvN, Option.map_some] at HB ⊢
    have HG := Lib.hid (m.get hG)
    have HGN := Lib.hid hG
    have HNM := Lib.hid (fun W => disName_any W t ht)
    have HT := Lib.hid ht
    have HK := Lib.hid hk
    clear m hF h0 hG hk ht
    by_cases hn : 1 ≤ t.size ∧ t.size ≤ 16
    case neg =>
      rw [if_neg hn, if_neg (fun h => hn h.1)]
      rw [decide_eq_false hn] at HNM
      clear hn
      go_enter Try.func26, Try.ntmps26
      go_wp2_with fail
      refine HB.out.mono ?_
      rintro e w1 ⟨rfl, m1, t1⟩
      have HR := Lib.hid (HM.out.top m1 t1)
      clear m1 t1
      go_wp2_with fail
      refine (HNM.out _).mono ?_
      rintro e w2 ⟨rfl, rfl⟩
      go_wp2_with fail
      go_ret
      exact ⟨rfl, HR.out⟩
    case pos =>
      rw [if_pos hn]
      rw [decide_eq_true hn] at HNM
      have HNS := Lib.hid hn
      by_cases hkt : k = t
      · rw [if_neg (fun h => h.2 hkt)]
        have hs : (k.toList == t.toList) = true := neq_str k t w true (decide_eq_true hkt)
        clear hkt hn
        go_enter Try.func26, Try.ntmps26
        go_wp2_with fail
        refine HB.out.mono ?_
        rintro e w1 ⟨rfl, m1, t1⟩
        have HR := Lib.hid (HM.out.top m1 t1)
        clear m1 t1
        go_wp2_with fail
        refine (HNM.out _).mono ?_
        rintro e w2 ⟨rfl, rfl⟩
        go_wp2_with fail
        go_ret
        exact ⟨rfl, HR.out⟩
      · rw [if_pos ⟨hn, hkt⟩]
        have hs : (k.toList == t.toList) = false := neq_str k t w false (decide_eq_false hkt)
        have HKT := Lib.hid hkt
        clear hkt hn
        go_enter Try.func26, Try.ntmps26
        go_wp2_with fail
        refine HB.out.mono ?_
        rintro e w1 ⟨rfl, m1, t1⟩
        have hgd : DkGood h.T (dkDo (dkOp st).N ⟨1, k, t, none⟩) := by
          unfold dkDo
          rw [if_neg (by simp), if_pos rfl]
          simp only [dkOp_N, HGN.out]
          exact HM.out.goodN.move k t HKT.out HNS.out g HGN.out HG.out
        have HCH := Lib.hid (dchange_any w1 d h (dkOp st) m1 ⟨1, k, t, none⟩ hCl (.inr (.inl rfl)) ⟨HK.out, HT.out⟩ hgd)
        have HM1 := Lib.hid m1
        have HT1 := Lib.hid t1
        simp only [dka, pvN, Option.map_none] at HCH
        clear m1 t1 hgd
        go_wp2_with fail
        refine (HNM.out _).mono ?_
        rintro e w2 ⟨rfl, rfl⟩
        go_wp2_with fail
        refine HCH.out.mono ?_
        rintro e w3 ⟨rfl, s3⟩
        have HR : RowKit.Hid (DkStep w w3 d h { dkOp st with C := st.C ++ [⟨1, k, t, none⟩] }) := Lib.hid (HM.out.then HM1.out HT1.out s3)
        clear s3
        go_wp2_with fail
        go_ret
        exact ⟨rfl, HR.out⟩
def dkRem (st : DkS) (k : ByteArray) : DkS := match dkOnF st k with
  | none => dkOp st
  | some _ => { dkOp st with C := st.C ++ [⟨2, k, ⟨#[]⟩, none⟩] }
set_option maxRecDepth 20000 in
set_option maxHeartbeats 8000000 in
theorem drem_any (w : World) (d : Nat) (h : DkH) (st : DkS) (m : DkM w d h st) (k : ByteArray) (hk : szN k) (hCl : st.C.length ≤ 100000) :
    Calls Try.prog 27 #[.pointer (some ⟨d, 0, none⟩), .string k] w fun e w' => e = .returned (.int .i64 (dkOnE st k)) ∧ DkStep w w' d h (dkRem st k) := by
  have HB := Lib.hid (dbeginOn_any w d h st m k hk)
  have HM := Lib.hid m
  unfold dkRem
  rcases dkOn_cases st k with ⟨h0, hF⟩ | ⟨h0, g, hF, hG⟩
  · rw [hF] at HB ⊢
    simp only [pvN, Option.map_none] at HB ⊢
    generalize dkOnE st k = E at *
    have h0b : (E == 0) = false := by simpa using h0
    clear m hF
    go_enter Try.func27, Try.ntmps27
    go_wp2_with fail
    refine HB.out.mono ?_
    rintro e w1 ⟨rfl, m1, t1⟩
    have HR := Lib.hid (HM.out.top m1 t1)
    clear m1 t1
    go_wp2_with fail
    go_ret
    exact ⟨rfl, HR.out⟩
  · rw [hF, h0] at HB
    rw [hF, h0]
    simp only [pvN, Option.map_some] at HB ⊢
    have HK := Lib.hid hk
    clear m hF h0 hG hk
    go_enter Try.func27, Try.ntmps27
    go_wp2_with fail
    refine HB.out.mono ?_
    rintro e w1 ⟨rfl, m1, t1⟩
    have hgd : DkGood h.T (dkDo (dkOp st).N ⟨2, k, ⟨#[]⟩, none⟩) := by
      unfold dkDo
      rw [if_neg (by simp), if_neg (by simp), if_pos rfl]
      exact HM.out.goodN.del k
    have HCH := Lib.hid (dchange_any w1 d h (dkOp st) m1 ⟨2, k, ⟨#[]⟩, none⟩ hCl (.inr (.inr rfl)) ⟨HK.out, show szN ⟨#[]⟩ by unfold szN; decide⟩ hgd)
    have HM1 := Lib.hid m1
    have HT1 := Lib.hid t1
    simp only [dka, pvN, Option.map_none] at HCH
    clear m1 t1 hgd
    go_wp2_with fail
    refine HCH.out.mono ?_
    rintro e w3 ⟨rfl, s3⟩
    have HR : RowKit.Hid (DkStep w w3 d h { dkOp st with C := st.C ++ [⟨2, k, ⟨#[]⟩, none⟩] }) := Lib.hid (HM.out.then HM1.out HT1.out s3)
    clear s3
    go_wp2_with fail
    go_ret
    exact ⟨rfl, HR.out⟩
/-- The names were made sure; with the names as they are now, N. -/
theorem DkM.settled {w w' : World} {d : Nat} {h : DkH} {st : DkS} (m : DkM w d h st) (n : Nat) (hn : n ≤ st.C.length) {mn : Nat} {ops fail : Int} (F : Nat → DkFc) (hF : F = st.F)
    (t : Touch w w' (fun k => k = d ∨ k = h.ms)) (hs : OwnN w' h.ms (dkAll st.S (st.C.take n)))
    (hd : w'.heap[d]? = some (.cells #[.int .i64 st.q, .map (some mn), .map (some h.ms), .slice none 0 0, .int .i64 ops, .int .i64 fail] 65 (0, 0)))
    (hmn : OwnN w' mn (dkAll st.S (st.C.take n))) (hf : 0 ≤ fail ∧ fail ≤ 9223372036854775807) (hm : mn = h.mn ∨ w.heap.size ≤ mn) :
    DkStep w w' d h { st with ops := ops, fail := fail, S := dkAll st.S (st.C.take n), C := [] } := by
  have hbt : ∀ k, some mn = some k → h.T k = .nm ∨ h.T k = .out := by
    intro k hk
    cases hk
    rcases hm with rfl | h1
    · exact .inl m.tn
    · cases hT : h.T mn with
      | out => exact .inr rfl
      | _ => have := m.lt mn (by rw [hT]; simp); omega
  have keep : ∀ k, h.T k ≠ .out → tagPut h.T (some mn) .nm k = h.T k := fun k hk => tagPut_keep hbt hk
  have fbk : ∀ k, h.T k = .fb → tagPut h.T (some mn) .nm k = .fb := fun k hk => by rw [keep k (by rw [hk]; simp), hk]
  have hS : ∀ k, h.T k ≠ .out → h.T k ≠ .head → h.T k ≠ .sm → ¬ (k = d ∨ k = h.ms) := by
    rintro k h0 h1 h2 (rfl | rfl)
    · exact h1 m.td
    · exact h2 m.ts
  refine ⟨{ h with mn := mn, ac := none, cc := 0, T := tagPut h.T (some mn) .nm }, ⟨hd, hmn, hs, OwnS.nil _ _ _ _, ?_, ?_, tagPut_at _ _ _ rfl, ?_, (fun x hx => by cases hx), ?_, ?_, (fun c hc => by cases hc), (fun c hc => by cases hc), m.quota, hf⟩, ?_, fbk, ?_⟩
  · intro g hg'
    have hgb : h.T g = .fb := tagPut_fb (by simp) hg'
    have f := m.files g hgb
    have f2 := f.touch t (hS _ (by rw [hgb]; simp) (by rw [hgb]; simp) (by rw [hgb]; simp)) (fun y hy => hS _ (by rw [f.arr y hy]; simp) (by rw [f.arr y hy]; simp) (by rw [f.arr y hy]; simp))
    exact ⟨f2.head, f2.own, f2.len, f2.sure, fun y hy => by show tagPut _ _ _ _ = _; rw [keep _ (by rw [f.arr y hy]; simp), f.arr y hy]⟩
  · show tagPut _ _ _ _ = _; rw [keep _ (by rw [m.td]; simp), m.td]
  · show tagPut _ _ _ _ = _; rw [keep _ (by rw [m.ts]; simp), m.ts]
  · intro k hk
    rcases tagPut_foot hk with h1 | h1
    · cases h1; exact hmn.lt
    · exact Nat.lt_of_lt_of_le (m.lt k h1) t.size
  · intro k hk
    have hk : k ≤ 0 := hk
    obtain rfl : k = 0 := by omega
    exact (m.good n hn).mono fbk
  · refine t.mono (fun k _ hk => ?_)
    unfold footK
    rcases hk with rfl | rfl
    · rw [m.td]; simp
    · rw [m.ts]; simp
  · intro k hk
    rcases tagPut_foot hk with h1 | h1
    · cases h1
      rcases hm with rfl | h1
      · exact .inl (by unfold footK; rw [m.tn]; simp)
      · exact .inr h1
    · exact .inl h1
def dkSyncDir (st : DkS) : DkS := if st.fail = 1 then dkOp st else { dkOp st with S := st.N, C := [] }
set_option maxRecDepth 20000 in
set_option maxHeartbeats 8000000 in
theorem dsyncdir_any (w : World) (d : Nat) (h : DkH) (st : DkS) (m : DkM w d h st) (hCl : st.C.length ≤ 100000) :
    Calls Try.prog 25 #[.pointer (some ⟨d, 0, none⟩)] w fun e w' => e = .returned (.int .i64 (dkBeg st)) ∧ DkStep w w' d h (dkSyncDir st) := by
  have HB := Lib.hid (dbegin_any w d h st m)
  have HM := Lib.hid m
  unfold dkSyncDir
  unfold dkBeg at HB ⊢
  by_cases h1 : st.fail = 1
  · rw [if_pos h1] at HB
    rw [if_pos h1, if_pos h1]
    clear m h1
    go_enter Try.func25, Try.ntmps25
    go_wp2_with fail
    refine HB.out.mono ?_
    rintro e w1 ⟨rfl, m1, t1⟩
    have HR := Lib.hid (HM.out.top m1 t1)
    clear m1 t1
    go_wp2_with fail
    go_ret
    exact ⟨rfl, HR.out⟩
  · rw [if_neg h1] at HB
    rw [if_neg h1, if_neg h1]
    clear m h1
    go_enter Try.func25, Try.ntmps25
    go_wp2_with fail
    refine HB.out.mono ?_
    rintro e w1 ⟨rfl, m1, t1⟩
    obtain ⟨c0, c1, c2, c3, c4, c5⟩ := m1.cells
    have HS := Lib.hid (dsettle_any w1 d h (dkOp st) m1 (dkOp st).C.length (Nat.le_refl _) (show st.C.length ≤ 200000 by omega))
    have HM1 := Lib.hid m1
    have HT1 := Lib.hid t1
    clear m1 t1 c0 c1 c2 c4 c5
    go_wp2_with fail
    refine HS.out.mono ?_
    rintro e w2 ⟨rfl, o2, t2, g2⟩
    have HR : RowKit.Hid (DkStep w w2 d h { dkOp st with S := st.N, C := [] }) := Lib.hid (by
      have htk : dkAll (dkOp st).S ((dkOp st).C.take (dkOp st).C.length) = st.N := by rw [List.take_length]; rfl
      have hnm : OwnN w2 h.mn st.N := HM1.out.nm.touch t2 (fun e => by
        have h1 := HM1.out.tn
        rcases e with e | e
        · rw [e, HM1.out.td] at h1; cases h1
        · rw [e, HM1.out.ts] at h1; cases h1)
      have s := HM1.out.settled (dkOp st).C.length (Nat.le_refl _) (dkOp st).F rfl t2 o2 g2 (by rw [htk]; exact hnm) HM1.out.fails (.inl rfl)
      rw [htk] at s
      exact HM.out.then HM1.out HT1.out s)
    clear o2 t2 g2
    go_wp2_with fail
    go_ret
    exact ⟨rfl, HR.out⟩
end Go.Proofs.Ytmokcfmlolohaaa
