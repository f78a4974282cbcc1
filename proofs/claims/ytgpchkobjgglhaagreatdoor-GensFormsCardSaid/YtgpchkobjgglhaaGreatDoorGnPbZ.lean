/- The reference's ParseBackends. -/
import Derived.Test.YtgpchkobjgglhaaGreatDoorGnPaZ
import Derived.Test.YtgpchkobjgglhaaGreatDoorGnRtZ
import Derived.Test.YtgpchkobjgglhaaGreatDoorGnParseZ
import Derived.Test.YtgpchkobjgglhaaGreatDoorHFZ
set_option linter.unusedVariables false
set_option linter.unusedSimpArgs false
namespace Go.Proofs.YtgpchkobjgglhaaGreatDoor
open Go.RowKit

theorem cut_lenP (l : List UInt8) (c : UInt8) : (cutL l c).1.length ≤ l.length ∧ (cutL l c).2.length ≤ l.length := by
  by_cases h : c ∈ l
  · obtain ⟨a, b, rfl, hn⟩ := List.eq_append_cons_of_mem h
    rw [cutL_at c a b hn]
    simp only [List.length_append, List.length_cons]
    omega
  · rw [(cutL_not c l h).1]
    simp
theorem gmay_get {B : List BkD} (h : gmay B = true) (i : Nat) (hi : i < B.length) : (0 ≤ B[i].id ∧ B[i].id ≤ 65535) ∧ 1 ≤ B[i].weight ∧ B[i].weight ≤ 10 := (mayKB_iff _).1 (((gmayK_iff _).1 h).2.1 _ (List.getElem_mem hi))
def slLen : Value → Nat
  | .slice _ n _ => n
  | _ => 0
set_option maxRecDepth 20000 in
set_option maxHeartbeats 8000000 in
theorem rparse_any (l : List UInt8) (w : World) (hl : l.length ≤ 3000000) (hT : TabW w) :
    Calls Tryz.prog 8 #[.string (mkS l)] w fun e w' => ParIs w w' l e ∧ Touch w w' (fun _ => False) := by
  have HTB := Lib.hid hT
  by_cases hd : l = [45]
  · subst hd
    have HX : RowKit.Hid (∀ w', ParIs w w' [45] (.returned (.tuple #[.slice none 0 0, .bool true]))) := Lib.hid (fun w' => .inl ⟨gparB_dash, none, 0, rfl, OwnK.none _ _⟩)
    have hs1 : ((mkS [45]).toList == [45]) = true := by rw [mkS_toList]; rfl
    generalize mkS [45] = s at *
    clear hT
    go_enter Tryz.func8, Tryz.ntmps8
    go_wp2_with fail
    go_ret2
    exact ⟨HX.out _, Touch.refl _ _⟩
  have hs1 : ((mkS l).toList == [45]) = false := by rw [mkS_toList]; simpa using hd
  have HSL : RowKit.Hid (∀ x, ((mkS x).toList == (mkS l).toList) = decide (x = l)) := Lib.hid (fun x => by rw [mkS_toList, mkS_toList]; by_cases h : x = l <;> simp [h])
  have HSET : RowKit.Hid (gparB l = true → SetL l (gparL l)) := Lib.hid (fun h => setL_of h hd)
  have HL := Lib.hid hl
  have HD := Lib.hid hd
  have HNO : RowKit.Hid (gparB l = false → ∀ w', ParIs w w' l (.returned (.tuple #[.slice none 0 0, .bool false]))) := Lib.hid (fun h w' => .inr ⟨h, rfl⟩)
  obtain ⟨s, hs⟩ : ∃ s, mkS l = s := ⟨_, rfl⟩
  have HS := Lib.hid hs
  have HIK := Lib.hid infoBk
  rw [hs] at hs1 HSL ⊢
  clear hs hd hT hl
  go_enter Tryz.func8, Tryz.ntmps8
  go_wp2_with fail
  go_loopw [4, 5, 6] (fun s4 s5 s6 wr => ∃ (bs : List BkD) (a : Option Addr) (c : Nat) (m : Bool) (q : List UInt8), bs.length ≤ 17 ∧ s4 = .slice a bs.length c ∧ s5 = .bool m ∧ s6 = .string (mkS q) ∧ OwnK wr w.heap.size (.slice a bs.length c) bs ∧ (∀ b ∈ bs, BkOk b ∧ adrOk b) ∧ q.length ≤ l.length ∧ (∀ B, SetL l B → bs = B.take bs.length ∧ bs.length ≤ B.length ∧ (m = true → bs.length < B.length ∧ q = restL B bs.length) ∧ (m = false → bs.length = B.length)) ∧ Touch w wr (fun _ => False)) (fun s4 _ _ _ => 17 - slLen s4)
  case atStart =>
    refine ⟨[], none, 0, true, l, by simp, rfl, rfl, by rw [HS.out], OwnK.none _ _, (fun b hb => by cases hb), Nat.le_refl _, fun B hB => ⟨by simp, Nat.zero_le _, fun _ => ⟨List.length_pos_iff.2 hB.1, ?_⟩, (fun h => by cases h)⟩, Touch.refl _ _⟩
    rw [show ([] : List BkD).length = 0 from rfl, rest_0 hB.1]; exact hB.2.2.2
  case round =>
    obtain ⟨bs, a, c, m, q, hbl, rfl, rfl, rfl, ho, hok, hq, hset, ht⟩ := hrel
    have HO := Lib.hid ho
    have HOK := Lib.hid hok
    have HQ := Lib.hid hq
    have HB := Lib.hid hset
    have HT := Lib.hid ht
    clear ho hok hq hset ht
    by_cases hgo : m = true ∧ bs.length ≤ 16
    case neg =>
      have HEQ : RowKit.Hid (∀ B, SetL l B → bs = B) := Lib.hid (fun B hB => by
        obtain ⟨h1, h2, h3, h4⟩ := HB.out B hB
        have h5 : bs.length = B.length := by
          cases m with
          | false => exact h4 rfl
          | true =>
            have h6 := (h3 rfl).1
            have h7 := ((gmayK_iff _).1 hB.2.1).1
            have h8 : ¬ bs.length ≤ 16 := fun h => hgo ⟨rfl, h⟩
            omega
        rw [h1, h5, List.take_length])
      have hrow := (OwnK.row HO.out).2.1
      have HGM := Lib.hid (rgmay_any a bs.length c bs wr hrow)
      have HGT := Lib.hid (fun W (h : Touch wr W (fun _ => False)) => rbtext_any a bs.length c bs W (hrow.still h) (fun b hb => (HOK.out b hb).1) (by omega) ((HTB.out.touch HT.out).touch h))
      have hse := HSL.out (bksL bs)
      obtain ⟨st, hst⟩ : ∃ x, mkS (bksL bs) = x := ⟨_, rfl⟩
      obtain ⟨db, hdb⟩ : ∃ x, decide (bksL bs = l) = x := ⟨_, rfl⟩
      obtain ⟨mb, hmb⟩ : ∃ x, gmay bs = x := ⟨_, rfl⟩
      rw [hst, hdb] at hse
      rw [hst] at HGT
      rw [hmb] at HGM
      have HBAD : RowKit.Hid ((mb = false ∨ db = false) → gparB l = false) := Lib.hid (fun h => by
        cases hp : gparB l with
        | false => rfl
        | true =>
          have hB := HSET.out hp
          have he := HEQ.out _ hB
          rcases h with h | h
          · have := hB.2.1; rw [← he, hmb, h] at this; cases this
          · have := hB.2.2.2; rw [← he] at this; rw [h] at hdb; exact absurd this.symm (of_decide_eq_false hdb))
      have HGOOD : RowKit.Hid (mb = true → db = true → ∀ w', Touch wr w' (fun _ => False) → ParIs w w' l (.returned (.tuple #[.slice a bs.length c, .bool true]))) := Lib.hid (fun h1 h2 w' t => by
        have e2 : bksL bs = l := of_decide_eq_true (hdb.trans h2)
        have hne : bs ≠ [] := fun e => HD.out (by rw [← e2, e]; rfl)
        obtain ⟨h3, h4⟩ := setL_is (l := l) (B := bs) ⟨hne, hmb.trans h1, fun b hb => (HOK.out b hb).2, e2.symm⟩
        refine .inl ⟨h3, a, c, by rw [h4], ?_⟩
        rw [h4]; exact OwnK.still HO.out t)
      have hnot : m = false ∨ (m = true ∧ ¬ (bs.length : Int) ≤ 16) := by
        cases m with
        | false => exact .inl rfl
        | true => exact .inr ⟨rfl, fun h => hgo ⟨rfl, by omega⟩⟩
      obtain ⟨n, hn⟩ : ∃ n, bs.length = n := ⟨_, rfl⟩
      rw [hn] at HGM HGT HGOOD hnot ⊢
      clear hrow hst hdb hmb hn hgo hbl
      rcases hnot with rfl | ⟨rfl, hgt⟩
      · go_wp2_with fail
        (with_reducible refine HGM.out.mono ?_)
        rintro e w5 ⟨rfl, t5⟩
        cases mb with
        | false =>
          have HX := Lib.hid (HNO.out (HBAD.out (.inl rfl)))
          go_wp2_with fail
          go_ret2
          exact ⟨HX.out _, HT.out.trans t5 (fun _ _ h => h)⟩
        | true =>
          have T5 := Lib.hid t5
          clear t5
          go_wp2_with fail
          (with_reducible refine (HGT.out _ T5.out).mono ?_)
          rintro e w6 ⟨rfl, t6⟩
          have T6 := Lib.hid (T5.out.trans t6 (fun _ _ h => h))
          clear t6
          cases db with
          | false =>
            have HX := Lib.hid (HNO.out (HBAD.out (.inr rfl)))
            go_wp2_with fail
            go_ret2
            exact ⟨HX.out _, HT.out.trans T6.out (fun _ _ h => h)⟩
          | true =>
            have HX := Lib.hid (HGOOD.out (by trivial) (by trivial) _ T6.out)
            go_wp2_with fail
            go_ret2
            exact ⟨HX.out, HT.out.trans T6.out (fun _ _ h => h)⟩
      · go_wp2_with fail
        (with_reducible refine HGM.out.mono ?_)
        rintro e w5 ⟨rfl, t5⟩
        cases mb with
        | false =>
          have HX := Lib.hid (HNO.out (HBAD.out (.inl rfl)))
          go_wp2_with fail
          go_ret2
          exact ⟨HX.out _, HT.out.trans t5 (fun _ _ h => h)⟩
        | true =>
          have T5 := Lib.hid t5
          clear t5
          go_wp2_with fail
          (with_reducible refine (HGT.out _ T5.out).mono ?_)
          rintro e w6 ⟨rfl, t6⟩
          have T6 := Lib.hid (T5.out.trans t6 (fun _ _ h => h))
          clear t6
          cases db with
          | false =>
            have HX := Lib.hid (HNO.out (HBAD.out (.inr rfl)))
            go_wp2_with fail
            go_ret2
            exact ⟨HX.out _, HT.out.trans T6.out (fun _ _ h => h)⟩
          | true =>
            have HX := Lib.hid (HGOOD.out (by trivial) (by trivial) _ T6.out)
            go_wp2_with fail
            go_ret2
            exact ⟨HX.out, HT.out.trans T6.out (fun _ _ h => h)⟩
    case pos =>
      obtain ⟨rfl, h16⟩ := hgo
      have h16' : (bs.length : Int) ≤ 16 := by omega
      have hcl := cut_lenP q 44
      have HC1 := Lib.hid (rcut_any q 44 wr (by have := HQ.out; have := HL.out; omega))
      rw [show ((44 : UInt8).toNat : Int) = 44 from rfl] at HC1
      have HRC : RowKit.Hid (∀ B, SetL l B → ∀ hj : bs.length < B.length, (cutL q 44).1 = bkL B[bs.length] ∧ (cutB q 44 = true → bs.length + 1 < B.length ∧ (cutL q 44).2 = restL B (bs.length + 1)) ∧ (cutB q 44 = false → bs.length + 1 = B.length)) := Lib.hid (fun B hB hj => by
        rw [((HB.out B hB).2.2.1 rfl).2]; exact rest_cut hj)
      unfold CutE at HC1
      generalize (cutL q 44).1 = q1 at *
      generalize (cutL q 44).2 = q2 at *
      generalize cutB q 44 = m2 at *
      have hcl2 := cut_lenP q1 64
      have HC2 := Lib.hid (fun W => rcut_any q1 64 W (by have := HQ.out; have := HL.out; omega))
      rw [show ((64 : UInt8).toNat : Int) = 64 from rfl] at HC2
      have HV2 : RowKit.Hid (∀ b, q1 = bkL b → (cutL q1 64).1 = Lib.itoa b.id ∧ (cutL q1 64).2 = addrL b.addr ++ 42 :: Lib.itoa b.weight ∧ cutB q1 64 = true) := Lib.hid (fun b e => by
        rw [e, (bk_cut b).1]; exact ⟨rfl, rfl, (bk_cut b).2.1⟩)
      unfold CutE at HC2
      generalize (cutL q1 64).1 = q3 at *
      generalize (cutL q1 64).2 = q4 at *
      generalize cutB q1 64 = b1 at *
      have hcl3 := cut_lenP q4 42
      have HC3 := Lib.hid (fun W => rcut_any q4 42 W (by have := HQ.out; have := HL.out; omega))
      rw [show ((42 : UInt8).toNat : Int) = 42 from rfl] at HC3
      have HV3 : RowKit.Hid (∀ b : BkD, q4 = addrL b.addr ++ 42 :: Lib.itoa b.weight → (cutL q4 42).1 = addrL b.addr ∧ (cutL q4 42).2 = Lib.itoa b.weight ∧ cutB q4 42 = true) := Lib.hid (fun b e => by
        rw [e, (bk_cut b).2.2.1]; exact ⟨rfl, rfl, (bk_cut b).2.2.2⟩)
      unfold CutE at HC3
      generalize (cutL q4 42).1 = q5 at *
      generalize (cutL q4 42).2 = q6 at *
      generalize cutB q4 42 = b2 at *
      have HN1 := Lib.hid (fun W => rnum_any q3 W (by have := HQ.out; have := HL.out; omega))
      have HA1 := Lib.hid (fun W => rpaddr_any q5 W (by have := HQ.out; have := HL.out; omega))
      have HN2 := Lib.hid (fun W => rnum_any q6 W (by have := HQ.out; have := HL.out; omega))
      have HQ2 : RowKit.Hid (q2.length ≤ l.length) := Lib.hid (by have := HQ.out; omega)
      have HBL := Lib.hid hbl
      clear hcl hcl2 hcl3 hbl
      obtain ⟨n, hn⟩ : ∃ n, bs.length = n := ⟨_, rfl⟩
      have HN := Lib.hid hn
      rw [hn] at h16 h16' ⊢
      clear hn
      generalize mkS q = sq at *
      generalize mkS q1 = sq1 at *
      generalize hsq2 : mkS q2 = sq2 at *
      have HSQ2 := Lib.hid hsq2
      clear hsq2
      generalize mkS q3 = sq3 at *
      generalize mkS q4 = sq4 at *
      generalize mkS q5 = sq5 at *
      generalize mkS q6 = sq6 at *
      go_wp2_with fail
      (with_reducible refine HC1.out.mono ?_)
      rintro e w1 ⟨rfl, t1⟩
      have T1 := Lib.hid (HT.out.trans t1 (fun _ _ h => h))
      have U1 := Lib.hid t1
      clear t1
      go_wp2_with fail
      (with_reducible refine (HC2.out _).mono ?_)
      rintro e w2 ⟨rfl, t2⟩
      have U2 := Lib.hid (U1.out.trans t2 (fun _ _ h => h))
      clear t2
      go_wp2_with fail
      (with_reducible refine (HC3.out _).mono ?_)
      rintro e w3 ⟨rfl, t3⟩
      have U3 := Lib.hid (U2.out.trans t3 (fun _ _ h => h))
      clear t3
      go_wp2_with fail
      (with_reducible refine (HN1.out _).mono ?_)
      rintro e w4 ⟨⟨vn, b3, rfl, n1⟩, rfl⟩
      have V1 := Lib.hid n1
      clear n1
      go_wp2_with fail
      (with_reducible refine (HA1.out _).mono ?_)
      rintro e w5 ⟨⟨va, b4, rfl, n2⟩, t5⟩
      have V2 := Lib.hid n2
      have U5 := Lib.hid (U3.out.trans t5 (fun _ _ h => h))
      clear n2 t5
      go_wp2_with fail
      (with_reducible refine (HN2.out _).mono ?_)
      rintro e w6 ⟨⟨vk, b5, rfl, n3⟩, rfl⟩
      have V3 := Lib.hid n3
      clear n3
      have HGD : RowKit.Hid (∀ B, SetL l B → ∃ hj : n < B.length, b1 = true ∧ b2 = true ∧ b3 = true ∧ b4 = true ∧ b5 = true ∧ (⟨vn, va, vk⟩ : BkD) = B[n] ∧ (0 ≤ vn ∧ vn ≤ 65535) ∧ (1 ≤ vk ∧ vk ≤ 10) ∧ (m2 = true → n + 1 < B.length ∧ q2 = restL B (n + 1)) ∧ (m2 = false → n + 1 = B.length)) := Lib.hid (fun B hB => by
        have hj := ((HB.out B hB).2.2.1 (by trivial)).1
        obtain ⟨r1, r2, r3⟩ := HRC.out B hB hj
        have hnn := HN.out
        subst hnn
        refine ⟨hj, ?_⟩
        obtain ⟨g1, g2⟩ := gmay_get hB.2.1 _ hj
        have g3 := hB.2.2.1 _ (List.getElem_mem hj)
        generalize B[bs.length] = bb at *
        obtain ⟨e1, e2, e3⟩ := HV2.out bb r1
        obtain ⟨e4, e5, e6⟩ := HV3.out bb e2
        obtain ⟨f1, f2⟩ := V1.out.2 bb.id g1.1 g1.2 e1
        obtain ⟨f3, f4⟩ := V2.out.2 bb.addr g3.1 g3.2 e4
        obtain ⟨f5, f6⟩ := V3.out.2 bb.weight (by omega) (by omega) e5
        exact ⟨e3, e6, f2, f4, f6, by rw [f1, f3, f5], by rw [f1]; exact g1, by rw [f5]; exact g2, r2, r3⟩)
      have HBAD : RowKit.Hid ((b1 = false ∨ b2 = false ∨ b3 = false ∨ b4 = false ∨ b5 = false ∨ vn < 0 ∨ 65535 < vn ∨ vk < 1 ∨ 10 < vk) → gparB l = false) := Lib.hid (fun h => by
        cases hp : gparB l with
        | false => rfl
        | true =>
          obtain ⟨hj, h1, h2, h3, h4, h5, -, h6, h7, -, -⟩ := HGD.out _ (HSET.out hp)
          subst h1 h2 h3 h4 h5
          rcases h with h | h | h | h | h | h | h | h | h <;> first | (cases h; done) | omega)
      have TU := Lib.hid (HT.out.trans U5.out (fun _ _ h => h))
      clear HC1 HC2 HC3 HN1 HA1 HN2 HV2 HV3 HRC
      cases b1 with
      | false =>
        have HX := Lib.hid (HNO.out (HBAD.out (.inl rfl)))
        go_wp2_with fail
        go_ret2
        exact ⟨HX.out _, TU.out⟩
      | true =>
      cases b2 with
      | false =>
        have HX := Lib.hid (HNO.out (HBAD.out (.inr (.inl rfl))))
        go_wp2_with fail
        go_ret2
        exact ⟨HX.out _, TU.out⟩
      | true =>
      cases b3 with
      | false =>
        have HX := Lib.hid (HNO.out (HBAD.out (.inr (.inr (.inl rfl)))))
        go_wp2_with fail
        go_ret2
        exact ⟨HX.out _, TU.out⟩
      | true =>
      cases b4 with
      | false =>
        have HX := Lib.hid (HNO.out (HBAD.out (.inr (.inr (.inr (.inl rfl))))))
        go_wp2_with fail
        go_ret2
        exact ⟨HX.out _, TU.out⟩
      | true =>
      cases b5 with
      | false =>
        have HX := Lib.hid (HNO.out (HBAD.out (.inr (.inr (.inr (.inr (.inl rfl)))))))
        go_wp2_with fail
        go_ret2
        exact ⟨HX.out _, TU.out⟩
      | true =>
      by_cases h6 : vn < 0
      · have HX := Lib.hid (HNO.out (HBAD.out (.inr (.inr (.inr (.inr (.inr (.inl h6))))))))
        go_wp2_with fail
        go_ret2
        exact ⟨HX.out _, TU.out⟩
      by_cases h7 : vn > 65535
      · have HX := Lib.hid (HNO.out (HBAD.out (.inr (.inr (.inr (.inr (.inr (.inr (.inl h7)))))))))
        go_wp2_with fail
        go_ret2
        exact ⟨HX.out _, TU.out⟩
      by_cases h8 : vk < 1
      · have HX := Lib.hid (HNO.out (HBAD.out (.inr (.inr (.inr (.inr (.inr (.inr (.inr (.inl h8))))))))))
        go_wp2_with fail
        go_ret2
        exact ⟨HX.out _, TU.out⟩
      by_cases h9 : vk > 10
      · have HX := Lib.hid (HNO.out (HBAD.out (.inr (.inr (.inr (.inr (.inr (.inr (.inr (.inr h9))))))))))
        go_wp2_with fail
        go_ret2
        exact ⟨HX.out _, TU.out⟩
      have hv1 : ¬ vn < 0 := h6
      have hv2 : ¬ vn > 65535 := h7
      have hv3 : ¬ vk < 1 := h8
      have hv4 : ¬ vk > 10 := h9
      have HOA : RowKit.Hid (OwnS (w6.alloc (.cells #[.int .i64 vn, .int .u32 va, .int .i64 vk] 27)) w.heap.size 27 3 (.slice a n c) (bs.map BkD.cells)) := Lib.hid (OwnS.still (OwnK.still (by have h := HO.out; rw [HN.out] at h; exact h) U5.out).toS ((Touch.refl w6 (fun _ => False)).alloc _))
      have hsz : w.heap.size ≤ w6.heap.size := TU.out.size
      have HV2' := Lib.hid V2.out.1
      clear HBAD
      go_wp2_with (at_builtin; (with_reducible refine wp_add1 (w := w6) HOA.out rfl rfl rfl (by simp [Value.oneCell']) (by omega) 22 Tryz.underlying22 _ 24 HIK.out rfl (by decide) (by decide) hsz rfl _ _ rfl rfl rfl ?_); intro a7 c7 w7 ho7 t7 p7; have HO7 := Lib.hid ho7; have HT7 := Lib.hid t7; clear ho7 t7 p7)
      have hln : (bs ++ [(⟨vn, va, vk⟩ : BkD)]).length = n + 1 := by rw [List.length_append, HN.out]; rfl
      refine ⟨⟨bs ++ [⟨vn, va, vk⟩], a7, c7, m2, q2, by rw [hln]; omega, by rw [hln], rfl, by rw [HSQ2.out], ?_, ?_, HQ2.out, ?_, ?_⟩, ?_⟩
      · rw [hln]
        unfold OwnK
        rw [List.map_append, List.map_cons, List.map_nil]
        exact HO7.out
      · intro b hb
        rcases List.mem_append.1 hb with hb | hb
        · exact HOK.out b hb
        · rw [List.mem_singleton.1 hb]
          exact ⟨⟨⟨show (-9223372036854775808 : Int) ≤ vn by omega, show vn ≤ (9223372036854775807 : Int) by omega⟩, ⟨HV2'.out.1, HV2'.out.2⟩, ⟨show (-9223372036854775808 : Int) ≤ vk by omega, show vk ≤ (9223372036854775807 : Int) by omega⟩⟩, HV2'.out⟩
      · intro B hB
        obtain ⟨hj, -, -, -, -, -, e1, -, -, e2, e3⟩ := HGD.out B hB
        rw [hln]
        refine ⟨?_, by omega, e2, e3⟩
        rw [List.take_succ_eq_append_getElem hj, e1]
        have := (HB.out B hB).1
        rw [HN.out] at this
        rw [← this]
      · exact TU.out.trans HT7.out (fun k hk e => by have := (OwnS.own HOA.out).lt k e; omega)
      · simp only [slLen]; omega
end Go.Proofs.YtgpchkobjgglhaaGreatDoor
