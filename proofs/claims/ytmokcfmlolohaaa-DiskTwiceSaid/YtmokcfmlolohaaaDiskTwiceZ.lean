/- DiskTwice holds: behind a crash another one changes nothing. -/
import Derived.Test.YtmokcfmlolohaaaIAZ
import Derived.Test.YtmokcfmlolohaaaRdkCpZ
import Derived.Test.YtmokcfmlolohaaaFrDiskTwiceZ
set_option linter.unusedVariables false
set_option linter.unusedSimpArgs false
namespace Go.Proofs.Ytmokcfmlolohaaa
open Go.RowKit

/-- All of a file is sure. -/
def SealR (L : List DkFc) (i : Nat) : Prop := (L.getD i ⟨[], 0⟩).s = (L.getD i ⟨[], 0⟩).b.length
theorem seal_keep (f : DkFc) (n : Nat) (h : n ≤ f.b.length) : (keepR f n).s = (keepR f n).b.length := by
  unfold keepR
  simp only [List.length_take]
  omega
theorem getD_set_same {L : List DkFc} {i : Nat} (h : i < L.length) (v d : DkFc) : (L.set i v).getD i d = v := by
  rw [List.getD_eq_getElem?_getD, List.getElem?_set_self h]; rfl
theorem getD_set_ne {L : List DkFc} {i j : Nat} (h : i ≠ j) (v d : DkFc) : (L.set i v).getD j d = L.getD j d := by
  rw [List.getD_eq_getElem?_getD, List.getElem?_set_ne h, List.getD_eq_getElem?_getD]
theorem seal_one {x : RN} {ps : List Nat} {L : List DkFc} (hx : x.f < L.length) (ok : ∀ f ∈ L, f.b.length ≤ 1048576 ∧ f.s ≤ f.b.length) : SealR (rCr1 x ps L) x.f := by
  unfold SealR rCr1
  rw [getD_set_same hx]
  have hk := ok _ (List.getElem_mem hx)
  have e : L.getD x.f ⟨[], 0⟩ = L[x.f] := by simp [hx]
  rw [e]
  refine seal_keep _ _ ?_
  have := pick0_le ps (L[x.f].b.length - L[x.f].s)
  omega
theorem seal_stays {x : RN} {ps : List Nat} {L : List DkFc} (hx : x.f < L.length) (ok : ∀ f ∈ L, f.b.length ≤ 1048576 ∧ f.s ≤ f.b.length) {i : Nat} (h : SealR L i) : SealR (rCr1 x ps L) i := by
  by_cases e : x.f = i
  · subst e; exact seal_one hx ok
  · unfold SealR rCr1
    rw [getD_set_ne e]; exact h
theorem seal_all : ∀ (l : List RN) (ps : List Nat) (L : List DkFc), (∀ x ∈ l, x.f < L.length) → (∀ f ∈ L, f.b.length ≤ 1048576 ∧ f.s ≤ f.b.length) → ∀ i, (SealR L i ∨ ∃ x ∈ l, x.f = i) → SealR (rCrF l ps L) i
  | [], _, _, _, _, i, h => by
    rcases h with h | ⟨x, hx, _⟩
    · exact h
    · cases hx
  | x :: l, ps, L, hl, ok, i, h => by
    rw [rCrF]
    refine seal_all l ps.tail _ (fun y hy => by rw [rCr1_len]; exact hl y (List.mem_cons_of_mem _ hy)) (rCr1_ok ok) i ?_
    rcases h with h | ⟨y, hy, e⟩
    · exact .inl (seal_stays (hl x List.mem_cons_self) ok h)
    · rcases List.mem_cons.1 hy with rfl | hy
      · subst e; exact .inl (seal_one (hl y List.mem_cons_self) ok)
      · exact .inr ⟨y, hy, e⟩
theorem seal_same : ∀ (l : List RN) (ps : List Nat) (L : List DkFc), (∀ x ∈ l, x.f < L.length ∧ SealR L x.f) → rCrF l ps L = L
  | [], _, _, _ => rfl
  | x :: l, ps, L, h => by
    have hx := h x List.mem_cons_self
    have e : rCr1 x ps L = L := by
      unfold rCr1
      have hs : (L.getD x.f ⟨[], 0⟩).s = (L.getD x.f ⟨[], 0⟩).b.length := hx.2
      have e1 : L.getD x.f ⟨[], 0⟩ = L[x.f]'hx.1 := by simp [hx.1]
      rw [e1] at hs ⊢
      have hp : pick0 ps ((L[x.f]'hx.1).b.length - (L[x.f]'hx.1).s) = 0 := by
        have := pick0_le ps ((L[x.f]'hx.1).b.length - (L[x.f]'hx.1).s)
        omega
      rw [hp, Nat.add_zero]
      have e2 : keepR (L[x.f]'hx.1) (L[x.f]'hx.1).s = L[x.f]'hx.1 := by
        unfold keepR
        rw [List.take_of_length_le (by omega)]
      rw [e2, List.set_getElem_self]
    rw [rCrF, e]
    exact seal_same l ps.tail L (fun y hy => h y (List.mem_cons_of_mem _ hy))
theorem crash_twice (R : RS) (xa xb : List Nat) (ok : ∀ f ∈ R.F, f.b.length ≤ 1048576 ∧ f.s ≤ f.b.length) (hf : ∀ x ∈ rCrS R xa, x.f < R.F.length) : rCrash (rCrash R xa) xb = rCrash R xa := by
  have eS : rCrS (rCrash R xa) xb = rCrS R xa := by
    show rAll (rCrS R xa) (([] : List RC).take _) = _
    rw [List.take_nil]; rfl
  have eF : rCrF (rCrS R xa) xb.tail (rCrF (rCrS R xa) xa.tail R.F) = rCrF (rCrS R xa) xa.tail R.F :=
    seal_same _ _ _ (fun x hx => ⟨by rw [rCrF_len]; exact hf x hx, seal_all _ _ _ hf ok x.f (.inr ⟨x, hx, rfl⟩)⟩)
  show ({ rCrash R xa with N := rCrS (rCrash R xa) xb, S := rCrS (rCrash R xa) xb, C := [], fail := 0, F := rCrF (rCrS (rCrash R xa) xb) xb.tail (rCrF (rCrS R xa) xa.tail R.F) } : RS) = _
  rw [eS, eF]
  rfl
set_option maxRecDepth 20000 in
set_option maxHeartbeats 16000000 in
theorem twice3_walk (a : Option Addr) (n c : Nat) (L : List CallB) (w : World) (hr : RowS w a n c 5 (L.map CallB.cells)) (hok : ∀ k ∈ L, CallKOk k.c ∧ RowB w k.a k.l k.cp k.xs) (aa : Option Addr) (la ca : Nat) (xa : List Nat) (hra : RowB w aa la ca xa) (ab : Option Addr) (lb cb : Nat) (xb : List Nat) (hrb : RowB w ab lb cb xb) :
    Calls Try.prog 9 #[.slice a n c, .slice aa la ca, .slice ab lb cb] w fun e w' => e = .returned (.bool true) ∧ Touch w w' (fun _ => False) := by
  have HSH := Lib.hid (dshort_any w a n c L hr (fun k hk => ⟨(hok k hk).2.2.2.2.1, (hok k hk).1.name, (hok k hk).1.tn⟩))
  have hLl : L.length = n := by have := hr.hlen; simpa using this
  have hnc := hr.hcap
  have hnm := hr.hmax
  have HR := Lib.hid hr
  have HOK := Lib.hid hok
  have HLL := Lib.hid hLl
  have HRA := Lib.hid hra
  have HRB := Lib.hid hrb
  clear hr hok hLl hra hrb
  go_enter Try.func9, Try.ntmps9
  go_wp2_with fail
  refine HSH.out.mono ?_
  rintro e w1 ⟨rfl, t1⟩
  have HT0 := Lib.hid t1
  clear t1
  cases hb : shortOk L with
  | false =>
    go_wp2_with fail
    refine (awake3 w1).mono ?_
    rintro e w2 ⟨rfl, t2⟩
    have HT := Lib.hid (HT0.out.trans t2 (fun _ _ h => h))
    clear t2
    go_wp2_with fail
    go_ret
    exact ⟨rfl, HT.out⟩
  | true =>
    have h120 : n ≤ 120 := by
      unfold shortOk at hb
      rw [Bool.and_eq_true] at hb
      have := of_decide_eq_true hb.1
      rwa [HLL.out] at this
    have HSM : RowKit.Hid (∀ k ∈ L, k.l ≤ 3000) := Lib.hid (fun k hk => by
      unfold shortOk at hb
      rw [Bool.and_eq_true] at hb
      exact (of_decide_eq_true (List.all_eq_true.1 hb.2 k hk)).1)
    clear hb
    by_cases hla : (100 : Int) < la
    · go_wp2_with fail
      refine (awake3 w1).mono ?_
      rintro e w2 ⟨rfl, t2⟩
      have HT := Lib.hid (HT0.out.trans t2 (fun _ _ h => h))
      clear t2
      go_wp2_with fail
      go_ret
      exact ⟨rfl, HT.out⟩
    · by_cases hlb : (100 : Int) < lb
      · go_wp2_with fail
        refine (awake3 w1).mono ?_
        rintro e w2 ⟨rfl, t2⟩
        have HT := Lib.hid (HT0.out.trans t2 (fun _ _ h => h))
        clear t2
        go_wp2_with fail
        go_ret
        exact ⟨rfl, HT.out⟩
      · have HR := Lib.hid (HR.out.still HT0.out)
        have HOK : RowKit.Hid (∀ k ∈ L, CallKOk k.c ∧ RowB w1 k.a k.l k.cp k.xs) := Lib.hid (fun k hk => ⟨(HOK.out k hk).1, (HOK.out k hk).2.touch HT0.out (fun _ _ => .inr (fun h => h))⟩)
        have HRA := Lib.hid (RowB.touch HRA.out HT0.out (fun _ _ => .inr (fun h => h)))
        have HRB := Lib.hid (RowB.touch HRB.out HT0.out (fun _ _ => .inr (fun h => h)))
        clear HSH
        go_wp2_with fail
        (with_reducible refine (dnew_any w1 20000 ⟨by decide, by decide⟩).mono ?_)
        rintro e w2 ⟨d, h2, rfl, n2'⟩
        have HN2 := Lib.hid n2'
        clear n2'
        go_wp2_with fail
        (with_reducible refine (rnew_any w2 20000).mono ?_)
        rintro e w3 ⟨rfl, x3, t3⟩
        obtain ⟨m, hm⟩ : ∃ m, w2.heap.size = m := ⟨_, rfl⟩
        have hb0 := both_new HN2.out x3 t3
        rw [hm] at hb0 ⊢
        have HD : RowKit.Hid (∃ (h : DkH) (hR : RH) (st : DkS) (R : RS) (G : List Nat), Both w1 w3 d m h hR st R G ∧ G.length ≤ 0 ∧ st.C.length ≤ 0) := Lib.hid ⟨_, _, _, _, _, hb0, Nat.le_refl _, Nat.le_refl _⟩
        clear x3 t3 hb0 hm
        go_wp2_with fail
        go_loopw [36] (fun s wr => ∃ (k : Nat) (h : DkH) (hR : RH) (st : DkS) (R : RS) (G : List Nat), k ≤ n ∧ s = .int .i64 k ∧ Both w1 wr d m h hR st R G ∧ G.length ≤ k + 0 ∧ st.C.length ≤ k + 0) (fun s _ => n - (RowKit.intOf s).toNat)
        case atStart =>
          obtain ⟨h, hR, st, R, G, hb, hg, hc⟩ := HD.out
          exact ⟨0, h, hR, st, R, G, Nat.zero_le _, rfl, hb, by omega, by omega⟩
        case round =>
          obtain ⟨k, h, hR, st, R, G, hk, rfl, hb, hg, hc⟩ := hrel
          have HB := Lib.hid hb
          clear hb
          by_cases hlt : k < n
          case neg =>
            obtain rfl : n = k := by omega
            have hlI : ¬ (n : Int) < n := by omega
            obtain ⟨wA, hwA⟩ : ∃ W, W = wr := ⟨_, rfl⟩
            rw [← hwA] at HB ⊢
            have HGD : RowKit.Hid (G.length ≤ 120 ∧ st.C.length ≤ 120) := Lib.hid ⟨by omega, by omega⟩
            have HC1 := Lib.hid (HB.out.n.crash (HB.out.n.rowB HRA.out) (HB.out.n.offB HRA.out) (by have := HGD.out.2; omega))
            have HV := Lib.hid (HB.out.rv (by omega) (by omega))
            clear hwA hg hc HD
            go_wp2_with fail
            (with_reducible refine HC1.out.mono ?_)
            rintro e w3 ⟨rfl, hto⟩
            obtain ⟨h3, n3, x3, ap3, mo3, ne3, hz3⟩ := HB.out.left hto
            have b3s := HB.out.s.crash xa
            have htg := tg_step HB.out n3 mo3 ne3 hz3 (crash_fr st xa)
            obtain ⟨st1, hst1⟩ : ∃ s, s = dkCrash st xa := ⟨_, rfl⟩
            obtain ⟨R1, hR1⟩ : ∃ r, r = rCrash R xa := ⟨_, rfl⟩
            have hcx1 : ∀ c ∈ st1.C, c.k = 0 ∨ c.f = none := by rw [hst1]; exact fun c hc => by cases hc
            have hC1 : st1.C.length ≤ 0 := by rw [hst1]; exact Nat.le_refl _
            have hseal : rCrash R1 xb = R1 := by rw [hR1]; exact crash_twice R xa xb HV.out.bl (fun x hx => by rw [← HB.out.s.len]; exact (HB.out.s.nm _).f x hx)
            rw [← hst1] at n3 b3s htg
            rw [← hR1] at b3s
            have HTG := Lib.hid htg
            have HN3 := Lib.hid n3
            have HS3 := Lib.hid b3s
            have HSE := Lib.hid hseal
            have HH := Lib.hid (And.intro hcx1 hC1)
            have HCY := Lib.hid (dcopy_any w3 d h3 st1 n3.m hcx1 (by omega))
            clear hto n3 x3 ap3 mo3 ne3 hz3 b3s hst1 hR1 hcx1 hC1 hseal htg
            go_wp2_with fail
            (with_reducible refine HCY.out.mono ?_)
            rintro e w4 ⟨tw, h4, E, rfl, n4, o4⟩
            have HN4 := Lib.hid (And.intro n4 o4)
            have n34 := HN3.out.still n4.t
            have HC2 := Lib.hid (n34.crash (n34.rowB HRB.out) (n34.offB HRB.out) (by have := HH.out.2; omega))
            have sC := sim_cp HS3.out (fun g hg => by
              rcases HTG.out g hg with h1 | h1
              · exact HN3.out.m.lt g (by rw [h1]; simp)
              · exact h1.2.1) o4
            have HSC := Lib.hid sC
            clear n4 o4 n34 sC
            go_wp2_with fail
            (with_reducible refine HC2.out.mono ?_)
            rintro e w5 ⟨rfl, hto⟩
            have hn5 : ∃ h5 st2, DkN w1 w5 d h5 st2 ∧ st2 = dkCrash st1 xb ∧ Touch w4 w5 (footK h3) := by
              obtain ⟨h5, n5, -, -, t5⟩ := hto
              exact ⟨h5, _, n5, rfl, t5⟩
            obtain ⟨h5, st2, n5, e2, t5⟩ := hn5
            have s2 : Sim G st2 R1 := by
              have := HS3.out.crash xb
              rw [HSE.out, ← e2] at this
              exact this
            have nx5 : DkN w1 w5 tw h4 (cpS st1 E) :=
              ⟨HN4.out.1.m.touch t5 (fun k hk hk3 => by have h1 := HN4.out.1.f k hk; have h2 := HN3.out.m.lt k hk3; omega), n5.t, fun k hk => Nat.le_trans HN3.out.t.size (HN4.out.1.f k hk)⟩
            have HTW := Lib.hid (And.intro n5 (And.intro nx5 (And.intro s2 HSC.out)))
            clear hto n5 e2 t5 s2 nx5
            obtain ⟨N, hN⟩ : ∃ N, R1.N.length = N := ⟨_, rfl⟩
            have HNE := Lib.hid hN
            have HDN : RowKit.Hid (∀ W, Touch w5 W (fun _ => False) → Calls Try.prog 29 #[.pointer (some ⟨d, 0, none⟩)] W fun e w' => ∃ a c, e = .returned (.slice a N c) ∧ OwnS w' W.heap.size 9 1 (.slice a N c) (strs (R1.N.map RN.n)) ∧ Touch W w' (fun _ => False)) := Lib.hid (fun W t => (dnames_any W d h5 st2 (HTW.out.1.m.still t)).mono fun e w' hh => by
              obtain ⟨a, c, e1, o, t⟩ := hh
              rw [HTW.out.2.2.1.nlen, hN] at e1 o
              rw [strRow_strs, HTW.out.2.2.1.N.names] at o
              exact ⟨a, c, e1, o, t⟩)
            have HXN : RowKit.Hid (∀ W, Touch w5 W (fun _ => False) → Calls Try.prog 29 #[.pointer (some ⟨tw, 0, none⟩)] W fun e w' => ∃ a c, e = .returned (.slice a N c) ∧ OwnS w' W.heap.size 9 1 (.slice a N c) (strs (R1.N.map RN.n)) ∧ Touch W w' (fun _ => False)) := Lib.hid (fun W t => (dnames_any W tw h4 (cpS st1 E) (HTW.out.2.1.m.still t)).mono fun e w' hh => by
              obtain ⟨a, c, e1, o, t⟩ := hh
              rw [HTW.out.2.2.2.nlen, hN] at e1 o
              rw [strRow_strs, HTW.out.2.2.2.N.names] at o
              exact ⟨a, c, e1, o, t⟩)
            have HDS : RowKit.Hid (∀ W, Touch w5 W (fun _ => False) → Calls Try.prog 30 #[.pointer (some ⟨d, 0, none⟩)] W fun e w' => e = .returned (.int .i64 (rSum R1 R1.N : Nat)) ∧ Touch W w' (fun _ => False)) := Lib.hid (fun W t => by
              have := dsize_any W d h5 st2 (HTW.out.1.m.still t)
              rw [HTW.out.2.2.1.size] at this
              exact this)
            have HXS : RowKit.Hid (∀ W, Touch w5 W (fun _ => False) → Calls Try.prog 30 #[.pointer (some ⟨tw, 0, none⟩)] W fun e w' => e = .returned (.int .i64 (rSum R1 R1.N : Nat)) ∧ Touch W w' (fun _ => False)) := Lib.hid (fun W t => by
              have := dsize_any W tw h4 (cpS st1 E) (HTW.out.2.1.m.still t)
              rw [HTW.out.2.2.2.size] at this
              exact this)
            obtain ⟨Z, hZ⟩ : ∃ Z, rSum R1 R1.N = Z := ⟨_, rfl⟩
            rw [hZ] at HDS HXS
            clear hZ hN
            go_wp2_with fail
            (with_reducible refine (HDN.out _ (Touch.refl _ _)).mono ?_)
            rintro e w6 ⟨a6, c6, rfl, o6, t6⟩
            have HT6 := Lib.hid t6
            have HO6 := Lib.hid o6
            clear o6 t6
            go_wp2_with fail
            (with_reducible refine (HXN.out _ HT6.out).mono ?_)
            rintro e w7 ⟨a7, c7, rfl, o7, t7⟩
            have HSN := Lib.hid (dsame_any w7 a6 a7 N c6 c7 (R1.N.map RN.n) (HO6.out.still t7).row'.2.1 o7.row'.2.1)
            have HT7 := Lib.hid (HT6.out.trans t7 (fun _ _ h => h))
            clear o7 t7
            go_wp2_with fail
            (with_reducible refine HSN.out.mono ?_)
            rintro e w8 ⟨rfl, t8⟩
            have HT8 := Lib.hid (HT7.out.trans t8 (fun _ _ h => h))
            clear t8
            go_wp2_with fail
            (with_reducible refine (HDS.out _ HT8.out).mono ?_)
            rintro e w9 ⟨rfl, t9⟩
            have HT9 := Lib.hid (HT8.out.trans t9 (fun _ _ h => h))
            clear t9
            go_wp2_with fail
            (with_reducible refine (HXS.out _ HT9.out).mono ?_)
            rintro e w10 ⟨rfl, t10⟩
            have HT10 := Lib.hid (HT9.out.trans t10 (fun _ _ h => h))
            clear t10
            go_wp2_with fail
            (with_reducible refine (HDN.out _ HT10.out).mono ?_)
            rintro e w11 ⟨a11, c11, rfl, o11, t11⟩
            have HO2 := Lib.hid o11
            have HT2 := Lib.hid (HT10.out.trans t11 (fun _ _ h => h))
            have hcap := o11.row'.2.1.hcap
            have hmax := o11.row'.2.1.hmax
            clear o11 t11
            go_wp2_with fail
            go_loopw [71] (fun s71 wr => ∃ i : Nat, i ≤ N ∧ s71 = .int .i64 i ∧ Touch w11 wr (fun _ => False)) (fun s71 _ => N - (RowKit.intOf s71).toNat)
            case atStart => exact ⟨0, Nat.zero_le _, rfl, Touch.refl _ _⟩
            case round =>
              obtain ⟨i, hi, rfl, ht⟩ := hrel
              obtain ⟨wq, hwq⟩ : ∃ W, W = wr := ⟨_, rfl⟩
              have HT := Lib.hid ht
              clear ht
              by_cases hlt : i < N
              case neg =>
                obtain rfl : N = i := by omega
                have hlI : ¬ (N : Int) < N := by omega
                have HTF := Lib.hid (HT2.out.trans HT.out (fun _ _ h => h))
                go_wp2_with fail
                refine (awake3 _).mono ?_
                rintro e w12 ⟨rfl, t12⟩
                have HTG := Lib.hid (HT0.out.trans (HTW.out.1.t.trans (HTF.out.trans t12 (fun _ _ h => h)) (fun _ _ h => h)) (fun _ _ h => h))
                clear t12
                go_wp2_with fail
                go_ret
                exact ⟨rfl, HTG.out⟩
              case pos =>
                have hlI : (i : Int) < N := by omega
                have hiN : i < R1.N.length := by rw [HNE.out]; exact hlt
                have r1 := (HO2.out.still HT.out).row'.2.1
                obtain ⟨b1, o1, e1⟩ := r1.some (by omega)
                rw [e1] at r1
                have x0 := strs_cell r1 i (by simpa using hiN)
                have hname : (R1.N.map RN.n)[i]'(by simpa using hiN) = R1.N[i].n := by simp
                rw [hname] at x0
                have hin := List.getElem_mem hiN
                have hF := rFind_in hin
                have hsz : szN R1.N[i].n := by
                  have h1 := HTW.out.2.2.1.N.p.mem_iff.1 (List.mem_map.2 ⟨_, hin, rfl⟩)
                  have h2 := (HTW.out.1.m.goodN.ref _ h1).2.1
                  have h2 : R1.N[i].n.size ≤ 16 := h2
                  unfold szN
                  omega
                obtain ⟨k, hk⟩ : ∃ k, R1.N[i].n = k := ⟨_, rfl⟩
                rw [hk] at x0 hF hsz
                obtain ⟨hrd, hsm⟩ := HTW.out.2.2.1.read HTW.out.1.m.goodN.nd k
                obtain ⟨hrd2, hsm2⟩ := HTW.out.2.2.2.read HTW.out.2.1.m.goodN.nd k
                have hTT := HT2.out.trans HT.out (fun _ _ h => h)
                have HDR := Lib.hid ((HTW.out.1.still hTT).read k hsz)
                have HXR := Lib.hid (fun W (t : Touch wr W (fun _ => False)) => (HTW.out.2.1.still (hTT.trans t (fun _ _ h => h))).read k hsz)
                rw [hrd, hsm, hF] at HDR
                rw [hrd2, hsm2, hF] at HXR
                have hwk : wrap64 ((i : Int) + 1) = (i : Int) + 1 := by unfold wrap64; omega
                have HWK := Lib.hid hwk
                rw [e1]
                clear r1 hname hin hk hrd hsm hsz hwk hF hrd2 hsm2 hTT hwq
                go_wp2_with fail
                (with_reducible refine HDR.out.mono ?_)
                rintro e w14 ⟨a4, c4, rfl, r4, -, n4, t4⟩
                have HR4 := Lib.hid r4
                have HT4 := Lib.hid t4
                clear r4 n4 t4
                go_wp2_with fail
                (with_reducible refine (HXR.out _ HT4.out).mono ?_)
                rintro e w15 ⟨a5, c5, rfl, r5, -, n5, t5⟩
                have HT5 := Lib.hid (HT4.out.trans t5 (fun _ _ h => h))
                have cv1 : (convert 29 9 (.slice a4 (rRead R1 k).length c4)).run Try.prog w15 = .ok (.string (strB (rRead R1 k))) w15 := run_string_of (RowB.touch HR4.out t5 (fun _ _ => .inr (fun h => h))) _ _ 5 Try.underlying29 Try.underlying5 Try.underlying9
                have cv2 : (convert 29 9 (.slice a5 (rRead R1 k).length c5)).run Try.prog w15 = .ok (.string (strB (rRead R1 k))) w15 := run_string_of r5 _ _ 5 Try.underlying29 Try.underlying5 Try.underlying9
                have HX : RowKit.Hid (∃ i' : Nat, i' ≤ N ∧ Value.int .i64 ((i : Int) + 1) = .int .i64 i' ∧ Touch w11 w15 (fun _ => False)) := Lib.hid ⟨i + 1, by omega, by go_num, HT.out.trans HT5.out (fun _ _ h => h)⟩
                clear r5 t5 n5
                go_wp2_with fail
                try rw [HWK.out]
                go_roundw
                · exact HX.out
                · simp only [RowKit.intOf]; omega
          case pos =>
            have hlI : (k : Int) < n := by omega
            have hkL : k < L.length := by rw [HLL.out]; exact hlt
            have r1 := HR.out.still (HB.out.n.t)
            obtain ⟨b1, o1, e1⟩ := r1.some (by omega)
            rw [e1] at r1
            obtain ⟨p0, p1, p2, p3, p4⟩ := callB_cells r1 k hkL
            obtain ⟨hok1, hrow⟩ := HOK.out _ (List.getElem_mem hkL)
            have hsm := HSM.out _ (List.getElem_mem hkL)
            obtain ⟨qq, hqq⟩ : ∃ q, L[k] = q := ⟨_, rfl⟩
            rw [hqq] at p0 p1 p2 p3 p4 hok1 hrow hsm
            obtain ⟨⟨q0, q1, q2, q3⟩, qa, ql, qc, qx⟩ := qq
            simp only at p0 p1 p2 p3 p4 hok1 hrow hsm
            have hwk : wrap64 ((k : Int) + 1) = (k : Int) + 1 := by unfold wrap64; omega
            have HWK := Lib.hid hwk
            obtain ⟨W4, hW4⟩ : ∃ W, wr.alloc (.cells #[.int .i64 q0, .int .i64 q1, .string q2, .string q3, .slice qa ql qc] 31) = W := ⟨_, rfl⟩
            have g4 : W4.heap[wr.heap.size]? = some (.cells #[.int .i64 q0, .int .i64 q1, .string q2, .string q3, .slice qa ql qc] 31 (0, 0)) := hW4 ▸ heap_alloc_new ..
            have t4 : Touch wr W4 (fun _ => False) := hW4 ▸ (Touch.refl wr _).alloc _
            have HDO := Lib.hid (rdo_any w1 W4 d m h hR st R G (HB.out.still t4) (by omega) (by omega) ⟨q0, q1, q2, q3⟩ qa ql qc qx hok1 hsm hrow)
            unfold CallK.agg at HDO
            simp only at HDO
            have HW4 := Lib.hid hW4
            have HGC : RowKit.Hid (G.length ≤ k + 0 ∧ st.C.length ≤ k + 0) := Lib.hid ⟨hg, hc⟩
            rw [e1]
            clear r1 hqq hwk hok1 hrow hsm t4 hg hc hW4
            go_upto_region 7 with (fail)
            try rw [HW4.out]
            have y0 : W4.cell? ⟨wr.heap.size, 0, none⟩ = some (.int .i64 q0) := cell_of_cells g4 0
            have y1 : W4.cell? ⟨wr.heap.size, 1, none⟩ = some (.int .i64 q1) := cell_of_cells g4 1
            have y2 : W4.cell? ⟨wr.heap.size, 2, none⟩ = some (.string q2) := cell_of_cells g4 2
            have y3 : W4.cell? ⟨wr.heap.size, 3, none⟩ = some (.string q3) := cell_of_cells g4 3
            have y4 : W4.cell? ⟨wr.heap.size, 4, none⟩ = some (.slice qa ql qc) := cell_of_cells g4 4
            clear p0 p1 p2 p3 p4 g4 HW4
            go_wp2_with fail
            (with_reducible refine HDO.out.mono ?_)
            rintro e w5 ⟨rfl, ⟨h2', hR2, st2, R2, G2, b2, hG2, hC2⟩, t5⟩
            have HX : RowKit.Hid (∃ (k' : Nat) (h : DkH) (hR : RH) (st : DkS) (R : RS) (G : List Nat), k' ≤ n ∧ Value.int .i64 ((k : Int) + 1) = .int .i64 k' ∧ Both w1 w5 d m h hR st R G ∧ G.length ≤ k' + 0 ∧ st.C.length ≤ k' + 0) := Lib.hid ⟨k + 1, _, _, _, _, _, by omega, by go_num, b2, by have := HGC.out.1; omega, by have := HGC.out.2; omega⟩
            clear b2 t5 hG2 hC2 y0 y1 y2 y3 y4
            go_wp2_with fail
            (try rw [HWK.out])
            go_roundw
            · exact HX.out
            · simp only [RowKit.intOf]; omega
theorem diskTwice_holds : Rows.DiskTwiceSaid := by
  refine diskTwice.said fun H enc W base v0 v1 v2 d0 d1 d2 p0 p1 p2 h0 h1 h2 => ?_
  obtain ⟨a, cap, L, rfl, hL, hok⟩ := h0.callsK
  obtain ⟨aa, la, ca, xa, rfl, hra, -, -⟩ := h1.bytes Try.underlying29 Try.underlying5 (by kernel_rfl) (by kernel_rfl)
  obtain ⟨ab, lb, cb, xb, rfl, hrb, -, -⟩ := h2.bytes Try.underlying29 Try.underlying5 (by kernel_rfl) (by kernel_rfl)
  exact (twice3_walk a L.length cap L W hL hok aa la ca xa hra ab lb cb xb hrb).mono fun e w' h => ⟨h.1, h.2.below (fun _ _ h => h.elim) (Nat.le_refl _)⟩
end Go.Proofs.Ytmokcfmlolohaaa
