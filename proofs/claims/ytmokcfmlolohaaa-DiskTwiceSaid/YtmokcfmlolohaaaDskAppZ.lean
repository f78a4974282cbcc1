/- A disk's Append. -/
import Derived.Test.YtmokcfmlolohaaaDskNamZ
set_option linter.unusedVariables false
set_option linter.unusedSimpArgs false
namespace Go.Proofs.Ytmokcfmlolohaaa
open Go.RowKit

def dkAppE (st : DkS) (k : ByteArray) (n : Nat) : Int :=
  if st.fail = 1 then 8 else if ¬ (1 ≤ k.size ∧ k.size ≤ 16) then 1 else if dkRoom st (getN st.N k) n then 0 else 7
def dkAppS (st : DkS) (k : ByteArray) (g : Nat) (xs : List Nat) : DkS :=
  if dkAppE st k xs.length ≠ 0 then dkOp st else match getN st.N k with
    | none => { dkOp st with C := st.C ++ [⟨0, k, ⟨#[]⟩, some g⟩], F := fPut st.F g ⟨xs, 0⟩ }
    | some f => { dkOp st with F := fPut st.F f ⟨(st.F f).b ++ xs, (st.F f).s⟩ }
theorem fPut_fPut (F : Nat → DkFc) (g : Nat) (f f' : DkFc) : fPut (fPut F g f) g f' = fPut F g f' := by
  funext k
  unfold fPut
  split <;> rfl
theorem nat_append (ops : Int) : True := trivial
set_option maxRecDepth 20000 in
set_option maxHeartbeats 16000000 in
theorem dapp_any (w : World) (d : Nat) (h : DkH) (st : DkS) (m : DkM w d h st) (k : ByteArray) (hk : szN k) (a : Option Addr) (len cap : Nat) (xs : List Nat) (hr : RowB w a len cap xs) (hoff : ∀ x, a = some x → len = 0 ∨ ¬ footK h x.block) (hCl : st.C.length ≤ 100000) :
    Calls Try.prog 23 #[.pointer (some ⟨d, 0, none⟩), .string k, .slice a len cap] w fun e w' => ∃ g, h.T g = .out ∧ e = .returned (.int .i64 (dkAppE st k xs.length)) ∧ DkStep w w' d h (dkAppS st k g xs) := by
  have HB := Lib.hid (dbegin_any w d h st m)
  have HM := Lib.hid m
  have HNM := Lib.hid (fun W => disName_any W k hk)
  have HK := Lib.hid hk
  have HR := Lib.hid hr
  have HOFF := Lib.hid hoff
  have hlx : xs.length = len := hr.1
  have hbig : len ≤ 281474976710656 := hr.2.2.2.1
  have HG0 : RowKit.Hid (h.T w.heap.size = .out) := Lib.hid (by
    cases hT : h.T w.heap.size with
    | out => rfl
    | _ => have := m.lt w.heap.size (by rw [hT]; simp); omega)
  rw [hlx]
  by_cases h1 : st.fail = 1
  · have eE : dkAppE st k len = 8 := by unfold dkAppE; rw [if_pos h1]
    have eS : ∀ g, dkAppS st k g xs = dkOp st := fun g => by unfold dkAppS; rw [hlx, eE, if_pos (by decide)]
    have eb : dkBeg st = 8 := by unfold dkBeg; rw [if_pos h1]
    rw [eb] at HB
    simp only [eE, eS]
    clear m hr hoff h1 eE eS eb
    go_enter Try.func23, Try.ntmps23
    go_wp2_with fail
    refine HB.out.mono ?_
    rintro e w1 ⟨rfl, m1, t1⟩
    have HRR := Lib.hid (HM.out.top m1 t1)
    clear m1 t1
    go_wp2_with fail
    go_ret
    exact ⟨_, HG0.out, rfl, HRR.out⟩
  have eb : dkBeg st = 0 := by unfold dkBeg; rw [if_neg h1]
  rw [eb] at HB
  by_cases h2 : 1 ≤ k.size ∧ k.size ≤ 16
  case neg =>
    have eE : dkAppE st k len = 1 := by unfold dkAppE; rw [if_neg h1, if_pos h2]
    have eS : ∀ g, dkAppS st k g xs = dkOp st := fun g => by unfold dkAppS; rw [hlx, eE, if_pos (by decide)]
    rw [decide_eq_false h2] at HNM
    simp only [eE, eS]
    clear m hr hoff h1 eE eS eb h2
    go_enter Try.func23, Try.ntmps23
    go_wp2_with fail
    refine HB.out.mono ?_
    rintro e w1 ⟨rfl, m1, t1⟩
    have HRR := Lib.hid (HM.out.top m1 t1)
    clear m1 t1
    go_wp2_with fail
    refine (HNM.out _).mono ?_
    rintro e w2 ⟨rfl, rfl⟩
    go_wp2_with fail
    go_ret
    exact ⟨_, HG0.out, rfl, HRR.out⟩
  rw [decide_eq_true h2] at HNM
  have HK2 := Lib.hid h2
  obtain ⟨o, ho⟩ : ∃ o, getN st.N k = o := ⟨_, rfl⟩
  have hog : ∀ g, o = some g → h.T g = .fb := fun g e => m.get (ho.trans e)
  have HO := Lib.hid ho
  have HOG := Lib.hid hog
  have HRM : RowKit.Hid (∀ W, DkM W d h (dkOp st) → Calls Try.prog 55 #[.pointer (some ⟨d, 0, none⟩), pvN o, .int .i64 len] W fun e w' => e = .returned (.bool (dkRoom st o len)) ∧ Touch W w' (fun _ => False)) := Lib.hid (fun W m1 => droom_any W d h (dkOp st) m1 o HOG.out len hbig)
  have HLK : RowKit.Hid (∀ W, DkM W d h (dkOp st) → (Instr.lookup 62 (.map (some h.mn)) (.string k) false).run Try.prog W = .ok (pvN o) W) := Lib.hid (fun W m1 => by have := m1.nm.get HK.out; rwa [dkOp_N, HO.out] at this)
  by_cases h3 : dkRoom st o len = true
  case neg =>
    have h3' : dkRoom st o len = false := by simpa using h3
    have eE : dkAppE st k len = 7 := by unfold dkAppE; rw [if_neg h1, if_neg (fun h => h h2), ho, if_neg h3]
    have eS : ∀ g, dkAppS st k g xs = dkOp st := fun g => by unfold dkAppS; rw [hlx, eE, if_pos (by decide)]
    rw [h3'] at HRM
    simp only [eE, eS]
    clear m hr hoff h1 eE eS eb h2 h3 h3' ho hog
    obtain ⟨xo, hxo⟩ : ∃ x, pvN o = .pointer x := ⟨_, rfl⟩
    rw [hxo] at HRM HLK
    clear hxo
    go_enter Try.func23, Try.ntmps23
    go_wp2_with fail
    refine HB.out.mono ?_
    rintro e w1 ⟨rfl, m1, t1⟩
    obtain ⟨c0, c1, -, -, -, -⟩ := m1.cells
    have hlk := HLK.out w1 m1
    have hrm := Lib.hid (HRM.out w1 m1)
    have HM1 := Lib.hid m1
    have HT1 := Lib.hid t1
    clear m1 t1 c0
    go_wp2_with fail
    refine (HNM.out _).mono ?_
    rintro e w2 ⟨rfl, rfl⟩
    go_wp2_with fail
    refine hrm.out.mono ?_
    rintro e w3 ⟨rfl, t3⟩
    have HRR := Lib.hid (HM.out.then HM1.out HT1.out (HM1.out.after t3 (DkStep.refl (HM1.out.still t3))))
    clear t3
    go_wp2_with fail
    go_ret
    exact ⟨_, HG0.out, rfl, HRR.out⟩
  have eE : dkAppE st k len = 0 := by unfold dkAppE; rw [if_neg h1, if_neg (fun h => h h2), ho, if_pos h3]
  have HRO : RowKit.Hid (dkRoom st o len = true) := Lib.hid h3
  rw [h3] at HRM
  rw [eE]
  cases o with
  | some f =>
    have eS : ∀ g, dkAppS st k g xs = { dkOp st with F := fPut st.F f ⟨(st.F f).b ++ xs, (st.F f).s⟩ } := fun g => by unfold dkAppS; rw [hlx, eE, if_neg (by decide), ho]
    refine (?_ : Calls _ _ _ _ (fun e w' => e = .returned (.int .i64 0) ∧ DkStep w w' d h { dkOp st with F := fPut st.F f ⟨(st.F f).b ++ xs, (st.F f).s⟩ })).mono (fun e w' hh => ⟨_, HG0.out, hh.1, by rw [eS]; exact hh.2⟩)
    simp only [pvN, Option.map_some] at HRM HLK
    have HF := Lib.hid (HOG.out f rfl)
    have hroom : (st.F f).b.length + len ≤ 1048576 := by
      have := HRO.out
      unfold dkRoom at this
      rw [Bool.and_eq_true] at this
      exact of_decide_eq_true this.2
    have HRL := Lib.hid hroom
    clear m hr hoff h1 eE eS eb h2 h3 ho hog hroom
    go_enter Try.func23, Try.ntmps23
    go_wp2_with fail
    refine HB.out.mono ?_
    rintro e w1 ⟨rfl, m1, t1⟩
    obtain ⟨c0, c1, -, -, -, -⟩ := m1.cells
    have hlk := HLK.out w1 m1
    have hrm := Lib.hid (HRM.out w1 m1)
    have HM1 := Lib.hid m1
    have HT1 := Lib.hid t1
    clear m1 t1 c0
    go_wp2_with fail
    refine (HNM.out _).mono ?_
    rintro e w2 ⟨rfl, rfl⟩
    go_wp2_with fail
    refine hrm.out.mono ?_
    rintro e w3 ⟨rfl, t3⟩
    have HM3 := Lib.hid (HM1.out.still t3)
    have ff := HM3.out.files f HF.out
    obtain ⟨y0, -⟩ := ff.cells
    have e9 : (dkOp st).F f = st.F f := rfl
    rw [e9] at y0
    have HOW : RowKit.Hid (OwnB w3 0 5 (.slice (h.ao f) (st.F f).b.length (h.co f)) (st.F f).b) := Lib.hid ff.own
    have HRW := Lib.hid ((HR.out.touch HT1.out (fun x hx => (HOFF.out x hx).imp (fun h => h) (fun hn e => hn (by rw [e]; exact footK_d HM.out)))).touch t3 (fun _ _ => .inr (fun h => h)))
    have HT3 := Lib.hid t3
    have HHD : RowKit.Hid (w3.heap[f]? = some (.cells #[.slice (h.ao f) (st.F f).b.length (h.co f), .int .i64 (st.F f).s] 74 (0, 0))) := Lib.hid ff.head
    have HAR : RowKit.Hid (∀ y, h.ao f = some y → y.block ≠ f) := Lib.hid (fun y hy e => by have h1 := ff.arr y hy; rw [e, HF.out] at h1; cases h1)
    have HSU : RowKit.Hid ((st.F f).s ≤ (st.F f).b.length) := Lib.hid ff.sure
    obtain ⟨L, hL⟩ : ∃ L, (st.F f).b.length = L := ⟨_, rfl⟩
    rw [hL] at y0 HOW HHD HRL
    have HLL := Lib.hid hL
    have hL1 : L + len ≤ 1048576 := HRL.out
    clear ff t3 e9 hL c1 hlk
    go_wp2_with (at_builtin; refine wpList_appendB rfl _ _ 29 rfl 5 Try.underlying29 infoB 0 (.slice (h.ao f) L (h.co f)) (st.F f).b rfl HOW.out _ _ _ xs rfl HRW.out (L + len) ((st.F f).b ++ xs) rfl (by rw [List.length_append, HLL.out, HRW.out.1]) (by omega) (Nat.zero_le _) 0 w3 (Below.refl _ _) (Nat.le_refl _) ?_; intro a5 c5 w5 hown5 hr5 hg5 hb5 hs5 hp5 hl5; have t5 : Touch w3 w5 (fun k => (h.ao f).map (·.block) = some k) := (Touch.refl w3 (fun k => (h.ao f).map (·.block) = some k)).grown hg5 (fun k hk _ => by obtain ⟨y, hy, hyk⟩ := bown_block hk; rw [hy]; simpa using hyk); have HO5 := Lib.hid hown5; have HT5 := Lib.hid t5; have HP5 := Lib.hid hl5; clear hr5 hb5 hs5 hp5 hg5 hl5 t5 hown5; have g5 := HT5.out.keeps HHD.out (fun e => by obtain ⟨y, hy, hyk⟩ := some_block e; exact HAR.out y hy hyk); have z0 := cell_of_cells g5 0; have zf := free_of_cells g5 0)
    obtain ⟨W6, hW6⟩ : ∃ W, w5.setCell ⟨f, 0, none⟩ (.slice a5 (L + len) c5) = W := ⟨_, rfl⟩
    have g6 := heap_setCell_same w5 f 0 _ _ (.slice a5 (L + len) c5) g5
    rw [hW6] at g6 ⊢
    have t6 : Touch w5 W6 (fun k => k = f) := hW6 ▸ (Touch.refl w5 _).into 0 _
    have HRR : RowKit.Hid (DkStep w W6 d h { dkOp st with F := fPut st.F f ⟨(st.F f).b ++ xs, (st.F f).s⟩ }) := Lib.hid (by
      have el : ((st.F f).b ++ xs).length = L + len := by rw [List.length_append, HLL.out, HR.out.1]
      refine HM.out.then HM1.out HT1.out (HM1.out.after HT3.out (HM3.out.filed HF.out ⟨(st.F f).b ++ xs, (st.F f).s⟩ ((HT5.out.mono (T := fun k => k = f ∨ (h.ao f).map (·.block) = some k) (fun _ _ e => .inr e)).trans t6 (fun _ _ e => .inl e)) (a2 := a5) (c2 := c5) ?_ ?_ ?_ ?_ ?_))
      · simp only [el]; exact g6
      · simp only [el]
        exact HO5.out.touch t6 (fun k hk e => by
          have e : k = f := e
          subst e
          rcases HP5.out k hk with h7 | h7
          · obtain ⟨y, hy, hyk⟩ := bown_block h7; exact HAR.out y hy hyk
          · have := heap_lt HHD.out; omega)
      · simp only [el]; exact hL1
      · simp only [el]; have := HSU.out; rw [HLL.out] at this; omega
      · intro b hb
        rcases HP5.out b (own_of hb) with h7 | h7
        · obtain ⟨y, hy, hyk⟩ := bown_block h7
          exact .inl (by rw [hy]; simpa using hyk)
        · exact .inr h7)
    clear g5 z0 zf g6 t6 hW6
    go_wp2_with fail
    go_ret
    exact ⟨rfl, HRR.out⟩
  | none =>
    have eS : ∀ g, dkAppS st k g xs = { dkOp st with C := st.C ++ [⟨0, k, ⟨#[]⟩, some g⟩], F := fPut st.F g ⟨xs, 0⟩ } := fun g => by unfold dkAppS; rw [hlx, eE, if_neg (by decide), ho]
    simp only [eS]
    simp only [pvN, Option.map_none] at HRM HLK
    have hroom : len ≤ 1048576 ∧ st.N.length < 200 := by
      have := HRO.out
      unfold dkRoom at this
      rw [Bool.and_eq_true, Bool.and_eq_true] at this
      exact ⟨of_decide_eq_true this.2.1, of_decide_eq_true this.2.2⟩
    have HRL := Lib.hid hroom
    have hlen := hroom.1
    clear m hr hoff h1 eE eS eb h2 h3 ho hog hroom
    go_enter Try.func23, Try.ntmps23
    go_wp2_with fail
    refine HB.out.mono ?_
    rintro e w1 ⟨rfl, m1, t1⟩
    obtain ⟨c0, c1, -, -, -, -⟩ := m1.cells
    have hlk := HLK.out w1 m1
    have hrm := Lib.hid (HRM.out w1 m1)
    have HM1 := Lib.hid m1
    have HT1 := Lib.hid t1
    clear m1 t1 c0
    go_wp2_with fail
    refine (HNM.out _).mono ?_
    rintro e w2 ⟨rfl, rfl⟩
    go_wp2_with fail
    refine hrm.out.mono ?_
    rintro e w3 ⟨rfl, t3⟩
    have HM3 := Lib.hid (HM1.out.still t3)
    obtain ⟨W4, hW4⟩ : ∃ W, w3.alloc (.cells #[.slice none 0 0, .int .i64 0] 74) = W := ⟨_, rfl⟩
    obtain ⟨h4, m4, mo4, hT4, ne4, t4, hTT⟩ := HM3.out.newfile hW4.symm
    obtain ⟨g, hg⟩ : ∃ g, w3.heap.size = g := ⟨_, rfl⟩
    rw [hg] at m4 hT4 hTT
    have hgd : DkGood h4.T (dkDo st.N ⟨0, k, ⟨#[]⟩, some g⟩) := by
      unfold dkDo
      rw [if_pos rfl]
      refine (HM.out.goodN.mono mo4).put k HK2.out g hT4 ?_
      have := putN_len HM.out.goodN.nd k (some g)
      have := HRL.out.2
      split at * <;> omega
    have HCH := Lib.hid (dchange_any W4 d h4 _ m4 ⟨0, k, ⟨#[]⟩, some g⟩ hCl (.inl rfl) ⟨HK.out, show szN ⟨#[]⟩ by unfold szN; decide⟩ hgd)
    have HRW4 := Lib.hid (((HR.out.touch HT1.out (fun x hx => (HOFF.out x hx).imp (fun h => h) (fun hn e => hn (by rw [e]; exact footK_d HM.out)))).touch t3 (fun _ _ => .inr (fun h => h))).touch (show Touch w3 W4 (fun _ => False) from hW4 ▸ (Touch.refl w3 _).alloc _) (fun _ _ => .inr (fun h => h)))
    have HGO : RowKit.Hid (h.T g = .out) := Lib.hid (by
      cases hT : h.T g with
      | out => rfl
      | _ => have := HM3.out.lt g (by rw [hT]; simp); omega)
    have HS34 : RowKit.Hid (∀ w9 st', DkStep W4 w9 d h4 st' → DkStep w w9 d h st') := Lib.hid (fun w9 st' s => HM.out.then HM1.out HT1.out (HM1.out.after t3 (DkStep.trans m4 t4 mo4 ne4 s)))
    have HNE : RowKit.Hid (∀ x, a = some x → len = 0 ∨ ¬ footK h4 x.block) := Lib.hid (fun x hx => by
      rcases HOFF.out x hx with h5 | h5
      · exact .inl h5
      · rcases HR.out.lt x hx with h6 | h6
        · exact .inl h6
        · refine .inr (fun h7 => ?_)
          rcases ne4 _ h7 with h8 | h8
          · exact h5 h8
          · have := HT1.out.size; have := t3.size; omega)
    have HT4G := Lib.hid hT4
    have HW4 := Lib.hid hW4
    have HGG := Lib.hid hg
    have hmp := map_someN h.mn w3
    simp only [dka, pvN, Option.map_some] at HCH
    clear t3 hW4 m4 mo4 hT4 ne4 t4 hTT hgd hg hlk c1
    go_wp2_with fail
    rw [HW4.out, HGG.out]
    refine HCH.out.mono ?_
    rintro e w5 ⟨rfl, h5, m5, t5, mo5, ne5⟩
    have hTg := mo5 g HT4G.out
    have ff := m5.files g hTg
    have e9 : (fPut (dkOp st).F g ⟨[], 0⟩) g = ⟨[], 0⟩ := by unfold fPut; rw [if_pos rfl]
    obtain ⟨y0, -⟩ := ff.cells
    simp only [e9, List.length_nil] at y0
    have hown := ff.own
    have hhd := ff.head
    simp only [e9, List.length_nil] at hown hhd
    have HOW := Lib.hid hown
    have HHD := Lib.hid hhd
    have HAR : RowKit.Hid (∀ y, h5.ao g = some y → y.block ≠ g) := Lib.hid (fun y hy e => by have h1 := ff.arr y hy; rw [e, hTg] at h1; cases h1)
    have HRW := Lib.hid (HRW4.out.touch t5 HNE.out)
    have HS5 : RowKit.Hid (∀ w9 st', DkStep w5 w9 d h5 st' → DkStep w w9 d h st') := Lib.hid (fun w9 st' s => HS34.out w9 st' (DkStep.trans m5 t5 mo5 ne5 s))
    have HM5 := Lib.hid m5
    have HTG := Lib.hid hTg
    clear m5 t5 mo5 ne5 hTg ff e9 hown hhd
    go_wp2_with (at_builtin; refine wpList_appendB rfl _ _ 29 rfl 5 Try.underlying29 infoB 0 (.slice (h5.ao g) 0 (h5.co g)) [] rfl HOW.out _ _ _ xs rfl HRW.out len xs rfl HRW.out.1 (by omega) (Nat.zero_le _) 0 w5 (Below.refl _ _) (Nat.le_refl _) ?_; intro a7 c7 w7 hown7 hr7 hg7 hb7 hs7 hp7 hl7; have t7 : Touch w5 w7 (fun k => (h5.ao g).map (·.block) = some k) := (Touch.refl w5 (fun k => (h5.ao g).map (·.block) = some k)).grown hg7 (fun k hk _ => by obtain ⟨y, hy, hyk⟩ := bown_block hk; rw [hy]; simpa using hyk); have HO7 := Lib.hid hown7; have HT7 := Lib.hid t7; have HP7 := Lib.hid hl7; clear hr7 hb7 hs7 hp7 hg7 hl7 t7 hown7; have g7 := HT7.out.keeps HHD.out (fun e => by obtain ⟨y, hy, hyk⟩ := some_block e; exact HAR.out y hy hyk); have z0 := cell_of_cells g7 0; have zf := free_of_cells g7 0)
    obtain ⟨W8, hW8⟩ : ∃ W, w7.setCell ⟨g, 0, none⟩ (.slice a7 len c7) = W := ⟨_, rfl⟩
    have g8 := heap_setCell_same w7 g 0 _ _ (.slice a7 len c7) g7
    rw [hW8] at g8 ⊢
    have t8 : Touch w7 W8 (fun k => k = g) := hW8 ▸ (Touch.refl w7 _).into 0 _
    have HRR : RowKit.Hid (DkStep w W8 d h { dkOp st with C := st.C ++ [⟨0, k, ⟨#[]⟩, some g⟩], F := fPut st.F g ⟨xs, 0⟩ }) := Lib.hid (by
      have s := HM5.out.filed HTG.out ⟨xs, 0⟩ ((HT7.out.mono (T := fun k => k = g ∨ (h5.ao g).map (·.block) = some k) (fun _ _ e => .inr e)).trans t8 (fun _ _ e => .inl e)) (a2 := a7) (c2 := c7) (by simp only [hlx]; exact g8) (by
          simp only [hlx]
          exact HO7.out.touch t8 (fun k hk e => by
            have e : k = g := e
            subst e
            rcases HP7.out k hk with h7 | h7
            · obtain ⟨y, hy, hyk⟩ := bown_block h7; exact HAR.out y hy hyk
            · have := heap_lt HHD.out; omega)) (by simp only [hlx]; exact hlen) (Nat.zero_le _) (fun b hb => by
          rcases HP7.out b (own_of hb) with h7 | h7
          · obtain ⟨y, hy, hyk⟩ := bown_block h7
            exact .inl (by rw [hy]; simpa using hyk)
          · exact .inr h7)
      have s2 := HS5.out _ _ s
      simp only [fPut_fPut] at s2
      exact s2)
    clear g7 z0 zf g8 t8 hW8
    go_wp2_with fail
    go_ret
    exact ⟨g, HGO.out, rfl, HRR.out⟩
end Go.Proofs.Ytmokcfmlolohaaa
