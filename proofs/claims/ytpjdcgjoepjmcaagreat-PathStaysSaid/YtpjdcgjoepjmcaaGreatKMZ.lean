import Derived.Test.YtpjdcgjoepjmcaaGreatPathVZ
import Derived.Test.YtpjdcgjoepjmcaaGreatPathDZ
import Derived.Test.YtpjdcgjoepjmcaaGreatKLZ
import Derived.Test.YtpjdcgjoepjmcaaGreatPathWZ
import Derived.Deep.DeepCutAuto
section
set_option linter.unusedVariables false
set_option linter.unusedSimpArgs false
namespace Go.Proofs.YtpjdcgjoepjmcaaGreat
open Go.RowKit

def bk2 : BkD := ⟨2, 2, 1⟩
theorem mayF_x {t : TupD} (ht : mayTB t = true) {b g s : Int} (hb : 0 ≤ b ∧ b ≤ 65535) (hg : 0 ≤ g ∧ g ≤ 1000000) (hs : 0 ≤ s ∧ s ≤ 1099511627776) : mayFB ⟨t, b, g, s⟩ = true := by
  unfold mayFB
  rw [show mayTB (⟨t, b, g, s⟩ : FlD).t = true from ht, Bool.true_and]
  unfold rngF
  exact decide_eq_true ⟨hb, hg, hs⟩
theorem flagX0 (t : TupD) : decide (t.proto = 6 ∧ bits BinOp.and IntKind.i64 0 5 ≠ 0) = false := decide_eq_false (fun h => h.2 (by decide))
end Go.Proofs.YtpjdcgjoepjmcaaGreat

end

section
set_option linter.unusedVariables false
set_option linter.unusedSimpArgs false
namespace Go.Proofs.YtpjdcgjoepjmcaaGreat
open Go.RowKit

theorem hasF_del {M : List FlD} {t k : TupD} (h : t ≠ k) : hasF (delF M t) k = hasF M k := by
  rw [Bool.eq_iff_iff, hasF_iff, hasF_iff]
  unfold delF
  constructor
  · intro hm
    obtain ⟨x, hx, e⟩ := List.mem_map.1 hm
    exact List.mem_map.2 ⟨x, (List.mem_filter.1 hx).1, e⟩
  · intro hm
    obtain ⟨x, hx, e⟩ := List.mem_map.1 hm
    exact List.mem_map.2 ⟨x, List.mem_filter.2 ⟨hx, by simp; intro e2; exact h (e2.symm.trans e)⟩, e⟩
theorem getF_del : ∀ {M : List FlD} {t k : TupD}, t ≠ k → getF (delF M t) k = getF M k
  | [], _, _, _ => rfl
  | x :: r, t, k, h => by
    have ih := getF_del (M := r) h
    unfold delF at ih ⊢
    rw [List.filter_cons]
    by_cases hx : x.t = t
    · have hk : ¬ x.t = k := fun e => h (hx.symm.trans e)
      have e1 : (!decide (x.t = t)) = false := by rw [decide_eq_true hx]; rfl
      rw [e1, if_neg (by decide), ih]
      conv => rhs; unfold getF; rw [if_neg hk]
    · have e1 : (!decide (x.t = t)) = true := by rw [decide_eq_false hx]; rfl
      rw [e1, if_pos rfl]
      unfold getF
      by_cases hk : x.t = k
      · rw [if_pos hk, if_pos hk]
      · rw [if_neg hk, if_neg hk]; exact ih
structure HomeF (M : List FlD) (k : TupD) (hm : Int) : Prop where
  has : hasF M k = true
  get : getF M k = ⟨k, hm, 1, 0⟩
theorem HomeF.perm {M M1 : List FlD} {k : TupD} {hm : Int} (x : HomeF M k hm) (p : M1.Perm M) (nd : (M1.map FlD.t).Nodup) : HomeF M1 k hm :=
  ⟨(hasF_perm p k).trans x.has, (getF_perm p nd k).trans x.get⟩
theorem HomeF.del {M : List FlD} {k t : TupD} {hm : Int} (x : HomeF M k hm) (h : t ≠ k) : HomeF (delF M t) k hm := ⟨(hasF_del h).trans x.has, (getF_del h).trans x.get⟩
theorem HomeF.cons {M : List FlD} {k : TupD} {f : FlD} {hm : Int} (x : HomeF M k hm) (h : f.t ≠ k) : HomeF (f :: delF M f.t) k hm := by
  have y := x.del h
  refine ⟨?_, ?_⟩
  · unfold hasF; rw [List.any_cons]; have := y.has; unfold hasF at this; rw [this]; simp
  · unfold getF; rw [if_neg h]; exact y.get
theorem HomeF.other {M : List FlD} {k : TupD} {f : FlD} {hm most : Int} {ends : Bool} (x : HomeF M k hm) (h : f.t ≠ k) : HomeF (keepM M most f ends) k hm := by
  unfold keepM
  split
  · exact x.del h
  · split
    · unfold touchF
      split
      · exact x.cons (f := ⟨f.t, (getF M f.t).fb, (getF M f.t).fg, f.fs⟩) h
      · exact x
    · unfold putF
      split
      · exact x.cons h
      · exact x
theorem HomeF.same {M : List FlD} {k : TupD} {hm most : Int} (x : HomeF M k hm) : keepR M most ⟨k, hm, 1, 0⟩ false = [] ∧ HomeF (keepM M most ⟨k, hm, 1, 0⟩ false) k hm := by
  have h1 : (hasF M (⟨k, hm, 1, 0⟩ : FlD).t && decide ((getF M (⟨k, hm, 1, 0⟩ : FlD).t).fb = (⟨k, hm, 1, 0⟩ : FlD).fb)) = true := by
    show (hasF M k && decide ((getF M k).fb = hm)) = true
    rw [x.has, x.get]; simp
  have hb : touchB M k 0 = true := by unfold touchB timB; rw [x.has, x.get]; rfl
  refine ⟨by unfold keepR; simp only [h1, if_true, Bool.false_eq_true, if_false], ?_⟩
  have e : keepM M most ⟨k, hm, 1, 0⟩ false = ⟨k, hm, 1, 0⟩ :: delF M k := by
    unfold keepM
    simp only [h1, if_true, Bool.false_eq_true, if_false]
    show touchF M k 0 = _
    unfold touchF
    rw [if_pos hb, x.get]
  rw [e]
  refine ⟨?_, ?_⟩
  · unfold hasF; rw [List.any_cons]; simp
  · unfold getF; rw [if_pos rfl]
theorem home_first {k : TupD} (hk : mayTB k = true) {hm most : Int} (h1 : 0 ≤ hm ∧ hm ≤ 65535) (hmo : 0 < most) : HomeF (keepM [] most ⟨k, hm, 1, 0⟩ false) k hm := by
  have hf : mayFB ⟨k, hm, 1, 0⟩ = true := mayF_x hk h1 ⟨by decide, by decide⟩ ⟨by decide, by decide⟩
  unfold keepM
  rw [if_neg (by decide)]
  have h2 : hasF [] k = false := rfl
  simp only [h2, Bool.false_and, Bool.false_eq_true, if_false]
  unfold putF putB
  rw [hf, h2, decide_eq_true (by simpa using hmo)]
  simp only [Bool.false_or, Bool.and_self, if_true]
  refine ⟨?_, ?_⟩
  · unfold hasF; rw [List.any_cons]; simp
  · unfold getF; rw [if_pos rfl]
theorem home_back {M : List FlD} {k : TupD} {hm : Int} (x : HomeF M k hm) {bs : List BkD} (T : List Int) (n : Nat) {b : BkD} (hb : findF bs hm = some b) : backF bs T n M k = some b := by
  unfold backF
  rw [x.has, if_pos rfl, x.get, hb]
theorem findF_id {bs : List BkD} {id : Int} {b : BkD} (h : findF bs id = some b) : b.id = id ∧ b ∈ bs := by
  unfold findF at h
  exact ⟨by simpa using List.find?_some h, List.mem_of_find?_eq_some h⟩
theorem pk_other {self mtu most : Int} {bs : List BkD} {T : List Int} {n : Nat} {M : List FlD} {xs : List Nat} {k : TupD} {hm : Int} (x : HomeF M k hm) (h : whyT xs = 0 → tupT (tellT xs) ≠ k) :
    HomeF (pkF self mtu 1 0 most bs T n M xs).M k hm ∧ ((pkF self mtu 1 0 most bs T n M xs).v = 1 → (pkF self mtu 1 0 most bs T n M xs).M = M ∧ (pkF self mtu 1 0 most bs T n M xs).rs = [] ∧ (pkF self mtu 1 0 most bs T n M xs).xs = [] ∧ 0 < (pkF self mtu 1 0 most bs T n M xs).r) ∧ ((pkF self mtu 1 0 most bs T n M xs).v = 1 ∨ (pkF self mtu 1 0 most bs T n M xs).v = 2) := by
  unfold pkF
  rw [if_neg (by omega)]
  by_cases h0 : whyT xs = 0
  · rw [if_neg (fun e => e h0)]
    cases hb : backF bs T n M (tupT (tellT xs)) with
    | none => exact ⟨x, fun _ => ⟨rfl, rfl, rfl, show (0 : Int) < 10 by decide⟩, .inl rfl⟩
    | some b =>
      simp only
      by_cases hw : whyW xs mtu = 0
      · rw [if_neg (fun e => e hw)]
        exact ⟨x.other (h h0), fun e => absurd (show (2 : Int) = 1 from e) (by decide), .inr rfl⟩
      · rw [if_pos hw]
        exact ⟨x, fun _ => ⟨rfl, rfl, rfl, show (0 : Int) < ((whyW xs mtu : Nat) : Int) by omega⟩, .inl rfl⟩
  · rw [if_pos h0]
    exact ⟨x, fun _ => ⟨rfl, rfl, rfl, show (0 : Int) < ((whyT xs : Nat) : Int) by omega⟩, .inl rfl⟩
theorem pk_own {k : TupD} (ok : TupOk k) (hk : mayTB k = true) {hm most : Int} {bs : List BkD} {T : List Int} {n : Nat} {M : List FlD} (x : HomeF M k hm) {b : BkD} (hb : findF bs hm = some b) :
    ∃ zs, pkF 168364297 1500 1 0 most bs T n M (madeF (kOf k) 9 0 []) = ⟨2, 0, hm, zs, [], keepM M most ⟨k, hm, 1, 0⟩ false⟩ ∧ HomeF (keepM M most ⟨k, hm, 1, 0⟩ false) k hm := by
  obtain ⟨h1, h2⟩ := x.same (most := most)
  have hd : decide (k.proto = 6 ∧ bits BinOp.and IntKind.i64 0 5 ≠ 0) = false := flagX0 k
  refine ⟨wrapF (madeF (kOf k) 9 0 []) 168364297 b.addr, ?_, h2⟩
  rw [pk_made k ok hk 9 0 [] (by simp) (by simp) (by decide) 168364297 1500 1 0 most (by decide) bs T n M (by omega) b (home_back x T n hb), hd, (findF_id hb).1, h1]
theorem set_home (L : List BkD) (hl : L.length ≤ 12) (hm : Int) : ∃ b, findF (gsortF (L ++ [⟨hm, 77, 1⟩])) hm = some b := by
  have h1 : (⟨hm, 77, 1⟩ : BkD) ∈ gsortF (L ++ [⟨hm, 77, 1⟩]) := gsort_last (r := []) (by simp; omega) (by simp)
  exact Option.isSome_iff_exists.1 (findF_has ⟨_, h1, rfl⟩)
def bksH : List BkD := [⟨1, 1, 1⟩, ⟨2, 2, 2⟩, ⟨3, 3, 1⟩]
theorem gmayH : gmay bksH = true := by decide +kernel
theorem tup2_inj {a b c d : Value} (h : Value.tuple #[a, b] = Value.tuple #[c, d]) : a = c := by
  injection h with h
  exact (List.cons.inj (show [a, b] = [c, d] from congrArg Array.toList h)).1
theorem bkV_inj {c b : BkD} (h : bkV' c = bkV' b) : c = b := by
  unfold bkV' at h
  injection h with h
  have h5 : [Value.int .i64 c.id, .int .u32 c.addr, .int .i64 c.weight] = [Value.int .i64 b.id, .int .u32 b.addr, .int .i64 b.weight] := congrArg Array.toList h
  simp only [List.cons.injEq, Value.int.injEq, true_and, and_true] at h5
  cases c; cases b
  simp only at h5
  obtain ⟨rfl, rfl, rfl⟩ := h5
  rfl
theorem pick_home {n : Nat} (hp : Prm n) (k : TupD) (hk : mayTB k = true) : ∃ b, backF bksH (tabF bksH n) n [] k = some b ∧ findF bksH b.id = some b ∧ 0 ≤ b.id ∧ b.id ≤ 65535 := by
  obtain ⟨b, x, h1, h2, h3⟩ := pick_fact hp (fun _ => false) gmayH k
  have e : keepF (fun _ => false) bksH = bksH := by unfold keepF; simp
  rw [e] at h1 h2 h3
  have hx : x = true := by rw [h2, hk]; rfl
  subst hx
  have h4 := h3 rfl
  rw [pickV_O] at h1
  cases hp2 : pickO bksH (tabF bksH n) n k with
  | none => rw [hp2] at h1; simp [bkO] at h1
  | some c =>
    rw [hp2] at h1
    have hcb : c = b := bkV_inj (tup2_inj h1)
    subst hcb
    rw [findV_O] at h4
    cases hf : findF bksH c.id with
    | none => rw [hf] at h4; simp [bkO] at h4
    | some d =>
      rw [hf] at h4
      have hdc : d = c := bkV_inj (tup2_inj h4)
      subst hdc
      refine ⟨d, ?_, hf, ?_⟩
      · unfold backF
        have h6 : hasF [] k = false := rfl
        rw [h6, if_neg (by decide)]
        exact hp2
      · have hm := (findF_id hf).2
        have := (mayKB_iff _).1 (((gmayK_iff _).1 gmayH).2.1 d hm)
        exact ⟨this.1.1, this.1.2⟩
set_option maxRecDepth 20000 in
theorem pktO (W : World) (g : Nat) (h : FH) (M : List FlD) (d : FS W g h 8 1000 M) (C : Nat) (bs : List BkD) (T : List Int) (ab : Option Addr) (lb cb G mv : Nat) (c : ChP W C 13 bs T ab lb cb G mv) (hbs : ∀ b ∈ bs, 0 ≤ b.addr ∧ b.addr ≤ 4294967295) (k : TupD) (hm : Int) (x : HomeF M k hm) (xs : List Nat) (hne : whyT xs = 0 → tupT (tellT xs) ≠ k) (ma : Option Addr) (n mc : Nat) (hr : RowB W ma n mc xs) :
    Calls Tryz.prog 18 #[.agg (cfg23 8), .pointer (some ⟨g, 0, none⟩), .pointer (some ⟨C, 0, none⟩), .int .i64 1, .int .i64 0, .slice ma n mc] W fun e w' => ∃ (v r b : Int) (pa : Option Addr) (pn pc : Nat) (qa : Option Addr) (qn qc : Nat) (M' : List FlD), e = .returned (.agg (planV v r b (.slice pa pn pc) (.slice qa qn qc))) ∧ (v = 1 ∨ v = 2) ∧ (v = 1 → M' = M ∧ qn = 0 ∧ pn = 0 ∧ 0 < r) ∧ HomeF M' k hm ∧ FStep W w' g h 8 1000 M' := by
  refine (packet_any 168364297 13 8 20 1500 200 20000 3 1 0 W g h 8 1000 M d C 13 bs T ab lb cb G mv c (by omega) (by omega) ⟨by decide, by decide⟩ hbs ma n mc xs hr).mono ?_
  intro e w' hp
  obtain ⟨h1, h2, h3⟩ := pk_other (self := 168364297) (mtu := 1500) (most := 8) (bs := bs) (T := T) (n := 13) x hne
  generalize pkF 168364297 1500 1 0 8 bs T 13 M xs = p at *
  obtain ⟨pa, pn, pc, q, he, hx, ⟨qa, qc, rfl, -, -⟩, hs⟩ := hp
  refine ⟨p.v, p.r, p.b, pa, pn, pc, qa, p.rs.length, qc, p.M, he, h3, fun hv => ?_, h1, hs⟩
  obtain ⟨e1, e2, e3, e4⟩ := h2 hv
  refine ⟨e1, by rw [e2]; rfl, ?_, e4⟩
  have := hx.1
  rw [e3] at this
  simpa using this.symm
set_option maxRecDepth 20000 in
theorem pktK (W : World) (g : Nat) (h : FH) (M : List FlD) (d : FS W g h 8 1000 M) (C : Nat) (bs : List BkD) (T : List Int) (ab : Option Addr) (lb cb G mv : Nat) (c : ChP W C 13 bs T ab lb cb G mv) (hbs : ∀ b ∈ bs, 0 ≤ b.addr ∧ b.addr ≤ 4294967295) (k : TupD) (ok : TupOk k) (hk : mayTB k = true) (hm : Int) (x : HomeF M k hm) (b : BkD) (hb : findF bs hm = some b) (ma : Option Addr) (n mc : Nat) (hr : RowB W ma n mc (madeF (kOf k) 9 0 [])) :
    Calls Tryz.prog 18 #[.agg (cfg23 8), .pointer (some ⟨g, 0, none⟩), .pointer (some ⟨C, 0, none⟩), .int .i64 1, .int .i64 0, .slice ma n mc] W fun e w' => ∃ (pa : Option Addr) (pn pc : Nat) (qa : Option Addr) (qc : Nat) (M' : List FlD), e = .returned (.agg (planV 2 0 hm (.slice pa pn pc) (.slice qa 0 qc))) ∧ HomeF M' k hm ∧ FStep W w' g h 8 1000 M' := by
  refine (packet_any 168364297 13 8 20 1500 200 20000 3 1 0 W g h 8 1000 M d C 13 bs T ab lb cb G mv c (by omega) (by omega) ⟨by decide, by decide⟩ hbs ma n mc _ hr).mono ?_
  intro e w' hp
  obtain ⟨zs, h1, h2⟩ := pk_own (most := 8) (T := T) (n := 13) ok hk x hb
  rw [h1] at hp
  obtain ⟨pa, pn, pc, q, he, hx, ⟨qa, qc, rfl, -, -⟩, hs⟩ := hp
  exact ⟨pa, pn, pc, qa, qc, _, he, h2, hs⟩
set_option maxRecDepth 20000 in
theorem pktF (W : World) (g : Nat) (h : FH) (d : FS W g h 8 1000 []) (C : Nat) (ab : Option Addr) (lb cb G mv : Nat) (c : ChP W C 13 bksH (tabF bksH 13) ab lb cb G mv) (k : TupD) (ok : TupOk k) (hk : mayTB k = true) (b : BkD) (hb : backF bksH (tabF bksH 13) 13 [] k = some b) (hb2 : 0 ≤ b.id ∧ b.id ≤ 65535) (ma : Option Addr) (n mc : Nat) (hr : RowB W ma n mc (madeF (kOf k) 9 0 [])) :
    Calls Tryz.prog 18 #[.agg (cfg23 8), .pointer (some ⟨g, 0, none⟩), .pointer (some ⟨C, 0, none⟩), .int .i64 1, .int .i64 0, .slice ma n mc] W fun e w' => ∃ (pa : Option Addr) (pn pc : Nat) (qa : Option Addr) (qn qc : Nat) (M' : List FlD), e = .returned (.agg (planV 2 0 b.id (.slice pa pn pc) (.slice qa qn qc))) ∧ HomeF M' k b.id ∧ FStep W w' g h 8 1000 M' := by
  refine (packet_any 168364297 13 8 20 1500 200 20000 3 1 0 W g h 8 1000 [] d C 13 bksH _ ab lb cb G mv c (by omega) (by omega) ⟨by decide, by decide⟩ (fun b hb => by unfold bksH at hb; simp only [List.mem_cons, List.mem_nil_iff, or_false] at hb; rcases hb with rfl | rfl | rfl <;> exact ⟨by decide, by decide⟩) ma n mc _ hr).mono ?_
  intro e w' hp
  rw [pk_made k ok hk 9 0 [] (by simp) (by simp) (by decide) 168364297 1500 1 0 8 (by decide) bksH _ 13 [] (by omega) b hb, flagX0 k] at hp
  obtain ⟨pa, pn, pc, q, he, hx, ⟨qa, qc, rfl, -, -⟩, hs⟩ := hp
  exact ⟨pa, pn, pc, qa, _, qc, _, he, home_first hk hb2 (by decide), hs⟩
end Go.Proofs.YtpjdcgjoepjmcaaGreat

end

section
set_option linter.unusedVariables false
set_option linter.unusedSimpArgs false
namespace Go.Proofs.YtpjdcgjoepjmcaaGreat
open Go.RowKit

def goneV23 (g : Nat) : Value := .func (.func 43) #[] #[.pointer (some ⟨g, 0, none⟩)]

set_option maxRecDepth 20000 in
theorem gone23_any (a : Option Addr) (len cap : Nat) (w : World) :
    Calls Tryz.prog 15 #[.slice a len cap] w fun e w' => e = .returned (goneV23 w.heap.size) ∧ w' = w.alloc (.cells #[.slice a len cap] 40) := by
  go_enter Tryz.func15, Tryz.ntmps15
  go_wp2_with fail
  go_ret
  exact ⟨rfl, rfl⟩

set_option maxRecDepth 20000 in
set_option maxHeartbeats 1000000 in
theorem gone123_any (g : Nat) (a : Option Addr) (len cap : Nat) (xs : List Int) (id : Int) (w : World) (hg : w.cell? ⟨g, 0, none⟩ = some (.slice a len cap)) (hr : RowI w a len cap xs) :
    Calls Tryz.prog 43 #[.int .i64 id, .pointer (some ⟨g, 0, none⟩)] w fun e w' => e = .returned (.bool (outB xs id)) ∧ w = w' := by
  have hl := hr.1
  have hcap := hr.2.2.1
  have hcap1 := hr.2.1
  have HR := Lib.hid hr
  have HL := Lib.hid hl
  clear hr hl
  go_enter Tryz.func43, Tryz.ntmps43
  go_wp2_with fail
  go_loopw [8] (fun i wr => ∃ k : Nat, k ≤ len ∧ i = .int .i64 k ∧ wr = w ∧ outB (xs.take k) id = false) (fun i _ => len - (intOf i).toNat)
  case atStart => exact ⟨0, Nat.zero_le _, rfl, rfl, outB_nil _⟩
  case round =>
    obtain ⟨k, hk, rfl, rfl, hf⟩ := hrel
    have HF := Lib.hid hf
    clear hf
    by_cases hlt : k < len
    case neg =>
      obtain rfl : len = k := by omega
      have hlt' : ¬ (len : Int) < len := by omega
      have HE : RowKit.Hid (outB xs id = false) := Lib.hid (by have := HF.out; rwa [← HL.out, List.take_length] at this)
      go_wp2
      go_ret
      exact ⟨by rw [HE.out]; rfl, rfl⟩
    case pos =>
    obtain ⟨b, off, rfl, hc⟩ := HR.out.some (by omega)
    have hk1 : k < xs.length := by rw [HL.out]; exact hlt
    have c0 := hc k hk1
    have HS : RowKit.Hid (xs.take (k + 1) = xs.take k ++ [xs[k]]) := Lib.hid (List.take_succ_eq_append_getElem hk1)
    have HM : RowKit.Hid (xs[k] ∈ xs) := Lib.hid (List.getElem_mem hk1)
    generalize xs[k] = x at *
    have hlI : (k : Int) < len := by omega
    clear hc
    by_cases hx : x = id
    · subst hx
      have HE : RowKit.Hid (outB xs x = true) := Lib.hid (outB_mem HM.out)
      go_wp2
      go_ret
      exact ⟨by rw [HE.out]; rfl, rfl⟩
    · have hb : (x == id) = false := beq_eq_false_iff_ne.2 hx
      go_wp2
      exact ⟨⟨k + 1, hlt, by go_num, trivial, by rw [HS.out, outB_snoc, HF.out, hb]; rfl⟩, by simp [intOf]; omega⟩

theorem has_gone23 (g : Nat) (a : Option Addr) (len cap : Nat) (xs : List Int) (id : Int) (w : World) (hg : w.cell? ⟨g, 0, none⟩ = some (.slice a len cap)) (hr : RowI w a len cap xs) :
    Calls Tryz.prog 41 #[goneV23 g, .int .i64 id] w fun e w' => e = .returned (.bool (outB xs id)) ∧ w = w' := by
  have HG := Lib.hid (gone123_any g a len cap xs id w hg hr)
  have hnn : ∀ W : World, (binOp BinOp.neq 105 (.func (.func 43) #[] #[.pointer (some ⟨g, 0, none⟩)]) Value.nilFunc).run Tryz.prog W = .ok (.bool true) W := fun W => by kernel_rfl
  unfold goneV23
  clear hg hr
  generalize outB xs id = x at *
  go_enter Tryz.func41, Tryz.ntmps41
  go_wp2_with (go_at_call 43; (with_reducible refine HG.out.mono ?_); rintro e w9 ⟨rfl, rfl⟩)
  go_ret
  exact ⟨rfl, rfl⟩

theorem says_gone23 (g : Nat) (a : Option Addr) (len cap : Nat) (xs : List Int) (id : Int) (w : World) (hg : w.cell? ⟨g, 0, none⟩ = some (.slice a len cap)) (hr : RowI w a len cap xs) :
    Calls Tryz.prog 75 #[.func (.func 41) #[goneV23 g] #[], .int .i64 id] w fun e w' => e = .returned (.bool (outB xs id)) ∧ Touch w w' (fun _ => False) := by
  have t1 := (Touch.refl w (fun _ => False)).alloc (.cells #[.bool false] 4)
  have HG := Lib.hid (has_gone23 g a len cap xs id (w.alloc (.cells #[.bool false] 4)) ((t1.cell (block_lt_of_cell hg) (fun h => h)).trans hg) (hr.still t1))
  have hnf : ∀ W : World, (binOp BinOp.neq 45 (.func (.func 41) #[goneV23 g] #[]) Value.nilFunc).run Tryz.prog W = .ok (.bool true) W := fun W => by kernel_rfl
  clear hg hr
  generalize outB xs id = x at *
  go_enter_defers Tryz.func75, Tryz.ntmps75
  go_wp2_with (go_at_call 41; (with_reducible refine HG.out.mono ?_); rintro e w9 ⟨rfl, rfl⟩)
  refine leaves_cons (f := 103) (args := #[.pointer (some ⟨w.heap.size, 0, none⟩)]) (by simp) (by simp [go_sem]) ?_
  refine (catch_idle ⟨w.heap.size, 0, none⟩ _).mono ?_
  rintro e u' w'' ⟨rfl, rfl, rfl⟩
  simp [Leaves, settle, results, Tryz.results75, go_sem]
  exact (Touch.refl w _).alloc _


set_option maxRecDepth 20000 in
set_option maxHeartbeats 4000000 in
theorem set_bad (n : Nat) (C : Nat) (ab : Option Addr) (lb cb : Nat) (at_ : Option Addr) (lt ct m : Nat) (a : Option Addr) (len cap : Nat) (bs : List BkD) (fv : Value) (w : World) (hp : Prm n)
    (hc : w.heap[C]? = some (.cells (chC n ab lb cb at_ lt ct m) 100 (0, 0))) (hr : RowK w a len cap bs) (hg : gmay bs = false) :
    Calls Tryz.prog 14 #[.pointer (some ⟨C, 0, none⟩), .slice a len cap, fv] w fun e w' => e = .returned (.int .i64 1) ∧ Touch w w' (fun _ => False) := by
  have h3 := hp.lo
  have h251 := hp.hi
  have HM := Lib.hid (fun W => mayS_any n W h3 h251)
  rw [prm_may hp] at HM
  have HGM := Lib.hid (gmay_any a len cap bs w hr)
  rw [hg] at HGM
  have c0 : w.cell? ⟨C, 0, none⟩ = some (.int .i64 (n : Nat)) := cell_of_cells hc 0
  clear hr hg hp hc
  go_enter Tryz.func14, Tryz.ntmps14
  go_wp2_with (first
    | (go_at_call 36; (with_reducible refine (HM.out _).mono ?_); rintro e w9 ⟨rfl, rfl⟩)
    | (go_at_call 39; (with_reducible refine HGM.out.mono ?_); rintro e w9 ⟨rfl, t9⟩))
  go_ret
  exact ⟨rfl, t9⟩
end Go.Proofs.YtpjdcgjoepjmcaaGreat

end
