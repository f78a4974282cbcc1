/- GN: FlowCalls, FlowBndM, DueOrdM, FlowTwo. -/
import Derived.Test.YtgmimdnebgncoaaGMZ
import Derived.Test.YtgmimdnebgncoaaFlowsApartZ
import Derived.Test.YtgmimdnebgncoaaDueTwoZ
section
/- Calls to a table of flows that came in. -/
set_option linter.unusedVariables false
set_option linter.unusedSimpArgs false
namespace Go.Proofs.Ytgmimdnebgncoaa
open Go.ChangeShapes Go.WideShapes Go.ChangeAt Go.RowKit

structure CallF where
  do_ : Int
  f : FlD
  now : Int
def CallF.cells (c : CallF) : List Value := .int .i64 c.do_ :: (fcl c.f ++ [.int .i64 c.now])
structure CallFOk (c : CallF) : Prop where
  d : i64 c.do_
  f : FlOk c.f
  n : i64 c.now
def gcF (l : List CallF) (i : Nat) : CallF := l.getD i ⟨0, noF, 0⟩
theorem gcF_get (l : List CallF) (i : Nat) (h : i < l.length) : gcF l i = l[i] := by unfold gcF; rw [List.getD_eq_getElem?_getD, List.getElem?_eq_getElem h]; rfl
theorem gcF_mem (l : List CallF) (i : Nat) (h : i < l.length) : gcF l i ∈ l := by rw [gcF_get l i h]; exact List.getElem_mem h
variable {H : Type} {enc : TypeId × Value → H} {W : World} {base : Nat} {v : Value} {d : DataW H} {p : List MemPlace} {cs : List Value}
theorem listTen {α : Type} {l : List α} (h : l.length = 10) : ∃ a b c d e f g i j k, l = [a, b, c, d, e, f, g, i, j, k] := by
  match l, h with
  | [a, b, c, d, e, f, g, i, j, k], _ => exact ⟨a, b, c, d, e, f, g, i, j, k, rfl⟩
theorem listThree {α : Type} {l : List α} (h : l.length = 3) : ∃ a b c, l = [a, b, c] := by
  match l, h with
  | [a, b, c], _ => exact ⟨a, b, c, rfl⟩
theorem Tr.callF (h : Tr enc Try.prog W 49 cs d) : ∃ c : CallF, cs = c.cells ∧ CallFOk c := by
  obtain ⟨ds, hd, hl, hc, hf⟩ := h.struct Try.underlying49
  have hcc : Try.prog.cellsOf 49 = 10 := by kernel_rfl
  have hcf : Try.prog.cellsOf 26 = 8 := by kernel_rfl
  rw [hcc] at hc
  obtain ⟨u1, u2, u3, u4, u5, u6, u7, u8, u9, u10, rfl⟩ := listTen hc
  obtain ⟨f0, f1, f2, rfl⟩ := listThree (l := ds) (by simpa using hl)
  have k0 : Tr enc Try.prog W 3 ((([u1, u2, u3, u4, u5, u6, u7, u8, u9, u10] : List Value).drop 0).take (Try.prog.cellsOf 3)) f0 := hf 0 _ f0 rfl rfl
  have k1 : Tr enc Try.prog W 26 ((([u1, u2, u3, u4, u5, u6, u7, u8, u9, u10] : List Value).drop 1).take (Try.prog.cellsOf 26)) f1 := hf 1 _ f1 rfl rfl
  have k2 : Tr enc Try.prog W 2 ((([u1, u2, u3, u4, u5, u6, u7, u8, u9, u10] : List Value).drop 9).take (Try.prog.cellsOf 2)) f2 := hf 2 _ f2 rfl rfl
  rw [cint] at k0
  rw [hcf] at k1
  rw [cint64] at k2
  obtain ⟨f, gf, hfo⟩ := k1.flD
  obtain ⟨y1, q1, m1, n1, _⟩ := k0.i64 Try.underlying3
  obtain ⟨y2, q2, m2, n2, _⟩ := k2.i64 Try.underlying2
  simp at q1 q2 gf
  subst q1 q2
  refine ⟨⟨y1, f, y2⟩, ?_, ⟨⟨m1, n1⟩, hfo, ⟨m2, n2⟩⟩⟩
  unfold CallF.cells
  simp only
  rw [← gf]
  rfl
set_option maxRecDepth 20000 in
theorem ArgIn.callsF (h : ArgIn enc Try.prog W base 47 v d p) : ∃ (a : Option Addr) (cap : Nat) (l : List CallF), v = .slice a l.length cap ∧ RowS W a l.length cap 10 (l.map CallF.cells) ∧ (∀ c ∈ l, CallFOk c) := by
  obtain ⟨a0, len0, cap0, rfl⟩ := okWide_slice Try.underlying47 h.ok
  obtain ⟨a, cap, bs, hcs, hr, hok, _⟩ := h.tr.rowsOf CallF.cells CallFOk 10 Try.underlying47 (by kernel_rfl) (fun _ => rfl) (by decide) (fun cs d h => h.callF)
  simp [Value.cells] at hcs
  obtain ⟨rfl, rfl, rfl⟩ := hcs
  exact ⟨_, _, bs, rfl, hr, hok⟩
theorem callF_cells {w : World} {g off n cap : Nat} {l : List CallF} (h : RowS w (some ⟨g, off, none⟩) n cap 10 (l.map CallF.cells)) (k : Nat) (hk : k < l.length) :
    ∀ j u, ((gcF l k).cells)[j]? = some u → w.cell? ⟨g, off + k * 10 + j, none⟩ = some u := by
  have hk' : k < (l.map CallF.cells).length := by simpa using hk
  have e : (l.map CallF.cells)[k] = (gcF l k).cells := by rw [List.getElem_map, gcF_get l k hk]
  intro j u hu
  exact h.cell k hk' j u (by rw [e]; exact hu)
def CallF.arr (c : CallF) : Array Value := #[.int .i64 c.do_, .int .u32 c.f.t.src, .int .u32 c.f.t.dst, .int .i64 c.f.t.proto, .int .i64 c.f.t.sport, .int .i64 c.f.t.dport, .int .i64 c.f.fb, .int .i64 c.f.fg, .int .i64 c.f.fs, .int .i64 c.now]
end Go.Proofs.Ytgmimdnebgncoaa

end

section
/- FlowsBound answers true for any numbers and any calls: what holds of the rows. -/
set_option linter.unusedVariables false
set_option linter.unusedSimpArgs false
namespace Go.Proofs.Ytgmimdnebgncoaa
open Go.RowKit

theorem FS.asc {w : World} {g : Nat} {h : FH} {most idle : Int} {M : List FlD} (d : FS w g h most idle M) : M.Pairwise (fun x y => x.fs ≤ y.fs) := by
  have h1 := d.q.1
  unfold SortQ at h1
  rw [List.pairwise_map] at h1
  refine h1.imp fun {x y} hxy => ?_
  rcases (ltQ_iff _ _).1 hxy with h | ⟨h, _⟩
  · exact Int.le_of_lt h
  · exact Int.le_of_eq h
theorem left_gt {M : List FlD} (h : M.Pairwise (fun x y => x.fs ≤ y.fs)) (c : Int) : ∀ x ∈ leftF M c, c < x.fs := by
  intro x hx
  unfold leftF at hx
  induction M with
  | nil => cases hx
  | cons y M ih =>
    rw [List.pairwise_cons] at h
    rw [List.dropWhile_cons] at hx
    split at hx
    · exact ih h.2 hx
    · rename_i hy
      have hy : c < y.fs := by simpa using hy
      rcases List.mem_cons.1 hx with rfl | hx
      · exact hy
      · have := h.1 x hx
        omega
theorem gone_le {M : List FlD} {c : Int} : ∀ x ∈ goneF M c, x.fs ≤ c := by
  intro x hx
  unfold goneF at hx
  induction M with
  | nil => cases hx
  | cons y M ih =>
    rw [List.takeWhile_cons] at hx
    split at hx
    · rename_i hy
      rcases List.mem_cons.1 hx with rfl | hx
      · exact of_decide_eq_true hy
      · exact ih hx
    · cases hx
theorem gone_sub {M : List FlD} {c : Int} : ∀ x ∈ goneF M c, x ∈ M := fun x hx => (List.takeWhile_sublist _).subset hx
theorem left_sub {M : List FlD} {c : Int} : ∀ x ∈ leftF M c, x ∈ M := fun x hx => (List.dropWhile_sublist _).subset hx
theorem left_keeps {M : List FlD} {c : Int} {x : FlD} (hx : x ∈ M) (h : c < x.fs) : x ∈ leftF M c := by
  have h1 := gone_left M c
  rw [← h1] at hx
  rcases List.mem_append.1 hx with h2 | h2
  · have := gone_le x h2; omega
  · exact h2
/-- The table is as the law has it: nothing older than idle, the flow k is there if there is room. -/
structure BInv (T J : Int) (kt : TupD) (now : Int) (M : List FlD) : Prop where
  young : ∀ x ∈ M, now - J < x.fs
  has : 0 < T → ∃ x ∈ M, x.t = kt ∧ x.fs = now
  none : T = 0 → M = []
theorem BInv.perm {T J : Int} {kt : TupD} {now : Int} {M M' : List FlD} (b : BInv T J kt now M) (h : M'.Perm M) : BInv T J kt now M' :=
  ⟨fun x hx => b.young x (h.mem_iff.1 hx), fun h0 => (b.has h0).imp fun x ⟨h1, h2⟩ => ⟨h.mem_iff.2 h1, h2⟩, fun h0 => by have := b.none h0; subst this; exact h.eq_nil⟩
theorem mem_del {M : List FlD} {t : TupD} {x : FlD} : x ∈ delF M t ↔ x ∈ M ∧ x.t ≠ t := by
  unfold delF
  rw [List.mem_filter]
  simp
/-- Touched. -/
theorem BInv.touched {T J : Int} {kt : TupD} {now now' : Int} {M M1 : List FlD} (b : BInv T J kt now M) (nd : (M.map FlD.t).Nodup) (hT : 0 ≤ T) (hn : now ≤ now') (ht : timB now' = true) (hp : M1.Perm (touchF M kt now')) :
    (∀ x ∈ M1, now - J < x.fs) ∧ (0 < T → ∃ x ∈ M1, x.t = kt ∧ x.fs = now') ∧ (T = 0 → M1 = []) := by
  by_cases h0 : T = 0
  · have hM := b.none h0
    subst hM
    rw [touch_none (by simp)] at hp
    have := hp.eq_nil
    subst this
    exact ⟨fun x hx => (by cases hx), fun h => (by omega), fun _ => rfl⟩
  · obtain ⟨k, hk, hkt, hks⟩ := b.has (by omega)
    have hh : hasF M kt = true := (hasF_iff _ _).2 (hkt ▸ List.mem_map_of_mem hk)
    have hg : getF M kt = k := by rw [← hkt]; exact getF_of nd hk
    have hB : touchB M kt now' = true := by
      unfold touchB
      rw [hh, ht, hg, decide_eq_true (by omega)]
      rfl
    unfold touchF at hp
    rw [if_pos hB] at hp
    refine ⟨fun x hx => ?_, fun _ => ⟨_, hp.mem_iff.2 (List.mem_cons_self ..), rfl, rfl⟩, fun h => absurd h h0⟩
    rcases List.mem_cons.1 (hp.mem_iff.1 hx) with rfl | hx
    · have := b.young k hk
      show now - J < now'
      omega
    · exact b.young x (mem_del.1 hx).1
/-- What Idle tells, what it leaves. -/
theorem bound_idle {T J : Int} {kt : TupD} {now' : Int} {M : List FlD} (nd : (M.map FlD.t).Nodup) (asc : M.Pairwise (fun x y => x.fs ≤ y.fs)) (hJ : 1 ≤ J ∧ J ≤ now')
    (h2 : 0 < T → ∃ x ∈ M, x.t = kt ∧ x.fs = now') (h3 : T = 0 → M = []) (hT : 0 ≤ T) :
    (∀ x ∈ idleA M J now', x.t ≠ kt ∧ x.fs + J ≤ now') ∧ BInv T J kt now' (idleR M J now') := by
  unfold idleA idleR
  rw [if_neg (by omega), if_neg (by omega)]
  refine ⟨fun x hx => ⟨fun e => ?_, by have := gone_le x hx; omega⟩, ⟨left_gt asc _, fun h0 => ?_, fun h0 => ?_⟩⟩
  · have hx1 := gone_le x hx
    have hm := gone_sub x hx
    by_cases h0 : T = 0
    · rw [h3 h0] at hm; cases hm
    · obtain ⟨k, hk, hkt, hks⟩ := h2 (by omega)
      have e1 : x = k := by
        have a := getF_of nd hm
        have b := getF_of nd hk
        rw [e] at a
        rw [hkt] at b
        exact a.symm.trans b
      subst e1
      omega
  · obtain ⟨k, hk, hkt, hks⟩ := h2 h0
    exact ⟨k, left_keeps hk (by omega), hkt, hks⟩
  · have := h3 h0
    subst this
    rfl
/-- Put. -/
theorem BInv.put {T J : Int} {kt : TupD} {now : Int} {M M1 : List FlD} (b : BInv T J kt now M) {f : FlD} (hf : f.t ≠ kt) (hs : now - J < f.fs) (hp : M1.Perm (putF M T f)) (hl : (M1.length : Int) ≤ T) : BInv T J kt now M1 := by
  have key : BInv T J kt now (putF M T f) ∨ T = 0 := by
    by_cases h0 : T = 0
    · exact .inr h0
    · left
      unfold putF
      split
      · refine ⟨fun x hx => ?_, fun h => ?_, fun h => absurd h h0⟩
        · rcases List.mem_cons.1 hx with rfl | hx
          · exact hs
          · exact b.young x (mem_del.1 hx).1
        · obtain ⟨k, hk, hkt, hks⟩ := b.has h
          exact ⟨k, List.mem_cons_of_mem _ (mem_del.2 ⟨hk, fun e => hf (by rw [← e, hkt])⟩), hkt, hks⟩
      · exact b
  rcases key with h | h
  · exact h.perm hp
  · have : M1 = [] := List.length_eq_zero_iff.1 (by omega)
    subst this
    exact ⟨fun x hx => by (cases hx), fun h1 => by omega, fun _ => rfl⟩
theorem BInv.hasF {T J : Int} {kt : TupD} {now : Int} {M : List FlD} (b : BInv T J kt now M) (hT : 0 ≤ T) : hasF M kt = decide (0 < T) := by
  by_cases h0 : T = 0
  · rw [b.none h0, h0]; rfl
  · rw [decide_eq_true (by omega), hasF_iff]
    obtain ⟨k, hk, hkt, _⟩ := b.has (by omega)
    exact hkt ▸ List.mem_map_of_mem hk
/-- The first flow is put. -/
theorem bound_start {T J : Int} (hT : 0 ≤ T) (hJ : 1 ≤ J) : ∃ (o : Bool) (er : Int), putE [] T (flN 77 100) = .tuple #[.bool o, .int .i64 er] ∧ (er == 0) = decide (0 < T) ∧ ∀ M, M.Perm (putF [] T (flN 77 100)) → BInv T J (flN 77 100).t 100 M := by
  have hm : mayFB (flN 77 100) = true := rfl
  by_cases h0 : T = 0
  · subst h0
    refine ⟨false, 9, rfl, rfl, fun M hp => ?_⟩
    have : M = [] := hp.eq_nil
    subst this
    exact ⟨fun x hx => by (cases hx), fun h => by omega, fun _ => rfl⟩
  · have hb : putB [] T (flN 77 100) = true := by
      unfold putB
      rw [hm]
      have : decide (((([] : List FlD).length : Nat) : Int) < T) = true := decide_eq_true (by simp; omega)
      rw [this]
      rfl
    refine ⟨true, 0, ?_, ?_, fun M hp => ?_⟩
    · unfold putE
      rw [hm, hb]
      rfl
    · rw [decide_eq_true (by omega)]; rfl
    · unfold putF at hp
      rw [hb, if_pos rfl] at hp
      have : M = [flN 77 100] := List.perm_singleton.1 hp
      subst this
      refine ⟨fun x hx => ?_, fun _ => ⟨_, List.mem_singleton.2 rfl, rfl, rfl⟩, fun h => absurd h h0⟩
      obtain rfl := List.mem_singleton.1 hx
      show 100 - J < (100 : Int)
      omega
theorem may_rng {f : FlD} (h : mayFB f = true) : 0 ≤ f.fs ∧ f.fs ≤ 1099511627776 := (may_ok h).2.2.2
theorem modJ (x : Int) (J : Int) (h0 : 1 ≤ J) (h1 : J ≤ 50) : ∃ r : Int, wrap64 ((IntKind.u64.wrap x).tmod J) = r ∧ 0 ≤ r ∧ r < J := by
  have hu : 0 ≤ IntKind.u64.wrap x := by simp only [IntKind.wrap_u64]; omega
  have h2 : (IntKind.u64.wrap x).tmod J = (IntKind.u64.wrap x) % J := Int.tmod_eq_emod_of_nonneg hu
  have h3 := Int.emod_nonneg (IntKind.u64.wrap x) (show J ≠ 0 by omega)
  have h4 := Int.emod_lt_of_pos (IntKind.u64.wrap x) (show 0 < J by omega)
  rw [h2]
  generalize (IntKind.u64.wrap x) % J = y at *
  exact ⟨y, by unfold wrap64; omega, h3, h4⟩
end Go.Proofs.Ytgmimdnebgncoaa

end

section
/- Rows in order with the same members; the first time of each key in a map. -/
set_option linter.unusedVariables false
set_option linter.unusedSimpArgs false
namespace Go.Proofs.Ytgmimdnebgncoaa
open Go.RowKit Go.ChangeMaps Go.WideElems

theorem sort_nodup : ∀ {A : List QR}, SortQ A → A.Nodup
  | [], _ => List.nodup_nil
  | a :: A, h => by
    obtain ⟨h1, h2⟩ := List.pairwise_cons.1 h
    rw [List.nodup_cons]
    refine ⟨fun hm => ?_, sort_nodup h2⟩
    have := h1 a hm
    rw [lt_irrefl] at this; cases this
theorem sort_ext : ∀ {A B : List QR}, SortQ A → SortQ B → (∀ r, r ∈ A ↔ r ∈ B) → A = B
  | [], [], _, _, _ => rfl
  | [], b :: B, _, _, h => by have := (h b).2 List.mem_cons_self; cases this
  | a :: A, [], _, _, h => by have := (h a).1 List.mem_cons_self; cases this
  | a :: A, b :: B, hA, hB, h => by
    obtain ⟨a1, a2⟩ := List.pairwise_cons.1 hA
    obtain ⟨b1, b2⟩ := List.pairwise_cons.1 hB
    have hab : a = b := by
      rcases List.mem_cons.1 ((h a).1 List.mem_cons_self) with e | e
      · exact e
      · rcases List.mem_cons.1 ((h b).2 List.mem_cons_self) with e2 | e2
        · exact e2.symm
        · have h1 := b1 a e
          have h2 := lt_asymm (a1 b e2)
          rw [h1] at h2; cases h2
    subst hab
    rw [sort_ext a2 b2 (fun r => ?_)]
    constructor
    · intro hr
      rcases List.mem_cons.1 ((h r).1 (List.mem_cons_of_mem _ hr)) with e | e
      · subst e; have := a1 r hr; rw [lt_irrefl] at this; cases this
      · exact e
    · intro hr
      rcases List.mem_cons.1 ((h r).2 (List.mem_cons_of_mem _ hr)) with e | e
      · subst e; have := b1 r hr; rw [lt_irrefl] at this; cases this
      · exact e
theorem len_le_of_sub : ∀ {A B : List QR}, A.Nodup → (∀ r ∈ A, r ∈ B) → A.length ≤ B.length
  | [], _, _, _ => Nat.zero_le _
  | a :: A, B, hn, h => by
    rw [List.nodup_cons] at hn
    obtain ⟨s, t, rfl⟩ := List.append_of_mem (h a List.mem_cons_self)
    have := len_le_of_sub (A := A) (B := s ++ t) hn.2 (fun r hr => by
      have h2 := h r (List.mem_cons_of_mem _ hr)
      simp only [List.mem_append, List.mem_cons] at h2 ⊢
      rcases h2 with h2 | rfl | h2
      · exact .inl h2
      · exact absurd hr hn.1
      · exact .inr h2)
    simp at this ⊢; omega
/-- The map holds each key's first time. -/
structure PF (D : DataW Unit) (F : List QR) : Prop where
  tidy : Maps.Tidy D
  size : Maps.size D = F.length
  at_ : ∀ r ∈ F, D.atKey (klQ r) (.lit (.int .i64 0)) = .lit (.int .i64 r.time)
  has : ∀ k : ByteArray, Maps.has D (klB k) = hasQ F k
theorem pf_push {D : DataW Unit} {F : List QR} (p : PF D F) (r : QR) (hn : r.key ∉ F.map QR.key) : PF (D.put (klB r.key) (.lit (.int .i64 r.time))) (F ++ [r]) := by
  have hf : Maps.has D (klQ r) = false := by
    unfold klQ; rw [p.has, Bool.eq_false_iff]; intro h
    exact hn ((has_iff _ _).1 h)
  refine ⟨Maps.Tidy.put p.tidy (isKey r) _, ?_, fun x hx => ?_, fun k => ?_⟩
  · have := Maps.size_put (k := klQ r) (d := (.lit (.int .i64 r.time) : DataW Unit)) p.tidy
    rw [hf, if_neg (by decide), p.size] at this
    rw [List.length_append]; exact this
  · rcases List.mem_append.1 hx with hx | hx
    · have hne : klQ x ≠ klQ r := fun h => hn (List.mem_map.2 ⟨x, hx, klB_inj h⟩)
      exact (Maps.atKey_put_other hne _ _).trans (p.at_ x hx)
    · rw [List.mem_singleton.1 hx]
      exact Maps.atKey_put_same p.tidy.isMap (isKey r) _ _
  · unfold hasQ
    rw [List.any_append]
    by_cases e : klB k = klQ r
    · have ek : r.key = k := (klB_inj e).symm
      rw [e]
      have := Maps.has_put_same p.tidy.isMap (isKey r) (.lit (.int .i64 r.time) : DataW Unit)
      refine this.trans ?_
      simp [ek]
    · have ek : ¬ r.key = k := fun h => e (by rw [← h]; rfl)
      have := Maps.has_put_other (D := D) e (.lit (.int .i64 r.time) : DataW Unit)
      refine this.trans ?_
      rw [p.has]
      unfold hasQ
      simp [ek]
theorem zeroT (w : World) : (zeroValue 2).run Try.prog w = .ok (.int .i64 0) w := by kernel_rfl
def OwnF (w : World) (mb : Nat) (F : List QR) : Prop := ∃ n D, n ≤ 60 ∧ w.ownsMap Try.prog 9 (plainElem Try.prog 2) mb n D ∧ PF D F
theorem OwnF.touch {w w' : World} {mb : Nat} {F : List QR} {S : Nat → Prop} (h : OwnF w mb F) (t : Touch w w' S) (hn : ¬ S mb) : OwnF w' mb F := by
  obtain ⟨n, D, h0, h1, h2⟩ := h
  exact ⟨n, D, h0, ownsMap_touch h1 t hn, h2⟩
theorem OwnF.lt {w : World} {mb : Nat} {F : List QR} (h : OwnF w mb F) : mb < w.heap.size := by
  obtain ⟨n, D, _, h1, _⟩ := h
  exact h1.lt
theorem key_uniq {F : List QR} (hn : (F.map QR.key).Nodup) {a b : QR} (ha : a ∈ F) (hb : b ∈ F) (h : a.key = b.key) : a = b := by
  obtain ⟨i, hi, rfl⟩ := mem_gq ha
  obtain ⟨j, hj, rfl⟩ := mem_gq hb
  rw [nd_inj hn hi hj h]
theorem mem_set {L : List QR} {k : ByteArray} {t : Int} (h : setE L k t = 0) (r : QR) : r ∈ setQ L k t ↔ r = ⟨k, t⟩ ∨ (r ∈ L ∧ r.key ≠ k) := by
  unfold setQ
  rw [if_pos h, (ins_perm _ _).mem_iff, List.mem_cons]
  unfold delQ
  rw [List.mem_filter]
  simp
/-- The queue holds the rows of F whose key has been met. -/
def SetIs (L F : List QR) (S : ByteArray → Prop) : Prop := ∀ r, r ∈ L ↔ r ∈ F ∧ S r.key
theorem SetIs.set {L F : List QR} {S : ByteArray → Prop} (h : SetIs L F S) (hn : (F.map QR.key).Nodup) {x : QR} (hx : x ∈ F) (he : setE L x.key x.time = 0) : SetIs (setQ L x.key x.time) F (fun k => k = x.key ∨ S k) := by
  intro r
  rw [mem_set he]
  constructor
  · rintro (rfl | ⟨h1, h2⟩)
    · exact ⟨hx, .inl rfl⟩
    · exact ⟨((h r).1 h1).1, .inr ((h r).1 h1).2⟩
  · rintro ⟨h1, h2⟩
    by_cases e : r.key = x.key
    · exact .inl (key_uniq hn h1 hx e)
    · exact .inr ⟨(h r).2 ⟨h1, h2.resolve_left e⟩, e⟩
theorem SetIs.mono {L F : List QR} {S S' : ByteArray → Prop} (h : SetIs L F S) (hs : ∀ k, S k ↔ S' k) : SetIs L F S' := fun r => by rw [h r, hs]
end Go.Proofs.Ytgmimdnebgncoaa

end

section
/- Two tables of flows side by side; what Idle tells in two steps. -/
set_option linter.unusedVariables false
set_option linter.unusedSimpArgs false
namespace Go.Proofs.Ytgmimdnebgncoaa
open Go.RowKit

structure F2 (w w' : World) (gp : Nat) (hp : FH) (gq : Nat) (hq : FH) (most idle : Int) (M K : List FlD) : Prop where
  p : FN w w' gp hp most idle M
  q : FN w w' gq hq most idle K
  dis : ∀ k, footF gp hp k → ¬ footF gq hq k
section
variable {w w1 w2 : World} {gp gq : Nat} {hp hq : FH} {most idle : Int} {M K M' A R : List FlD} {v : Value}
theorem F2.still (n : F2 w w1 gp hp gq hq most idle M K) (t : Touch w1 w2 (fun _ => False)) : F2 w w2 gp hp gq hq most idle M K := ⟨n.p.still t, n.q.still t, n.dis⟩
theorem F2.new (a : FN w w1 gp hp most idle M) (q0 : FS w2 gq hq most idle K) (t : Touch w1 w2 (fun _ => False)) (f : ∀ k, footF gq hq k → w1.heap.size ≤ k) : F2 w w2 gp hp gq hq most idle M K :=
  ⟨a.still t, ⟨q0, a.t.trans t (fun _ _ h => h), fun k hk => Nat.le_trans a.t.size (f k hk)⟩, fun k h1 h2 => by have := a.q.footlt k h1; have := f k h2; omega⟩
theorem F2.stepP (n : F2 w w1 gp hp gq hq most idle M K) (x : FStep w1 w2 gp hp most idle M') : ∃ hp' M1, M1.Perm M' ∧ F2 w w2 gp hp' gq hq most idle M1 K ∧ (∀ k, footF gp hp' k → footF gp hp k ∨ w1.heap.size ≤ k) ∧ Touch w1 w2 (footF gp hp) := by
  obtain ⟨hp', M1, h1, n1, f, t⟩ := n.p.step x
  refine ⟨hp', M1, h1, ⟨n1, n.q.touch t (fun k hk hs => n.dis k hs hk) (fun k hk hf => by have := n.p.f k hf; omega), fun k hk h2 => ?_⟩, f, t⟩
  rcases f k hk with h | h
  · exact n.dis k h h2
  · have := n.q.q.footlt k h2; omega
theorem F2.stepQ (n : F2 w w1 gp hp gq hq most idle M K) (x : FStep w1 w2 gq hq most idle M') : ∃ hq' M1, M1.Perm M' ∧ F2 w w2 gp hp gq hq' most idle M M1 ∧ (∀ k, footF gq hq' k → footF gq hq k ∨ w1.heap.size ≤ k) ∧ Touch w1 w2 (footF gq hq) := by
  obtain ⟨hq', M1, h1, n1, f, t⟩ := n.q.step x
  refine ⟨hq', M1, h1, ⟨n.p.touch t (fun k hk hs => n.dis k hk hs) (fun k hk hf => by have := n.q.f k hf; omega), n1, fun k hk h2 => ?_⟩, f, t⟩
  rcases f k h2 with h | h
  · exact n.dis k hk h
  · have := n.p.q.footlt k hk; omega
theorem F2.goneP (n : F2 w w1 gp hp gq hq most idle M K) (x : FIdle w1 w2 gp hp most idle A R v) : ∃ a c hp', v = .slice a A.length c ∧ OwnS w2 w1.heap.size 26 8 (.slice a A.length c) (A.map fcl) ∧ (∀ x, a = some x → ¬ footF gp hp' x.block) ∧ F2 w w2 gp hp' gq hq most idle R K ∧ (∀ k, footF gp hp' k → footF gp hp k ∨ w1.heap.size ≤ k) ∧ Touch w1 w2 (footF gp hp) := by
  obtain ⟨a, c, hp', rfl, ho, hd, n1, f, t⟩ := n.p.gone x
  refine ⟨a, c, hp', rfl, ho, hd, ⟨n1, n.q.touch t (fun k hk hs => n.dis k hs hk) (fun k hk hf => by have := n.p.f k hf; omega), fun k hk h2 => ?_⟩, f, t⟩
  rcases f k hk with h | h
  · exact n.dis k h h2
  · have := n.q.q.footlt k h2; omega
theorem F2.goneQ (n : F2 w w1 gp hp gq hq most idle M K) (x : FIdle w1 w2 gq hq most idle A R v) : ∃ a c hq', v = .slice a A.length c ∧ OwnS w2 w1.heap.size 26 8 (.slice a A.length c) (A.map fcl) ∧ F2 w w2 gp hp gq hq' most idle M R ∧ Touch w1 w2 (footF gq hq) := by
  obtain ⟨a, c, hq', rfl, ho, hd, n1, f, t⟩ := n.q.gone x
  refine ⟨a, c, hq', rfl, ho, ⟨n.p.touch t (fun k hk hs => n.dis k hk hs) (fun k hk hf => by have := n.q.f k hf; omega), n1, fun k hk h2 => ?_⟩, t⟩
  rcases f k h2 with h | h
  · exact n.dis k hk h
  · have := n.p.q.footlt k hk; omega
end
/-- A table's rows lie in one order only. -/
theorem FS.uniq {w w' : World} {g g' : Nat} {h h' : FH} {most idle most' idle' : Int} {M M' : List FlD} (d : FS w g h most idle M) (d' : FS w' g' h' most' idle' M') (hp : M.Perm M') : M = M' := by
  have e : M.map qf = M'.map qf := sort_ext d.q.1 d'.q.1 (fun r => (hp.map qf).mem_iff)
  have hl := hp.length_eq
  refine List.ext_getElem hl fun i h1 h2 => ?_
  have e1 : (M.map qf)[i]'(by simpa using h1) = (M'.map qf)[i]'(by simpa using h2) := by simp only [e]
  rw [List.getElem_map, List.getElem_map] at e1
  have m1 : M[i] ∈ M := List.getElem_mem h1
  have m2 : M'[i] ∈ M := hp.mem_iff.2 (List.getElem_mem h2)
  have et : M[i].t = M'[i].t := kT_inj (d.ok _ m1).1 (d.ok _ m2).1 (may_ok (d.ok _ m1).2).1 (may_ok (d.ok _ m2).2).1 (congrArg QR.key e1)
  have a := getF_of d.map.nd m1
  have b := getF_of d.map.nd m2
  rw [et] at a
  exact a.symm.trans b
theorem gone_two {c d : Int} (hcd : c ≤ d) : ∀ M : List FlD, goneF M c ++ goneF (leftF M c) d = goneF M d ∧ leftF (leftF M c) d = leftF M d
  | [] => ⟨rfl, rfl⟩
  | y :: M => by
    obtain ⟨h1, h2⟩ := gone_two hcd M
    unfold goneF leftF at *
    rw [List.takeWhile_cons, List.dropWhile_cons, List.takeWhile_cons, List.dropWhile_cons]
    by_cases hy : y.fs ≤ c
    · have hd : y.fs ≤ d := by omega
      simp only [hy, hd, decide_true, if_true, List.cons_append]
      exact ⟨by rw [h1], h2⟩
    · simp only [hy, decide_false, Bool.false_eq_true, if_false, List.nil_append]
      rw [List.takeWhile_cons, List.dropWhile_cons]
      exact ⟨rfl, rfl⟩
theorem idle_two {J a b : Int} (hab : a ≤ b) (M : List FlD) : idleA M J a ++ idleA (idleR M J a) J b = idleA M J b ∧ idleR (idleR M J a) J b = idleR M J b := by
  unfold idleA idleR
  by_cases h1 : a < J
  · simp only [h1, if_true, List.nil_append]
    exact ⟨trivial, trivial⟩
  · have h2 : ¬ b < J := by omega
    simp only [h1, h2, if_false]
    exact gone_two (by omega) M
theorem idle_len (M : List FlD) (J a : Int) : (idleA M J a).length ≤ M.length := by
  unfold idleA
  split
  · exact Nat.zero_le _
  · exact (List.takeWhile_sublist _).length_le
theorem idle_young {M : List FlD} {J b : Int} (asc : M.Pairwise (fun x y => x.fs ≤ y.fs)) (h0 : ∀ x ∈ M, 0 ≤ x.fs) : ∀ x ∈ idleR M J b, b - x.fs < J ∧ x ∈ M := by
  intro x hx
  unfold idleR at hx
  split at hx
  · rename_i hb
    have := h0 x hx
    exact ⟨by omega, hx⟩
  · have := left_gt asc _ x hx
    exact ⟨by omega, left_sub x hx⟩
theorem all_fcl (L : List FlD) : ∀ l ∈ L.map fcl, ∀ u ∈ l, u.oneCell' = true := by
  intro l hl u hu
  obtain ⟨x, _, rfl⟩ := List.mem_map.1 hl
  exact one_fcl x _ (List.mem_singleton.2 rfl) u hu
theorem own_notF {w : World} {base n c : Nat} {a : Option Addr} {L : List (List Value)} (_ : OwnS w base 26 8 (.slice a n c) L) {S : Nat → Prop} (h : ∀ y, a = some y → ¬ S y.block) : ∀ x, (Value.slice a n c).ownBlock = some x → ¬ S x := by
  intro x hx
  cases a with
  | none => simp [Value.ownBlock] at hx
  | some y =>
    simp only [Value.ownBlock, Option.some.injEq] at hx
    rw [← hx]
    exact h y rfl
theorem modM (x m : Int) (h0 : 0 < m) (h1 : m ≤ 1000) : ∃ r : Int, wrap64 ((IntKind.u64.wrap x).tmod m) = r ∧ 0 ≤ r ∧ r < m := by
  have hu : 0 ≤ IntKind.u64.wrap x := by simp only [IntKind.wrap_u64]; omega
  have h2 : (IntKind.u64.wrap x).tmod m = (IntKind.u64.wrap x) % m := Int.tmod_eq_emod_of_nonneg hu
  have h3 := Int.emod_nonneg (IntKind.u64.wrap x) (show m ≠ 0 by omega)
  have h4 := Int.emod_lt_of_pos (IntKind.u64.wrap x) h0
  rw [h2]
  generalize (IntKind.u64.wrap x) % m = y at *
  exact ⟨y, by unfold wrap64; omega, h3, h4⟩
end Go.Proofs.Ytgmimdnebgncoaa

end
