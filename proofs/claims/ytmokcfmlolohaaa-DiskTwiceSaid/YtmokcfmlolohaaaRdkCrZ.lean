/- The reference's disk: Crash. -/
import Derived.Test.YtmokcfmlolohaaaRdkAppZ
import Derived.Test.YtmokcfmlolohaaaRdkReadZ
import Derived.Test.YtmokcfmlolohaaaDskCrZ
set_option linter.unusedVariables false
set_option linter.unusedSimpArgs false
namespace Go.Proofs.Ytmokcfmlolohaaa
open Go.RowKit

def rAll (l : List RN) (C : List RC) : List RN := C.foldl rTurn l
theorem rAll_snoc (l : List RN) (C : List RC) (c : RC) : rAll l (C ++ [c]) = rTurn (rAll l C) c := by unfold rAll; rw [List.foldl_append]; rfl
theorem addI_run (a b c : Int) (h : a + b = c ∧ -9223372036854775808 ≤ c ∧ c ≤ 9223372036854775807) (x y : Operand) (W : World) :
    (do eqGuard BinOp.add 3 x y (.int .i64 a) (.int .i64 b); binOp BinOp.add 3 (.int .i64 a) (.int .i64 b) : Sem Value).run Try.prog W = .ok (.int .i64 c) W := by
  obtain ⟨rfl, h1, h2⟩ := h
  have hw : wrap64 (a + b) = a + b := by unfold wrap64; omega
  have hw2 : IntKind.i64.wrap (a + b) = a + b := IntWalk.i64_in _ (by omega)
  go_simp
theorem subI_run (a b c : Int) (h : a - b = c ∧ -9223372036854775808 ≤ c ∧ c ≤ 9223372036854775807) (x y : Operand) (W : World) :
    (do eqGuard BinOp.sub 3 x y (.int .i64 a) (.int .i64 b); binOp BinOp.sub 3 (.int .i64 a) (.int .i64 b) : Sem Value).run Try.prog W = .ok (.int .i64 c) W := by
  obtain ⟨rfl, h1, h2⟩ := h
  have hw : wrap64 (a - b) = a - b := by unfold wrap64; omega
  have hw2 : IntKind.i64.wrap (a - b) = a - b := IntWalk.i64_in _ (by omega)
  go_simp
theorem remN_run (a b c : Nat) (h : a % b = c ∧ 0 < b ∧ b ≤ 9223372036854775807) (x y : Operand) (W : World) :
    (do eqGuard BinOp.rem 3 x y (.int .i64 a) (.int .i64 b); binOp BinOp.rem 3 (.int .i64 a) (.int .i64 b) : Sem Value).run Try.prog W = .ok (.int .i64 c) W := by
  obtain ⟨rfl, h2, h3⟩ := h
  have h0 : ((b : Int) == 0) = false := by rw [beq_eq_false_iff_ne]; omega
  have h1 : (a : Int).tmod b = ((a % b : Nat) : Int) := by rw [Int.tmod_eq_emod_of_nonneg (by omega)]; omega
  have hlt := Nat.mod_lt a h2
  have hw : wrap64 ((a % b : Nat) : Int) = ((a % b : Nat) : Int) := by unfold wrap64; omega
  have hw2 : IntKind.i64.wrap ((a % b : Nat) : Int) = ((a % b : Nat) : Int) := IntWalk.i64_in _ (by omega)
  rw [← h1] at hw hw2 ⊢
  go_simp
  all_goals omega
theorem pickK_0 (ps : List Nat) (m : Nat) : pickK ps 0 % (m + 1) = pick0 ps m := by
  unfold pickK pick0
  cases ps with
  | nil => exact Nat.zero_mod _
  | cons x l => rfl
theorem pickK_drop (ps : List Nat) (k m : Nat) : pickK ps k % (m + 1) = pick0 (ps.drop k) m := by
  rw [← pickK_0]
  unfold pickK
  simp [List.getD_eq_getElem?_getD]
/-- The sure names are turned. -/
theorem sure_end {w w9 : World} {m : Nat} {h : RH} {R : RS} (x : RM w m h R) {l : List RN} {a2 : Option Addr} {c2 : Nat} (t : Touch w w9 (fun k => k = m))
    (hh : w9.heap[m]? = some (.cells #[.slice h.fa h.L.length h.fc, .slice h.na R.N.length h.nc, .slice a2 l.length c2, .slice h.ca R.C.length h.cc, .int .i64 R.q, .int .i64 R.n, .int .i64 R.fail] 70 (0, 0)))
    (ho : OwnS w9 w.heap.size 76 2 (.slice a2 l.length c2) (l.map rnl)) : RT w w9 m h { R with S := l } := by
  obtain ⟨-, hr, hb⟩ := ho.row'
  have hm := heap_lt x.head
  refine ⟨{ h with sa := a2, sc := c2 }, ⟨hh, ?_, ?_, ?_, ?_, ?_, ?_, ?_⟩, t, ?_⟩
  · exact x.fl.touch t (fun z hz => .inr (x.foot _ (.inl ⟨z, hz, rfl⟩)).1)
  · exact x.fF
  · exact x.now.touch t (fun z hz => .inr (x.foot _ (.inr (.inl ⟨z, hz, rfl⟩))).1)
  · exact hr
  · exact x.ch.touch t (fun z hz => .inr (x.foot _ (.inr (.inr (.inr (.inl ⟨z, hz, rfl⟩))))).1)
  · exact fun z hz => (x.fb z hz).touch t (fun u hu => .inr (x.foot _ (.inr (.inr (.inr (.inr ⟨z, hz, u, hu, rfl⟩))))).1)
  · rintro k (h1 | h1 | ⟨u, hu, rfl⟩ | h1 | h1)
    · exact ⟨(x.foot k (.inl h1)).1, Nat.lt_of_lt_of_le (x.foot k (.inl h1)).2 t.size⟩
    · exact ⟨(x.foot k (.inr (.inl h1))).1, Nat.lt_of_lt_of_le (x.foot k (.inr (.inl h1))).2 t.size⟩
    · exact ⟨fun e => by have := (hb u hu).1; omega, (hb u hu).2⟩
    · exact ⟨(x.foot k (.inr (.inr (.inr (.inl h1))))).1, Nat.lt_of_lt_of_le (x.foot k (.inr (.inr (.inr (.inl h1))))).2 t.size⟩
    · exact ⟨(x.foot k (.inr (.inr (.inr (.inr h1))))).1, Nat.lt_of_lt_of_le (x.foot k (.inr (.inr (.inr (.inr h1))))).2 t.size⟩
  · rintro k (h1 | h1 | ⟨u, hu, rfl⟩ | h1 | h1)
    · exact .inl (.inl h1)
    · exact .inl (.inr (.inl h1))
    · exact .inr (hb u hu).1
    · exact .inl (.inr (.inr (.inr (.inl h1))))
    · exact .inl (.inr (.inr (.inr (.inr h1))))
def keepR (f : DkFc) (n : Nat) : DkFc := ⟨f.b.take n, n⟩
def rCr1 (x : RN) (ps : List Nat) (F : List DkFc) : List DkFc := F.set x.f (keepR (F.getD x.f ⟨[], 0⟩) ((F.getD x.f ⟨[], 0⟩).s + pick0 ps ((F.getD x.f ⟨[], 0⟩).b.length - (F.getD x.f ⟨[], 0⟩).s)))
def rCrF : List RN → List Nat → List DkFc → List DkFc
  | [], _, F => F
  | x :: l, ps, F => rCrF l ps.tail (rCr1 x ps F)
theorem rCrF_append : ∀ (L M : List RN) (ps : List Nat) (F : List DkFc), rCrF (L ++ M) ps F = rCrF M (ps.drop L.length) (rCrF L ps F)
  | [], M, ps, F => rfl
  | x :: L, M, ps, F => by
    rw [List.cons_append, rCrF, rCrF, rCrF_append L M]
    congr 1
    cases ps <;> simp
theorem rCr1_len (x : RN) (ps : List Nat) (F : List DkFc) : (rCr1 x ps F).length = F.length := by unfold rCr1; rw [List.length_set]
theorem rCrF_len : ∀ (L : List RN) (ps : List Nat) (F : List DkFc), (rCrF L ps F).length = F.length
  | [], _, _ => rfl
  | x :: L, ps, F => by rw [rCrF, rCrF_len L, rCr1_len]
theorem rCr1_ok {x : RN} {ps : List Nat} {F : List DkFc} (h : ∀ f ∈ F, f.b.length ≤ 1048576 ∧ f.s ≤ f.b.length) : ∀ f ∈ rCr1 x ps F, f.b.length ≤ 1048576 ∧ f.s ≤ f.b.length := by
  intro f hf
  unfold rCr1 at hf
  by_cases hx : x.f < F.length
  · rcases List.mem_or_eq_of_mem_set hf with h1 | h1
    · exact h f h1
    · subst h1
      have hk := h _ (List.getElem_mem hx)
      have hp := pick0_le ps ((F.getD x.f ⟨[], 0⟩).b.length - (F.getD x.f ⟨[], 0⟩).s)
      have e : F.getD x.f ⟨[], 0⟩ = F[x.f] := by simp [hx]
      rw [e] at hp ⊢
      unfold keepR
      simp only [List.length_take]
      omega
  · rw [List.set_eq_of_length_le (by omega)] at hf
    exact h f hf
theorem rCrF_ok : ∀ (L : List RN) (ps : List Nat) (F : List DkFc), (∀ f ∈ F, f.b.length ≤ 1048576 ∧ f.s ≤ f.b.length) → ∀ f ∈ rCrF L ps F, f.b.length ≤ 1048576 ∧ f.s ≤ f.b.length
  | [], _, _, h => h
  | x :: L, ps, F, h => rCrF_ok L ps.tail _ (rCr1_ok h)
def rCrS (R : RS) (ps : List Nat) : List RN := rAll R.S (R.C.take (pick0 ps R.C.length))
def rCrash (R : RS) (ps : List Nat) : RS := { R with N := rCrS R ps, S := rCrS R ps, C := [], fail := 0, F := rCrF (rCrS R ps) ps.tail R.F }
theorem row3_cell {α : Type} {w : World} {b off n c : Nat} {K : List α} {f : α → List Value} (r : RowS w (some ⟨b, off, none⟩) n c 3 (K.map f)) (k : Nat) (hk : k < K.length) (x0 x1 x2 : Value) (hx : f K[k] = [x0, x1, x2]) :
    w.cell? ⟨b, off + k * 3, none⟩ = some x0 ∧ w.cell? ⟨b, off + k * 3 + 1, none⟩ = some x1 ∧ w.cell? ⟨b, off + k * 3 + 2, none⟩ = some x2 := by
  have hk' : k < (K.map f).length := by simpa using hk
  have e : (K.map f)[k] = [x0, x1, x2] := by simp [hx]
  have h0 := RowS.cell r k hk' 0 x0 (by rw [e]; rfl)
  have h1 := RowS.cell r k hk' 1 x1 (by rw [e]; rfl)
  have h2 := RowS.cell r k hk' 2 x2 (by rw [e]; rfl)
  rw [Nat.add_zero] at h0
  exact ⟨h0, h1, h2⟩
theorem natB (j N : Nat) (h : j < N) (hN : N ≤ 100000) : (j : Int) + 1 = ((j + 1 : Nat) : Int) ∧ -9223372036854775808 ≤ ((j + 1 : Nat) : Int) ∧ ((j + 1 : Nat) : Int) ≤ 9223372036854775807 := by omega
theorem there_new {w : World} {g : Nat} {v0 v1 : Value} {E : TypeId} (h : w.heap[g]? = some (.cells #[v0, v1] E (0, 0))) : w.there g 0 2 := by
  intro j hj
  rcases (by omega : j = 0 ∨ j = 1) with rfl | rfl
  · refine ⟨?_, free_of_cells h 0⟩
    rw [show w.cell? ⟨g, 0 + 0, none⟩ = some v0 from cell_of_cells h 0]; rfl
  · refine ⟨?_, free_of_cells h 1⟩
    rw [show w.cell? ⟨g, 0 + 1, none⟩ = some v1 from cell_of_cells h 1]; rfl
theorem cells_new {w : World} {g : Nat} {v0 v1 : Value} {E : TypeId} (h : w.heap[g]? = some (.cells #[v0, v1] E (0, 0))) (u0 u1 : Value) : (w.setCells g 0 [u0, u1]).heap[g]? = some (.cells #[u0, u1] E (0, 0)) := by
  have h1 := heap_setCell_same w g 0 _ _ u0 h
  have h2 := heap_setCell_same _ g 1 _ _ u1 h1
  exact h2
/-- The changes that stay are done to the sure names. -/
def CrTo (w w' : World) (m : Nat) (h : RH) (R : RS) (i : Nat) : Prop := RT w w' m h { R with S := rAll R.S (R.C.take i) }
set_option maxRecDepth 20000 in
set_option maxHeartbeats 16000000 in
theorem rcrash_any (w : World) (m : Nat) (h : RH) (R : RS) (x : RM w m h R) (v : RV R) (a : Option Addr) (len cap : Nat) (ps : List Nat) (hr : RowB w a len cap ps) (hoff : ∀ z, a = some z → len = 0 ∨ z.block ≠ m) (hC : ∀ c ∈ R.C, c.fr ≠ ⟨#[]⟩ ∨ c.to_ ≠ ⟨#[]⟩) (hS : ∀ j, (rAll R.S (R.C.take j)).length ≤ 100000) (hN : ∀ x ∈ rCrS R ps, x.f < R.F.length) :
    Calls Try.prog 43 #[.pointer (some ⟨m, 0, none⟩), .slice a len cap] w fun e w' => e = .returned (.tuple #[]) ∧ RT w w' m h (rCrash R ps) := by
  have HX0 := Lib.hid x
  have HV := Lib.hid v
  have HSL := Lib.hid hS
  have HCE := Lib.hid hC
  have HNF := Lib.hid hN
  obtain ⟨n, hn⟩ : ∃ n, R.C.length = n := ⟨_, rfl⟩
  have HNL := Lib.hid hn
  have HRB : RowKit.Hid (∀ W, Touch w W (fun _ => False) → RowB W a len cap ps) := Lib.hid (fun W t => hr.touch t (fun _ _ => .inr (fun h => h)))
  have HRM : RowKit.Hid (∀ W, Touch w W (fun k => k = m) → RowB W a len cap ps) := Lib.hid (fun W t => hr.touch t (fun z hz => (hoff z hz).imp (fun h => h) (fun h e => h e)))
  have HC3 : RowKit.Hid (∀ W, Touch w W (fun _ => False) → W.cell? ⟨m, 3, none⟩ = some (.slice h.ca n h.cc)) := Lib.hid (fun W t => by have := (HX0.out.still t).cells.2.2.2.1; rw [hn] at this; exact this)
  have hcl : n ≤ 100000 := by rw [← hn]; exact v.cl
  have hcc : n ≤ h.cc := by rw [← hn]; exact x.ch.hcap
  have hcm := x.ch.hmax
  have HA1 : RowKit.Hid ((n : Int) + 1 = ((n + 1 : Nat) : Int) ∧ -9223372036854775808 ≤ ((n + 1 : Nat) : Int) ∧ ((n + 1 : Nat) : Int) ≤ 9223372036854775807) := Lib.hid (by omega)
  obtain ⟨K, hK⟩ : ∃ K, pick0 ps n = K := ⟨_, rfl⟩
  have hKn : K ≤ n := by rw [← hK]; exact pick0_le ps n
  have hp0 := pickK_0 ps n
  rw [hK] at hp0
  have HA2 : RowKit.Hid (pickK ps 0 % (n + 1) = K ∧ 0 < n + 1 ∧ n + 1 ≤ 9223372036854775807) := Lib.hid ⟨hp0, by omega, by omega⟩
  have HKE := Lib.hid hK
  have hKc : K ≤ h.cc := by omega
  clear x v hr hoff hC hS hN hn hK
  go_enter Try.func43, Try.ntmps43
  go_upto_region 0 with (fail)
  have hS := (Touch.refl w (fun _ => False)).drew
  refine wp_region_sched (fun w' => Touch w w' (fun _ => False)) [(0, true), (1, true), (2, true), (3, true), (4, true), (6, true), (7, true), (8, true), (9, true), (10, true), (11, true), (15, true), (5, false), (12, true), (13, true), (14, true)] (by kernel_rfl) (by kernel_rfl) rfl (by kernel_rfl) hS ?_
  (refine walkS_take (v := ?_) (some 10) rfl rfl (fun _ _ _ h => h) (by rfl) ?_ ?_; rotate_left; (focus (intro w' hw'; have k0 := HC3.out w' hw'; go_simp; (try with_reducible rfl))); (try simp only [Act.put, List.setIfInBounds_toArray, List.set_cons_zero, List.set_cons_succ]))
  (refine walkS_take (v := ?_) (some 11) rfl rfl (fun _ _ _ h => h) (by rfl) ?_ ?_; rotate_left; (focus (intro w' hw'; have k0 := HC3.out w' hw'; go_simp; (try with_reducible rfl))); (try simp only [Act.put, List.setIfInBounds_toArray, List.set_cons_zero, List.set_cons_succ]))
  (refine walkS_take (v := ?_) (some 12) rfl rfl (fun _ _ _ h => h) (by rfl) ?_ ?_; rotate_left; (focus (intro w' hw'; have k0 := HC3.out w' hw'; go_simp; (try with_reducible rfl))); (try simp only [Act.put, List.setIfInBounds_toArray, List.set_cons_zero, List.set_cons_succ]))
  (refine walkS_take (v := ?_) (some 13) rfl rfl (fun _ _ _ h => h) (by rfl) ?_ ?_; rotate_left; (focus (intro w' hw'; have k0 := HC3.out w' hw'; go_simp; (try with_reducible rfl))); (try simp only [Act.put, List.setIfInBounds_toArray, List.set_cons_zero, List.set_cons_succ]))
  (refine walkS_take (v := ?_) (some 14) rfl rfl (fun _ _ _ h => h) (by rfl) ?_ ?_; rotate_left; (focus (intro w' hw'; have k0 := HC3.out w' hw'; go_simp; (try with_reducible rfl))); (try simp only [Act.put, List.setIfInBounds_toArray, List.set_cons_zero, List.set_cons_succ]))
  (refine walkS_take (v := ?_) (some 16) rfl rfl (fun _ _ _ h => h) (by rfl) ?_ ?_; rotate_left; (focus (intro w' hw'; have k0 := HC3.out w' hw'; go_simp; (try with_reducible rfl))); (try simp only [Act.put, List.setIfInBounds_toArray, List.set_cons_zero, List.set_cons_succ]))
  (refine walkS_take (v := ?_) (some 17) rfl rfl (fun _ _ _ h => h) (by rfl) ?_ ?_; rotate_left; (focus (intro w' hw'; have k0 := HC3.out w' hw'; go_simp; (try with_reducible rfl))); (try simp only [Act.put, List.setIfInBounds_toArray, List.set_cons_zero, List.set_cons_succ]))
  (refine walkS_take (v := ?_) (some 18) rfl rfl (fun _ _ _ h => h) (by rfl) ?_ ?_; rotate_left; (focus (intro w' hw'; have k0 := HC3.out w' hw'; go_simp; (try with_reducible rfl))); (try simp only [Act.put, List.setIfInBounds_toArray, List.set_cons_zero, List.set_cons_succ]))
  (refine walkS_take (v := ?_) (some 19) rfl rfl (fun _ _ _ h => h) (by rfl) ?_ ?_; rotate_left; (focus (intro w' hw'; have k0 := HC3.out w' hw'; go_simp; (try with_reducible rfl))); (try simp only [Act.put, List.setIfInBounds_toArray, List.set_cons_zero, List.set_cons_succ]))
  (refine walkS_take (v := ?_) (some 20) rfl rfl (fun _ _ _ h => h) (by rfl) ?_ ?_; rotate_left; (focus (intro w' hw'; have k0 := HC3.out w' hw'; go_simp; (try with_reducible rfl))); (try simp only [Act.put, List.setIfInBounds_toArray, List.set_cons_zero, List.set_cons_succ]))
  (refine walkS_bin (some 21) _ _ _ _ _ _ _ _ (addI_run _ _ _ HA1.out) rfl rfl rfl rfl rfl (fun _ _ _ h => h) (by rfl) ?_; (try simp only [Act.put, List.setIfInBounds_toArray, List.set_cons_zero, List.set_cons_succ]))
  (refine walkS_take (v := ?_) (some 25) rfl rfl (fun _ _ _ h => h) (by rfl) ?_ ?_; rotate_left; (focus (intro w' hw'; have k0 := HC3.out w' hw'; go_simp; (try with_reducible rfl))); (try simp only [Act.put, List.setIfInBounds_toArray, List.set_cons_zero, List.set_cons_succ]))
  (refine walkS_call 15 _ _ _ _ (rpick_any _ a len cap ps (HRB.out _ hS) 0) rfl rfl rfl (by rfl) rfl (enter_rpick _ _ _) ?_; rintro e w' ⟨rfl, rfl⟩; refine ⟨_, rfl, hS, fun hS => ?_⟩; (try simp only [Act.put, List.setIfInBounds_toArray, List.set_cons_zero, List.set_cons_succ]))
  (refine walkS_bin (some 22) _ _ _ _ _ _ _ _ (remN_run _ _ _ HA2.out) rfl rfl rfl rfl rfl (fun _ _ _ h => h) (by rfl) ?_; (try simp only [Act.put, List.setIfInBounds_toArray, List.set_cons_zero, List.set_cons_succ]))
  (refine walkS_take (v := ?_) (some 23) rfl rfl (fun _ _ _ h => h) (by rfl) ?_ ?_; rotate_left; (focus (intro w' hw'; have k0 := HC3.out w' hw'; go_simp; (try with_reducible rfl))); (try simp only [Act.put, List.setIfInBounds_toArray, List.set_cons_zero, List.set_cons_succ]))
  (refine walkS_take (v := ?_) (some 24) rfl rfl (fun _ _ _ h => h) (by rfl) ?_ ?_; rotate_left; (focus (intro w' hw'; have k0 := HC3.out w' hw'; go_simp; (try with_reducible rfl))); (try simp only [Act.put, List.setIfInBounds_toArray, List.set_cons_zero, List.set_cons_succ]))
  refine walkS_done ?_
  clear hS
  have HI0 : RowKit.Hid (RM w.drew m h { R with S := rAll R.S (R.C.take 0) } ∧ Touch w w.drew (fun k => k = m)) := Lib.hid ⟨HX0.out.still ((Touch.refl w (fun _ => False)).drew), (Touch.refl w (fun k => k = m)).drew⟩
  go_wp2_with fail
  go_loopw [25] (fun s25 wr => ∃ (i : Nat) (hc : RH), i ≤ K ∧ s25 = .int .i64 i ∧ RM wr m hc { R with S := rAll R.S (R.C.take i) } ∧ Touch w wr (fun k => k = m) ∧ ∀ k, footR hc k → footR h k ∨ w.heap.size ≤ k) (fun s25 _ => K - (RowKit.intOf s25).toNat)
  case atStart => exact ⟨0, h, Nat.zero_le _, rfl, HI0.out.1, HI0.out.2, fun k hk => .inl hk⟩
  case round =>
    obtain ⟨i, hc, hi, rfl, hm1, ht, hne⟩ := hrel
    have HM1 := Lib.hid hm1
    have HT := Lib.hid ht
    have HNE := Lib.hid hne
    clear hm1 ht hne HI0
    by_cases hlt : i < K
    case pos =>
      have hlI : (i : Int) < K := by omega
      have hkL : i < R.C.length := by rw [HNL.out]; omega
      have r1 := HX0.out.ch.touch HT.out (fun z hz => .inr (HX0.out.foot _ (.inr (.inr (.inr (.inl ⟨z, hz, rfl⟩))))).1)
      rw [HNL.out] at r1
      obtain ⟨b1, o1, e1⟩ := r1.some (by omega)
      rw [e1] at r1
      obtain ⟨p0, p1, p2⟩ := row3_cell r1 i hkL _ _ _ rfl
      have HCE1 := Lib.hid (HCE.out _ (List.getElem_mem hkL))
      have HTK := Lib.hid (List.take_succ_eq_append_getElem hkL)
      obtain ⟨c, hcq⟩ : ∃ q, R.C[i] = q := ⟨_, rfl⟩
      rw [hcq] at p0 p1 p2 HTK HCE1
      have hwk : wrap64 ((i : Int) + 1) = (i : Int) + 1 := by unfold wrap64; omega
      have HWK := Lib.hid hwk
      obtain ⟨cf, ct, cx⟩ := c
      simp only at p0 p1 p2 HCE1
      obtain ⟨W4, hW4⟩ : ∃ W, wr.alloc (.cells #[.string cf, .string ct, .int .i64 cx] 101) = W := ⟨_, rfl⟩
      have g4 : W4.heap[wr.heap.size]? = some (.cells #[.string cf, .string ct, .int .i64 cx] 101 (0, 0)) := hW4 ▸ heap_alloc_new ..
      have t4 : Touch wr W4 (fun _ => False) := hW4 ▸ (Touch.refl wr _).alloc _
      obtain ⟨Rc, hRc⟩ : ∃ Rc : RS, ({ R with S := rAll R.S (R.C.take i) } : RS) = Rc := ⟨_, rfl⟩
      have hm4 := HM1.out.still t4
      rw [hRc] at hm4
      have HM4 := Lib.hid hm4
      have hmw := heap_lt HM1.out.head
      have HB1S : RowKit.Hid (∀ W, Touch W4 W (fun k => k = m) → W.heap[wr.heap.size]? = some (.cells #[.string cf, .string ct, .int .i64 cx] 101 (0, 0))) := Lib.hid (fun W t => t.keeps g4 (fun e => by have e : wr.heap.size = m := e; omega))
      have hSl : Rc.S.length ≤ 100000 := by rw [← hRc]; exact HSL.out i
      obtain ⟨c, hc2⟩ : ∃ c : RC, c = ⟨cf, ct, cx⟩ := ⟨_, rfl⟩
      have HTN : RowKit.Hid (∀ W, Touch W4 W (fun k => k = m) → Calls Try.prog 66 #[.slice hc.sa Rc.S.length hc.sc, .agg #[.string cf, .string ct, .int .i64 cx]] W fun e w' => ∃ a' c', e = .returned (.slice a' (rTurn Rc.S c).length c') ∧ OwnS w' W.heap.size 76 2 (.slice a' (rTurn Rc.S c).length c') ((rTurn Rc.S c).map rnl) ∧ Touch W w' (fun _ => False)) := Lib.hid (fun W t => by
        rw [hc2]
        exact rturn_any W hc.sa Rc.S.length hc.sc Rc.S (hm4.sure.touch t (fun z hz => .inr (hm4.foot _ (.inr (.inr (.inl ⟨z, hz, rfl⟩)))).1)) hSl ⟨cf, ct, cx⟩ HCE1.out)
      have HDL : RowKit.Hid (m < W4.heap.size) := Lib.hid (heap_lt hm4.head)
      have HDZ : RowKit.Hid (W4.heap.size ≤ W4.heap.size) := Lib.hid (Nat.le_refl _)
      have HHD := Lib.hid (((Touch.refl W4 (fun _ => False)).drew).keeps hm4.head (fun h => h))
      have hsc := hm4.sure.hcap
      have hsm := hm4.sure.hmax
      have HX : RowKit.Hid (∀ a2 c2 w9, Touch W4 w9 (fun k => k = m) → w9.heap[m]? = some (.cells #[.slice hc.fa hc.L.length hc.fc, .slice hc.na Rc.N.length hc.nc, .slice a2 (rTurn Rc.S c).length c2, .slice hc.ca Rc.C.length hc.cc, .int .i64 Rc.q, .int .i64 Rc.n, .int .i64 Rc.fail] 70 (0, 0)) → OwnS w9 W4.heap.size 76 2 (.slice a2 (rTurn Rc.S c).length c2) ((rTurn Rc.S c).map rnl) → ∃ (i' : Nat) (hc : RH), i' ≤ K ∧ Value.int .i64 ((i : Int) + 1) = .int .i64 i' ∧ RM w9 m hc { R with S := rAll R.S (R.C.take i') } ∧ Touch w w9 (fun k => k = m) ∧ ∀ k, footR hc k → footR h k ∨ w.heap.size ≤ k) := Lib.hid (fun a2 c2 w9 t hh ho => by
        obtain ⟨h9, m9, t9, ne9⟩ := sure_end HM4.out t hh ho
        refine ⟨i + 1, h9, by omega, by go_num, ?_, (HT.out.trans t4 (fun _ _ h => h.elim)).trans t9 (fun _ _ h => h), fun k hk => ?_⟩
        · have e : rAll R.S (R.C.take (i + 1)) = rTurn Rc.S c := by rw [HTK.out, rAll_snoc, ← hRc, hc2]
          rw [e]
          have m9 := m9
          rw [← hRc] at m9 ⊢
          exact m9
        · rcases ne9 k hk with h1 | h1
          · exact HNE.out k h1
          · exact .inr (Nat.le_trans (HT.out.trans t4 (fun _ _ h => h.elim)).size h1))
      have HW4 := Lib.hid hW4
      rw [e1]
      clear r1 hcq hW4 g4 t4 hm4 hwk hc2 hRc hSl hmw
      go_upto_region 3 with (fail)
      try rw [HW4.out]
      clear p0 p1 p2
      have hS := (Touch.refl W4 (fun k => k = m)).drew
      refine wp_region_tree3 (fun w' => Touch W4 w' (fun k => k = m)) (.take 0 (.take 1 (.take 2 (.take 3 (.take 5 (.one 4 (.one 6 (.take 7 (.take 8 (.one 9 .fin)))))))))) (by kernel_rfl) (by kernel_rfl) (by kernel_rfl) (by kernel_rfl) hS ?_
      refine walk3_take ?_
      (refine takeN_take (v := ?_) (some 29) rfl rfl (fun _ _ _ h => h) (by rfl) ?_ ?_; rotate_left; (focus (intro w' hw'; go_simp; (try with_reducible rfl))); (try simp only [Act.put, List.setIfInBounds_toArray, List.set_cons_zero, List.set_cons_succ]))
      refine walk3_take ?_
      (refine takeN_take (v := ?_) (some 30) rfl rfl (fun _ _ _ h => h) (by rfl) ?_ ?_; rotate_left; (focus (intro w' hw'; go_simp; (try with_reducible rfl))); (try simp only [Act.put, List.setIfInBounds_toArray, List.set_cons_zero, List.set_cons_succ]))
      refine walk3_take ?_
      (refine takeN_take (v := ?_) (some 31) rfl rfl (fun _ _ _ h => h) (by rfl) ?_ ?_; rotate_left; (focus (intro w' hw'; go_simp; (try with_reducible rfl))); (try simp only [Act.put, List.setIfInBounds_toArray, List.set_cons_zero, List.set_cons_succ]))
      refine walk3_take ?_
      (refine takeN_take (v := ?_) (some 32) rfl rfl (fun _ _ _ h => h) (by rfl) ?_ ?_; rotate_left; (focus (intro w' hw'; go_simp; (try with_reducible rfl))); (try simp only [Act.put, List.setIfInBounds_toArray, List.set_cons_zero, List.set_cons_succ]))
      refine walk3_take ?_
      (refine takeN_row (some 34) rfl rfl 101 (.tmp 5) rfl (wr.heap.size) rfl _ _ _ _ (fun w' h => (HB1S.out w' h)) Try.underlying101 rfl infoCh (fun _ _ _ h => h) (by rfl) ?_; (try simp only [Act.put, List.setIfInBounds_toArray, List.set_cons_zero, List.set_cons_succ]))
      refine walk3_one ?_
      (have cc := cell_of_cells HHD.out 2; refine runN_do (v := .slice hc.sa Rc.S.length hc.sc) (w' := _) (some 33) rfl rfl (by rfl) (by go_simp; (try with_reducible rfl)) hS (fun hS => ?_); clear cc; (try simp only [Act.put, List.setIfInBounds_toArray, List.set_cons_zero, List.set_cons_succ]))
      refine walk3_one ?_
      (refine runN_call 35 _ _ _ _ (HTN.out _ hS) rfl rfl rfl (by rfl) rfl (enter_rturn _ _ _) ?_; rintro e w2 ⟨a2, c2, rfl, o2, t2⟩; have hS := hS.trans t2 (fun _ _ h => h.elim); refine ⟨_, rfl, hS, fun hS => ?_⟩; have HHD := Lib.hid (t2.keeps HHD.out (fun h => h)); have HOT := Lib.hid (o2.rebase (base' := W4.heap.size) (fun y hy => Nat.le_trans HDZ.out (o2.own.lt y hy).1)); clear t2 o2; (try simp only [Act.put, List.setIfInBounds_toArray, List.set_cons_zero, List.set_cons_succ]))
      refine walk3_take ?_
      (refine takeN_take (v := ?_) (some 36) rfl rfl (fun _ _ _ h => h) (by rfl) ?_ ?_; rotate_left; (focus (intro w' hw'; go_simp; (try with_reducible rfl))); (try simp only [Act.put, List.setIfInBounds_toArray, List.set_cons_zero, List.set_cons_succ]))
      refine walk3_take ?_
      (refine takeN_take (v := ?_) (some 37) rfl rfl (fun _ _ _ h => h) (by rfl) ?_ ?_; rotate_left; (focus (intro w' hw'; go_simp; (try with_reducible rfl))); (try simp only [Act.put, List.setIfInBounds_toArray, List.set_cons_zero, List.set_cons_succ]))
      refine walk3_one ?_
      (have cc := cell_of_cells HHD.out 2; have ff := free_of_cells HHD.out 2; refine runN_skip0 none rfl rfl (by rfl) (w' := World.setCell w2 ⟨m, 2, none⟩ (.slice a2 (rTurn Rc.S c).length c2)) (by go_simp; (try with_reducible rfl)) ?_ ?_; (exact hS.setCell _ _ (fun _ => rfl)); clear cc ff; intro hS; have t6 := (Touch.refl w2 (fun k => k = m)).setCell ⟨m, 2, none⟩ (.slice a2 (rTurn Rc.S c).length c2) (fun _ => rfl); have HHD := Lib.hid (heap_setCell_same _ m 2 _ _ (.slice a2 (rTurn Rc.S c).length c2) HHD.out); have HOT := Lib.hid (HOT.out.touch t6 (fun x hx e => by have e : x = m := e; have := (HOT.out.own.lt x hx).1; have := HDL.out; omega)); clear t6; (try simp only [Act.put, List.setIfInBounds_toArray, List.set_cons_zero, List.set_cons_succ]))
      refine walk3_fin ?_
      go_wp2_with fail
      try rw [HWK.out]
      go_roundw
      · exact HX.out _ _ _ hS HHD.out HOT.out
      · simp only [RowKit.intOf]; omega
    case neg =>
      obtain rfl : K = i := by omega
      have hlI : ¬ (K : Int) < K := by omega
      obtain ⟨NN, hNN⟩ : ∃ NN, rAll R.S (R.C.take K) = NN := ⟨_, rfl⟩
      have hNS : rCrS R ps = NN := by unfold rCrS; rw [HNL.out, HKE.out]; exact hNN
      have hm1 := HM1.out
      rw [hNN] at hm1
      have hNl : NN.length ≤ 100000 := by rw [← hNN]; exact HSL.out K
      obtain ⟨N, hNe⟩ : ∃ N, NN.length = N := ⟨_, rfl⟩
      have HNE2 := Lib.hid hNe
      have HNF2 : RowKit.Hid (∀ x ∈ NN, x.f < R.F.length) := Lib.hid (by rw [← hNS]; exact HNF.out)
      have HNS := Lib.hid hNS
      have hd1 := hm1.head
      have c2 := hm1.cells.2.2.1
      have hml := heap_lt hm1.head
      have hsc := hm1.sure.hcap
      have hsm := hm1.sure.hmax
      simp only [hNe] at hd1 c2 hNl hsc
      have f1 := free_of_cells hd1 1
      have e1 := cell_of_cells hd1 1
      obtain ⟨W6, hW6⟩ : ∃ W, wr.setCell ⟨m, 1, none⟩ (.slice hc.sa N hc.sc) = W := ⟨_, rfl⟩
      have g6 := heap_setCell_same wr m 1 _ _ (.slice hc.sa N hc.sc) hd1
      rw [hW6] at g6
      have f3 := free_of_cells g6 3
      have e3 := cell_of_cells g6 3
      obtain ⟨W7, hW7⟩ : ∃ W, W6.setCell ⟨m, 3, none⟩ (.slice none 0 0) = W := ⟨_, rfl⟩
      have g7 := heap_setCell_same W6 m 3 _ _ (.slice none 0 0) g6
      rw [hW7] at g7
      have f6 := free_of_cells g7 6
      have e6 := cell_of_cells g7 6
      obtain ⟨W8, hW8⟩ : ∃ W, W7.setCell ⟨m, 6, none⟩ (.int .i64 0) = W := ⟨_, rfl⟩
      have g8 := heap_setCell_same W7 m 6 _ _ (.int .i64 0) g7
      rw [hW8] at g8
      have c1 := cell_of_cells g8 1
      have t6 : Touch wr W6 (fun k => k = m) := hW6 ▸ (Touch.refl wr _).into 1 _
      have t7 : Touch wr W7 (fun k => k = m) := hW7 ▸ t6.into 3 _
      have t8 : Touch wr W8 (fun k => k = m) := hW8 ▸ t7.into 6 _
      have HT8 := Lib.hid (HT.out.trans t8 (fun _ _ h => h))
      have m8 : RM W8 m { hc with na := hc.sa, nc := hc.sc, ca := none, cc := 0 } { R with N := NN, S := NN, C := [], fail := 0 } := by
        refine ⟨by have := g8; simp only [hNe]; exact this, hm1.fl.touch t8 (fun z hz => .inr (hm1.foot _ (.inl ⟨z, hz, rfl⟩)).1), hm1.fF, hm1.sure.touch t8 (fun z hz => .inr (hm1.foot _ (.inr (.inr (.inl ⟨z, hz, rfl⟩)))).1), hm1.sure.touch t8 (fun z hz => .inr (hm1.foot _ (.inr (.inr (.inl ⟨z, hz, rfl⟩)))).1), RowS.nil _ _ _ _ (Nat.zero_le _), fun z hz => (hm1.fb z hz).touch t8 (fun u hu => .inr (hm1.foot _ (.inr (.inr (.inr (.inr ⟨z, hz, u, hu, rfl⟩))))).1), fun k hk => ?_⟩
        have h2 : footR hc k := by
          rcases hk with h1 | h1 | h1 | ⟨u, hu, -⟩ | h1
          · exact .inl h1
          · exact .inr (.inr (.inl h1))
          · exact .inr (.inr (.inl h1))
          · cases hu
          · exact .inr (.inr (.inr (.inr h1)))
        exact ⟨(hm1.foot k h2).1, Nat.lt_of_lt_of_le (hm1.foot k h2).2 t8.size⟩
      have HN8 : RowKit.Hid (∀ k, footR { hc with na := hc.sa, nc := hc.sc, ca := none, cc := 0 } k → footR h k ∨ w.heap.size ≤ k) := Lib.hid (fun k hk => by
        have h2 : footR hc k := by
          rcases hk with h1 | h1 | h1 | ⟨u, hu, -⟩ | h1
          · exact .inl h1
          · exact .inr (.inr (.inl h1))
          · exact .inr (.inr (.inl h1))
          · cases hu
          · exact .inr (.inr (.inr (.inr h1)))
        exact HNE.out k h2)
      have HNOW : RowKit.Hid (∀ W, Touch W8 W (fun k => k = m) → RowS W hc.sa N hc.sc 2 (NN.map rnl)) := Lib.hid (fun W t => by have := m8.now.touch t (fun z hz => .inr (m8.foot _ (.inr (.inl ⟨z, hz, rfl⟩))).1); simp only [hNe] at this; exact this)
      obtain ⟨h8, hh8⟩ : ∃ h8 : RH, h8 = { hc with na := hc.sa, nc := hc.sc, ca := none, cc := 0 } := ⟨_, rfl⟩
      rw [← hh8] at m8 HN8
      have HM8 := Lib.hid m8
      clear hm1 hd1 g6 g7 g8 t6 t7 t8 m8 hNN hNS hh8 hNe HNE
      go_wp2_with fail
      go_loopw [57] (fun s57 wq => ∃ (j : Nat) (hk : RH), j ≤ N ∧ s57 = .int .i64 j ∧ RM wq m hk { R with N := NN, S := NN, C := [], fail := 0, F := rCrF (NN.take j) ps.tail R.F } ∧ Touch W8 wq (fun k => k = m) ∧ ∀ k, footR hk k → footR h k ∨ w.heap.size ≤ k) (fun s57 _ => N - (RowKit.intOf s57).toNat)
      case atStart => exact ⟨0, h8, Nat.zero_le _, rfl, HM8.out, Touch.refl _ _, HN8.out⟩
      case round =>
        obtain ⟨j, hk, hj, rfl, hmk, htk, hnk⟩ := hrel
        have HMK := Lib.hid hmk
        have HTK := Lib.hid htk
        have HNK := Lib.hid hnk
        clear hmk htk hnk
        by_cases hlt : j < N
        case neg =>
          obtain rfl : N = j := by omega
          have hlI : ¬ (N : Int) < N := by omega
          have HFIN : RowKit.Hid (RT w wr m h (rCrash R ps)) := Lib.hid (by
            refine ⟨hk, ?_, HT8.out.trans HTK.out (fun _ _ h => h), HNK.out⟩
            have e : NN.take N = NN := List.take_of_length_le (by rw [HNE2.out]; exact Nat.le_refl _)
            have := HMK.out
            rw [e] at this
            unfold rCrash
            rw [HNS.out]
            exact this)
          go_wp2_with fail
          go_end0
          exact ⟨rfl, HFIN.out⟩
        case pos =>
          have hlI : (j : Int) < N := by omega
          have hkL : j < NN.length := by rw [HNE2.out]; exact hlt
          have r1 := HNOW.out wr HTK.out
          obtain ⟨b1, o1, e1⟩ := r1.some (by omega)
          rw [e1] at r1
          obtain ⟨p0, p1⟩ := row2_cell r1 j hkL _ _ rfl
          have hqf := HNF2.out _ (List.getElem_mem hkL)
          have HTQ := Lib.hid (List.take_succ_eq_append_getElem hkL)
          obtain ⟨q, hq⟩ : ∃ q, NN[j] = q := ⟨_, rfl⟩
          rw [hq] at p0 p1 HTQ hqf
          obtain ⟨qn, qf⟩ := q
          simp only at p0 p1 HTQ hqf
          have hwk : wrap64 ((j : Int) + 1) = (j : Int) + 1 := by unfold wrap64; omega
          have HB1 : RowKit.Hid ((j : Int) + 1 = ((j + 1 : Nat) : Int) ∧ -9223372036854775808 ≤ ((j + 1 : Nat) : Int) ∧ ((j + 1 : Nat) : Int) ≤ 9223372036854775807) := Lib.hid (natB j N hlt hNl)
          have HJ1 : RowKit.Hid (j + 1 ≤ N ∧ (NN.take j).length = j) := Lib.hid ⟨hlt, by rw [List.length_take]; exact Nat.min_eq_left (Nat.le_of_lt hkL)⟩
          have HWK := Lib.hid hwk
          obtain ⟨W4, hW4⟩ : ∃ W, wr.alloc (.cells #[.string qn, .int .i64 qf] 76) = W := ⟨_, rfl⟩
          have g4 : W4.heap[wr.heap.size]? = some (.cells #[.string qn, .int .i64 qf] 76 (0, 0)) := hW4 ▸ heap_alloc_new ..
          have t4 : Touch wr W4 (fun _ => False) := hW4 ▸ (Touch.refl wr _).alloc _
          obtain ⟨Fj, hFj⟩ : ∃ F, rCrF (NN.take j) ps.tail R.F = F := ⟨_, rfl⟩
          have hFlen : Fj.length = R.F.length := by rw [← hFj, rCrF_len]
          have hFok := rCrF_ok (NN.take j) ps.tail R.F HV.out.bl
          have hmk4 := HMK.out.still t4
          rw [hFj] at hmk4 hFok
          obtain ⟨Rk, hRk⟩ : ∃ Rk : RS, ({ R with N := NN, S := NN, C := [], fail := 0, F := Fj } : RS) = Rk := ⟨_, rfl⟩
          rw [hRk] at hmk4
          have hRF : Rk.F = Fj := by rw [← hRk]
          have HM4 := Lib.hid hmk4
          have HQF : RowKit.Hid (qf < Rk.F.length) := Lib.hid (by rw [hRF, hFlen]; exact hqf)
          have HFL : RowKit.Hid (Rk.F.length ≤ 1000000) := Lib.hid (by rw [hRF, hFlen]; exact HV.out.fl')
          obtain ⟨g, off, y, ef, eL, ey, hil, -, -, -, hym⟩ := hmk4.file HQF.out
          have hy1 : y.b.length ≤ 1048576 ∧ y.s ≤ y.b.length := by
            have hmem := List.getElem_mem HQF.out
            rw [ey, hRF] at hmem
            exact hFok _ hmem
          have HYM := Lib.hid hym
          have hml := heap_lt hmk4.head
          have hmw := heap_lt HMK.out.head
          have hgl : g < W4.heap.size := (hmk4.foot g (.inl ⟨_, ef, rfl⟩)).2
          have HFA := Lib.hid ef
          have HCB : RowKit.Hid (∀ w', Touch W4 w' (fun _ => False) → w'.cell? ⟨m, 0, none⟩ = some (.slice (some ⟨g, off, none⟩) hk.L.length hk.fc) ∧ w'.cell? ⟨wr.heap.size, 1, none⟩ = some (.int .i64 qf) ∧ w'.cell? ⟨g, off + qf * 2, none⟩ = some (.slice y.a y.b.length y.c) ∧ w'.cell? ⟨g, off + qf * 2 + 1, none⟩ = some (.int .i64 y.s)) := Lib.hid (fun w' t => by
            have hm := HM4.out.still t
            have r := hm.fl
            rw [ef] at r
            have e : hk.L[qf] = y := by have := List.getElem?_eq_getElem hil; rw [eL] at this; exact (Option.some.inj this).symm
            obtain ⟨u0, u1⟩ := row2_cell r qf hil _ _ (by rw [e]; rfl)
            refine ⟨?_, cell_of_cells (t.keeps g4 (fun h => h)) 1, u0, u1⟩
            have := hm.cells.1
            rw [ef] at this; exact this)
          have HG4 := Lib.hid g4
          have HW4 := Lib.hid hW4
          have hfc := hmk4.fl.hcap
          have hfm := hmk4.fl.hmax
          obtain ⟨most, hmost⟩ : ∃ mo, y.b.length - y.s = mo := ⟨_, rfl⟩
          obtain ⟨K2, hK2⟩ : ∃ k, pick0 (ps.drop (j + 1)) most = k := ⟨_, rfl⟩
          have hK2l : K2 ≤ most := by rw [← hK2]; exact pick0_le _ _
          obtain ⟨J, hJ⟩ : ∃ J, y.s + K2 = J := ⟨_, rfl⟩
          have hJL : J ≤ y.b.length := by omega
          have HJL := Lib.hid hJL
          have HJB : RowKit.Hid (J ≤ 1048576) := Lib.hid (by omega)
          have HTJ : RowKit.Hid ((y.b.take J).length = J) := Lib.hid (by rw [List.length_take]; omega)
          have hyc : y.b.length ≤ y.c := (hmk4.fb y hym).2.1
          have hycm : y.c ≤ 9223372036854775807 := (hmk4.fb y hym).2.2.1
          have hJc : J ≤ y.c := by omega
          have HB2 : RowKit.Hid ((y.b.length : Int) - y.s = ((most : Nat) : Int) ∧ -9223372036854775808 ≤ ((most : Nat) : Int) ∧ ((most : Nat) : Int) ≤ 9223372036854775807) := Lib.hid (by omega)
          have HB3 : RowKit.Hid ((most : Int) + 1 = ((most + 1 : Nat) : Int) ∧ -9223372036854775808 ≤ ((most + 1 : Nat) : Int) ∧ ((most + 1 : Nat) : Int) ≤ 9223372036854775807) := Lib.hid (by omega)
          have HB4 : RowKit.Hid (pickK ps (j + 1) % (most + 1) = K2 ∧ 0 < most + 1 ∧ most + 1 ≤ 9223372036854775807) := Lib.hid ⟨by rw [pickK_drop]; exact hK2, by omega, by omega⟩
          have HB5 : RowKit.Hid ((y.s : Int) + K2 = ((J : Nat) : Int) ∧ -9223372036854775808 ≤ ((J : Nat) : Int) ∧ ((J : Nat) : Int) ≤ 9223372036854775807) := Lib.hid (by omega)
          have HSTEP : RowKit.Hid (rCrF (NN.take (j + 1)) ps.tail R.F = Fj.set qf ⟨y.b.take J, J⟩) := Lib.hid (by
            have hlen := HJ1.out.2
            have ed : ps.tail.drop j = ps.drop (j + 1) := by cases ps <;> simp
            have eg : Fj.getD qf ⟨[], 0⟩ = y.fc := by
              rw [← ey]
              have : qf < Fj.length := by rw [hFlen]; exact hqf
              simp only [hRF]
              simp [this]
            rw [HTQ.out, rCrF_append, hlen, hFj, ed]
            show rCr1 ⟨qn, qf⟩ (ps.drop (j + 1)) Fj = _
            unfold rCr1
            simp only [eg]
            show Fj.set qf (keepR y.fc (y.s + pick0 (ps.drop (j + 1)) (y.b.length - y.s))) = _
            rw [hmost, hK2, hJ]
            rfl)
          have HT4 := Lib.hid (HTK.out.trans t4 (fun _ _ h => h.elim))
          have HX : RowKit.Hid (∀ x6 w9, Touch W4 x6 (fun _ => False) → RT x6 w9 m hk { Rk with F := Rk.F.set qf ⟨y.b.take J, J⟩ } → ∃ (j' : Nat) (hk : RH), j' ≤ N ∧ Value.int .i64 ((j : Int) + 1) = .int .i64 j' ∧ RM w9 m hk { R with N := NN, S := NN, C := [], fail := 0, F := rCrF (NN.take j') ps.tail R.F } ∧ Touch W8 w9 (fun k => k = m) ∧ ∀ k, footR hk k → footR h k ∨ w.heap.size ≤ k) := Lib.hid (fun x6 w9 tx p => by
            obtain ⟨h9, m9, t9, ne9⟩ := p
            refine ⟨j + 1, h9, HJ1.out.1, by go_num, ?_, (HT4.out.trans tx (fun _ _ h => h.elim)).trans t9 (fun _ _ h => h), fun k hk => ?_⟩
            · rw [HSTEP.out]
              have m9 := m9
              rw [hRF, ← hRk] at m9
              exact m9
            · rcases ne9 k hk with h1 | h1
              · exact HNK.out k h1
              · exact .inr (Nat.le_trans (Nat.le_trans HT8.out.size (HT4.out.trans tx (fun _ _ h => h.elim)).size) h1))
          rw [e1]
          clear r1 hq hW4 g4 t4 hwk hmk4 hmost hK2 hJ ey eL hym hRk hFj hFlen hFok hRF hqf hJL
          go_upto_region 9 with (fail)
          try rw [HW4.out]
          clear p0 p1
          go_cut [8] (fun s8 wx => s8 = .pointer (some ⟨W4.heap.size, 0, none⟩) ∧ wx.heap[W4.heap.size]? = some (.cells #[.slice y.a y.b.length y.c, .int .i64 y.s] 98 (0, 0)) ∧ Touch W4 wx (fun _ => False))
          case first =>
            have hS := (Touch.refl W4 (fun _ => False)).drew
            refine wp_region_tree3 (fun w' => Touch W4 w' (fun _ => False)) (.take 0 (.take 1 (.take 2 (.take 3 (.take 4 (.take 5 (.take 6 (.take 7 (.one 8 (.one 9 .fin)))))))))) (by kernel_rfl) (by kernel_rfl) (by kernel_rfl) (by kernel_rfl) hS ?_
            refine walk3_take ?_
            (refine takeN_take (v := ?_) (some 62) rfl rfl (fun _ _ _ h => h) (by rfl) ?_ ?_; rotate_left; (focus (intro w' hw'; obtain ⟨k0, k1, k2, k3⟩ := HCB.out w' hw'; go_simp; (try with_reducible rfl))); (try simp only [Act.put, List.setIfInBounds_toArray, List.set_cons_zero, List.set_cons_succ]))
            refine walk3_take ?_
            (refine takeN_take (v := ?_) (some 63) rfl rfl (fun _ _ _ h => h) (by rfl) ?_ ?_; rotate_left; (focus (intro w' hw'; obtain ⟨k0, k1, k2, k3⟩ := HCB.out w' hw'; go_simp; (try with_reducible rfl))); (try simp only [Act.put, List.setIfInBounds_toArray, List.set_cons_zero, List.set_cons_succ]))
            refine walk3_take ?_
            (refine takeN_take (v := ?_) (some 64) rfl rfl (fun _ _ _ h => h) (by rfl) ?_ ?_; rotate_left; (focus (intro w' hw'; obtain ⟨k0, k1, k2, k3⟩ := HCB.out w' hw'; go_simp; (try with_reducible rfl))); (try simp only [Act.put, List.setIfInBounds_toArray, List.set_cons_zero, List.set_cons_succ]))
            refine walk3_take ?_
            (refine takeN_take (v := ?_) (some 65) rfl rfl (fun _ _ _ h => h) (by rfl) ?_ ?_; rotate_left; (focus (intro w' hw'; obtain ⟨k0, k1, k2, k3⟩ := HCB.out w' hw'; go_simp; (try with_reducible rfl))); (try simp only [Act.put, List.setIfInBounds_toArray, List.set_cons_zero, List.set_cons_succ]))
            refine walk3_take ?_
            (refine takeN_take (v := ?_) (some 66) rfl rfl (fun _ _ _ h => h) (by rfl) ?_ ?_; rotate_left; (focus (intro w' hw'; obtain ⟨k0, k1, k2, k3⟩ := HCB.out w' hw'; go_simp; (try with_reducible rfl))); (try simp only [Act.put, List.setIfInBounds_toArray, List.set_cons_zero, List.set_cons_succ]))
            refine walk3_take ?_
            (refine takeN_take (v := ?_) (some 67) rfl rfl (fun _ _ _ h => h) (by rfl) ?_ ?_; rotate_left; (focus (intro w' hw'; obtain ⟨k0, k1, k2, k3⟩ := HCB.out w' hw'; go_simp; (try with_reducible rfl))); (try simp only [Act.put, List.setIfInBounds_toArray, List.set_cons_zero, List.set_cons_succ]))
            refine walk3_take ?_
            (refine takeN_take (v := ?_) (some 68) rfl rfl (fun _ _ _ h => h) (by rfl) ?_ ?_; rotate_left; (focus (intro w' hw'; obtain ⟨k0, k1, k2, k3⟩ := HCB.out w' hw'; go_simp; (try with_reducible rfl))); (try simp only [Act.put, List.setIfInBounds_toArray, List.set_cons_zero, List.set_cons_succ]))
            refine walk3_take ?_
            (refine takeN_take (v := ?_) (some 69) rfl rfl (fun _ _ _ h => h) (by rfl) ?_ ?_; rotate_left; (focus (intro w' hw'; obtain ⟨k0, k1, k2, k3⟩ := HCB.out w' hw'; go_simp; (try with_reducible rfl))); (try simp only [Act.put, List.setIfInBounds_toArray, List.set_cons_zero, List.set_cons_succ]))
            refine walk3_one ?_
            (refine runN_new 8 (fun W => .pointer (some ⟨W.heap.size, 0, none⟩)) #[.slice none 0 0, .int .i64 0] 98 rfl rfl (by rfl) (by intro W; go_simp <;> first | with_reducible rfl | rfl | exact ⟨rfl, rfl⟩) ?_; intro w7 hw7 hM7 hs7 t7; have hS := hS.trans t7 (fun _ _ h => h.elim); refine ⟨hS, fun _ => ?_⟩; have HM7 := Lib.hid hM7; clear hw7 hs7 t7 hM7; (try simp only [Act.put, List.setIfInBounds_toArray, List.set_cons_zero, List.set_cons_succ]))
            refine walk3_one ?_
            (refine runN_storeMR rfl rfl (by rfl) 98 _ _ rfl W4.heap.size 0 #[.slice y.a y.b.length y.c, .int .i64 y.s] (by first | rfl | simp) rfl (there_new HM7.out) infoFl (by rw [← Array.all_toList]; rfl) ⟨hS.trans (touch_cellsR _ W4.heap.size _ _) (fun k h1 h2 => by have h2 : k = W4.heap.size := h2; omega), fun hS => ?_⟩; have HM8 := Lib.hid (cells_new HM7.out (.slice y.a y.b.length y.c) (.int .i64 y.s)); (try simp only [Act.put, List.setIfInBounds_toArray, List.set_cons_zero, List.set_cons_succ]))
            refine walk3_fin ?_
            go_wp2_with fail
            go_meet
            exact ⟨rfl, HM8.out, hS⟩
          case rest =>
            obtain ⟨rfl, g5, t5⟩ := hcut
            obtain ⟨w5, hw5⟩ : ∃ W, W = wc := ⟨_, rfl⟩
            rw [← hw5] at g5 t5 ⊢
            have HT5 := Lib.hid t5
            have HG5 := Lib.hid g5
            have HC8 : RowKit.Hid (∀ w', Touch w5 w' (fun _ => False) → w'.cell? ⟨W4.heap.size, 0, none⟩ = some (.slice y.a y.b.length y.c) ∧ w'.cell? ⟨W4.heap.size, 1, none⟩ = some (.int .i64 y.s)) := Lib.hid (fun w' t => ⟨cell_of_cells (t.keeps HG5.out (fun h => h)) 0, cell_of_cells (t.keeps HG5.out (fun h => h)) 1⟩)
            have HRP : RowKit.Hid (∀ W, Touch w5 W (fun _ => False) → RowB W a len cap ps) := Lib.hid (fun W t => HRM.out W ((HT8.out.trans (HT4.out.trans HT5.out (fun _ _ h => h.elim)) (fun _ _ h => h)).trans t (fun _ _ h => h.elim)))
            clear t5 g5 hw5
            go_upto_region 10 with (fail)
            have hS := (Touch.refl w5 (fun _ => False)).drew
            refine wp_region_sched (fun w' => Touch w5 w' (fun _ => False)) [(0, true), (1, true), (2, true), (3, true), (4, true), (6, true), (7, true), (8, true), (9, true), (10, true), (11, true), (12, true), (5, false), (13, true), (14, true), (15, true)] (by kernel_rfl) (by kernel_rfl) rfl (by kernel_rfl) hS ?_
            (refine walkS_take (v := ?_) (some 70) rfl rfl (fun _ _ _ h => h) (by rfl) ?_ ?_; rotate_left; (focus (intro w' hw'; obtain ⟨k0, k1⟩ := HC8.out w' hw'; go_simp; (try with_reducible rfl))); (try simp only [Act.put, List.setIfInBounds_toArray, List.set_cons_zero, List.set_cons_succ]))
            (refine walkS_take (v := ?_) (some 71) rfl rfl (fun _ _ _ h => h) (by rfl) ?_ ?_; rotate_left; (focus (intro w' hw'; obtain ⟨k0, k1⟩ := HC8.out w' hw'; go_simp; (try with_reducible rfl))); (try simp only [Act.put, List.setIfInBounds_toArray, List.set_cons_zero, List.set_cons_succ]))
            (refine walkS_take (v := ?_) (some 72) rfl rfl (fun _ _ _ h => h) (by rfl) ?_ ?_; rotate_left; (focus (intro w' hw'; obtain ⟨k0, k1⟩ := HC8.out w' hw'; go_simp; (try with_reducible rfl))); (try simp only [Act.put, List.setIfInBounds_toArray, List.set_cons_zero, List.set_cons_succ]))
            (refine walkS_take (v := ?_) (some 73) rfl rfl (fun _ _ _ h => h) (by rfl) ?_ ?_; rotate_left; (focus (intro w' hw'; obtain ⟨k0, k1⟩ := HC8.out w' hw'; go_simp; (try with_reducible rfl))); (try simp only [Act.put, List.setIfInBounds_toArray, List.set_cons_zero, List.set_cons_succ]))
            (refine walkS_bin (some 74) _ _ _ _ _ _ _ _ (addI_run _ _ _ HB1.out) rfl rfl rfl rfl rfl (fun _ _ _ h => h) (by rfl) ?_; (try simp only [Act.put, List.setIfInBounds_toArray, List.set_cons_zero, List.set_cons_succ]))
            (refine walkS_take (v := ?_) (some 76) rfl rfl (fun _ _ _ h => h) (by rfl) ?_ ?_; rotate_left; (focus (intro w' hw'; obtain ⟨k0, k1⟩ := HC8.out w' hw'; go_simp; (try with_reducible rfl))); (try simp only [Act.put, List.setIfInBounds_toArray, List.set_cons_zero, List.set_cons_succ]))
            (refine walkS_take (v := ?_) (some 77) rfl rfl (fun _ _ _ h => h) (by rfl) ?_ ?_; rotate_left; (focus (intro w' hw'; obtain ⟨k0, k1⟩ := HC8.out w' hw'; go_simp; (try with_reducible rfl))); (try simp only [Act.put, List.setIfInBounds_toArray, List.set_cons_zero, List.set_cons_succ]))
            (refine walkS_take (v := ?_) (some 78) rfl rfl (fun _ _ _ h => h) (by rfl) ?_ ?_; rotate_left; (focus (intro w' hw'; obtain ⟨k0, k1⟩ := HC8.out w' hw'; go_simp; (try with_reducible rfl))); (try simp only [Act.put, List.setIfInBounds_toArray, List.set_cons_zero, List.set_cons_succ]))
            (refine walkS_take (v := ?_) (some 79) rfl rfl (fun _ _ _ h => h) (by rfl) ?_ ?_; rotate_left; (focus (intro w' hw'; obtain ⟨k0, k1⟩ := HC8.out w' hw'; go_simp; (try with_reducible rfl))); (try simp only [Act.put, List.setIfInBounds_toArray, List.set_cons_zero, List.set_cons_succ]))
            (refine walkS_take (v := ?_) (some 80) rfl rfl (fun _ _ _ h => h) (by rfl) ?_ ?_; rotate_left; (focus (intro w' hw'; obtain ⟨k0, k1⟩ := HC8.out w' hw'; go_simp; (try with_reducible rfl))); (try simp only [Act.put, List.setIfInBounds_toArray, List.set_cons_zero, List.set_cons_succ]))
            (refine walkS_bin (some 81) _ _ _ _ _ _ _ _ (subI_run _ _ _ HB2.out) rfl rfl rfl rfl rfl (fun _ _ _ h => h) (by rfl) ?_; (try simp only [Act.put, List.setIfInBounds_toArray, List.set_cons_zero, List.set_cons_succ]))
            (refine walkS_bin (some 82) _ _ _ _ _ _ _ _ (addI_run _ _ _ HB3.out) rfl rfl rfl rfl rfl (fun _ _ _ h => h) (by rfl) ?_; (try simp only [Act.put, List.setIfInBounds_toArray, List.set_cons_zero, List.set_cons_succ]))
            (refine walkS_call 75 _ _ _ _ (rpick_any _ a len cap ps (HRP.out _ hS) (j + 1)) rfl rfl rfl (by rfl) rfl (enter_rpick _ _ _) ?_; rintro e w' ⟨rfl, rfl⟩; refine ⟨_, rfl, hS, fun hS => ?_⟩; (try simp only [Act.put, List.setIfInBounds_toArray, List.set_cons_zero, List.set_cons_succ]))
            (refine walkS_bin (some 83) _ _ _ _ _ _ _ _ (remN_run _ _ _ HB4.out) rfl rfl rfl rfl rfl (fun _ _ _ h => h) (by rfl) ?_; (try simp only [Act.put, List.setIfInBounds_toArray, List.set_cons_zero, List.set_cons_succ]))
            (refine walkS_bin (some 84) _ _ _ _ _ _ _ _ (addI_run _ _ _ HB5.out) rfl rfl rfl rfl rfl (fun _ _ _ h => h) (by rfl) ?_; (try simp only [Act.put, List.setIfInBounds_toArray, List.set_cons_zero, List.set_cons_succ]))
            (refine walkS_take (v := ?_) (some 9) rfl rfl (fun _ _ _ h => h) (by rfl) ?_ ?_; rotate_left; (focus (intro w' hw'; obtain ⟨k0, k1⟩ := HC8.out w' hw'; go_simp; (try with_reducible rfl))); (try simp only [Act.put, List.setIfInBounds_toArray, List.set_cons_zero, List.set_cons_succ]))
            refine walkS_done ?_
            have HT6 := Lib.hid (HT5.out.trans hS (fun _ _ h => h))
            obtain ⟨w6, hw6⟩ : ∃ W, W = w5.drew := ⟨_, rfl⟩
            have HM60 := Lib.hid (HM4.out.still HT6.out)
            rw [← hw6] at HT6 HM60 hS ⊢
            have HG6 := Lib.hid ((show Touch w5 w6 (fun _ => False) from hS).keeps HG5.out (fun h => h))
            have HG46 := Lib.hid (HT6.out.keeps HG4.out (fun h => h))
            have HML : RowKit.Hid (m < w6.heap.size) := Lib.hid (heap_lt HM60.out.head)
            have HCD : RowKit.Hid (∀ w', Touch w6 w' (fun k => k = m) → w'.cell? ⟨wr.heap.size, 1, none⟩ = some (.int .i64 qf) ∧ w'.cell? ⟨W4.heap.size, 0, none⟩ = some (.slice y.a y.b.length y.c)) := Lib.hid (fun w' t => ⟨cell_of_cells (t.keeps HG46.out (fun e => by have e : wr.heap.size = m := e; omega)) 1, cell_of_cells (t.keeps HG6.out (fun e => by have e : W4.heap.size = m := e; omega)) 0⟩)
            have HTF : RowKit.Hid (Touch w6 w6.drew (fun _ => False)) := Lib.hid ((Touch.refl w6 (fun _ => False)).drew)
            have HM6 := Lib.hid (HM60.out.still HTF.out)
            have HX := Lib.hid (fun w9 => HX.out w6 w9 HT6.out)
            clear hS hw6
            go_upto_region 11 with (fail)
            have hS := (Touch.refl w6 (fun k => k = m)).drew
            refine wp_region_tree3 (fun w' => Touch w6 w' (fun k => k = m)) (.take 0 (.take 1 (.take 2 (.take 3 (.take 4 (.take 5 (.take 6 (.take 8 (.one 7 (.take 9 (.one 10 .fin))))))))))) (by kernel_rfl) (by kernel_rfl) (by kernel_rfl) (by kernel_rfl) hS ?_
            refine walk3_take ?_
            (refine takeN_take (v := ?_) (some 85) rfl rfl (fun _ _ _ h => h) (by rfl) ?_ ?_; rotate_left; (focus (intro w' hw'; obtain ⟨k1, k2⟩ := HCD.out w' hw'; go_simp; (try with_reducible rfl))); (try simp only [Act.put, List.setIfInBounds_toArray, List.set_cons_zero, List.set_cons_succ]))
            refine walk3_take ?_
            (refine takeN_take (v := ?_) (some 86) rfl rfl (fun _ _ _ h => h) (by rfl) ?_ ?_; rotate_left; (focus (intro w' hw'; obtain ⟨k1, k2⟩ := HCD.out w' hw'; go_simp; (try with_reducible rfl))); (try simp only [Act.put, List.setIfInBounds_toArray, List.set_cons_zero, List.set_cons_succ]))
            refine walk3_take ?_
            (refine takeN_take (v := ?_) (some 87) rfl rfl (fun _ _ _ h => h) (by rfl) ?_ ?_; rotate_left; (focus (intro w' hw'; obtain ⟨k1, k2⟩ := HCD.out w' hw'; go_simp; (try with_reducible rfl))); (try simp only [Act.put, List.setIfInBounds_toArray, List.set_cons_zero, List.set_cons_succ]))
            refine walk3_take ?_
            (refine takeN_take (v := ?_) (some 88) rfl rfl (fun _ _ _ h => h) (by rfl) ?_ ?_; rotate_left; (focus (intro w' hw'; obtain ⟨k1, k2⟩ := HCD.out w' hw'; go_simp; (try with_reducible rfl))); (try simp only [Act.put, List.setIfInBounds_toArray, List.set_cons_zero, List.set_cons_succ]))
            refine walk3_take ?_
            (refine takeN_take (v := ?_) (some 89) rfl rfl (fun _ _ _ h => h) (by rfl) ?_ ?_; rotate_left; (focus (intro w' hw'; obtain ⟨k1, k2⟩ := HCD.out w' hw'; go_simp; (try with_reducible rfl))); (try simp only [Act.put, List.setIfInBounds_toArray, List.set_cons_zero, List.set_cons_succ]))
            refine walk3_take ?_
            (refine takeN_take (v := ?_) (some 90) rfl rfl (fun _ _ _ h => h) (by rfl) ?_ ?_; rotate_left; (focus (intro w' hw'; obtain ⟨k1, k2⟩ := HCD.out w' hw'; go_simp; (try with_reducible rfl))); (try simp only [Act.put, List.setIfInBounds_toArray, List.set_cons_zero, List.set_cons_succ]))
            refine walk3_take ?_
            (refine takeN_take (v := ?_) (some 91) rfl rfl (fun _ _ _ h => h) (by rfl) ?_ ?_; rotate_left; (focus (intro w' hw'; obtain ⟨k1, k2⟩ := HCD.out w' hw'; go_simp; (try with_reducible rfl))); (try simp only [Act.put, List.setIfInBounds_toArray, List.set_cons_zero, List.set_cons_succ]))
            refine walk3_take ?_
            (refine takeN_take (v := ?_) (some 93) rfl rfl (fun _ _ _ h => h) (by rfl) ?_ ?_; rotate_left; (focus (intro w' hw'; obtain ⟨k1, k2⟩ := HCD.out w' hw'; go_simp; (try with_reducible rfl))); (try simp only [Act.put, List.setIfInBounds_toArray, List.set_cons_zero, List.set_cons_succ]))
            refine walk3_one ?_
            (refine runN_appB 92 (.const (.slice none 0 0)) (.tmp 91) _ rfl rfl rfl (by rfl) 5 Try.underlying29 infoB w6.heap.size _ [] rfl (OwnB.nil _ _ _) y.a J y.c (y.b.take J) rfl ((HM6.out.fb y HYM.out).take J HJL.out) J (y.b.take J) rfl HTJ.out (by have := HJB.out; omega) hS.size ?_; intro a9 c9 w9 ho9 hr9 hg9 hp9; have t9 := (Touch.refl _ (fun _ => False)).grown hg9 (fun k hk _ => by cases hk); have hS := hS.trans t9 (fun k _ h2 => h2.elim); refine ⟨hS, fun _ => ?_⟩; have HTF := Lib.hid (HTF.out.trans t9 (fun _ _ h => h)); have HM6 := Lib.hid (HM60.out.still HTF.out); have HO9 : RowKit.Hid (OwnB w9 w6.heap.size 5 (.slice a9 (y.b.take J).length c9) (y.b.take J)) := Lib.hid (by rw [HTJ.out]; exact ho9); have HR9 : RowKit.Hid (RowB w9 a9 (y.b.take J).length c9 (y.b.take J)) := Lib.hid (by rw [HTJ.out]; exact hr9); clear ho9 hr9 hg9 hp9 t9; (try simp only [Act.put, List.setIfInBounds_toArray, List.set_cons_zero, List.set_cons_succ]))
            refine walk3_take ?_
            (refine takeN_take (v := ?_) (some 94) rfl rfl (fun _ _ _ h => h) (by rfl) ?_ ?_; rotate_left; (focus (intro w' hw'; obtain ⟨k1, k2⟩ := HCD.out w' hw'; go_simp; (try with_reducible rfl))); (try simp only [Act.put, List.setIfInBounds_toArray, List.set_cons_zero, List.set_cons_succ]))
            refine walk3_one ?_
            (have hpt := rput_any w9 m hk Rk HM6.out HFL.out qf HQF.out ⟨a9, c9, y.b.take J, J⟩ HR9.out (app_off HML.out HO9.out); simp only [HTJ.out] at hpt; refine runN_call 95 _ _ _ _ hpt rfl rfl rfl (by rfl) rfl (enter_rput _ _ _ _) ?_; rintro e w3 ⟨rfl, p3⟩; have HP := Lib.hid (p3.rt (w := w6) (HTF.out.mono (fun _ _ h => h.elim)) (appB_new HO9.out)); have hS := hS.trans p3.touch (fun _ _ h => h); refine ⟨_, rfl, hS, fun hS => ?_⟩; clear p3 hpt; (try simp only [Act.put, List.setIfInBounds_toArray, List.set_cons_zero, List.set_cons_succ]))
            refine walk3_fin ?_
            go_wp2_with fail
            try rw [HWK.out]
            go_roundw
            · exact HX.out _ HP.out
            · simp only [RowKit.intOf]; omega
end Go.Proofs.Ytmokcfmlolohaaa
