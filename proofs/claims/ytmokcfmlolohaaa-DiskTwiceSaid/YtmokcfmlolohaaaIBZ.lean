/- IB: RdkB, RdkWith, RdkTop, RdkPut. -/
import Derived.Test.YtmokcfmlolohaaaDskBZ
import Derived.Test.YtmokcfmlolohaaaHAZ
import Derived.Test.YtmokcfmlolohaaaDskAwkZ
import Derived.Test.YtmokcfmlolohaaaCalm3Z
import Derived.Deep.CutBlock
import Derived.Deep.DeepCutAuto
import Derived.Test.YtmokcfmlolohaaaDskNewZ
import Derived.Deep.MidRow
section
/- The reference's disk in memory; the names' rows. -/
set_option linter.unusedVariables false
set_option linter.unusedSimpArgs false
namespace Go.Proofs.Ytmokcfmlolohaaa
open Go.RowKit

structure RN where
  n : ByteArray
  f : Nat
def rnl (x : RN) : List Value := [.string x.n, .int .i64 x.f]
structure RC where
  fr : ByteArray
  to_ : ByteArray
  f : Nat
def rcl (x : RC) : List Value := [.string x.fr, .string x.to_, .int .i64 x.f]
/-- A file that lies somewhere. -/
structure RL where
  a : Option Addr
  c : Nat
  b : List Nat
  s : Nat
def RL.fc (x : RL) : DkFc := ⟨x.b, x.s⟩
def rll (x : RL) : List Value := [.slice x.a x.b.length x.c, .int .i64 x.s]
/-- The reference's disk, said of rows. -/
structure RS where
  F : List DkFc
  N : List RN
  S : List RN
  C : List RC
  q : Int
  n : Int
  fail : Int
structure RH where
  L : List RL
  fa : Option Addr
  fc : Nat
  na : Option Addr
  nc : Nat
  sa : Option Addr
  sc : Nat
  ca : Option Addr
  cc : Nat
def footR (h : RH) (k : Nat) : Prop :=
  (∃ y, h.fa = some y ∧ y.block = k) ∨ (∃ y, h.na = some y ∧ y.block = k) ∨ (∃ y, h.sa = some y ∧ y.block = k) ∨ (∃ y, h.ca = some y ∧ y.block = k) ∨ ∃ x ∈ h.L, ∃ y, x.a = some y ∧ y.block = k
structure RM (w : World) (m : Nat) (h : RH) (R : RS) : Prop where
  head : w.heap[m]? = some (.cells #[.slice h.fa h.L.length h.fc, .slice h.na R.N.length h.nc, .slice h.sa R.S.length h.sc, .slice h.ca R.C.length h.cc, .int .i64 R.q, .int .i64 R.n, .int .i64 R.fail] 70 (0, 0))
  fl : RowS w h.fa h.L.length h.fc 2 (h.L.map rll)
  fF : R.F = h.L.map RL.fc
  now : RowS w h.na R.N.length h.nc 2 (R.N.map rnl)
  sure : RowS w h.sa R.S.length h.sc 2 (R.S.map rnl)
  ch : RowS w h.ca R.C.length h.cc 3 (R.C.map rcl)
  fb : ∀ x ∈ h.L, RowB w x.a x.b.length x.c x.b
  foot : ∀ k, footR h k → k ≠ m ∧ k < w.heap.size
section
variable {w w' w2 : World} {m : Nat} {h : RH} {R R' : RS}
theorem RM.touch {S : Nat → Prop} (x : RM w m h R) (t : Touch w w' S) (hm : ¬ S m) (hn : ∀ k, footR h k → ¬ S k) : RM w' m h R where
  head := t.keeps x.head hm
  fl := x.fl.touch t (fun y hy => .inr (hn _ (.inl ⟨y, hy, rfl⟩)))
  fF := x.fF
  now := x.now.touch t (fun y hy => .inr (hn _ (.inr (.inl ⟨y, hy, rfl⟩))))
  sure := x.sure.touch t (fun y hy => .inr (hn _ (.inr (.inr (.inl ⟨y, hy, rfl⟩)))))
  ch := x.ch.touch t (fun y hy => .inr (hn _ (.inr (.inr (.inr (.inl ⟨y, hy, rfl⟩))))))
  fb := fun z hz => (x.fb z hz).touch t (fun y hy => .inr (hn _ (.inr (.inr (.inr (.inr ⟨z, hz, y, hy, rfl⟩))))))
  foot := fun k hk => ⟨(x.foot k hk).1, Nat.lt_of_lt_of_le (x.foot k hk).2 t.size⟩
theorem RM.still (x : RM w m h R) (t : Touch w w' (fun _ => False)) : RM w' m h R := x.touch t (fun h => h) (fun _ _ h => h)
theorem RM.len (x : RM w m h R) : R.F.length = h.L.length := by rw [x.fF, List.length_map]
theorem RM.cells (x : RM w m h R) : w.cell? ⟨m, 0, none⟩ = some (.slice h.fa h.L.length h.fc) ∧ w.cell? ⟨m, 1, none⟩ = some (.slice h.na R.N.length h.nc) ∧ w.cell? ⟨m, 2, none⟩ = some (.slice h.sa R.S.length h.sc) ∧ w.cell? ⟨m, 3, none⟩ = some (.slice h.ca R.C.length h.cc) ∧ w.cell? ⟨m, 4, none⟩ = some (.int .i64 R.q) ∧ w.cell? ⟨m, 5, none⟩ = some (.int .i64 R.n) ∧ w.cell? ⟨m, 6, none⟩ = some (.int .i64 R.fail) :=
  ⟨cell_of_cells x.head 0, cell_of_cells x.head 1, cell_of_cells x.head 2, cell_of_cells x.head 3, cell_of_cells x.head 4, cell_of_cells x.head 5, cell_of_cells x.head 6⟩
/-- What a call of the reference's leaves. -/
def RT (w w' : World) (m : Nat) (h : RH) (R' : RS) : Prop :=
  ∃ h', RM w' m h' R' ∧ Touch w w' (fun k => k = m) ∧ ∀ k, footR h' k → footR h k ∨ w.heap.size ≤ k
theorem RT.trans {h1 : RH} (t : Touch w w' (fun k => k = m)) (ne : ∀ k, footR h1 k → footR h k ∨ w.heap.size ≤ k) (s : RT w' w2 m h1 R') : RT w w2 m h R' := by
  obtain ⟨h2, m2, t2, ne2⟩ := s
  refine ⟨h2, m2, t.trans t2 (fun _ _ h => h), fun k hk => ?_⟩
  rcases ne2 k hk with h1 | h1
  · exact ne k h1
  · exact .inr (Nat.le_trans t.size h1)
theorem RM.same (x : RM w' m h R) (t : Touch w w' (fun k => k = m)) : RT w w' m h R := ⟨h, x, t, fun _ hk => .inl hk⟩
end
theorem infoRN : (Try.prog.info? 76).map (fun i => (i.zero, i.size, i.bytes)) = some (some (.agg #[.string ByteArray.empty, .int .i64 0]), 2, 24) := by kernel_rfl
theorem infoRC : (Try.prog.info? 101).map (fun i => (i.zero, i.size, i.bytes)) = some (some (.agg #[.string ByteArray.empty, .string ByteArray.empty, .int .i64 0]), 3, 40) := by kernel_rfl
theorem infoRL : (Try.prog.info? 98).map (fun i => (i.zero, i.size, i.bytes)) = some (some (.agg #[.slice none 0 0, .int .i64 0]), 2, 32) := by kernel_rfl
theorem enter_rfind (a b : Value) (w : World) : (callFunc 62 #[a, b]).run Try.prog w = .ok (.enter 62 #[a, b]) w := by kernel_rfl
theorem enter_rwithout (a b : Value) (w : World) : (callFunc 72 #[a, b]).run Try.prog w = .ok (.enter 72 #[a, b]) w := by kernel_rfl
theorem enter_rturn (a b : Value) (w : World) : (callFunc 66 #[a, b]).run Try.prog w = .ok (.enter 66 #[a, b]) w := by kernel_rfl
theorem row2_cell {α : Type} {w : World} {b off n c : Nat} {K : List α} {f : α → List Value} (r : RowS w (some ⟨b, off, none⟩) n c 2 (K.map f)) (k : Nat) (hk : k < K.length) (x0 x1 : Value) (hx : f K[k] = [x0, x1]) :
    w.cell? ⟨b, off + k * 2, none⟩ = some x0 ∧ w.cell? ⟨b, off + k * 2 + 1, none⟩ = some x1 := by
  have hk' : k < (K.map f).length := by simpa using hk
  have e : (K.map f)[k] = [x0, x1] := by simp [hx]
  have h0 := RowS.cell r k hk' 0 x0 (by rw [e]; rfl)
  have h1 := RowS.cell r k hk' 1 x1 (by rw [e]; rfl)
  rw [Nat.add_zero] at h0
  exact ⟨h0, h1⟩
theorem toList_inj {a b : ByteArray} (h : a.toList = b.toList) : a = b := by
  rw [Lib.toList_data, Lib.toList_data] at h
  exact ByteArray.ext (Array.ext' h)
/-- The first row of this name. -/
def rFind : List RN → ByteArray → Option Nat
  | [], _ => none
  | x :: l, k => if x.n = k then some x.f else rFind l k
def fI : Option Nat → Int
  | none => -1
  | some i => i
theorem rFind_at : ∀ {l : List RN} {k : ByteArray} {i : Nat} (hi : i < l.length), (∀ j (h : j < l.length), j < i → l[j].n ≠ k) → l[i].n = k → rFind l k = some l[i].f
  | x :: l, k, 0, _, _, h => by
    have h : x.n = k := h
    unfold rFind
    rw [if_pos h]; rfl
  | x :: l, k, i + 1, hi, hl, h => by
    have h0 : x.n ≠ k := hl 0 (by simp) (by omega)
    unfold rFind
    rw [if_neg h0]
    exact rFind_at (l := l) (i := i) (by simpa using hi) (fun j hj hji => hl (j + 1) (by simpa using hj) (by omega)) h
theorem rFind_none : ∀ {l : List RN} {k : ByteArray}, (∀ j (h : j < l.length), l[j].n ≠ k) → rFind l k = none
  | [], _, _ => rfl
  | x :: l, k, hl => by
    have h0 : x.n ≠ k := hl 0 (by simp)
    unfold rFind
    rw [if_neg h0]
    exact rFind_none (fun j hj => hl (j + 1) (by simpa using hj))
set_option maxRecDepth 20000 in
set_option maxHeartbeats 8000000 in
theorem rfind_any (w : World) (a : Option Addr) (n c : Nat) (l : List RN) (hr : RowS w a n c 2 (l.map rnl)) (k : ByteArray) :
    Calls Try.prog 62 #[.slice a n c, .string k] w fun e w' => e = .returned (.int .i64 (fI (rFind l k))) ∧ Touch w w' (fun _ => False) := by
  have hLl : l.length = n := by have := hr.hlen; simpa using this
  have hnc := hr.hcap
  have hnm := hr.hmax
  have HR := Lib.hid hr
  have HLL := Lib.hid hLl
  clear hr hLl
  go_enter Try.func62, Try.ntmps62
  go_wp2_with fail
  go_loopw [9] (fun s9 wr => ∃ i : Nat, i ≤ n ∧ s9 = .int .i64 i ∧ Touch w wr (fun _ => False) ∧ ∀ j (h : j < l.length), j < i → l[j].n ≠ k) (fun s9 _ => n - (RowKit.intOf s9).toNat)
  case atStart => exact ⟨0, Nat.zero_le _, rfl, Touch.refl _ _, fun j h h2 => absurd h2 (Nat.not_lt_zero _)⟩
  case round =>
    obtain ⟨i, hi, rfl, ht, hne⟩ := hrel
    have HT := Lib.hid ht
    have HNE := Lib.hid hne
    clear ht hne
    by_cases hlt : i < n
    case neg =>
      obtain rfl : n = i := by omega
      have HF : RowKit.Hid (rFind l k = none) := Lib.hid (rFind_none (fun j hj => HNE.out j hj (by rw [HLL.out] at hj; exact hj)))
      go_wp2_with fail
      go_ret
      exact ⟨by rw [HF.out]; rfl, HT.out⟩
    case pos =>
      have hlI : (i : Int) < n := by omega
      have hkL : i < l.length := by rw [HLL.out]; exact hlt
      have r1 := HR.out.still HT.out
      obtain ⟨b1, o1, e1⟩ := r1.some (by omega)
      rw [e1] at r1
      obtain ⟨p0, p1⟩ := row2_cell r1 i hkL _ _ rfl
      have HFI := Lib.hid (rFind_at (l := l) (k := k) hkL (HNE.out))
      have HGK := Lib.hid (fun (h : l[i].n ≠ k) j (hj : j < l.length) (hji : j < i + 1) => show l[j].n ≠ k from by
        by_cases e : j = i
        · subst e; exact h
        · exact HNE.out j hj (by omega))
      obtain ⟨q, hq⟩ : ∃ q, l[i] = q := ⟨_, rfl⟩
      rw [hq] at p0 p1 HFI HGK
      obtain ⟨qn, qf⟩ := q
      simp only at p0 p1 HFI HGK
      have hwk : wrap64 ((i : Int) + 1) = (i : Int) + 1 := by unfold wrap64; omega
      have HWK := Lib.hid hwk
      obtain ⟨W4, hW4⟩ : ∃ W, wr.alloc (.cells #[.string qn, .int .i64 qf] 76) = W := ⟨_, rfl⟩
      have g4 : W4.heap[wr.heap.size]? = some (.cells #[.string qn, .int .i64 qf] 76 (0, 0)) := hW4 ▸ heap_alloc_new ..
      have HT4 := Lib.hid (HT.out.trans (show Touch wr W4 (fun _ => False) from hW4 ▸ (Touch.refl wr _).alloc _) (fun _ _ h => h))
      have y0 : W4.cell? ⟨wr.heap.size, 0, none⟩ = some (.string qn) := cell_of_cells g4 0
      have y1 : W4.cell? ⟨wr.heap.size, 1, none⟩ = some (.int .i64 qf) := cell_of_cells g4 1
      have HW4 := Lib.hid hW4
      rw [e1]
      clear r1 hq hW4 g4 hwk
      go_upto_region 4 with (fail)
      rw [HW4.out]
      clear p0 p1
      by_cases he : qn = k
      · have HF := Lib.hid (HFI.out he)
        subst he
        go_wp2_with fail
        go_ret
        exact ⟨by rw [HF.out]; rfl, HT4.out⟩
      · have hne2 : (qn.toList == k.toList) = false := by rw [beq_eq_false_iff_ne]; intro e; exact he (toList_inj e)
        have HX : RowKit.Hid (∃ i' : Nat, i' ≤ n ∧ Value.int .i64 ((i : Int) + 1) = .int .i64 i' ∧ Touch w W4 (fun _ => False) ∧ ∀ j (h : j < l.length), j < i' → l[j].n ≠ k) := Lib.hid ⟨i + 1, by omega, by go_num, HT4.out, fun j hj hji => HGK.out he j hj hji⟩
        go_wp2_with fail
        try rw [HWK.out]
        go_roundw
        · exact HX.out
        · simp only [RowKit.intOf]; omega
/-- All but this name. -/
def rWo (l : List RN) (k : ByteArray) : List RN := l.filter (fun x => !decide (x.n = k))
theorem rWo_take {l : List RN} {k : ByteArray} {i : Nat} (hi : i < l.length) : rWo (l.take (i + 1)) k = if l[i].n = k then rWo (l.take i) k else rWo (l.take i) k ++ [l[i]] := by
  rw [List.take_succ_eq_append_getElem hi]
  unfold rWo
  rw [List.filter_append]
  by_cases h : l[i].n = k
  · rw [if_pos h]; simp [h]
  · rw [if_neg h]; simp [h]
set_option maxRecDepth 20000 in
set_option maxHeartbeats 8000000 in
theorem rwithout_any (w : World) (a : Option Addr) (n c : Nat) (l : List RN) (hr : RowS w a n c 2 (l.map rnl)) (hn : n ≤ 1000000) (k : ByteArray) :
    Calls Try.prog 72 #[.slice a n c, .string k] w fun e w' => ∃ a' c', e = .returned (.slice a' (rWo l k).length c') ∧ OwnS w' w.heap.size 76 2 (.slice a' (rWo l k).length c') ((rWo l k).map rnl) ∧ Touch w w' (fun _ => False) := by
  have hLl : l.length = n := by have := hr.hlen; simpa using this
  have hnc := hr.hcap
  have hnm := hr.hmax
  have HR := Lib.hid hr
  have HLL := Lib.hid hLl
  clear hr hLl
  go_enter Try.func72, Try.ntmps72
  go_wp2_with fail
  go_loopw [5, 10] (fun s5 s10 wr => ∃ (i : Nat) (a' : Option Addr) (c' N' : Nat), i ≤ n ∧ s10 = .int .i64 i ∧ s5 = .slice a' N' c' ∧ (rWo (l.take i) k).length = N' ∧ OwnS wr w.heap.size 76 2 (.slice a' N' c') ((rWo (l.take i) k).map rnl) ∧ Touch w wr (fun _ => False)) (fun _ s10 _ => n - (RowKit.intOf s10).toNat)
  case atStart => exact ⟨0, none, 0, 0, Nat.zero_le _, rfl, rfl, rfl, OwnS.nil _ _ _ _, Touch.refl _ _⟩
  case round =>
    obtain ⟨i, a', c', N', hi, rfl, rfl, hN', ho, ht⟩ := hrel
    have HO := Lib.hid ho
    have HT := Lib.hid ht
    have HL' := Lib.hid hN'
    clear ho ht hN'
    by_cases hlt : i < n
    case neg =>
      obtain rfl : n = i := by omega
      have htk : l.take n = l := List.take_of_length_le (by rw [HLL.out]; exact Nat.le_refl _)
      have HTK := Lib.hid htk
      clear htk
      go_wp2_with fail
      go_ret
      refine ⟨a', c', ?_, ?_, HT.out⟩
      · have := HL'.out; rw [HTK.out] at this; rw [this]; rfl
      · have h1 := HL'.out
        have h2 := HO.out
        rw [HTK.out] at h1 h2
        rw [h1]; exact h2
    case pos =>
      have hlI : (i : Int) < n := by omega
      have hkL : i < l.length := by rw [HLL.out]; exact hlt
      have r1 := HR.out.still HT.out
      obtain ⟨b1, o1, e1⟩ := r1.some (by omega)
      rw [e1] at r1
      obtain ⟨p0, p1⟩ := row2_cell r1 i hkL _ _ rfl
      have HTK := Lib.hid (rWo_take (l := l) (k := k) hkL)
      obtain ⟨q, hq⟩ : ∃ q, l[i] = q := ⟨_, rfl⟩
      rw [hq] at p0 p1 HTK
      obtain ⟨qn, qf⟩ := q
      simp only at p0 p1 HTK
      have hwk : wrap64 ((i : Int) + 1) = (i : Int) + 1 := by unfold wrap64; omega
      have HWK := Lib.hid hwk
      have hNi : N' ≤ i := by
        have h1 : (rWo (l.take i) k).length ≤ (l.take i).length := List.length_filter_le _ _
        have h2 : (l.take i).length ≤ i := by rw [List.length_take]; omega
        have h3 := HL'.out
        omega
      obtain ⟨W4, hW4⟩ : ∃ W, wr.alloc (.cells #[.string qn, .int .i64 qf] 76) = W := ⟨_, rfl⟩
      have g4 : W4.heap[wr.heap.size]? = some (.cells #[.string qn, .int .i64 qf] 76 (0, 0)) := hW4 ▸ heap_alloc_new ..
      have t4 : Touch wr W4 (fun _ => False) := hW4 ▸ (Touch.refl wr _).alloc _
      have HT4 := Lib.hid (HT.out.trans t4 (fun _ _ h => h))
      have HO4 := Lib.hid (HO.out.still t4)
      have y0 : W4.cell? ⟨wr.heap.size, 0, none⟩ = some (.string qn) := cell_of_cells g4 0
      have y1 : W4.cell? ⟨wr.heap.size, 1, none⟩ = some (.int .i64 qf) := cell_of_cells g4 1
      have HW4 := Lib.hid hW4
      rw [e1]
      clear r1 hq hW4 g4 hwk t4
      go_upto_region 5 with (fail)
      rw [HW4.out]
      clear p0 p1
      by_cases he : qn = k
      · have HX : RowKit.Hid (∃ (i' : Nat) (a'' : Option Addr) (c'' N'' : Nat), i' ≤ n ∧ Value.int .i64 ((i : Int) + 1) = .int .i64 i' ∧ Value.slice a' N' c' = .slice a'' N'' c'' ∧ (rWo (l.take i') k).length = N'' ∧ OwnS W4 w.heap.size 76 2 (.slice a'' N'' c'') ((rWo (l.take i') k).map rnl) ∧ Touch w W4 (fun _ => False)) := Lib.hid ⟨i + 1, a', c', N', by omega, by go_num, rfl, by rw [HTK.out, if_pos he]; exact HL'.out, by rw [HTK.out, if_pos he]; exact HO4.out, HT4.out⟩
        subst he
        go_wp2_with fail
        try rw [HWK.out]
        go_roundw
        · exact HX.out
        · simp only [RowKit.intOf]; omega
      · have hne2 : (qn.toList == k.toList) = false := by rw [beq_eq_false_iff_ne]; intro e; exact he (toList_inj e)
        have HE := Lib.hid he
        have HSZ := Lib.hid HT4.out.size
        obtain ⟨W5, hW5⟩ : ∃ W, W4.alloc (.cells #[.string qn, .int .i64 qf] 76) = W := ⟨_, rfl⟩
        have HO5 := Lib.hid (HO4.out.still (show Touch W4 W5 (fun _ => False) from hW5 ▸ (Touch.refl W4 _).alloc _))
        have HW5 := Lib.hid hW5
        clear he hW5
        go_wp2_with (at_builtin; rw [HW5.out]; (with_reducible refine wp_add1 HO5.out HW5.out (row := [.string qn, .int .i64 qf]) rfl rfl (by simp [Value.oneCell']) (by omega) 67 Try.underlying67 _ 24 infoRN rfl (by decide) (by decide) HSZ.out rfl _ _ rfl rfl rfl ?_); intro a6 c6 w6 ho6 ht6 hn6; have HO6 := Lib.hid ho6; have HT6 := Lib.hid ht6; clear ho6 ht6 hn6)
        have HX : RowKit.Hid (∃ (i' : Nat) (a'' : Option Addr) (c'' N'' : Nat), i' ≤ n ∧ Value.int .i64 ((i : Int) + 1) = .int .i64 i' ∧ Value.slice a6 (N' + 1) c6 = .slice a'' N'' c'' ∧ (rWo (l.take i') k).length = N'' ∧ OwnS w6 w.heap.size 76 2 (.slice a'' N'' c'') ((rWo (l.take i') k).map rnl) ∧ Touch w w6 (fun _ => False)) := Lib.hid (by
          refine ⟨i + 1, a6, c6, N' + 1, by omega, by go_num, rfl, ?_, ?_, HT4.out.trans HT6.out (fun x hx h => ?_)⟩
          · rw [HTK.out, if_neg HE.out, List.length_append, HL'.out]; rfl
          · rw [HTK.out, if_neg HE.out, List.map_append]
            exact HO6.out
          · obtain ⟨y, hy, rfl⟩ := bown_block h
            have := (HO5.out.row'.2.2 y hy).1
            omega)
        try rw [HWK.out]
        go_roundw
        · exact HX.out
        · simp only [RowKit.intOf]; omega
end Go.Proofs.Ytmokcfmlolohaaa

end

section
/- The reference's disk: with, turn. -/
set_option linter.unusedVariables false
set_option linter.unusedSimpArgs false
namespace Go.Proofs.Ytmokcfmlolohaaa
open Go.RowKit

def ltR (a b : RN) : Bool := Op.bytesLess a.n.toList b.n.toList
def gR (D : List RN) (j : Nat) : RN := D.getD j ⟨⟨#[]⟩, 0⟩
theorem gR_get (D : List RN) (j : Nat) (h : j < D.length) : gR D j = D[j] := by unfold gR; simp [h]
def insR (r : RN) : List RN → List RN
  | [] => [r]
  | x :: l => if ltR x r = true then x :: insR r l else r :: x :: l
def rWi (l : List RN) (k : ByteArray) (f : Nat) : List RN := insR ⟨k, f⟩ (rWo l k)
theorem insR_len (r : RN) (l : List RN) : (insR r l).length = l.length + 1 := by
  induction l with
  | nil => rfl
  | cons x l ih =>
    unfold insR
    split
    · rw [List.length_cons, ih, List.length_cons]
    · rfl
theorem own_plR {w : World} {base k n c : Nat} {E : TypeId} {a : Option Addr} {L : List (List Value)} (h : OwnS w base E k (.slice a n c) L) : a = none ∨ ∃ g off, a = some ⟨g, off, none⟩ := by
  rcases h.own.2 with ⟨h, _⟩ | ⟨g, cap, cur, h, _⟩
  · simp only [Value.slice.injEq] at h
    exact .inl h.1
  · simp only [Value.slice.injEq] at h
    exact .inr ⟨g, 0, h.1⟩
theorem row_oneR (w : World) (r : RN) : RowS (w.alloc (.cells #[.string r.n, .int .i64 r.f] 76)) (some ⟨w.heap.size, 0, none⟩) 1 1 2 [rnl r] :=
  ((OwnS.lit w w.heap.size (Nat.le_refl _) 76 2 1 [rnl r] #[.string r.n, .int .i64 r.f] rfl rfl (by simp [rnl]) (by omega)).row').2.1
theorem row_frontR {α : Type} {q : α → List Value} {w : World} {g off n c : Nat} {D : List α} (h : RowS w (some ⟨g, off, none⟩) n c 2 (D.map q)) (i : Nat) (hi : i ≤ n) : RowS w (some ⟨g, off, none⟩) i c 2 ((D.take i).map q) := by
  rw [List.map_take]; exact h.take i hi
theorem row_backR {α : Type} {q : α → List Value} {w : World} {g off n c : Nat} {D : List α} (h : RowS w (some ⟨g, off, none⟩) n c 2 (D.map q)) (i : Nat) (hi : i ≤ n) : RowS w (if c = i then some ⟨g, off, none⟩ else some ⟨g, off + i * 2, none⟩) (n - i) (c - i) 2 ((D.drop i).map q) := by
  have hl : D.length = n := by have := h.hlen; simpa using this
  have hc1 := h.hcap
  have hc2 := h.hmax
  by_cases hci : c = i
  · rw [if_pos hci]
    have : n - i = 0 := by omega
    rw [this]
    have hd : D.drop i = [] := List.drop_eq_nil_of_le (by omega)
    rw [hd]
    exact RowS.nil _ _ _ _ (by omega)
  · rw [if_neg hci]
    refine ⟨by simp; omega, by omega, by omega, fun x hx => h.each x (by rw [List.map_drop] at hx; exact List.mem_of_mem_drop hx), ?_⟩
    rcases h.at_ with h0 | ⟨b, o, e, hlt, hc⟩
    · exact .inl (by omega)
    · simp only [Option.some.injEq, Addr.mk.injEq, and_true] at e
      obtain ⟨rfl, rfl⟩ := e
      refine .inr ⟨g, off + i * 2, rfl, hlt, fun j hj m u hu => ?_⟩
      have := hc (i + j) (by simp at hj ⊢; omega) m u (by simpa using hu)
      rw [Nat.add_mul, ← Nat.add_assoc] at this
      exact this
theorem one_rnl (l : List RN) : ∀ x ∈ l.map rnl, ∀ u ∈ x, u.oneCell' = true := by
  intro x hx u hu
  obtain ⟨r, _, rfl⟩ := List.mem_map.1 hx
  simp only [rnl, List.mem_cons, List.not_mem_nil, or_false] at hu
  rcases hu with rfl | rfl <;> rfl
theorem with_end {w wc x : World} {n c9 : Nat} {a9 : Option Addr} {l D Z : List RN} {k : ByteArray} {f : Nat} (hD : rWo l k = D) (hI : insR ⟨k, f⟩ D = Z) (t2 : Touch w wc (fun _ => False)) (hS : Touch wc x (fun _ => False))
    (ho : OwnS x wc.heap.size 76 2 (.slice a9 (n + 1) c9) (Z.map rnl)) (hn : Z.length = n + 1) : ∃ a' c', Ending.returned (.slice a9 (n + 1) c9) = Ending.returned (.slice a' (rWi l k f).length c') ∧ OwnS x w.heap.size 76 2 (.slice a' (rWi l k f).length c') ((rWi l k f).map rnl) ∧ Touch w x (fun _ => False) := by
  have e : rWi l k f = Z := by unfold rWi; rw [hD, hI]
  rw [e, hn]
  exact ⟨a9, c9, rfl, ho.rebase (fun y hy => Nat.le_trans t2.size (ho.own.lt y hy).1), t2.trans hS (fun _ _ h => h)⟩
theorem insR_at : ∀ (D : List RN) (r : RN) (i : Nat), i ≤ D.length → (∀ j, j < i → ltR (gR D j) r = true) → (i = D.length ∨ ltR (gR D i) r = false) → insR r D = D.take i ++ r :: D.drop i
  | [], r, i, hi, _, _ => by
    have : i = 0 := by simpa using hi
    subst this; rfl
  | x :: D, r, 0, _, _, h => by
    have hx : ltR x r = false := by
      rcases h with h | h
      · simp at h
      · exact h
    unfold insR
    rw [hx]; rfl
  | x :: D, r, i + 1, hi, hl, h => by
    have hx : ltR x r = true := hl 0 (by omega)
    unfold insR
    rw [if_pos hx, List.take_succ_cons, List.drop_succ_cons, List.cons_append]
    congr 1
    refine insR_at D r i (by simpa using hi) (fun j hj => hl (j + 1) (by omega)) ?_
    rcases h with h | h
    · exact .inl (by simpa using h)
    · exact .inr h
set_option maxRecDepth 20000 in
set_option maxHeartbeats 8000000 in
theorem rwith_any (w : World) (a : Option Addr) (n0 c : Nat) (l : List RN) (hr : RowS w a n0 c 2 (l.map rnl)) (hn0 : n0 ≤ 1000000) (k : ByteArray) (f : Nat) :
    Calls Try.prog 73 #[.slice a n0 c, .string k, .int .i64 f] w fun e w' => ∃ a' c', e = .returned (.slice a' (rWi l k f).length c') ∧ OwnS w' w.heap.size 76 2 (.slice a' (rWi l k f).length c') ((rWi l k f).map rnl) ∧ Touch w w' (fun _ => False) := by
  have HWO := Lib.hid (rwithout_any w a n0 c l hr hn0 k)
  have hlen : (rWo l k).length ≤ 1000000 := by
    have h1 : (rWo l k).length ≤ l.length := List.length_filter_le _ _
    have h2 : l.length = n0 := by have := hr.hlen; simpa using this
    omega
  obtain ⟨D, hD⟩ : ∃ D, rWo l k = D := ⟨_, rfl⟩
  rw [hD] at HWO hlen
  have HDL := Lib.hid hD
  obtain ⟨n, hn⟩ : ∃ n, D.length = n := ⟨_, rfl⟩
  rw [hn] at HWO hlen
  have HN := Lib.hid hn
  clear hr hD hn
  go_enter Try.func73, Try.ntmps73
  go_wp2_with fail
  (with_reducible refine HWO.out.mono ?_)
  rintro e wc ⟨a2, c2, rfl, ho2, t2⟩
  have HR2 := Lib.hid ho2
  have HT2 := Lib.hid t2
  have HPL := Lib.hid (own_plR ho2)
  have HLT : RowKit.Hid (∀ y, a2 = some y → y.block < wc.heap.size) := Lib.hid (fun y hy => (ho2.row'.2.2 y hy).2)
  have hcap := ho2.row'.2.1.hcap
  have hmax := ho2.row'.2.1.hmax
  clear ho2 t2
  go_upto_block 0 with fail
  go_cut [7] (fun s7 wx => ∃ i : Nat, i ≤ n ∧ s7 = .int .i64 i ∧ (∀ j, j < i → ltR (gR D j) ⟨k, f⟩ = true) ∧ (i = D.length ∨ ltR (gR D i) ⟨k, f⟩ = false) ∧ wx = wc)
  case first =>
    go_wp2_with fail
    go_loopw [7] (fun s7 wr => ∃ i : Nat, i ≤ n ∧ s7 = .int .i64 i ∧ (∀ j, j < i → ltR (gR D j) ⟨k, f⟩ = true) ∧ wr = wc) (fun s7 _ => n - (RowKit.intOf s7).toNat)
    case atStart => exact ⟨0, Nat.zero_le _, rfl, fun j hj => by omega, rfl⟩
    case round =>
      obtain ⟨i, hi, rfl, hls, rfl⟩ := hrel
      have HLS := Lib.hid hls
      clear hls
      by_cases hlt : i < n
      case neg =>
        obtain rfl : n = i := by omega
        go_wp2_with fail
        go_meet
        exact ⟨n, Nat.le_refl _, rfl, HLS.out, .inl HN.out.symm, rfl⟩
      case pos =>
        have hlI : (i : Int) < n := by omega
        have hkD : i < D.length := by rw [HN.out]; exact hlt
        have r1 := HR2.out.row'.2.1
        obtain ⟨g, off, e1⟩ := r1.some (by omega)
        subst e1
        obtain ⟨d0, d1⟩ := row2_cell r1 i hkD _ _ rfl
        rw [← gR_get D i hkD] at d0 d1
        cases hb : ltR (gR D i) ⟨k, f⟩ with
        | true =>
          have HX : RowKit.Hid (∃ i' : Nat, i' ≤ n ∧ Value.int .i64 ((i : Int) + 1) = .int .i64 i' ∧ (∀ j, j < i' → ltR (gR D j) ⟨k, f⟩ = true) ∧ True) := Lib.hid ⟨i + 1, by omega, by go_num, fun j hj => by
            by_cases hji : j = i
            · rw [hji]; exact hb
            · exact HLS.out j (by omega), trivial⟩
          have hbl : Op.bytesLess (gR D i).n.toList k.toList = true := hb
          have hwk : wrap64 ((i : Int) + 1) = (i : Int) + 1 := by unfold wrap64; omega
          have HWK := Lib.hid hwk
          clear hb r1 hwk
          generalize (gR D i).n = kk at *
          generalize (gR D i).f = ff at *
          go_wp2_with fail
          try rw [HWK.out]
          go_roundw
          · exact HX.out
          · simp only [RowKit.intOf]; omega
        | false =>
          have HEX : RowKit.Hid (ltR (gR D i) ⟨k, f⟩ = false) := Lib.hid hb
          have hbl : Op.bytesLess (gR D i).n.toList k.toList = false := hb
          clear hb r1
          obtain ⟨kk, hkk⟩ : ∃ kk, (gR D i).n = kk := ⟨_, rfl⟩
          rw [hkk] at d0 hbl
          clear hkk
          go_wp2_with fail
          go_meet
          exact ⟨i, by omega, rfl, HLS.out, .inr HEX.out, rfl⟩
  case rest =>
    obtain ⟨i, hi, rfl, hls, hex, rfl⟩ := hcut
    have HLS := Lib.hid hls
    have HEX := Lib.hid hex
    clear hls hex
    have HIN := Lib.hid (insR_at D ⟨k, f⟩ i (by rw [HN.out]; exact hi) HLS.out HEX.out)
    go_upto_region 5 with (fail)
    obtain hnone | ⟨g, off, hsome⟩ := HPL.out
    · subst hnone
      obtain rfl : D = [] := by
        cases D with
        | nil => rfl
        | cons y D => obtain ⟨_, _, e⟩ := HR2.out.row'.2.1.some (by have := HN.out; simp at this; omega); cases e
      obtain rfl : n = 0 := HN.out.symm
      obtain rfl : i = 0 := by omega
      have hS := (Touch.refl wc (fun _ => False)).drew
      refine wp_region_tree3 (fun w' => Touch wc w' (fun _ => False)) (.take 0 (.take 1 (.take 2 (.take 4 (.take 5 (.take 6 (.take 9 (.take 10 (.take 11 (.two 3 7 (.one 7 (.one 8 (.one 12 (.take 13 .fin)))) (.one 3 (.one 8 (.one 12 (.take 13 .fin)))))))))))))) (by kernel_rfl) (by kernel_rfl) (by kernel_rfl) (by kernel_rfl) hS ?_
      refine walk3_take ?_
      (refine takeN_take (v := ?_) (some 26) rfl rfl (fun _ _ _ h => h) (by rfl) ?_ ?_; rotate_left; (focus (intro w' hw'; go_simp; (try with_reducible rfl))); (try simp only [Act.put, List.setIfInBounds_toArray, List.set_cons_zero, List.set_cons_succ]))
      refine walk3_take ?_
      (refine takeN_take (v := ?_) (some 27) rfl rfl (fun _ _ _ h => h) (by rfl) ?_ ?_; rotate_left; (focus (intro w' hw'; go_simp; (try with_reducible rfl))); (try simp only [Act.put, List.setIfInBounds_toArray, List.set_cons_zero, List.set_cons_succ]))
      refine walk3_take ?_
      (refine takeN_take (v := ?_) (some 28) rfl rfl (fun _ _ _ h => h) (by rfl) ?_ ?_; rotate_left; (focus (intro w' hw'; go_simp; (try with_reducible rfl))); (try simp only [Act.put, List.setIfInBounds_toArray, List.set_cons_zero, List.set_cons_succ]))
      refine walk3_take ?_
      (refine takeN_take (v := ?_) (some 30) rfl rfl (fun _ _ _ h => h) (by rfl) ?_ ?_; rotate_left; (focus (intro w' hw'; go_simp; (try with_reducible rfl))); (try simp only [Act.put, List.setIfInBounds_toArray, List.set_cons_zero, List.set_cons_succ]))
      refine walk3_take ?_
      (refine takeN_take (v := ?_) (some 31) rfl rfl (fun _ _ _ h => h) (by rfl) ?_ ?_; rotate_left; (focus (intro w' hw'; go_simp; (try with_reducible rfl))); (try simp only [Act.put, List.setIfInBounds_toArray, List.set_cons_zero, List.set_cons_succ]))
      refine walk3_take ?_
      (refine takeN_take (v := ?_) (some 32) rfl rfl (fun _ _ _ h => h) (by rfl) ?_ ?_; rotate_left; (focus (intro w' hw'; go_simp; (try with_reducible rfl))); (try simp only [Act.put, List.setIfInBounds_toArray, List.set_cons_zero, List.set_cons_succ]))
      refine walk3_take ?_
      (refine takeN_take (v := ?_) (some 35) rfl rfl (fun _ _ _ h => h) (by rfl) ?_ ?_; rotate_left; (focus (intro w' hw'; go_simp; (try with_reducible rfl))); (try simp only [Act.put, List.setIfInBounds_toArray, List.set_cons_zero, List.set_cons_succ]))
      refine walk3_take ?_
      (refine takeN_take (v := ?_) (some 36) rfl rfl (fun _ _ _ h => h) (by rfl) ?_ ?_; rotate_left; (focus (intro w' hw'; go_simp; (try with_reducible rfl))); (try simp only [Act.put, List.setIfInBounds_toArray, List.set_cons_zero, List.set_cons_succ]))
      refine walk3_take ?_
      (refine takeN_take (v := ?_) (some 37) rfl rfl (fun _ _ _ h => h) (by rfl) ?_ ?_; rotate_left; (focus (intro w' hw'; go_simp; (try with_reducible rfl))); (try simp only [Act.put, List.setIfInBounds_toArray, List.set_cons_zero, List.set_cons_succ]))
      refine walk3_two ?_ ?_
      · (refine runN_appS 29 (.const (.slice none 0 0)) (.tmp 28) _ rfl rfl rfl (by rfl) 76 Try.underlying67 (.agg #[.string ByteArray.empty, .int .i64 0]) 2 24 infoRN rfl (by decide) wc.heap.size _ _ rfl (OwnS.nil _ _ _ _) _ _ _ _ rfl (RowS.nil _ _ _ _ (by omega)) (by simp) (0) ((([] : List RN)).map rnl) (by simp) (by simp) (by simp only [maxLen]; omega) (by omega) hS.size ?_; intro a7 c7 w7 how9 hg9 hp9; have t9 := (Touch.refl _ (fun _ => False)).grown hg9 (fun k hk _ => by cases hk); have hS := hS.trans t9 (fun k h1 h2 => by first | exact h2.elim | (have h2 : wc.heap.size ≤ k := h2; omega)); refine ⟨hS, fun _ => ?_⟩; (try have HRW := Lib.hid (HRW.out.still t9)); (try have HNW := Lib.hid (HNW.out.still t9)); have HO1 := Lib.hid how9; clear how9 hg9 hp9 t9; (try simp only [Act.put, List.setIfInBounds_toArray, List.set_cons_zero, List.set_cons_succ]))
        refine walk3_one ?_
        (refine runN_new 33 (fun W => .slice (some ⟨W.heap.size, 0, none⟩) 1 1) #[.string k, .int .i64 f] 76 rfl rfl (by rfl) (by intro W; go_simp <;> first | with_reducible rfl | rfl | exact ⟨rfl, rfl⟩) ?_; intro w7 hw7 hM7 hs7 t9; have hS := hS.trans t9 (fun _ _ h => h.elim); refine ⟨hS, fun _ => ?_⟩; have HNW := Lib.hid (show RowS w7 _ 1 1 2 [rnl ⟨k, f⟩] by rw [hw7]; exact row_oneR _ ⟨k, f⟩); (try have HRW := Lib.hid (HRW.out.still t9)); (try have HO1 := Lib.hid (HO1.out.still t9)); clear hw7 hM7 hs7 t9; (try simp only [Act.put, List.setIfInBounds_toArray, List.set_cons_zero, List.set_cons_succ]))
        refine walk3_one ?_
        (refine runN_appS 34 (.tmp 29) (.tmp 33) _ rfl rfl rfl (by rfl) 76 Try.underlying67 (.agg #[.string ByteArray.empty, .int .i64 0]) 2 24 infoRN rfl (by decide) wc.heap.size _ _ rfl HO1.out _ _ _ _ rfl HNW.out (by simp [rnl, Value.oneCell']) 1 ((([] : List RN) ++ [(⟨k, f⟩ : RN)]).map rnl) (by simp) (by simp) (by simp only [maxLen]; omega) (by omega) hS.size ?_; intro a12 c12 w12 how9 hg9 hp9; have t9 := (Touch.refl _ (fun k => wc.heap.size ≤ k)).grown hg9 (fun k hk _ => (HO1.out.own.lt k hk).1); have hS := hS.trans t9 (fun k h1 h2 => by first | exact h2.elim | (have h2 : wc.heap.size ≤ k := h2; omega)); refine ⟨hS, fun _ => ?_⟩; (try have HRW := Lib.hid (HRW.out.touch t9 (fun y hy => .inr (fun h2 => by have h2 : wc.heap.size ≤ y.block := h2; have := HLT.out y hy; omega)))); have HO2 := Lib.hid how9; clear how9 hg9 hp9 t9; (try simp only [Act.put, List.setIfInBounds_toArray, List.set_cons_zero, List.set_cons_succ]))
        refine walk3_one ?_
        (refine runN_appS 38 (.tmp 34) (.tmp 37) _ rfl rfl rfl (by rfl) 76 Try.underlying67 (.agg #[.string ByteArray.empty, .int .i64 0]) 2 24 infoRN rfl (by decide) wc.heap.size _ _ rfl HO2.out _ _ _ _ rfl (RowS.nil _ _ _ _ (by omega)) (by simp) 1 ((([] : List RN) ++ (⟨k, f⟩ : RN) :: ([] : List RN)).map rnl) (by simp) (by simp) (by simp only [maxLen]; omega) (by omega) hS.size ?_; intro a19 c19 w19 how9 hg9 hp9; have t9 := (Touch.refl _ (fun k => wc.heap.size ≤ k)).grown hg9 (fun k hk _ => (HO2.out.own.lt k hk).1); have hS := hS.trans t9 (fun k h1 h2 => by first | exact h2.elim | (have h2 : wc.heap.size ≤ k := h2; omega)); refine ⟨hS, fun _ => ?_⟩; (try have HRW := Lib.hid (HRW.out.touch t9 (fun y hy => .inr (fun h2 => by have h2 : wc.heap.size ≤ y.block := h2; have := HLT.out y hy; omega)))); have HO3 := Lib.hid how9; clear how9 hg9 hp9 t9; (try simp only [Act.put, List.setIfInBounds_toArray, List.set_cons_zero, List.set_cons_succ]))
        refine walk3_take ?_
        (refine takeN_take (v := ?_) (some 6) rfl rfl (fun _ _ _ h => h) (by rfl) ?_ ?_; rotate_left; (focus (intro w' hw'; go_simp; (try with_reducible rfl))); (try simp only [Act.put, List.setIfInBounds_toArray, List.set_cons_zero, List.set_cons_succ]))
        refine walk3_fin ?_
        go_wp2_with fail
        all_goals (go_ret)
        all_goals exact with_end (n := 0) HDL.out HIN.out HT2.out hS HO3.out (by simp)
      · (refine runN_new 33 (fun W => .slice (some ⟨W.heap.size, 0, none⟩) 1 1) #[.string k, .int .i64 f] 76 rfl rfl (by rfl) (by intro W; go_simp <;> first | with_reducible rfl | rfl | exact ⟨rfl, rfl⟩) ?_; intro w7 hw7 hM7 hs7 t9; have hS := hS.trans t9 (fun _ _ h => h.elim); refine ⟨hS, fun _ => ?_⟩; have HNW := Lib.hid (show RowS w7 _ 1 1 2 [rnl ⟨k, f⟩] by rw [hw7]; exact row_oneR _ ⟨k, f⟩); (try have HRW := Lib.hid (HRW.out.still t9)); (try have HO1 := Lib.hid (HO1.out.still t9)); clear hw7 hM7 hs7 t9; (try simp only [Act.put, List.setIfInBounds_toArray, List.set_cons_zero, List.set_cons_succ]))
        refine walk3_one ?_
        (refine runN_appS 29 (.const (.slice none 0 0)) (.tmp 28) _ rfl rfl rfl (by rfl) 76 Try.underlying67 (.agg #[.string ByteArray.empty, .int .i64 0]) 2 24 infoRN rfl (by decide) wc.heap.size _ _ rfl (OwnS.nil _ _ _ _) _ _ _ _ rfl (RowS.nil _ _ _ _ (by omega)) (by simp) (0) ((([] : List RN)).map rnl) (by simp) (by simp) (by simp only [maxLen]; omega) (by omega) hS.size ?_; intro a7 c7 w7 how9 hg9 hp9; have t9 := (Touch.refl _ (fun _ => False)).grown hg9 (fun k hk _ => by cases hk); have hS := hS.trans t9 (fun k h1 h2 => by first | exact h2.elim | (have h2 : wc.heap.size ≤ k := h2; omega)); refine ⟨hS, fun _ => ?_⟩; (try have HRW := Lib.hid (HRW.out.still t9)); (try have HNW := Lib.hid (HNW.out.still t9)); have HO1 := Lib.hid how9; clear how9 hg9 hp9 t9; (try simp only [Act.put, List.setIfInBounds_toArray, List.set_cons_zero, List.set_cons_succ]))
        refine walk3_one ?_
        (refine runN_appS 34 (.tmp 29) (.tmp 33) _ rfl rfl rfl (by rfl) 76 Try.underlying67 (.agg #[.string ByteArray.empty, .int .i64 0]) 2 24 infoRN rfl (by decide) wc.heap.size _ _ rfl HO1.out _ _ _ _ rfl HNW.out (by simp [rnl, Value.oneCell']) 1 ((([] : List RN) ++ [(⟨k, f⟩ : RN)]).map rnl) (by simp) (by simp) (by simp only [maxLen]; omega) (by omega) hS.size ?_; intro a12 c12 w12 how9 hg9 hp9; have t9 := (Touch.refl _ (fun k => wc.heap.size ≤ k)).grown hg9 (fun k hk _ => (HO1.out.own.lt k hk).1); have hS := hS.trans t9 (fun k h1 h2 => by first | exact h2.elim | (have h2 : wc.heap.size ≤ k := h2; omega)); refine ⟨hS, fun _ => ?_⟩; (try have HRW := Lib.hid (HRW.out.touch t9 (fun y hy => .inr (fun h2 => by have h2 : wc.heap.size ≤ y.block := h2; have := HLT.out y hy; omega)))); have HO2 := Lib.hid how9; clear how9 hg9 hp9 t9; (try simp only [Act.put, List.setIfInBounds_toArray, List.set_cons_zero, List.set_cons_succ]))
        refine walk3_one ?_
        (refine runN_appS 38 (.tmp 34) (.tmp 37) _ rfl rfl rfl (by rfl) 76 Try.underlying67 (.agg #[.string ByteArray.empty, .int .i64 0]) 2 24 infoRN rfl (by decide) wc.heap.size _ _ rfl HO2.out _ _ _ _ rfl (RowS.nil _ _ _ _ (by omega)) (by simp) 1 ((([] : List RN) ++ (⟨k, f⟩ : RN) :: ([] : List RN)).map rnl) (by simp) (by simp) (by simp only [maxLen]; omega) (by omega) hS.size ?_; intro a19 c19 w19 how9 hg9 hp9; have t9 := (Touch.refl _ (fun k => wc.heap.size ≤ k)).grown hg9 (fun k hk _ => (HO2.out.own.lt k hk).1); have hS := hS.trans t9 (fun k h1 h2 => by first | exact h2.elim | (have h2 : wc.heap.size ≤ k := h2; omega)); refine ⟨hS, fun _ => ?_⟩; (try have HRW := Lib.hid (HRW.out.touch t9 (fun y hy => .inr (fun h2 => by have h2 : wc.heap.size ≤ y.block := h2; have := HLT.out y hy; omega)))); have HO3 := Lib.hid how9; clear how9 hg9 hp9 t9; (try simp only [Act.put, List.setIfInBounds_toArray, List.set_cons_zero, List.set_cons_succ]))
        refine walk3_take ?_
        (refine takeN_take (v := ?_) (some 6) rfl rfl (fun _ _ _ h => h) (by rfl) ?_ ?_; rotate_left; (focus (intro w' hw'; go_simp; (try with_reducible rfl))); (try simp only [Act.put, List.setIfInBounds_toArray, List.set_cons_zero, List.set_cons_succ]))
        refine walk3_fin ?_
        go_wp2_with fail
        all_goals (go_ret)
        all_goals exact with_end (n := 0) HDL.out HIN.out HT2.out hS HO3.out (by simp)
    · subst hsome
      have hic : i ≤ c2 := Nat.le_trans hi hcap
      have HRW : RowKit.Hid (RowS wc.drew (some ⟨g, off, none⟩) n c2 2 (D.map rnl)) := Lib.hid (HR2.out.row'.2.1.still ((Touch.refl wc (fun _ => False)).drew))
      have hS := (Touch.refl wc (fun _ => False)).drew
      refine wp_region_tree3 (fun w' => Touch wc w' (fun _ => False)) (.take 0 (.take 1 (.take 2 (.take 4 (.take 5 (.take 6 (.take 9 (.take 10 (.take 11 (.two 3 7 (.one 7 (.one 8 (.one 12 (.take 13 .fin)))) (.one 3 (.one 8 (.one 12 (.take 13 .fin)))))))))))))) (by kernel_rfl) (by kernel_rfl) (by kernel_rfl) (by kernel_rfl) hS ?_
      refine walk3_take ?_
      (refine takeN_take (v := ?_) (some 26) rfl rfl (fun _ _ _ h => h) (by rfl) ?_ ?_; rotate_left; (focus (intro w' hw'; go_simp; (try with_reducible rfl))); (try simp only [Act.put, List.setIfInBounds_toArray, List.set_cons_zero, List.set_cons_succ]))
      refine walk3_take ?_
      (refine takeN_take (v := ?_) (some 27) rfl rfl (fun _ _ _ h => h) (by rfl) ?_ ?_; rotate_left; (focus (intro w' hw'; go_simp; (try with_reducible rfl))); (try simp only [Act.put, List.setIfInBounds_toArray, List.set_cons_zero, List.set_cons_succ]))
      refine walk3_take ?_
      (refine takeN_take (v := ?_) (some 28) rfl rfl (fun _ _ _ h => h) (by rfl) ?_ ?_; rotate_left; (focus (intro w' hw'; go_simp; (try with_reducible rfl))); (try simp only [Act.put, List.setIfInBounds_toArray, List.set_cons_zero, List.set_cons_succ]))
      refine walk3_take ?_
      (refine takeN_take (v := ?_) (some 30) rfl rfl (fun _ _ _ h => h) (by rfl) ?_ ?_; rotate_left; (focus (intro w' hw'; go_simp; (try with_reducible rfl))); (try simp only [Act.put, List.setIfInBounds_toArray, List.set_cons_zero, List.set_cons_succ]))
      refine walk3_take ?_
      (refine takeN_take (v := ?_) (some 31) rfl rfl (fun _ _ _ h => h) (by rfl) ?_ ?_; rotate_left; (focus (intro w' hw'; go_simp; (try with_reducible rfl))); (try simp only [Act.put, List.setIfInBounds_toArray, List.set_cons_zero, List.set_cons_succ]))
      refine walk3_take ?_
      (refine takeN_take (v := ?_) (some 32) rfl rfl (fun _ _ _ h => h) (by rfl) ?_ ?_; rotate_left; (focus (intro w' hw'; go_simp; (try with_reducible rfl))); (try simp only [Act.put, List.setIfInBounds_toArray, List.set_cons_zero, List.set_cons_succ]))
      refine walk3_take ?_
      (refine takeN_take (v := ?_) (some 35) rfl rfl (fun _ _ _ h => h) (by rfl) ?_ ?_; rotate_left; (focus (intro w' hw'; go_simp; (try with_reducible rfl))); (try simp only [Act.put, List.setIfInBounds_toArray, List.set_cons_zero, List.set_cons_succ]))
      refine walk3_take ?_
      (refine takeN_take (v := ?_) (some 36) rfl rfl (fun _ _ _ h => h) (by rfl) ?_ ?_; rotate_left; (focus (intro w' hw'; go_simp; (try with_reducible rfl))); (try simp only [Act.put, List.setIfInBounds_toArray, List.set_cons_zero, List.set_cons_succ]))
      refine walk3_take ?_
      (refine takeN_take (v := ?_) (some 37) rfl rfl (fun _ _ _ h => h) (by rfl) ?_ ?_; rotate_left; (focus (intro w' hw'; go_simp; (try with_reducible rfl))); (try simp only [Act.put, List.setIfInBounds_toArray, List.set_cons_zero, List.set_cons_succ]))
      refine walk3_two ?_ ?_
      · (refine runN_appS 29 (.const (.slice none 0 0)) (.tmp 28) _ rfl rfl rfl (by rfl) 76 Try.underlying67 (.agg #[.string ByteArray.empty, .int .i64 0]) 2 24 infoRN rfl (by decide) wc.heap.size _ _ rfl (OwnS.nil _ _ _ _) _ _ _ _ rfl (row_frontR HRW.out i hi) (one_rnl _) (i) ((D.take i).map rnl) (by simp) (by simp) (by simp only [maxLen]; omega) (by omega) hS.size ?_; intro a7 c7 w7 how9 hg9 hp9; have t9 := (Touch.refl _ (fun _ => False)).grown hg9 (fun k hk _ => by cases hk); have hS := hS.trans t9 (fun k h1 h2 => by first | exact h2.elim | (have h2 : wc.heap.size ≤ k := h2; omega)); refine ⟨hS, fun _ => ?_⟩; (try have HRW := Lib.hid (HRW.out.still t9)); (try have HNW := Lib.hid (HNW.out.still t9)); have HO1 := Lib.hid how9; clear how9 hg9 hp9 t9; (try simp only [Act.put, List.setIfInBounds_toArray, List.set_cons_zero, List.set_cons_succ]))
        refine walk3_one ?_
        (refine runN_new 33 (fun W => .slice (some ⟨W.heap.size, 0, none⟩) 1 1) #[.string k, .int .i64 f] 76 rfl rfl (by rfl) (by intro W; go_simp <;> first | with_reducible rfl | rfl | exact ⟨rfl, rfl⟩) ?_; intro w7 hw7 hM7 hs7 t9; have hS := hS.trans t9 (fun _ _ h => h.elim); refine ⟨hS, fun _ => ?_⟩; have HNW := Lib.hid (show RowS w7 _ 1 1 2 [rnl ⟨k, f⟩] by rw [hw7]; exact row_oneR _ ⟨k, f⟩); (try have HRW := Lib.hid (HRW.out.still t9)); (try have HO1 := Lib.hid (HO1.out.still t9)); clear hw7 hM7 hs7 t9; (try simp only [Act.put, List.setIfInBounds_toArray, List.set_cons_zero, List.set_cons_succ]))
        refine walk3_one ?_
        (refine runN_appS 34 (.tmp 29) (.tmp 33) _ rfl rfl rfl (by rfl) 76 Try.underlying67 (.agg #[.string ByteArray.empty, .int .i64 0]) 2 24 infoRN rfl (by decide) wc.heap.size _ _ rfl HO1.out _ _ _ _ rfl HNW.out (by simp [rnl, Value.oneCell']) (i + 1) ((D.take i ++ [(⟨k, f⟩ : RN)]).map rnl) (by simp) (by have := HN.out; simp; omega) (by simp only [maxLen]; omega) (by omega) hS.size ?_; intro a12 c12 w12 how9 hg9 hp9; have t9 := (Touch.refl _ (fun k => wc.heap.size ≤ k)).grown hg9 (fun k hk _ => (HO1.out.own.lt k hk).1); have hS := hS.trans t9 (fun k h1 h2 => by first | exact h2.elim | (have h2 : wc.heap.size ≤ k := h2; omega)); refine ⟨hS, fun _ => ?_⟩; (try have HRW := Lib.hid (HRW.out.touch t9 (fun y hy => .inr (fun h2 => by have h2 : wc.heap.size ≤ y.block := h2; have := HLT.out y hy; omega)))); have HO2 := Lib.hid how9; clear how9 hg9 hp9 t9; (try simp only [Act.put, List.setIfInBounds_toArray, List.set_cons_zero, List.set_cons_succ]))
        refine walk3_one ?_
        (refine runN_appS 38 (.tmp 34) (.tmp 37) _ rfl rfl rfl (by rfl) 76 Try.underlying67 (.agg #[.string ByteArray.empty, .int .i64 0]) 2 24 infoRN rfl (by decide) wc.heap.size _ _ rfl HO2.out _ _ _ _ rfl (row_backR HRW.out i hi) (one_rnl _) (n + 1) ((D.take i ++ (⟨k, f⟩ : RN) :: D.drop i).map rnl) (by simp) (by have := HN.out; simp; omega) (by simp only [maxLen]; omega) (by omega) hS.size ?_; intro a19 c19 w19 how9 hg9 hp9; have t9 := (Touch.refl _ (fun k => wc.heap.size ≤ k)).grown hg9 (fun k hk _ => (HO2.out.own.lt k hk).1); have hS := hS.trans t9 (fun k h1 h2 => by first | exact h2.elim | (have h2 : wc.heap.size ≤ k := h2; omega)); refine ⟨hS, fun _ => ?_⟩; (try have HRW := Lib.hid (HRW.out.touch t9 (fun y hy => .inr (fun h2 => by have h2 : wc.heap.size ≤ y.block := h2; have := HLT.out y hy; omega)))); have HO3 := Lib.hid how9; clear how9 hg9 hp9 t9; (try simp only [Act.put, List.setIfInBounds_toArray, List.set_cons_zero, List.set_cons_succ]))
        refine walk3_take ?_
        (refine takeN_take (v := ?_) (some 6) rfl rfl (fun _ _ _ h => h) (by rfl) ?_ ?_; rotate_left; (focus (intro w' hw'; go_simp; (try with_reducible rfl))); (try simp only [Act.put, List.setIfInBounds_toArray, List.set_cons_zero, List.set_cons_succ]))
        refine walk3_fin ?_
        go_wp2_with fail
        all_goals (go_ret)
        all_goals exact with_end HDL.out HIN.out HT2.out hS HO3.out (by have := HN.out; simp; omega)
      · (refine runN_new 33 (fun W => .slice (some ⟨W.heap.size, 0, none⟩) 1 1) #[.string k, .int .i64 f] 76 rfl rfl (by rfl) (by intro W; go_simp <;> first | with_reducible rfl | rfl | exact ⟨rfl, rfl⟩) ?_; intro w7 hw7 hM7 hs7 t9; have hS := hS.trans t9 (fun _ _ h => h.elim); refine ⟨hS, fun _ => ?_⟩; have HNW := Lib.hid (show RowS w7 _ 1 1 2 [rnl ⟨k, f⟩] by rw [hw7]; exact row_oneR _ ⟨k, f⟩); (try have HRW := Lib.hid (HRW.out.still t9)); (try have HO1 := Lib.hid (HO1.out.still t9)); clear hw7 hM7 hs7 t9; (try simp only [Act.put, List.setIfInBounds_toArray, List.set_cons_zero, List.set_cons_succ]))
        refine walk3_one ?_
        (refine runN_appS 29 (.const (.slice none 0 0)) (.tmp 28) _ rfl rfl rfl (by rfl) 76 Try.underlying67 (.agg #[.string ByteArray.empty, .int .i64 0]) 2 24 infoRN rfl (by decide) wc.heap.size _ _ rfl (OwnS.nil _ _ _ _) _ _ _ _ rfl (row_frontR HRW.out i hi) (one_rnl _) (i) ((D.take i).map rnl) (by simp) (by simp) (by simp only [maxLen]; omega) (by omega) hS.size ?_; intro a7 c7 w7 how9 hg9 hp9; have t9 := (Touch.refl _ (fun _ => False)).grown hg9 (fun k hk _ => by cases hk); have hS := hS.trans t9 (fun k h1 h2 => by first | exact h2.elim | (have h2 : wc.heap.size ≤ k := h2; omega)); refine ⟨hS, fun _ => ?_⟩; (try have HRW := Lib.hid (HRW.out.still t9)); (try have HNW := Lib.hid (HNW.out.still t9)); have HO1 := Lib.hid how9; clear how9 hg9 hp9 t9; (try simp only [Act.put, List.setIfInBounds_toArray, List.set_cons_zero, List.set_cons_succ]))
        refine walk3_one ?_
        (refine runN_appS 34 (.tmp 29) (.tmp 33) _ rfl rfl rfl (by rfl) 76 Try.underlying67 (.agg #[.string ByteArray.empty, .int .i64 0]) 2 24 infoRN rfl (by decide) wc.heap.size _ _ rfl HO1.out _ _ _ _ rfl HNW.out (by simp [rnl, Value.oneCell']) (i + 1) ((D.take i ++ [(⟨k, f⟩ : RN)]).map rnl) (by simp) (by have := HN.out; simp; omega) (by simp only [maxLen]; omega) (by omega) hS.size ?_; intro a12 c12 w12 how9 hg9 hp9; have t9 := (Touch.refl _ (fun k => wc.heap.size ≤ k)).grown hg9 (fun k hk _ => (HO1.out.own.lt k hk).1); have hS := hS.trans t9 (fun k h1 h2 => by first | exact h2.elim | (have h2 : wc.heap.size ≤ k := h2; omega)); refine ⟨hS, fun _ => ?_⟩; (try have HRW := Lib.hid (HRW.out.touch t9 (fun y hy => .inr (fun h2 => by have h2 : wc.heap.size ≤ y.block := h2; have := HLT.out y hy; omega)))); have HO2 := Lib.hid how9; clear how9 hg9 hp9 t9; (try simp only [Act.put, List.setIfInBounds_toArray, List.set_cons_zero, List.set_cons_succ]))
        refine walk3_one ?_
        (refine runN_appS 38 (.tmp 34) (.tmp 37) _ rfl rfl rfl (by rfl) 76 Try.underlying67 (.agg #[.string ByteArray.empty, .int .i64 0]) 2 24 infoRN rfl (by decide) wc.heap.size _ _ rfl HO2.out _ _ _ _ rfl (row_backR HRW.out i hi) (one_rnl _) (n + 1) ((D.take i ++ (⟨k, f⟩ : RN) :: D.drop i).map rnl) (by simp) (by have := HN.out; simp; omega) (by simp only [maxLen]; omega) (by omega) hS.size ?_; intro a19 c19 w19 how9 hg9 hp9; have t9 := (Touch.refl _ (fun k => wc.heap.size ≤ k)).grown hg9 (fun k hk _ => (HO2.out.own.lt k hk).1); have hS := hS.trans t9 (fun k h1 h2 => by first | exact h2.elim | (have h2 : wc.heap.size ≤ k := h2; omega)); refine ⟨hS, fun _ => ?_⟩; (try have HRW := Lib.hid (HRW.out.touch t9 (fun y hy => .inr (fun h2 => by have h2 : wc.heap.size ≤ y.block := h2; have := HLT.out y hy; omega)))); have HO3 := Lib.hid how9; clear how9 hg9 hp9 t9; (try simp only [Act.put, List.setIfInBounds_toArray, List.set_cons_zero, List.set_cons_succ]))
        refine walk3_take ?_
        (refine takeN_take (v := ?_) (some 6) rfl rfl (fun _ _ _ h => h) (by rfl) ?_ ?_; rotate_left; (focus (intro w' hw'; go_simp; (try with_reducible rfl))); (try simp only [Act.put, List.setIfInBounds_toArray, List.set_cons_zero, List.set_cons_succ]))
        refine walk3_fin ?_
        go_wp2_with fail
        all_goals (go_ret)
        all_goals exact with_end HDL.out HIN.out HT2.out hS HO3.out (by have := HN.out; simp; omega)
end Go.Proofs.Ytmokcfmlolohaaa

end

section
/- The reference's disk: turn, op, Fail, may, NewDisk, Copy, Size. -/
set_option linter.unusedVariables false
set_option linter.unusedSimpArgs false
namespace Go.Proofs.Ytmokcfmlolohaaa
open Go.RowKit

def rTurn (l : List RN) (c : RC) : List RN :=
  if c.to_ = ⟨#[]⟩ then (if c.fr = ⟨#[]⟩ then l else rWo l c.fr) else rWi (if c.fr = ⟨#[]⟩ then l else rWo l c.fr) c.to_ c.f
def rcv (c : RC) : Value := .agg #[.string c.fr, .string c.to_, .int .i64 c.f]
theorem ne_empty {s : ByteArray} (h : s ≠ ⟨#[]⟩) : (s.toList == []) = false := by
  rw [beq_eq_false_iff_ne]
  intro e
  refine h (toList_inj ?_)
  rw [e, Lib.toList_data]
set_option maxRecDepth 20000 in
set_option maxHeartbeats 8000000 in
theorem rturn_any (w : World) (a : Option Addr) (n c : Nat) (l : List RN) (hr : RowS w a n c 2 (l.map rnl)) (hn : n ≤ 100000) (x : RC) (hx : x.fr ≠ ⟨#[]⟩ ∨ x.to_ ≠ ⟨#[]⟩) :
    Calls Try.prog 66 #[.slice a n c, rcv x] w fun e w' => ∃ a' c', e = .returned (.slice a' (rTurn l x).length c') ∧ OwnS w' w.heap.size 76 2 (.slice a' (rTurn l x).length c') ((rTurn l x).map rnl) ∧ Touch w w' (fun _ => False) := by
  obtain ⟨fr, to_, f⟩ := x
  simp only at hx
  obtain ⟨W1, hW1⟩ : ∃ W, w.alloc (.cells #[.string fr, .string to_, .int .i64 f] 101) = W := ⟨_, rfl⟩
  have t1 : Touch w W1 (fun _ => False) := hW1 ▸ (Touch.refl w _).alloc _
  have g1 : W1.heap[w.heap.size]? = some (.cells #[.string fr, .string to_, .int .i64 f] 101 (0, 0)) := hW1 ▸ heap_alloc_new ..
  have y0 : W1.cell? ⟨w.heap.size, 0, none⟩ = some (.string fr) := cell_of_cells g1 0
  have y1 : W1.cell? ⟨w.heap.size, 1, none⟩ = some (.string to_) := cell_of_cells g1 1
  have y2 : W1.cell? ⟨w.heap.size, 2, none⟩ = some (.int .i64 f) := cell_of_cells g1 2
  have HR1 := Lib.hid (hr.still t1)
  have HT1 := Lib.hid t1
  have HG1 := Lib.hid g1
  have hlen : (rWo l fr).length ≤ n := by
    have h1 : (rWo l fr).length ≤ l.length := List.length_filter_le _ _
    have h2 : l.length = n := by have := hr.hlen; simpa using this
    omega
  have HLEN := Lib.hid hlen
  unfold rcv
  clear hr t1 g1 hlen
  by_cases hf : fr = ⟨#[]⟩
  · have ht : to_ ≠ ⟨#[]⟩ := by
      rcases hx with h | h
      · exact absurd hf h
      · exact h
    have e : rTurn l ⟨fr, to_, f⟩ = rWi l to_ f := by unfold rTurn; rw [if_neg ht, if_pos hf]
    rw [e]
    have HC := Lib.hid (rwith_any W1 a n c l HR1.out (by omega) to_ f)
    have hnt := ne_empty ht
    subst hf
    clear e hx ht
    go_enter Try.func66, Try.ntmps66
    go_upto_region 1 with (fail)
    try rw [hW1]
    go_wp2_with fail
    (with_reducible refine HC.out.mono ?_)
    rintro e w2 ⟨a2, c2, rfl, o2, t2⟩
    have HO := Lib.hid (o2.rebase (base' := w.heap.size) (fun y hy => Nat.le_trans HT1.out.size (o2.own.lt y hy).1))
    have HT := Lib.hid (HT1.out.trans t2 (fun _ _ h => h))
    clear o2 t2
    go_wp2_with fail
    go_ret
    exact ⟨_, _, rfl, HO.out, HT.out⟩
  · have hnf := ne_empty hf
    have HC := Lib.hid (rwithout_any W1 a n c l HR1.out (by omega) fr)
    have HF := Lib.hid hf
    clear hf hx
    by_cases ht : to_ = ⟨#[]⟩
    · have e : rTurn l ⟨fr, to_, f⟩ = rWo l fr := by unfold rTurn; rw [if_pos ht, if_neg HF.out]
      rw [e]
      subst ht
      clear e
      go_enter Try.func66, Try.ntmps66
      go_upto_region 1 with (fail)
      try rw [hW1]
      go_wp2_with fail
      (with_reducible refine HC.out.mono ?_)
      rintro e w2 ⟨a2, c2, rfl, o2, t2⟩
      have HO := Lib.hid (o2.rebase (base' := w.heap.size) (fun y hy => Nat.le_trans HT1.out.size (o2.own.lt y hy).1))
      have HT := Lib.hid (HT1.out.trans t2 (fun _ _ h => h))
      have z1 : w2.cell? ⟨w.heap.size, 1, none⟩ = some (.string ⟨#[]⟩) := cell_of_cells (t2.keeps HG1.out (fun h => h)) 1
      clear o2 t2
      go_wp2_with fail
      go_ret
      exact ⟨_, _, rfl, HO.out, HT.out⟩
    · have e : rTurn l ⟨fr, to_, f⟩ = rWi (rWo l fr) to_ f := by unfold rTurn; rw [if_neg ht, if_neg HF.out]
      rw [e]
      have hnt := ne_empty ht
      clear e ht
      go_enter Try.func66, Try.ntmps66
      go_upto_region 1 with (fail)
      try rw [hW1]
      go_wp2_with fail
      (with_reducible refine HC.out.mono ?_)
      rintro e w2 ⟨a2, c2, rfl, o2, t2⟩
      have HT := Lib.hid (HT1.out.trans t2 (fun _ _ h => h))
      have z1 : w2.cell? ⟨w.heap.size, 1, none⟩ = some (.string to_) := cell_of_cells (t2.keeps HG1.out (fun h => h)) 1
      have z2 : w2.cell? ⟨w.heap.size, 2, none⟩ = some (.int .i64 f) := cell_of_cells (t2.keeps HG1.out (fun h => h)) 2
      have HC2 := Lib.hid (rwith_any w2 a2 _ c2 (rWo l fr) o2.row'.2.1 (by have := HLEN.out; omega) to_ f)
      clear o2 t2 y0 y1 y2
      go_wp2_with fail
      (with_reducible refine HC2.out.mono ?_)
      rintro e w3 ⟨a3, c3, rfl, o3, t3⟩
      have HO := Lib.hid (o3.rebase (base' := w.heap.size) (fun y hy => Nat.le_trans HT.out.size (o3.own.lt y hy).1))
      have HT := Lib.hid (HT.out.trans t3 (fun _ _ h => h))
      clear o3 t3
      go_wp2_with fail
      go_ret
      exact ⟨_, _, rfl, HO.out, HT.out⟩
theorem RM.turn {w w' : World} {m : Nat} {h : RH} {R : RS} {n fail : Int} (x : RM w m h R) (t : Touch w w' (fun k => k = m))
    (hh : w'.heap[m]? = some (.cells #[.slice h.fa h.L.length h.fc, .slice h.na R.N.length h.nc, .slice h.sa R.S.length h.sc, .slice h.ca R.C.length h.cc, .int .i64 R.q, .int .i64 n, .int .i64 fail] 70 (0, 0))) : RM w' m h { R with n := n, fail := fail } where
  head := hh
  fl := x.fl.touch t (fun y hy => .inr (x.foot _ (.inl ⟨y, hy, rfl⟩)).1)
  fF := x.fF
  now := x.now.touch t (fun y hy => .inr (x.foot _ (.inr (.inl ⟨y, hy, rfl⟩))).1)
  sure := x.sure.touch t (fun y hy => .inr (x.foot _ (.inr (.inr (.inl ⟨y, hy, rfl⟩)))).1)
  ch := x.ch.touch t (fun y hy => .inr (x.foot _ (.inr (.inr (.inr (.inl ⟨y, hy, rfl⟩))))).1)
  fb := fun z hz => (x.fb z hz).touch t (fun y hy => .inr (x.foot _ (.inr (.inr (.inr (.inr ⟨z, hz, y, hy, rfl⟩))))).1)
  foot := fun k hk => ⟨(x.foot k hk).1, Nat.lt_of_lt_of_le (x.foot k hk).2 t.size⟩
def rOp (R : RS) : RS := { R with n := wrap64 (R.n + 1), fail := if R.fail = 0 then 0 else R.fail - 1 }
set_option maxRecDepth 20000 in
set_option maxHeartbeats 4000000 in
theorem rop_any (w : World) (m : Nat) (h : RH) (R : RS) (x : RM w m h R) (hf : 0 ≤ R.fail ∧ R.fail ≤ 9223372036854775807) :
    Calls Try.prog 60 #[.pointer (some ⟨m, 0, none⟩)] w fun e w' => e = .returned (.bool (decide (R.fail = 1))) ∧ RM w' m h (rOp R) ∧ Touch w w' (fun k => k = m) := by
  obtain ⟨-, -, -, -, -, c5, c6⟩ := x.cells
  have f5 := free_of_cells x.head 5
  obtain ⟨W1, hW1⟩ : ∃ W, w.setCell ⟨m, 5, none⟩ (.int .i64 (wrap64 (R.n + 1))) = W := ⟨_, rfl⟩
  have g1 := heap_setCell_same w m 5 _ _ (.int .i64 (wrap64 (R.n + 1))) x.head
  rw [hW1] at g1
  have t1 : Touch w W1 (fun k => k = m) := hW1 ▸ (Touch.refl w _).into 5 _
  have y6 : W1.cell? ⟨m, 6, none⟩ = some (.int .i64 R.fail) := cell_of_cells g1 6
  have x6 := free_of_cells g1 6
  have HM := Lib.hid x
  have HT1 := Lib.hid t1
  have HG1 := Lib.hid g1
  clear x t1 g1
  by_cases h0 : R.fail = 0
  · have eB : decide (R.fail = 1) = false := by rw [h0]; rfl
    have eO : rOp R = { R with n := wrap64 (R.n + 1), fail := 0 } := by unfold rOp; rw [if_pos h0]
    rw [eB, eO]
    have HR : RowKit.Hid (RM W1 m h { R with n := wrap64 (R.n + 1), fail := 0 }) := Lib.hid (HM.out.turn HT1.out (h0 ▸ HG1.out))
    rw [h0] at y6
    clear eB eO h0 hf x6
    go_enter Try.func60, Try.ntmps60
    go_wp2_with fail
    go_ret
    exact ⟨rfl, HR.out, HT1.out⟩
  · obtain ⟨W2, hW2⟩ : ∃ W, W1.setCell ⟨m, 6, none⟩ (.int .i64 (R.fail - 1)) = W := ⟨_, rfl⟩
    have g2 := heap_setCell_same W1 m 6 _ _ (.int .i64 (R.fail - 1)) HG1.out
    rw [hW2] at g2
    have t2 : Touch w W2 (fun k => k = m) := hW2 ▸ HT1.out.into 6 _
    have z6 : W2.cell? ⟨m, 6, none⟩ = some (.int .i64 (R.fail - 1)) := cell_of_cells g2 6
    have hwr : wrap64 (R.fail - 1) = R.fail - 1 := by unfold wrap64; omega
    have eO : rOp R = { R with n := wrap64 (R.n + 1), fail := R.fail - 1 } := by unfold rOp; rw [if_neg h0]
    have HR : RowKit.Hid (RM W2 m h { R with n := wrap64 (R.n + 1), fail := R.fail - 1 }) := Lib.hid (HM.out.turn t2 g2)
    have HT2 := Lib.hid t2
    rw [eO]
    have h0b : (0 : Int) < R.fail := by omega
    clear eO g2 t2
    by_cases h1 : R.fail = 1
    · have eB : decide (R.fail = 1) = true := by rw [h1]; rfl
      rw [eB]
      have h2b : (R.fail - 1 == 0) = true := by rw [h1]; rfl
      clear eB h0 h1 hf
      go_enter Try.func60, Try.ntmps60
      go_wp2_with fail
      go_ret
      exact ⟨rfl, HR.out, HT2.out⟩
    · have eB : decide (R.fail = 1) = false := decide_eq_false h1
      rw [eB]
      have h2b : (R.fail - 1 == 0) = false := by
        rw [Bool.eq_false_iff]; intro e
        have := eq_of_beq e; omega
      clear eB h0 h1 hf
      go_enter Try.func60, Try.ntmps60
      go_wp2_with fail
      go_ret
      exact ⟨rfl, HR.out, HT2.out⟩
set_option maxRecDepth 20000 in
set_option maxHeartbeats 4000000 in
theorem rfail_any (w : World) (m : Nat) (h : RH) (R : RS) (x : RM w m h R) (n : Int) :
    Calls Try.prog 42 #[.pointer (some ⟨m, 0, none⟩), .int .i64 n] w fun e w' => e = .returned (.tuple #[]) ∧ RM w' m h { R with fail := max 0 n } ∧ Touch w w' (fun k => k = m) := by
  have c6 : w.cell? ⟨m, 6, none⟩ = some (.int .i64 R.fail) := cell_of_cells x.head 6
  have f6 := free_of_cells x.head 6
  obtain ⟨W1, hW1⟩ : ∃ W, w.setCell ⟨m, 6, none⟩ (.int .i64 (max 0 n)) = W := ⟨_, rfl⟩
  have g1 := heap_setCell_same w m 6 _ _ (.int .i64 (max 0 n)) x.head
  rw [hW1] at g1
  have t1 : Touch w W1 (fun k => k = m) := hW1 ▸ (Touch.refl w _).into 6 _
  have HR : RowKit.Hid (RM W1 m h { R with fail := max 0 n } ∧ Touch w W1 (fun k => k = m)) := Lib.hid ⟨x.turn t1 g1, t1⟩
  have hmx := fun W => max_runK 0 n W
  obtain ⟨y, hy⟩ : ∃ y, max 0 n = y := ⟨_, rfl⟩
  rw [hy] at hmx hW1 HR ⊢
  clear x t1 g1 hy
  go_enter Try.func42, Try.ntmps42
  go_wp2_with fail
  go_end0
  exact ⟨rfl, HR.out⟩
theorem rmay_any (w : World) (s : ByteArray) (hs : szN s) :
    Calls Try.prog 61 #[.string s] w fun e w' => e = .returned (.bool (decide (1 ≤ s.size ∧ s.size ≤ 16))) ∧ w = w' := by
  unfold szN at hs
  by_cases h1 : 1 ≤ s.size
  · by_cases h2 : s.size ≤ 16
    · have e : decide (1 ≤ s.size ∧ s.size ≤ 16) = true := decide_eq_true ⟨h1, h2⟩
      have i1 : (1 : Int) ≤ s.size := by omega
      have i2 : (s.size : Int) ≤ 16 := by omega
      rw [e]
      go_enter Try.func61, Try.ntmps61
      go_wp2_with fail
      go_ret
      exact ⟨rfl, rfl⟩
    · have e : decide (1 ≤ s.size ∧ s.size ≤ 16) = false := decide_eq_false (fun h => h2 h.2)
      have i1 : (1 : Int) ≤ s.size := by omega
      have i2 : ¬ (s.size : Int) ≤ 16 := by omega
      rw [e]
      go_enter Try.func61, Try.ntmps61
      go_wp2_with fail
      go_ret
      exact ⟨rfl, rfl⟩
  · have e : decide (1 ≤ s.size ∧ s.size ≤ 16) = false := decide_eq_false (fun h => h1 h.1)
    have i1 : ¬ (1 : Int) ≤ s.size := by omega
    rw [e]
    go_enter Try.func61, Try.ntmps61
    go_wp2_with fail
    go_ret
    exact ⟨rfl, rfl⟩
def rNew (q : Int) : RS := ⟨[], [], [], [], max 0 (min q 67108864), 0, 0⟩
def rH0 : RH := ⟨[], none, 0, none, 0, none, 0, none, 0⟩
theorem foot0 (k : Nat) : ¬ footR rH0 k := by
  rintro (⟨y, h, _⟩ | ⟨y, h, _⟩ | ⟨y, h, _⟩ | ⟨y, h, _⟩ | ⟨x, h, _⟩) <;> cases h
set_option maxRecDepth 20000 in
set_option maxHeartbeats 4000000 in
theorem rnew_any (w : World) (q : Int) :
    Calls Try.prog 15 #[.int .i64 q] w fun e w' => e = .returned (.pointer (some ⟨w.heap.size, 0, none⟩)) ∧ RM w' w.heap.size rH0 (rNew q) ∧ Touch w w' (fun _ => False) := by
  have hmi := fun W => min_runK q 67108864 W
  have hmx := fun W => max_runK 0 (min q 67108864) W
  obtain ⟨y, hy⟩ : ∃ y, min q 67108864 = y := ⟨_, rfl⟩
  obtain ⟨z, hz⟩ : ∃ z, max 0 y = z := ⟨_, rfl⟩
  unfold rNew
  rw [hy] at hmi hmx ⊢
  rw [hz] at hmx ⊢
  obtain ⟨W1, hW1⟩ : ∃ W, w.alloc (.cells #[.slice none 0 0, .slice none 0 0, .slice none 0 0, .slice none 0 0, .int .i64 z, .int .i64 0, .int .i64 0] 70) = W := ⟨_, rfl⟩
  have g1 : W1.heap[w.heap.size]? = some (.cells #[.slice none 0 0, .slice none 0 0, .slice none 0 0, .slice none 0 0, .int .i64 z, .int .i64 0, .int .i64 0] 70 (0, 0)) := hW1 ▸ heap_alloc_new ..
  have HR : RowKit.Hid (RM W1 w.heap.size rH0 ⟨[], [], [], [], z, 0, 0⟩ ∧ Touch w W1 (fun _ => False)) := Lib.hid ⟨⟨g1, RowS.nil _ _ _ _ (by decide), rfl, RowS.nil _ _ _ _ (by decide), RowS.nil _ _ _ _ (by decide), RowS.nil _ _ _ _ (by decide), (fun x hx => by cases hx), fun k hk => absurd hk (foot0 k)⟩, hW1 ▸ (Touch.refl w _).alloc _⟩
  clear g1
  go_enter Try.func15, Try.ntmps15
  go_wp2_with fail
  try rw [hW1]
  go_ret
  exact ⟨rfl, HR.out⟩
def rLen (R : RS) (x : RN) : Nat := (R.F.getD x.f ⟨[], 0⟩).b.length
def rSum (R : RS) (l : List RN) : Nat := (l.map (rLen R)).sum
theorem rSum_snoc (R : RS) (l : List RN) (x : RN) : rSum R (l ++ [x]) = rSum R l + rLen R x := by unfold rSum; rw [List.map_append, List.sum_append_nat]; simp
theorem rSum_le {R : RS} {K : Nat} {l : List RN} (h : ∀ x ∈ l, rLen R x ≤ K) : rSum R l ≤ l.length * K := by
  induction l with
  | nil => simp [rSum]
  | cons x l ih =>
    have e : rSum R (x :: l) = rLen R x + rSum R l := by unfold rSum; simp
    rw [e, List.length_cons, Nat.succ_mul]
    have := h x List.mem_cons_self
    have := ih (fun y hy => h y (List.mem_cons_of_mem _ hy))
    omega
structure RV (R : RS) : Prop where
  nf : ∀ x ∈ R.N, x.f < R.F.length
  bl : ∀ f ∈ R.F, f.b.length ≤ 1048576 ∧ f.s ≤ f.b.length
  nl : R.N.length ≤ 100000
  sl : R.S.length ≤ 100000
  fl : R.F.length ≤ 100000
  cl : R.C.length ≤ 100000
  fail : 0 ≤ R.fail ∧ R.fail ≤ 9223372036854775807
theorem RV.len {R : RS} (v : RV R) (x : RN) (hx : x ∈ R.N) : rLen R x ≤ 1048576 := by
  unfold rLen
  have := v.nf x hx
  simp only [List.getD_eq_getElem?_getD, List.getElem?_eq_getElem this, Option.getD_some]
  exact (v.bl _ (List.getElem_mem this)).1
theorem RM.file {w : World} {m : Nat} {h : RH} {R : RS} (x : RM w m h R) {i : Nat} (hi : i < R.F.length) : ∃ g off y, h.fa = some ⟨g, off, none⟩ ∧ h.L[i]? = some y ∧ R.F[i] = y.fc ∧ i < h.L.length ∧ w.cell? ⟨g, off + i * 2, none⟩ = some (.slice y.a y.b.length y.c) ∧ w.cell? ⟨g, off + i * 2 + 1, none⟩ = some (.int .i64 y.s) ∧ RowB w y.a y.b.length y.c y.b ∧ y ∈ h.L := by
  have hl : i < h.L.length := by rw [← x.len]; exact hi
  have r := x.fl
  obtain ⟨g, off, e⟩ := r.some (by omega)
  rw [e] at r
  obtain ⟨p0, p1⟩ := row2_cell r i hl _ _ rfl
  refine ⟨g, off, h.L[i], e, List.getElem?_eq_getElem hl, ?_, hl, p0, p1, x.fb _ (List.getElem_mem hl), List.getElem_mem hl⟩
  have := x.fF
  simp only [this, List.getElem_map]
set_option maxRecDepth 20000 in
set_option maxHeartbeats 8000000 in
theorem rsize_any (w : World) (m : Nat) (h : RH) (R : RS) (x : RM w m h R) (v : RV R) :
    Calls Try.prog 44 #[.pointer (some ⟨m, 0, none⟩)] w fun e w' => e = .returned (.int .i64 (rSum R R.N)) ∧ Touch w w' (fun _ => False) := by
  obtain ⟨c0, c1, -⟩ := x.cells
  obtain ⟨n, hn⟩ : ∃ n, R.N.length = n := ⟨_, rfl⟩
  have hnl := v.nl
  have hcp := x.now.hcap
  have hcm := x.now.hmax
  have HM := Lib.hid x
  have HV := Lib.hid v
  have HNL := Lib.hid hn
  rw [hn] at c1 hnl hcp
  clear x v hn c0
  go_enter Try.func44, Try.ntmps44
  go_wp2_with fail
  go_loopw [3, 11] (fun s3 s11 wr => ∃ (i z : Nat), i ≤ n ∧ s11 = .int .i64 i ∧ s3 = .int .i64 z ∧ z = rSum R (R.N.take i) ∧ Touch w wr (fun _ => False)) (fun _ s11 _ => n - (RowKit.intOf s11).toNat)
  case atStart => exact ⟨0, 0, Nat.zero_le _, rfl, rfl, rfl, Touch.refl _ _⟩
  case round =>
    obtain ⟨i, z, hi, rfl, rfl, hz, ht⟩ := hrel
    have HZ := Lib.hid hz
    have HT := Lib.hid ht
    clear hz ht
    by_cases hlt : i < n
    case neg =>
      obtain rfl : n = i := by omega
      have htk : R.N.take n = R.N := List.take_of_length_le (by rw [HNL.out]; exact Nat.le_refl _)
      have HE : RowKit.Hid (z = rSum R R.N) := Lib.hid (by rw [HZ.out, htk])
      clear htk
      go_wp2_with fail
      go_ret
      exact ⟨by rw [← HE.out]; rfl, HT.out⟩
    case pos =>
      have hlI : (i : Int) < n := by omega
      have hiN : i < R.N.length := by rw [HNL.out]; exact hlt
      have r1 := (HM.out.still HT.out).now
      obtain ⟨b1, o1, e1⟩ := r1.some (by omega)
      rw [e1] at r1
      obtain ⟨p0, p1⟩ := row2_cell r1 i hiN _ _ rfl
      have hfl := HV.out.nf _ (List.getElem_mem hiN)
      have hle := HV.out.len _ (List.getElem_mem hiN)
      have htk : R.N.take (i + 1) = R.N.take i ++ [R.N[i]] := List.take_succ_eq_append_getElem hiN
      have hzle : z ≤ i * 1048576 := by
        rw [HZ.out]
        have h1 := rSum_le (R := R) (l := R.N.take i) (K := 1048576) (fun x hx => HV.out.len x (List.mem_of_mem_take hx))
        have h2 : (R.N.take i).length ≤ i := by rw [List.length_take]; exact Nat.min_le_left _ _
        exact Nat.le_trans h1 (Nat.mul_le_mul_right 1048576 h2)
      have HTK := Lib.hid htk
      obtain ⟨q, hq⟩ : ∃ q, R.N[i] = q := ⟨_, rfl⟩
      have HTQ : RowKit.Hid (rSum R (R.N.take (i + 1)) = z + rLen R q) := Lib.hid (by rw [htk, rSum_snoc, ← HZ.out, hq])
      rw [hq] at p0 p1 hfl hle
      obtain ⟨qn, qf⟩ := q
      simp only at p0 p1 hfl
      have hwk : wrap64 ((i : Int) + 1) = (i : Int) + 1 := by unfold wrap64; omega
      have HWK := Lib.hid hwk
      obtain ⟨W4, hW4⟩ : ∃ W, wr.alloc (.cells #[.string qn, .int .i64 qf] 76) = W := ⟨_, rfl⟩
      have g4 : W4.heap[wr.heap.size]? = some (.cells #[.string qn, .int .i64 qf] 76 (0, 0)) := hW4 ▸ heap_alloc_new ..
      have t4 : Touch wr W4 (fun _ => False) := hW4 ▸ (Touch.refl wr _).alloc _
      have HT4 := Lib.hid (HT.out.trans t4 (fun _ _ h => h))
      have HM4 := Lib.hid ((HM.out.still HT4.out))
      obtain ⟨g, off, y, ef, eLy, ey, hil, -, -, -, hym⟩ := HM4.out.file hfl
      have hlen : rLen R ⟨qn, qf⟩ = y.b.length := by
        unfold rLen
        simp only [List.getD_eq_getElem?_getD, List.getElem?_eq_getElem hfl, Option.getD_some, ey]
        rfl
      rw [hlen] at hle HTQ
      have HCB : RowKit.Hid (∀ w', Touch W4 w' (fun _ => False) → w'.cell? ⟨m, 0, none⟩ = some (.slice (some ⟨g, off, none⟩) h.L.length h.fc) ∧ w'.cell? ⟨wr.heap.size, 1, none⟩ = some (.int .i64 qf) ∧ w'.cell? ⟨g, off + qf * 2, none⟩ = some (.slice y.a y.b.length y.c)) := Lib.hid (fun w' t => by
        have hm := HM4.out.still t
        obtain ⟨g', off', y', ef', ey', -, -, k0, -, -, -⟩ := hm.file hfl
        rw [ef] at ef'
        cases ef'
        rw [eLy] at ey'
        cases ey'
        refine ⟨?_, cell_of_cells (t.keeps g4 (fun h => h)) 1, ?_⟩
        · have := hm.cells.1
          rw [ef] at this; exact this
        · exact k0)
      obtain ⟨Z, hZ⟩ : ∃ Z, y.b.length = Z := ⟨_, rfl⟩
      rw [hZ] at HCB hle HTQ
      have hwz : IntKind.i64.wrap ((z : Int) + Z) = ((z + Z : Nat) : Int) := by rw [IntWalk.i64_in _ (by omega)]; omega
      have HWZ := Lib.hid hwz
      have HW4 := Lib.hid hW4
      have hfc := HM4.out.fl.hcap
      have hfm := HM4.out.fl.hmax
      have HX : RowKit.Hid (∀ w8, Touch W4 w8 (fun _ => False) → ∃ (i' z' : Nat), i' ≤ n ∧ Value.int .i64 ((i : Int) + 1) = .int .i64 i' ∧ Value.int .i64 ((z + Z : Nat) : Int) = .int .i64 z' ∧ z' = rSum R (R.N.take i') ∧ Touch w w8 (fun _ => False)) := Lib.hid (fun w8 t => ⟨i + 1, z + Z, by omega, by go_num, rfl, HTQ.out.symm, HT4.out.trans t (fun _ _ h => h)⟩)
      rw [e1]
      clear r1 hq hW4 g4 t4 htk hwk hwz hlen hZ hym ey eLy
      go_upto_region 5 with (fail)
      rw [HW4.out]
      clear p0 p1
      have hS := (Touch.refl W4 (fun _ => False)).drew
      refine wp_region_sched (fun w' => Touch W4 w' (fun _ => False)) [(0, true), (1, true), (2, true), (3, true), (4, true), (5, true), (6, true), (7, true), (8, true), (9, true), (10, true), (11, true), (12, true)] (by kernel_rfl) (by kernel_rfl) rfl (by kernel_rfl) hS ?_
      (refine walkS_take (v := ?_) (some 15) rfl rfl (fun _ _ _ h => h) (by rfl) ?_ ?_; rotate_left; (focus (intro w' hw'; obtain ⟨k0, k1, k2⟩ := HCB.out w' hw'; go_simp; (try with_reducible rfl))); (try simp only [Act.put, List.setIfInBounds_toArray, List.set_cons_zero, List.set_cons_succ]))
      (refine walkS_take (v := ?_) (some 16) rfl rfl (fun _ _ _ h => h) (by rfl) ?_ ?_; rotate_left; (focus (intro w' hw'; obtain ⟨k0, k1, k2⟩ := HCB.out w' hw'; go_simp; (try with_reducible rfl))); (try simp only [Act.put, List.setIfInBounds_toArray, List.set_cons_zero, List.set_cons_succ]))
      (refine walkS_take (v := ?_) (some 17) rfl rfl (fun _ _ _ h => h) (by rfl) ?_ ?_; rotate_left; (focus (intro w' hw'; obtain ⟨k0, k1, k2⟩ := HCB.out w' hw'; go_simp; (try with_reducible rfl))); (try simp only [Act.put, List.setIfInBounds_toArray, List.set_cons_zero, List.set_cons_succ]))
      (refine walkS_take (v := ?_) (some 18) rfl rfl (fun _ _ _ h => h) (by rfl) ?_ ?_; rotate_left; (focus (intro w' hw'; obtain ⟨k0, k1, k2⟩ := HCB.out w' hw'; go_simp; (try with_reducible rfl))); (try simp only [Act.put, List.setIfInBounds_toArray, List.set_cons_zero, List.set_cons_succ]))
      (refine walkS_take (v := ?_) (some 19) rfl rfl (fun _ _ _ h => h) (by rfl) ?_ ?_; rotate_left; (focus (intro w' hw'; obtain ⟨k0, k1, k2⟩ := HCB.out w' hw'; go_simp; (try with_reducible rfl))); (try simp only [Act.put, List.setIfInBounds_toArray, List.set_cons_zero, List.set_cons_succ]))
      (refine walkS_take (v := ?_) (some 20) rfl rfl (fun _ _ _ h => h) (by rfl) ?_ ?_; rotate_left; (focus (intro w' hw'; obtain ⟨k0, k1, k2⟩ := HCB.out w' hw'; go_simp; (try with_reducible rfl))); (try simp only [Act.put, List.setIfInBounds_toArray, List.set_cons_zero, List.set_cons_succ]))
      (refine walkS_take (v := ?_) (some 21) rfl rfl (fun _ _ _ h => h) (by rfl) ?_ ?_; rotate_left; (focus (intro w' hw'; obtain ⟨k0, k1, k2⟩ := HCB.out w' hw'; go_simp; (try with_reducible rfl))); (try simp only [Act.put, List.setIfInBounds_toArray, List.set_cons_zero, List.set_cons_succ]))
      (refine walkS_take (v := ?_) (some 22) rfl rfl (fun _ _ _ h => h) (by rfl) ?_ ?_; rotate_left; (focus (intro w' hw'; obtain ⟨k0, k1, k2⟩ := HCB.out w' hw'; go_simp; (try with_reducible rfl))); (try simp only [Act.put, List.setIfInBounds_toArray, List.set_cons_zero, List.set_cons_succ]))
      (refine walkS_take (v := ?_) (some 23) rfl rfl (fun _ _ _ h => h) (by rfl) ?_ ?_; rotate_left; (focus (intro w' hw'; obtain ⟨k0, k1, k2⟩ := HCB.out w' hw'; go_simp; (try with_reducible rfl))); (try simp only [Act.put, List.setIfInBounds_toArray, List.set_cons_zero, List.set_cons_succ]))
      (refine walkS_take (v := ?_) (some 24) rfl rfl (fun _ _ _ h => h) (by rfl) ?_ ?_; rotate_left; (focus (intro w' hw'; obtain ⟨k0, k1, k2⟩ := HCB.out w' hw'; go_simp; (try with_reducible rfl))); (try simp only [Act.put, List.setIfInBounds_toArray, List.set_cons_zero, List.set_cons_succ]))
      (refine walkS_take (v := ?_) (some 25) rfl rfl (fun _ _ _ h => h) (by rfl) ?_ ?_; rotate_left; (focus (intro w' hw'; obtain ⟨k0, k1, k2⟩ := HCB.out w' hw'; go_simp; (try with_reducible rfl))); (try simp only [Act.put, List.setIfInBounds_toArray, List.set_cons_zero, List.set_cons_succ]))
      (refine walkS_take (v := ?_) (some 26) rfl rfl (fun _ _ _ h => h) (by rfl) ?_ ?_; rotate_left; (focus (intro w' hw'; obtain ⟨k0, k1, k2⟩ := HCB.out w' hw'; go_simp; (try with_reducible rfl))); (try simp only [Act.put, List.setIfInBounds_toArray, List.set_cons_zero, List.set_cons_succ]))
      (refine walkS_take (v := ?_) (some 3) rfl rfl (fun _ _ _ h => h) (by rfl) ?_ ?_; rotate_left; (focus (intro w' hw'; obtain ⟨k0, k1, k2⟩ := HCB.out w' hw'; go_simp; (try with_reducible rfl))); (try simp only [Act.put, List.setIfInBounds_toArray, List.set_cons_zero, List.set_cons_succ]))
      refine walkS_done ?_
      go_wp2_with fail
      try rw [HWZ.out]
      try rw [HWK.out]
      go_roundw
      · exact HX.out _ hS
      · simp only [RowKit.intOf]; omega
end Go.Proofs.Ytmokcfmlolohaaa

end

section
/- The reference's disk: put, change. -/
set_option linter.unusedVariables false
set_option linter.unusedSimpArgs false
namespace Go.Proofs.Ytmokcfmlolohaaa
open Go.RowKit

theorem infoFl : (Try.prog.info? 98).map (·.size) = some 2 := by kernel_rfl
theorem infoCh : (Try.prog.info? 101).map (·.size) = some 3 := by kernel_rfl
theorem enter_rput (a b c : Value) (w : World) : (callFunc 64 #[a, b, c]).run Try.prog w = .ok (.enter 64 #[a, b, c]) w := by kernel_rfl
theorem enter_rchange (a b : Value) (w : World) : (callFunc 63 #[a, b]).run Try.prog w = .ok (.enter 63 #[a, b]) w := by kernel_rfl
theorem rll_two (y : RL) : rll y = [.slice y.a y.b.length y.c, .int .i64 y.s] := rfl
theorem touch_cellsR (w : World) (g : Nat) : ∀ (vs : List Value) (o : Nat), Touch w (w.setCells g o vs) (fun k => k = g) := by
  intro vs
  induction vs generalizing w with
  | nil => intro o; exact Touch.refl _ _
  | cons v r ih =>
    intro o
    exact ((Touch.refl w (fun k => k = g)).setCell ⟨g, o, none⟩ v (fun _ => rfl)).trans (ih _ (o + 1)) (fun _ _ h => h)
section
variable {P : Program} {ops : Array Oper} {Q : Exit → Act → World → Prop} {S : World → Prop} {N : Act → World → Prop}
theorem runN_storeMR {i : Nat} {a : Act} {w : World} {o : Oper} (ho : ops[i]? = some o) (hd : o.dst = none) (hw : Region.wanted o (yielded ops a.tmps) = true) (ty : TypeId) (x y : Operand) (hop : o.op = .store ty x y)
    (g off : Nat) (cells : Array Value) (hx : a.eval x = .pointer (some ⟨g, off, none⟩)) (hy : a.eval y = .agg cells) (ht : w.there g off cells.size) (hi : (P.info? ty).map (·.size) = some cells.size) (h1 : cells.all (·.oneCell') = true)
    (h : S (w.setCells g off cells.toList) ∧ (S (w.setCells g off cells.toList) → N (a.put none undef) (w.setCells g off cells.toList))) : RunN P ops Q S i N a w := by
  refine ⟨o, ho, fun K' hK => ?_⟩
  rw [if_pos hw]
  unfold Oper.wp execOp
  simp only [hop, hx, hy, run_storeAt_mid w g off ty cells ht hi h1, Sem.run_bind, Sem.run_pure, Result.andThen_ok]
  have k3 := hK.out _ _ h.1 h.2
  rw [← hd] at k3
  exact k3
end
theorem own_put2 {α : Type} {q : α → List Value} {w : World} {base g n c : Nat} {T : TypeId} {l : List α} (h : OwnS w base T 2 (.slice (some ⟨g, 0, none⟩) n c) (l.map q)) (i : Nat) (hi : i < l.length) (x : α) (v0 v1 : Value) (hx : q x = [v0, v1]) :
    OwnS (w.setCells g (i * 2) [v0, v1]) base T 2 (.slice (some ⟨g, 0, none⟩) n c) ((l.set i x).map q) := by
  have hi' : i < (l.map q).length := by simpa using hi
  have h1 := OwnS.stored h i hi' 0 (by omega) v0
  rw [Nat.add_zero] at h1
  have hi2 : i < ((l.map q).set i ((l.map q)[i].set 0 v0)).length := by simpa using hi
  have h2 := OwnS.stored h1 i hi2 1 (by omega) v1
  have hlen : (l.map q)[i].length = 2 := h.each _ (List.getElem_mem hi')
  have e : ((l.map q).set i ((l.map q)[i].set 0 v0)).set i ((((l.map q).set i ((l.map q)[i].set 0 v0))[i]).set 1 v1) = (l.set i x).map q := by
    rw [List.set_set, List.map_set, List.getElem_set_self, hx]
    congr 1
    match (l.map q)[i], hlen with
    | [a, b], _ => rfl
  rw [e] at h2
  exact h2
theorem there2R {α : Type} {q : α → List Value} {w : World} {base g n c : Nat} {T : TypeId} {l : List α} (h : OwnS w base T 2 (.slice (some ⟨g, 0, none⟩) n c) (l.map q)) (i : Nat) (hi : i < l.length) (hq : ∀ x, ∃ v0 v1, q x = [v0, v1]) : w.there g (i * 2) 2 := by
  obtain ⟨hl, hr, _⟩ := h.row'
  have hi' : i < (l.map q).length := by simpa using hi
  obtain ⟨v0, v1, e⟩ := hq l[i]
  have e2 : (l.map q)[i] = [v0, v1] := by simp [e]
  intro j hj
  refine ⟨?_, h.free _⟩
  rcases (by omega : j = 0 ∨ j = 1) with rfl | rfl
  · have := RowS.cell hr i hi' 0 v0 (by rw [e2]; rfl)
    rw [Nat.zero_add] at this
    rw [this]; rfl
  · have := RowS.cell hr i hi' 1 v1 (by rw [e2]; rfl)
    rw [Nat.zero_add] at this
    rw [this]; rfl
theorem own_some {w : World} {base k n c : Nat} {E : TypeId} {a : Option Addr} {L : List (List Value)} (h : OwnS w base E k (.slice a n c) L) (hn : 0 < n) : ∃ g, a = some ⟨g, 0, none⟩ := by
  rcases h.own.2 with ⟨h, _⟩ | ⟨g, cap, cur, h, _⟩
  · simp only [Value.slice.injEq] at h
    omega
  · simp only [Value.slice.injEq] at h
    exact ⟨g, h.1⟩
theorem one_rll (l : List RL) : ∀ x ∈ l.map rll, ∀ u ∈ x, u.oneCell' = true := by
  intro x hx u hu
  obtain ⟨r, _, rfl⟩ := List.mem_map.1 hx
  simp only [rll, List.mem_cons, List.not_mem_nil, or_false] at hu
  rcases hu with rfl | rfl <;> rfl
theorem one_rcl (l : List RC) : ∀ x ∈ l.map rcl, ∀ u ∈ x, u.oneCell' = true := by
  intro x hx u hu
  obtain ⟨r, _, rfl⟩ := List.mem_map.1 hx
  simp only [rcl, List.mem_cons, List.not_mem_nil, or_false] at hu
  rcases hu with rfl | rfl | rfl <;> rfl
theorem row_oneRC (w : World) (r : RC) : RowS (w.alloc (.cells #[.string r.fr, .string r.to_, .int .i64 r.f] 101)) (some ⟨w.heap.size, 0, none⟩) 1 1 3 [rcl r] :=
  ((OwnS.lit w w.heap.size (Nat.le_refl _) 101 3 1 [rcl r] #[.string r.fr, .string r.to_, .int .i64 r.f] rfl rfl (by simp [rcl]) (by omega)).row').2.1
/-- What a put leaves. -/
def PutTo (w w' : World) (m : Nat) (h : RH) (R : RS) (i : Nat) (y : RL) : Prop :=
  ∃ h', RM w' m h' { R with F := R.F.set i y.fc } ∧ Touch w w' (fun k => k = m) ∧ ∀ k, footR h' k → footR h k ∨ (∃ z, y.a = some z ∧ z.block = k) ∨ w.heap.size ≤ k
theorem put_end {w w9 : World} {m : Nat} {h : RH} {R : RS} (x : RM w m h R) {i : Nat} {y : RL} {g c : Nat} (hy : RowB w y.a y.b.length y.c y.b) (hoff : ∀ z, y.a = some z → z.block ≠ m ∧ z.block < w.heap.size) (t : Touch w w9 (fun k => k = m))
    (hh : w9.heap[m]? = some (.cells #[.slice (some ⟨g, 0, none⟩) h.L.length c, .slice h.na R.N.length h.nc, .slice h.sa R.S.length h.sc, .slice h.ca R.C.length h.cc, .int .i64 R.q, .int .i64 R.n, .int .i64 R.fail] 70 (0, 0)))
    (ho : OwnS w9 w.heap.size 98 2 (.slice (some ⟨g, 0, none⟩) h.L.length c) ((h.L.set i y).map rll)) : PutTo w w9 m h R i y := by
  obtain ⟨-, hr, hb⟩ := ho.row'
  have hg := hb _ rfl
  have hm := heap_lt x.head
  refine ⟨{ h with L := h.L.set i y, fa := some ⟨g, 0, none⟩, fc := c }, ⟨?_, ?_, ?_, ?_, ?_, ?_, ?_, ?_⟩, t, ?_⟩
  · show w9.heap[m]? = some (.cells #[.slice (some ⟨g, 0, none⟩) (h.L.set i y).length c, _, _, _, _, _, _] _ _)
    rw [List.length_set]; exact hh
  · show RowS w9 _ (h.L.set i y).length _ _ _
    rw [List.length_set]; exact hr
  · show R.F.set i y.fc = (h.L.set i y).map RL.fc
    rw [x.fF, List.map_set]
  · exact x.now.touch t (fun z hz => .inr (x.foot _ (.inr (.inl ⟨z, hz, rfl⟩))).1)
  · exact x.sure.touch t (fun z hz => .inr (x.foot _ (.inr (.inr (.inl ⟨z, hz, rfl⟩)))).1)
  · exact x.ch.touch t (fun z hz => .inr (x.foot _ (.inr (.inr (.inr (.inl ⟨z, hz, rfl⟩))))).1)
  · intro z hz
    rcases List.mem_or_eq_of_mem_set hz with h1 | h1
    · exact (x.fb z h1).touch t (fun u hu => .inr (x.foot _ (.inr (.inr (.inr (.inr ⟨z, h1, u, hu, rfl⟩))))).1)
    · rw [h1]
      exact hy.touch t (fun u hu => .inr (hoff u hu).1)
  · rintro k (⟨u, hu, rfl⟩ | h1 | h1 | h1 | ⟨z, hz, u, hu, rfl⟩)
    · cases hu
      exact ⟨fun e => by have e : g = m := e; have := hg.1; have : w.heap.size ≤ g := this; omega, hg.2⟩
    · exact ⟨(x.foot k (.inr (.inl h1))).1, Nat.lt_of_lt_of_le (x.foot k (.inr (.inl h1))).2 t.size⟩
    · exact ⟨(x.foot k (.inr (.inr (.inl h1)))).1, Nat.lt_of_lt_of_le (x.foot k (.inr (.inr (.inl h1)))).2 t.size⟩
    · exact ⟨(x.foot k (.inr (.inr (.inr (.inl h1))))).1, Nat.lt_of_lt_of_le (x.foot k (.inr (.inr (.inr (.inl h1))))).2 t.size⟩
    · rcases List.mem_or_eq_of_mem_set hz with h1 | h1
      · have := x.foot _ (.inr (.inr (.inr (.inr ⟨z, h1, u, hu, rfl⟩))))
        exact ⟨this.1, Nat.lt_of_lt_of_le this.2 t.size⟩
      · rw [h1] at hu
        exact ⟨(hoff u hu).1, Nat.lt_of_lt_of_le (hoff u hu).2 t.size⟩
  · rintro k (⟨u, hu, rfl⟩ | h1 | h1 | h1 | ⟨z, hz, u, hu, rfl⟩)
    · cases hu
      exact .inr (.inr hg.1)
    · exact .inl (.inr (.inl h1))
    · exact .inl (.inr (.inr (.inl h1)))
    · exact .inl (.inr (.inr (.inr (.inl h1))))
    · rcases List.mem_or_eq_of_mem_set hz with h1 | h1
      · exact .inl (.inr (.inr (.inr (.inr ⟨z, h1, u, hu, rfl⟩))))
      · rw [h1] at hu
        exact .inr (.inl ⟨u, hu, rfl⟩)
set_option maxRecDepth 20000 in
set_option maxHeartbeats 8000000 in
theorem rput_any (w : World) (m : Nat) (h : RH) (R : RS) (x : RM w m h R) (hl : R.F.length ≤ 1000000) (i : Nat) (hi : i < R.F.length) (y : RL) (hy : RowB w y.a y.b.length y.c y.b) (hoff : ∀ z, y.a = some z → z.block ≠ m ∧ z.block < w.heap.size) :
    Calls Try.prog 64 #[.pointer (some ⟨m, 0, none⟩), .int .i64 i, .agg #[.slice y.a y.b.length y.c, .int .i64 y.s]] w fun e w' => e = .returned (.tuple #[]) ∧ PutTo w w' m h R i y := by
  obtain ⟨W1, hW1⟩ : ∃ W, w.alloc (.cells #[.slice y.a y.b.length y.c, .int .i64 y.s] 98) = W := ⟨_, rfl⟩
  have t1 : Touch w W1 (fun _ => False) := hW1 ▸ (Touch.refl w _).alloc _
  have g1 : W1.heap[w.heap.size]? = some (.cells #[.slice y.a y.b.length y.c, .int .i64 y.s] 98 (0, 0)) := hW1 ▸ heap_alloc_new ..
  obtain ⟨B1, hB1⟩ : ∃ B, w.heap.size = B := ⟨_, rfl⟩
  have x1 := x.still t1
  have hil : i < h.L.length := by rw [← x.len]; exact hi
  have hll : h.L.length ≤ 1000000 := by rw [← x.len]; exact hl
  have hml := heap_lt x.head
  have c0 := x1.cells.1
  have f0 := free_of_cells x1.head 0
  have hfl := x1.fl
  have HFL := Lib.hid hfl
  have HX := Lib.hid x
  have HX1 := Lib.hid x1
  have HY := Lib.hid hy
  have HOFF := Lib.hid hoff
  have HT1 := Lib.hid t1
  have hfc := hfl.hcap
  have hfm := hfl.hmax
  rw [hB1] at g1
  have HG1 := Lib.hid g1
  have HB1 := Lib.hid hB1
  have HML := Lib.hid hml
  clear x x1 hy hoff t1 g1 hi hl hfl hml
  go_enter Try.func64, Try.ntmps64
  go_wp2_with (at_builtin; (try rw [hW1]); (with_reducible refine wp_appS (B := W1.heap.size) (W := W1) (base := W1.heap.size) (OwnS.nil _ _ _ _) HFL.out (one_rll _) 66 Try.underlying66 (.agg #[.slice none 0 0, .int .i64 0]) 32 infoRL rfl (by decide) (by simp only [maxLen, List.length_nil]; omega) (by simp only [List.length_nil]; omega) ((Touch.refl _ (fun _ => False)).below (fun _ _ h => h.elim) (Nat.le_refl _)) (Nat.le_refl _) (Nat.le_refl _) rfl _ _ rfl rfl rfl h.L.length (h.L.map rll) (by simp) (by simp) ?_); intro a6 c6 w6 ho6 hg6 hb6 hp6; have t6 : Touch W1 w6 (fun _ => False) := (Touch.refl _ (fun _ => False)).grown hg6 (fun k hk _ => by cases hk); have hh6 := t6.keeps HX1.out.head (fun h => h); have c60 := cell_of_cells hh6 0; have f60 := free_of_cells hh6 0; have HO6 := Lib.hid ho6; have HT6 := Lib.hid t6; have HH6 := Lib.hid hh6; obtain ⟨W7, hW7⟩ : ∃ W, w6.setCell ⟨m, 0, none⟩ (.slice a6 h.L.length c6) = W := ⟨_, rfl⟩; have HW7 := Lib.hid hW7; clear hW7 ho6 hg6 hb6 hp6 t6 hh6 c0 f0 hW1)
  rw [HW7.out]
  obtain ⟨g, hg⟩ := own_some HO6.out (by omega)
  subst hg
  have hgl : w.heap.size ≤ g := Nat.le_trans HT1.out.size (HO6.out.row'.2.2 _ rfl).1
  have hgm : g ≠ m := fun e => by have := HML.out; omega
  have hgB : g ≠ B1 := fun e => by
    have h1 := (HO6.out.row'.2.2 _ rfl).1
    have h1 : W1.heap.size ≤ g := h1
    have h2 := heap_lt HG1.out
    omega
  have hh7 := heap_setCell_same w6 m 0 _ _ (.slice (some ⟨g, 0, none⟩) h.L.length c6) HH6.out
  rw [HW7.out] at hh7
  have t7 : Touch w6 W7 (fun k => k = m) := HW7.out ▸ (Touch.refl w6 _).into 0 _
  have HOW : RowKit.Hid (OwnS W7.drew w.heap.size 98 2 (.slice (some ⟨g, 0, none⟩) h.L.length c6) (h.L.map rll)) := Lib.hid (((HO6.out.touch t7 (fun k hk e => by
    have e : k = m := e
    have h1 := (HO6.out.own.lt k hk).1
    have h2 := HML.out
    have h3 := HT1.out.size
    omega)).rebase (base' := w.heap.size) (fun k hk => Nat.le_trans HT1.out.size (HO6.out.own.lt k hk).1)).still ((Touch.refl W7 (fun _ => False)).drew))
  have HTT : RowKit.Hid (Touch w W7 (fun k => k = m)) := Lib.hid (((HT1.out.trans HT6.out (fun _ _ h => h)).mono (T := fun k => k = m) (fun _ _ h => h.elim)).trans t7 (fun _ _ h => h))
  have hg7 : W7.heap[B1]? = some (.cells #[.slice y.a y.b.length y.c, .int .i64 y.s] 98 (0, 0)) := t7.keeps (HT6.out.keeps HG1.out (fun h => h)) (fun e => by have e : B1 = m := e; have := HML.out; have := HB1.out; omega)
  have HB1S : RowKit.Hid (∀ W, Touch W7 W (fun k => k = g) → W.heap[B1]? = some (.cells #[.slice y.a y.b.length y.c, .int .i64 y.s] 98 (0, 0))) := Lib.hid (fun W t => t.keeps hg7 (fun e => hgB e.symm))
  have HC7 : RowKit.Hid (∀ W, Touch W7 W (fun k => k = g) → W.cell? ⟨m, 0, none⟩ = some (.slice (some ⟨g, 0, none⟩) h.L.length c6)) := Lib.hid (fun W t => cell_of_cells (t.keeps hh7 (fun e => hgm e.symm)) 0)
  have HFIN : RowKit.Hid (∀ W, Touch W7 W (fun k => k = g) → OwnS W w.heap.size 98 2 (.slice (some ⟨g, 0, none⟩) h.L.length c6) ((h.L.set i y).map rll) → PutTo w W m h R i y) := Lib.hid (fun W t ho => put_end HX.out HY.out HOFF.out (HTT.out.trans t (fun k hk e => by have e : k = g := e; omega)) (t.keeps hh7 (fun e => hgm e.symm)) ho)
  have HIL := Lib.hid hil
  have hcap6 := HO6.out.row'.2.1.hcap
  have hmax6 := HO6.out.row'.2.1.hmax
  clear hh7 t7 hg7 hgl hgm hgB c60 f60
  go_upto_region 2 with (fail)
  try rw [HB1.out]
  have hS := (Touch.refl W7 (fun k => k = g)).drew
  refine wp_region_tree3 (fun w' => Touch W7 w' (fun k => k = g)) (.take 0 (.take 1 (.take 2 (.take 3 (.take 4 (.take 5 (.take 6 (.one 7 .fin)))))))) (by kernel_rfl) (by kernel_rfl) (by kernel_rfl) (by kernel_rfl) hS ?_
  refine walk3_take ?_
  (refine takeN_take (v := ?_) (some 14) rfl rfl (fun _ _ _ h => h) (by rfl) ?_ ?_; rotate_left; (focus (intro w' hw'; have k0 := HC7.out w' hw'; go_simp; (try with_reducible rfl))); (try simp only [Act.put, List.setIfInBounds_toArray, List.set_cons_zero, List.set_cons_succ]))
  refine walk3_take ?_
  (refine takeN_take (v := ?_) (some 15) rfl rfl (fun _ _ _ h => h) (by rfl) ?_ ?_; rotate_left; (focus (intro w' hw'; have k0 := HC7.out w' hw'; go_simp; (try with_reducible rfl))); (try simp only [Act.put, List.setIfInBounds_toArray, List.set_cons_zero, List.set_cons_succ]))
  refine walk3_take ?_
  (refine takeN_take (v := ?_) (some 16) rfl rfl (fun _ _ _ h => h) (by rfl) ?_ ?_; rotate_left; (focus (intro w' hw'; have k0 := HC7.out w' hw'; go_simp; (try with_reducible rfl))); (try simp only [Act.put, List.setIfInBounds_toArray, List.set_cons_zero, List.set_cons_succ]))
  refine walk3_take ?_
  (refine takeN_take (v := ?_) (some 17) rfl rfl (fun _ _ _ h => h) (by rfl) ?_ ?_; rotate_left; (focus (intro w' hw'; have k0 := HC7.out w' hw'; go_simp; (try with_reducible rfl))); (try simp only [Act.put, List.setIfInBounds_toArray, List.set_cons_zero, List.set_cons_succ]))
  refine walk3_take ?_
  (refine takeN_take (v := ?_) (some 18) rfl rfl (fun _ _ _ h => h) (by rfl) ?_ ?_; rotate_left; (focus (intro w' hw'; have k0 := HC7.out w' hw'; go_simp; (try with_reducible rfl))); (try simp only [Act.put, List.setIfInBounds_toArray, List.set_cons_zero, List.set_cons_succ]))
  refine walk3_take ?_
  (refine takeN_row (some 19) rfl rfl 98 (.tmp 5) rfl (B1) rfl _ _ _ _ (fun w' h => (HB1S.out w' h)) Try.underlying98 rfl infoFl (fun _ _ _ h => h) (by rfl) ?_; (try simp only [Act.put, List.setIfInBounds_toArray, List.set_cons_zero, List.set_cons_succ]))
  refine walk3_take ?_
  (refine takeN_take (v := ?_) (some 20) rfl rfl (fun _ _ _ h => h) (by rfl) ?_ ?_; rotate_left; (focus (intro w' hw'; have k0 := HC7.out w' hw'; go_simp; (try with_reducible rfl))); (try simp only [Act.put, List.setIfInBounds_toArray, List.set_cons_zero, List.set_cons_succ]))
  refine walk3_one ?_
  (refine runN_storeMR rfl rfl (by rfl) 98 _ _ rfl g (i * 2) #[.slice y.a y.b.length y.c, .int .i64 y.s] (by first | rfl | simp) rfl (there2R HOW.out i HIL.out (fun z => ⟨_, _, rll_two z⟩)) infoFl (by rw [← Array.all_toList]; rfl) ⟨hS.trans (touch_cellsR _ g _ _) (fun _ _ h => h), fun hS => ?_⟩; have HOW := Lib.hid (own_put2 HOW.out i HIL.out y _ _ (rll_two _)); (try simp only [Act.put, List.setIfInBounds_toArray, List.set_cons_zero, List.set_cons_succ]))
  refine walk3_fin ?_
  go_wp2_with fail
  go_end0
  exact ⟨rfl, HFIN.out _ hS HOW.out⟩
theorem chg_end {w w9 : World} {m : Nat} {h : RH} {R : RS} (x : RM w m h R) {c : RC} {a2 a9 : Option Addr} {c2 c9 : Nat} (t : Touch w w9 (fun k => k = m))
    (hh : w9.heap[m]? = some (.cells #[.slice h.fa h.L.length h.fc, .slice a2 (rTurn R.N c).length c2, .slice h.sa R.S.length h.sc, .slice a9 (R.C.length + 1) c9, .int .i64 R.q, .int .i64 R.n, .int .i64 R.fail] 70 (0, 0)))
    (ho : OwnS w9 w.heap.size 76 2 (.slice a2 (rTurn R.N c).length c2) ((rTurn R.N c).map rnl)) (hc : OwnS w9 w.heap.size 101 3 (.slice a9 (R.C.length + 1) c9) ((R.C ++ [c]).map rcl)) : RT w w9 m h { R with N := rTurn R.N c, C := R.C ++ [c] } := by
  obtain ⟨-, hr, hb⟩ := ho.row'
  obtain ⟨-, hr2, hb2⟩ := hc.row'
  have hm := heap_lt x.head
  refine ⟨{ h with na := a2, nc := c2, ca := a9, cc := c9 }, ⟨?_, ?_, ?_, ?_, ?_, ?_, ?_, ?_⟩, t, ?_⟩
  · show w9.heap[m]? = some (.cells #[_, _, _, .slice a9 (R.C ++ [c]).length c9, _, _, _] _ _)
    rw [List.length_append]; exact hh
  · exact x.fl.touch t (fun z hz => .inr (x.foot _ (.inl ⟨z, hz, rfl⟩)).1)
  · exact x.fF
  · exact hr
  · exact x.sure.touch t (fun z hz => .inr (x.foot _ (.inr (.inr (.inl ⟨z, hz, rfl⟩)))).1)
  · show RowS w9 _ (R.C ++ [c]).length _ _ _
    rw [List.length_append]; exact hr2
  · exact fun z hz => (x.fb z hz).touch t (fun u hu => .inr (x.foot _ (.inr (.inr (.inr (.inr ⟨z, hz, u, hu, rfl⟩))))).1)
  · rintro k (h1 | ⟨u, hu, rfl⟩ | h1 | ⟨u, hu, rfl⟩ | h1)
    · exact ⟨(x.foot k (.inl h1)).1, Nat.lt_of_lt_of_le (x.foot k (.inl h1)).2 t.size⟩
    · exact ⟨fun e => by have := (hb u hu).1; omega, (hb u hu).2⟩
    · exact ⟨(x.foot k (.inr (.inr (.inl h1)))).1, Nat.lt_of_lt_of_le (x.foot k (.inr (.inr (.inl h1)))).2 t.size⟩
    · exact ⟨fun e => by have := (hb2 u hu).1; omega, (hb2 u hu).2⟩
    · exact ⟨(x.foot k (.inr (.inr (.inr (.inr h1))))).1, Nat.lt_of_lt_of_le (x.foot k (.inr (.inr (.inr (.inr h1))))).2 t.size⟩
  · rintro k (h1 | ⟨u, hu, rfl⟩ | h1 | ⟨u, hu, rfl⟩ | h1)
    · exact .inl (.inl h1)
    · exact .inr (hb u hu).1
    · exact .inl (.inr (.inr (.inl h1)))
    · exact .inr (hb2 u hu).1
    · exact .inl (.inr (.inr (.inr (.inr h1))))
set_option maxRecDepth 20000 in
set_option maxHeartbeats 8000000 in
theorem rchange_any (w : World) (m : Nat) (h : RH) (R : RS) (x : RM w m h R) (hnl : R.N.length ≤ 100000) (hcl : R.C.length ≤ 1000000) (c : RC) (hx : c.fr ≠ ⟨#[]⟩ ∨ c.to_ ≠ ⟨#[]⟩) :
    Calls Try.prog 63 #[.pointer (some ⟨m, 0, none⟩), rcv c] w fun e w' => e = .returned (.tuple #[]) ∧ RT w w' m h { R with N := rTurn R.N c, C := R.C ++ [c] } := by
  obtain ⟨cf, ct, cx⟩ := c
  obtain ⟨W1, hW1⟩ : ∃ W, w.alloc (.cells #[.string cf, .string ct, .int .i64 cx] 101) = W := ⟨_, rfl⟩
  have t1 : Touch w W1 (fun _ => False) := hW1 ▸ (Touch.refl w _).alloc _
  have g1 : W1.heap[w.heap.size]? = some (.cells #[.string cf, .string ct, .int .i64 cx] 101 (0, 0)) := hW1 ▸ heap_alloc_new ..
  obtain ⟨B1, hB1⟩ : ∃ B, w.heap.size = B := ⟨_, rfl⟩
  rw [hB1] at g1
  have x1 := x.still t1
  have hml := heap_lt x.head
  have hbm : B1 ≠ m := by omega
  have HX := Lib.hid x
  have HX1 := Lib.hid x1
  have HT1 := Lib.hid t1
  have HG1 := Lib.hid g1
  have HBM := Lib.hid hbm
  have HB1S : RowKit.Hid (∀ W, Touch W1 W (fun k => k = m) → W.heap[B1]? = some (.cells #[.string cf, .string ct, .int .i64 cx] 101 (0, 0))) := Lib.hid (fun W t => t.keeps g1 (fun e => hbm e))
  obtain ⟨c, hc⟩ : ∃ c : RC, c = ⟨cf, ct, cx⟩ := ⟨_, rfl⟩
  have HC := Lib.hid hc
  have HTN : RowKit.Hid (∀ W, Touch W1 W (fun k => k = m) → Calls Try.prog 66 #[.slice h.na R.N.length h.nc, .agg #[.string cf, .string ct, .int .i64 cx]] W fun e w' => ∃ a' c', e = .returned (.slice a' (rTurn R.N c).length c') ∧ OwnS w' W.heap.size 76 2 (.slice a' (rTurn R.N c).length c') ((rTurn R.N c).map rnl) ∧ Touch W w' (fun _ => False)) := Lib.hid (fun W t => by
    rw [hc]
    exact rturn_any W h.na R.N.length h.nc R.N (x1.now.touch t (fun z hz => .inr (x1.foot _ (.inr (.inl ⟨z, hz, rfl⟩))).1)) hnl ⟨cf, ct, cx⟩ hx)
  have HDL : RowKit.Hid (m < W1.heap.size) := Lib.hid (heap_lt x1.head)
  have HDZ : RowKit.Hid (W1.heap.size ≤ W1.heap.size) := Lib.hid (Nat.le_refl _)
  unfold rcv
  simp only
  rw [← hc]
  have hcc := x1.ch.hcap
  have hcm := x1.ch.hmax
  clear x x1 hx t1 g1 hml hbm hnl hc
  go_enter Try.func63, Try.ntmps63
  go_upto_region 1 with (fail)
  try rw [hW1]
  try rw [hB1]
  clear hW1
  go_cut [] (fun wx => ∃ a2 c2, Touch W1 wx (fun k => k = m) ∧ wx.heap[m]? = some (.cells #[.slice h.fa h.L.length h.fc, .slice a2 (rTurn R.N c).length c2, .slice h.sa R.S.length h.sc, .slice h.ca R.C.length h.cc, .int .i64 R.q, .int .i64 R.n, .int .i64 R.fail] 70 (0, 0)) ∧ OwnS wx W1.heap.size 76 2 (.slice a2 (rTurn R.N c).length c2) ((rTurn R.N c).map rnl))
  case first =>
    have HHD := Lib.hid (((Touch.refl W1 (fun _ => False)).drew).keeps HX1.out.head (fun h => h))
    have hS := (Touch.refl W1 (fun k => k = m)).drew
    refine wp_region_tree3 (fun w' => Touch W1 w' (fun k => k = m)) (.take 0 (.take 1 (.take 2 (.take 3 (.take 5 (.one 4 (.one 6 (.take 7 (.take 8 (.one 9 .fin)))))))))) (by kernel_rfl) (by kernel_rfl) (by kernel_rfl) (by kernel_rfl) hS ?_
    refine walk3_take ?_
    (refine takeN_take (v := ?_) (some 4) rfl rfl (fun _ _ _ h => h) (by rfl) ?_ ?_; rotate_left; (focus (intro w' hw'; go_simp; (try with_reducible rfl))); (try simp only [Act.put, List.setIfInBounds_toArray, List.set_cons_zero, List.set_cons_succ]))
    refine walk3_take ?_
    (refine takeN_take (v := ?_) (some 5) rfl rfl (fun _ _ _ h => h) (by rfl) ?_ ?_; rotate_left; (focus (intro w' hw'; go_simp; (try with_reducible rfl))); (try simp only [Act.put, List.setIfInBounds_toArray, List.set_cons_zero, List.set_cons_succ]))
    refine walk3_take ?_
    (refine takeN_take (v := ?_) (some 6) rfl rfl (fun _ _ _ h => h) (by rfl) ?_ ?_; rotate_left; (focus (intro w' hw'; go_simp; (try with_reducible rfl))); (try simp only [Act.put, List.setIfInBounds_toArray, List.set_cons_zero, List.set_cons_succ]))
    refine walk3_take ?_
    (refine takeN_take (v := ?_) (some 7) rfl rfl (fun _ _ _ h => h) (by rfl) ?_ ?_; rotate_left; (focus (intro w' hw'; go_simp; (try with_reducible rfl))); (try simp only [Act.put, List.setIfInBounds_toArray, List.set_cons_zero, List.set_cons_succ]))
    refine walk3_take ?_
    (refine takeN_row (some 9) rfl rfl 101 (.tmp 3) rfl (B1) rfl _ _ _ _ (fun w' h => (HB1S.out w' h)) Try.underlying101 rfl infoCh (fun _ _ _ h => h) (by rfl) ?_; (try simp only [Act.put, List.setIfInBounds_toArray, List.set_cons_zero, List.set_cons_succ]))
    refine walk3_one ?_
    (have cc := cell_of_cells HHD.out 1; refine runN_do (v := .slice h.na R.N.length h.nc) (w' := _) (some 8) rfl rfl (by rfl) (by go_simp; (try with_reducible rfl)) hS (fun hS => ?_); clear cc; (try simp only [Act.put, List.setIfInBounds_toArray, List.set_cons_zero, List.set_cons_succ]))
    refine walk3_one ?_
    (refine runN_call 10 _ _ _ _ (HTN.out _ hS) rfl rfl rfl (by rfl) rfl (enter_rturn _ _ _) ?_; rintro e w2 ⟨a2, c2, rfl, o2, t2⟩; have hS := hS.trans t2 (fun _ _ h => h.elim); refine ⟨_, rfl, hS, fun hS => ?_⟩; have HHD := Lib.hid (t2.keeps HHD.out (fun h => h)); have HOT := Lib.hid (o2.rebase (base' := W1.heap.size) (fun y hy => Nat.le_trans HDZ.out (o2.own.lt y hy).1)); clear t2 o2; (try simp only [Act.put, List.setIfInBounds_toArray, List.set_cons_zero, List.set_cons_succ]))
    refine walk3_take ?_
    (refine takeN_take (v := ?_) (some 11) rfl rfl (fun _ _ _ h => h) (by rfl) ?_ ?_; rotate_left; (focus (intro w' hw'; go_simp; (try with_reducible rfl))); (try simp only [Act.put, List.setIfInBounds_toArray, List.set_cons_zero, List.set_cons_succ]))
    refine walk3_take ?_
    (refine takeN_take (v := ?_) (some 12) rfl rfl (fun _ _ _ h => h) (by rfl) ?_ ?_; rotate_left; (focus (intro w' hw'; go_simp; (try with_reducible rfl))); (try simp only [Act.put, List.setIfInBounds_toArray, List.set_cons_zero, List.set_cons_succ]))
    refine walk3_one ?_
    (have cc := cell_of_cells HHD.out 1; have ff := free_of_cells HHD.out 1; refine runN_skip0 none rfl rfl (by rfl) (w' := World.setCell w2 ⟨m, 1, none⟩ (.slice a2 (rTurn R.N c).length c2)) (by go_simp; (try with_reducible rfl)) ?_ ?_; (exact hS.setCell _ _ (fun _ => rfl)); clear cc ff; intro hS; have t6 := (Touch.refl w2 (fun k => k = m)).setCell ⟨m, 1, none⟩ (.slice a2 (rTurn R.N c).length c2) (fun _ => rfl); have HHD := Lib.hid (heap_setCell_same _ m 1 _ _ (.slice a2 (rTurn R.N c).length c2) HHD.out); have HOT := Lib.hid (HOT.out.touch t6 (fun x hx e => by have e : x = m := e; have := (HOT.out.own.lt x hx).1; have := HDL.out; omega)); clear t6; (try simp only [Act.put, List.setIfInBounds_toArray, List.set_cons_zero, List.set_cons_succ]))
    refine walk3_fin ?_
    go_wp2_with fail
    go_meet
    exact ⟨a2, c2, hS, HHD.out, HOT.out⟩
  case rest =>
    obtain ⟨a2, c2, t2, hh2, o2⟩ := hcut
    obtain ⟨x3, hx3⟩ : ∃ W, W = wc := ⟨_, rfl⟩
    rw [← hx3] at t2 hh2 o2 ⊢
    have HHD := Lib.hid (((Touch.refl x3 (fun _ => False)).drew).keeps hh2 (fun h => h))
    have HOT := Lib.hid (o2.still ((Touch.refl x3 (fun _ => False)).drew))
    have HOA : RowKit.Hid (∀ k, (Value.slice a2 (rTurn R.N c).length c2).ownBlock = some k → k < x3.heap.size) := Lib.hid (fun k hk => by
      obtain ⟨z, hz, rfl⟩ := bown_block hk
      exact (o2.row'.2.2 z hz).2)
    have HDL3 : RowKit.Hid (m < x3.heap.size) := Lib.hid (heap_lt hh2)
    have HB2S : RowKit.Hid (∀ W, Touch x3 W (fun k => k = m) → W.heap[B1]? = some (.cells #[.string cf, .string ct, .int .i64 cx] 101 (0, 0))) := Lib.hid (fun W t => HB1S.out W (t2.trans t (fun _ _ h => h)))
    have HCH : RowKit.Hid (∀ W, Touch x3 W (fun k => k = m) → RowS W h.ca R.C.length h.cc 3 (R.C.map rcl)) := Lib.hid (fun W t => HX1.out.ch.touch (t2.trans t (fun _ _ h => h)) (fun z hz => .inr (HX1.out.foot _ (.inr (.inr (.inr (.inl ⟨z, hz, rfl⟩))))).1))
    have HFIN : RowKit.Hid (∀ a9 c9 W, Touch x3 W (fun k => k = m) → W.heap[m]? = some (.cells #[.slice h.fa h.L.length h.fc, .slice a2 (rTurn R.N c).length c2, .slice h.sa R.S.length h.sc, .slice a9 (R.C.length + 1) c9, .int .i64 R.q, .int .i64 R.n, .int .i64 R.fail] 70 (0, 0)) → OwnS W W1.heap.size 76 2 (.slice a2 (rTurn R.N c).length c2) ((rTurn R.N c).map rnl) → OwnS W x3.heap.size 101 3 (.slice a9 (R.C.length + 1) c9) ((R.C ++ [RC.mk cf ct cx]).map rcl) → RT w W m h { R with N := rTurn R.N c, C := R.C ++ [c] }) := Lib.hid (fun a9 c9 W t hh ho hc => by
      rw [← HC.out] at hc
      exact chg_end HX.out (((HT1.out.mono (T := fun k => k = m) (fun _ _ h => h.elim)).trans t2 (fun _ _ h => h)).trans t (fun _ _ h => h)) hh (ho.rebase (fun k hk => Nat.le_trans HT1.out.size (ho.own.lt k hk).1)) (hc.rebase (fun k hk => Nat.le_trans (Nat.le_trans HT1.out.size t2.size) (hc.own.lt k hk).1)))
    clear t2 hh2 o2 hx3 HB1S HTN
    go_wp2_with fail
    have hS := (Touch.refl x3 (fun k => k = m)).drew
    refine wp_region_tree3 (fun w' => Touch x3 w' (fun k => k = m)) (.take 0 (.take 1 (.take 2 (.take 3 (.take 6 (.two 4 7 (.two 5 7 (.one 7 (.one 8 (.take 9 (.take 10 (.one 11 .fin))))) (.one 5 (.one 8 (.take 9 (.take 10 (.one 11 .fin)))))) (.one 4 (.one 5 (.one 8 (.take 9 (.take 10 (.one 11 .fin)))))))))))) (by kernel_rfl) (by kernel_rfl) (by kernel_rfl) (by kernel_rfl) hS ?_
    refine walk3_take ?_
    (refine takeN_take (v := ?_) (some 13) rfl rfl (fun _ _ _ h => h) (by rfl) ?_ ?_; rotate_left; (focus (intro w' hw'; go_simp; (try with_reducible rfl))); (try simp only [Act.put, List.setIfInBounds_toArray, List.set_cons_zero, List.set_cons_succ]))
    refine walk3_take ?_
    (refine takeN_take (v := ?_) (some 14) rfl rfl (fun _ _ _ h => h) (by rfl) ?_ ?_; rotate_left; (focus (intro w' hw'; go_simp; (try with_reducible rfl))); (try simp only [Act.put, List.setIfInBounds_toArray, List.set_cons_zero, List.set_cons_succ]))
    refine walk3_take ?_
    (refine takeN_take (v := ?_) (some 15) rfl rfl (fun _ _ _ h => h) (by rfl) ?_ ?_; rotate_left; (focus (intro w' hw'; go_simp; (try with_reducible rfl))); (try simp only [Act.put, List.setIfInBounds_toArray, List.set_cons_zero, List.set_cons_succ]))
    refine walk3_take ?_
    (refine takeN_take (v := ?_) (some 16) rfl rfl (fun _ _ _ h => h) (by rfl) ?_ ?_; rotate_left; (focus (intro w' hw'; go_simp; (try with_reducible rfl))); (try simp only [Act.put, List.setIfInBounds_toArray, List.set_cons_zero, List.set_cons_succ]))
    refine walk3_take ?_
    (refine takeN_row (some 19) rfl rfl 101 (.tmp 3) rfl (B1) rfl _ _ _ _ (fun w' h => (HB2S.out w' h)) Try.underlying101 rfl infoCh (fun _ _ _ h => h) (by rfl) ?_; (try simp only [Act.put, List.setIfInBounds_toArray, List.set_cons_zero, List.set_cons_succ]))
    refine walk3_two ?_ ?_
    · (have cc := cell_of_cells HHD.out 3; refine runN_do (v := .slice h.ca R.C.length h.cc) (w' := _) (some 17) rfl rfl (by rfl) (by go_simp; (try with_reducible rfl)) hS (fun hS => ?_); clear cc; (try simp only [Act.put, List.setIfInBounds_toArray, List.set_cons_zero, List.set_cons_succ]))
      refine walk3_two ?_ ?_
      · (refine runN_appS 18 (.const (.slice none 0 0)) (.tmp 17) _ rfl rfl rfl (by rfl) 101 Try.underlying68 (.agg #[.string ByteArray.empty, .string ByteArray.empty, .int .i64 0]) 3 40 infoRC rfl (by decide) x3.heap.size _ _ rfl (OwnS.nil _ _ _ _) h.ca R.C.length h.cc (R.C.map rcl) rfl (HCH.out _ hS) (one_rcl _) R.C.length (R.C.map rcl) (by simp) (by simp) (by simp only [maxLen]; omega) (by omega) hS.size ?_; intro a9 c9 w9 how9 hg9 hp9; have t9 := (Touch.refl _ (fun _ => False)).grown hg9 (fun k hk _ => by cases hk); have hS := hS.trans t9 (fun k _ h2 => h2.elim); refine ⟨hS, fun _ => ?_⟩; have HHD := Lib.hid (t9.keeps HHD.out (fun h => h)); have HOT := Lib.hid (HOT.out.still t9); have HO9 := Lib.hid how9; (try have HNW := Lib.hid (HNW.out.still t9)); clear how9 hg9 hp9 t9; (try simp only [Act.put, List.setIfInBounds_toArray, List.set_cons_zero, List.set_cons_succ]))
        refine walk3_one ?_
        (refine runN_new 20 (fun W => .slice (some ⟨W.heap.size, 0, none⟩) 1 1) #[.string cf, .string ct, .int .i64 cx] 101 rfl rfl (by rfl) (by intro W; go_simp <;> first | with_reducible rfl | rfl | exact ⟨rfl, rfl⟩) ?_; intro w7 hw7 hM7 hs7 t7; have hS := hS.trans t7 (fun _ _ h => h.elim); refine ⟨hS, fun _ => ?_⟩; have HNW := Lib.hid (show RowS w7 _ 1 1 3 [rcl (RC.mk cf ct cx)] by rw [hw7]; exact row_oneRC _ (RC.mk cf ct cx)); have HHD := Lib.hid (t7.keeps HHD.out (fun h => h)); have HOT := Lib.hid (HOT.out.still t7); (try have HO9 := Lib.hid (HO9.out.still t7)); clear hw7 hM7 hs7 t7; (try simp only [Act.put, List.setIfInBounds_toArray, List.set_cons_zero, List.set_cons_succ]))
        refine walk3_one ?_
        (refine runN_appS 21 (.tmp 18) (.tmp 20) _ rfl rfl rfl (by rfl) 101 Try.underlying68 (.agg #[.string ByteArray.empty, .string ByteArray.empty, .int .i64 0]) 3 40 infoRC rfl (by decide) x3.heap.size _ _ rfl HO9.out _ 1 1 _ rfl HNW.out (one_rcl [RC.mk cf ct cx]) (R.C.length + 1) ((R.C ++ [RC.mk cf ct cx]).map rcl) (by rw [List.map_append]; rfl) (by rw [List.length_map]) (by simp only [maxLen]; omega) (by omega) hS.size ?_; intro a8 c8 w8 how8 hg8 hp8; have t8 := (Touch.refl _ (fun k => x3.heap.size ≤ k)).grown hg8 (fun k hk _ => (HO9.out.own.lt k hk).1); have hS := hS.trans t8 (fun k h1 h2 => by have h2 : x3.heap.size ≤ k := h2; omega); refine ⟨hS, fun _ => ?_⟩; have HHD := Lib.hid (t8.keeps HHD.out (fun h2 => by have h2 : x3.heap.size ≤ m := h2; have := HDL3.out; omega)); have HOT := Lib.hid (HOT.out.touch t8 (fun x hx h2 => by have h2 : x3.heap.size ≤ x := h2; have := HOA.out x hx; omega)); have HO8 := Lib.hid how8; clear how8 hg8 hp8 t8 HNW; (try simp only [Act.put, List.setIfInBounds_toArray, List.set_cons_zero, List.set_cons_succ]))
        refine walk3_take ?_
        (refine takeN_take (v := ?_) (some 22) rfl rfl (fun _ _ _ h => h) (by rfl) ?_ ?_; rotate_left; (focus (intro w' hw'; go_simp; (try with_reducible rfl))); (try simp only [Act.put, List.setIfInBounds_toArray, List.set_cons_zero, List.set_cons_succ]))
        refine walk3_take ?_
        (refine takeN_take (v := ?_) (some 23) rfl rfl (fun _ _ _ h => h) (by rfl) ?_ ?_; rotate_left; (focus (intro w' hw'; go_simp; (try with_reducible rfl))); (try simp only [Act.put, List.setIfInBounds_toArray, List.set_cons_zero, List.set_cons_succ]))
        refine walk3_one ?_
        (have cc := cell_of_cells HHD.out 3; have ff := free_of_cells HHD.out 3; refine runN_skip0 none rfl rfl (by rfl) (w' := World.setCell w8 ⟨m, 3, none⟩ (.slice a8 (R.C.length + 1) c8)) (by go_simp; (try with_reducible rfl)) ?_ ?_; (exact hS.setCell _ _ (fun _ => rfl)); clear cc ff; intro hS; have t6 := (Touch.refl w8 (fun k => k = m)).setCell ⟨m, 3, none⟩ (.slice a8 (R.C.length + 1) c8) (fun _ => rfl); have HHD := Lib.hid (heap_setCell_same _ m 3 _ _ (.slice a8 (R.C.length + 1) c8) HHD.out); have HOT := Lib.hid (HOT.out.touch t6 (fun x hx e => by have e : x = m := e; have := (HOT.out.own.lt x hx).1; have := HDL.out; omega)); have HO8 := Lib.hid (HO8.out.touch t6 (fun x hx e => by have e : x = m := e; have := (HO8.out.own.lt x hx).1; have := HDL3.out; omega)); clear t6; (try simp only [Act.put, List.setIfInBounds_toArray, List.set_cons_zero, List.set_cons_succ]))
        refine walk3_fin ?_
        go_wp2_with fail
        go_end0
        exact ⟨rfl, HFIN.out _ _ _ hS HHD.out HOT.out HO8.out⟩
      · (refine runN_new 20 (fun W => .slice (some ⟨W.heap.size, 0, none⟩) 1 1) #[.string cf, .string ct, .int .i64 cx] 101 rfl rfl (by rfl) (by intro W; go_simp <;> first | with_reducible rfl | rfl | exact ⟨rfl, rfl⟩) ?_; intro w7 hw7 hM7 hs7 t7; have hS := hS.trans t7 (fun _ _ h => h.elim); refine ⟨hS, fun _ => ?_⟩; have HNW := Lib.hid (show RowS w7 _ 1 1 3 [rcl (RC.mk cf ct cx)] by rw [hw7]; exact row_oneRC _ (RC.mk cf ct cx)); have HHD := Lib.hid (t7.keeps HHD.out (fun h => h)); have HOT := Lib.hid (HOT.out.still t7); (try have HO9 := Lib.hid (HO9.out.still t7)); clear hw7 hM7 hs7 t7; (try simp only [Act.put, List.setIfInBounds_toArray, List.set_cons_zero, List.set_cons_succ]))
        refine walk3_one ?_
        (refine runN_appS 18 (.const (.slice none 0 0)) (.tmp 17) _ rfl rfl rfl (by rfl) 101 Try.underlying68 (.agg #[.string ByteArray.empty, .string ByteArray.empty, .int .i64 0]) 3 40 infoRC rfl (by decide) x3.heap.size _ _ rfl (OwnS.nil _ _ _ _) h.ca R.C.length h.cc (R.C.map rcl) rfl (HCH.out _ hS) (one_rcl _) R.C.length (R.C.map rcl) (by simp) (by simp) (by simp only [maxLen]; omega) (by omega) hS.size ?_; intro a9 c9 w9 how9 hg9 hp9; have t9 := (Touch.refl _ (fun _ => False)).grown hg9 (fun k hk _ => by cases hk); have hS := hS.trans t9 (fun k _ h2 => h2.elim); refine ⟨hS, fun _ => ?_⟩; have HHD := Lib.hid (t9.keeps HHD.out (fun h => h)); have HOT := Lib.hid (HOT.out.still t9); have HO9 := Lib.hid how9; (try have HNW := Lib.hid (HNW.out.still t9)); clear how9 hg9 hp9 t9; (try simp only [Act.put, List.setIfInBounds_toArray, List.set_cons_zero, List.set_cons_succ]))
        refine walk3_one ?_
        (refine runN_appS 21 (.tmp 18) (.tmp 20) _ rfl rfl rfl (by rfl) 101 Try.underlying68 (.agg #[.string ByteArray.empty, .string ByteArray.empty, .int .i64 0]) 3 40 infoRC rfl (by decide) x3.heap.size _ _ rfl HO9.out _ 1 1 _ rfl HNW.out (one_rcl [RC.mk cf ct cx]) (R.C.length + 1) ((R.C ++ [RC.mk cf ct cx]).map rcl) (by rw [List.map_append]; rfl) (by rw [List.length_map]) (by simp only [maxLen]; omega) (by omega) hS.size ?_; intro a8 c8 w8 how8 hg8 hp8; have t8 := (Touch.refl _ (fun k => x3.heap.size ≤ k)).grown hg8 (fun k hk _ => (HO9.out.own.lt k hk).1); have hS := hS.trans t8 (fun k h1 h2 => by have h2 : x3.heap.size ≤ k := h2; omega); refine ⟨hS, fun _ => ?_⟩; have HHD := Lib.hid (t8.keeps HHD.out (fun h2 => by have h2 : x3.heap.size ≤ m := h2; have := HDL3.out; omega)); have HOT := Lib.hid (HOT.out.touch t8 (fun x hx h2 => by have h2 : x3.heap.size ≤ x := h2; have := HOA.out x hx; omega)); have HO8 := Lib.hid how8; clear how8 hg8 hp8 t8 HNW; (try simp only [Act.put, List.setIfInBounds_toArray, List.set_cons_zero, List.set_cons_succ]))
        refine walk3_take ?_
        (refine takeN_take (v := ?_) (some 22) rfl rfl (fun _ _ _ h => h) (by rfl) ?_ ?_; rotate_left; (focus (intro w' hw'; go_simp; (try with_reducible rfl))); (try simp only [Act.put, List.setIfInBounds_toArray, List.set_cons_zero, List.set_cons_succ]))
        refine walk3_take ?_
        (refine takeN_take (v := ?_) (some 23) rfl rfl (fun _ _ _ h => h) (by rfl) ?_ ?_; rotate_left; (focus (intro w' hw'; go_simp; (try with_reducible rfl))); (try simp only [Act.put, List.setIfInBounds_toArray, List.set_cons_zero, List.set_cons_succ]))
        refine walk3_one ?_
        (have cc := cell_of_cells HHD.out 3; have ff := free_of_cells HHD.out 3; refine runN_skip0 none rfl rfl (by rfl) (w' := World.setCell w8 ⟨m, 3, none⟩ (.slice a8 (R.C.length + 1) c8)) (by go_simp; (try with_reducible rfl)) ?_ ?_; (exact hS.setCell _ _ (fun _ => rfl)); clear cc ff; intro hS; have t6 := (Touch.refl w8 (fun k => k = m)).setCell ⟨m, 3, none⟩ (.slice a8 (R.C.length + 1) c8) (fun _ => rfl); have HHD := Lib.hid (heap_setCell_same _ m 3 _ _ (.slice a8 (R.C.length + 1) c8) HHD.out); have HOT := Lib.hid (HOT.out.touch t6 (fun x hx e => by have e : x = m := e; have := (HOT.out.own.lt x hx).1; have := HDL.out; omega)); have HO8 := Lib.hid (HO8.out.touch t6 (fun x hx e => by have e : x = m := e; have := (HO8.out.own.lt x hx).1; have := HDL3.out; omega)); clear t6; (try simp only [Act.put, List.setIfInBounds_toArray, List.set_cons_zero, List.set_cons_succ]))
        refine walk3_fin ?_
        go_wp2_with fail
        go_end0
        exact ⟨rfl, HFIN.out _ _ _ hS HHD.out HOT.out HO8.out⟩
    · (refine runN_new 20 (fun W => .slice (some ⟨W.heap.size, 0, none⟩) 1 1) #[.string cf, .string ct, .int .i64 cx] 101 rfl rfl (by rfl) (by intro W; go_simp <;> first | with_reducible rfl | rfl | exact ⟨rfl, rfl⟩) ?_; intro w7 hw7 hM7 hs7 t7; have hS := hS.trans t7 (fun _ _ h => h.elim); refine ⟨hS, fun _ => ?_⟩; have HNW := Lib.hid (show RowS w7 _ 1 1 3 [rcl (RC.mk cf ct cx)] by rw [hw7]; exact row_oneRC _ (RC.mk cf ct cx)); have HHD := Lib.hid (t7.keeps HHD.out (fun h => h)); have HOT := Lib.hid (HOT.out.still t7); (try have HO9 := Lib.hid (HO9.out.still t7)); clear hw7 hM7 hs7 t7; (try simp only [Act.put, List.setIfInBounds_toArray, List.set_cons_zero, List.set_cons_succ]))
      refine walk3_one ?_
      (have cc := cell_of_cells HHD.out 3; refine runN_do (v := .slice h.ca R.C.length h.cc) (w' := _) (some 17) rfl rfl (by rfl) (by go_simp; (try with_reducible rfl)) hS (fun hS => ?_); clear cc; (try simp only [Act.put, List.setIfInBounds_toArray, List.set_cons_zero, List.set_cons_succ]))
      refine walk3_one ?_
      (refine runN_appS 18 (.const (.slice none 0 0)) (.tmp 17) _ rfl rfl rfl (by rfl) 101 Try.underlying68 (.agg #[.string ByteArray.empty, .string ByteArray.empty, .int .i64 0]) 3 40 infoRC rfl (by decide) x3.heap.size _ _ rfl (OwnS.nil _ _ _ _) h.ca R.C.length h.cc (R.C.map rcl) rfl (HCH.out _ hS) (one_rcl _) R.C.length (R.C.map rcl) (by simp) (by simp) (by simp only [maxLen]; omega) (by omega) hS.size ?_; intro a9 c9 w9 how9 hg9 hp9; have t9 := (Touch.refl _ (fun _ => False)).grown hg9 (fun k hk _ => by cases hk); have hS := hS.trans t9 (fun k _ h2 => h2.elim); refine ⟨hS, fun _ => ?_⟩; have HHD := Lib.hid (t9.keeps HHD.out (fun h => h)); have HOT := Lib.hid (HOT.out.still t9); have HO9 := Lib.hid how9; (try have HNW := Lib.hid (HNW.out.still t9)); clear how9 hg9 hp9 t9; (try simp only [Act.put, List.setIfInBounds_toArray, List.set_cons_zero, List.set_cons_succ]))
      refine walk3_one ?_
      (refine runN_appS 21 (.tmp 18) (.tmp 20) _ rfl rfl rfl (by rfl) 101 Try.underlying68 (.agg #[.string ByteArray.empty, .string ByteArray.empty, .int .i64 0]) 3 40 infoRC rfl (by decide) x3.heap.size _ _ rfl HO9.out _ 1 1 _ rfl HNW.out (one_rcl [RC.mk cf ct cx]) (R.C.length + 1) ((R.C ++ [RC.mk cf ct cx]).map rcl) (by rw [List.map_append]; rfl) (by rw [List.length_map]) (by simp only [maxLen]; omega) (by omega) hS.size ?_; intro a8 c8 w8 how8 hg8 hp8; have t8 := (Touch.refl _ (fun k => x3.heap.size ≤ k)).grown hg8 (fun k hk _ => (HO9.out.own.lt k hk).1); have hS := hS.trans t8 (fun k h1 h2 => by have h2 : x3.heap.size ≤ k := h2; omega); refine ⟨hS, fun _ => ?_⟩; have HHD := Lib.hid (t8.keeps HHD.out (fun h2 => by have h2 : x3.heap.size ≤ m := h2; have := HDL3.out; omega)); have HOT := Lib.hid (HOT.out.touch t8 (fun x hx h2 => by have h2 : x3.heap.size ≤ x := h2; have := HOA.out x hx; omega)); have HO8 := Lib.hid how8; clear how8 hg8 hp8 t8 HNW; (try simp only [Act.put, List.setIfInBounds_toArray, List.set_cons_zero, List.set_cons_succ]))
      refine walk3_take ?_
      (refine takeN_take (v := ?_) (some 22) rfl rfl (fun _ _ _ h => h) (by rfl) ?_ ?_; rotate_left; (focus (intro w' hw'; go_simp; (try with_reducible rfl))); (try simp only [Act.put, List.setIfInBounds_toArray, List.set_cons_zero, List.set_cons_succ]))
      refine walk3_take ?_
      (refine takeN_take (v := ?_) (some 23) rfl rfl (fun _ _ _ h => h) (by rfl) ?_ ?_; rotate_left; (focus (intro w' hw'; go_simp; (try with_reducible rfl))); (try simp only [Act.put, List.setIfInBounds_toArray, List.set_cons_zero, List.set_cons_succ]))
      refine walk3_one ?_
      (have cc := cell_of_cells HHD.out 3; have ff := free_of_cells HHD.out 3; refine runN_skip0 none rfl rfl (by rfl) (w' := World.setCell w8 ⟨m, 3, none⟩ (.slice a8 (R.C.length + 1) c8)) (by go_simp; (try with_reducible rfl)) ?_ ?_; (exact hS.setCell _ _ (fun _ => rfl)); clear cc ff; intro hS; have t6 := (Touch.refl w8 (fun k => k = m)).setCell ⟨m, 3, none⟩ (.slice a8 (R.C.length + 1) c8) (fun _ => rfl); have HHD := Lib.hid (heap_setCell_same _ m 3 _ _ (.slice a8 (R.C.length + 1) c8) HHD.out); have HOT := Lib.hid (HOT.out.touch t6 (fun x hx e => by have e : x = m := e; have := (HOT.out.own.lt x hx).1; have := HDL.out; omega)); have HO8 := Lib.hid (HO8.out.touch t6 (fun x hx e => by have e : x = m := e; have := (HO8.out.own.lt x hx).1; have := HDL3.out; omega)); clear t6; (try simp only [Act.put, List.setIfInBounds_toArray, List.set_cons_zero, List.set_cons_succ]))
      refine walk3_fin ?_
      go_wp2_with fail
      go_end0
      exact ⟨rfl, HFIN.out _ _ _ hS HHD.out HOT.out HO8.out⟩
end Go.Proofs.Ytmokcfmlolohaaa

end
