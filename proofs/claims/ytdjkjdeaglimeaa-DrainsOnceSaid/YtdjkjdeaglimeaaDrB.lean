/- Backends that drain: the set in memory, its short words. -/
import Derived.Test.YtdjkjdeaglimeaaDueTwo
import Derived.Test.YtdjkjdeaglimeaaIntMap
import Derived.Test.YtdjkjdeaglimeaaCalmB
import Derived.Test.YtdjkjdeaglimeaaBits
import Derived.Carry
set_option linter.unusedVariables false
set_option linter.unusedSimpArgs false
namespace Go.Proofs.Ytdjkjdeaglimeaa
open Go.RowKit

/-- The key of a number. -/
def nK (i : Nat) : ByteArray := strB [i / 256, i % 256]
theorem nK_inj {i j : Nat} (hi : i < 65536) (hj : j < 65536) (h : nK i = nK j) : i = j := by
  have := strB_inj [i / 256, i % 256] [j / 256, j % 256] (by simp; omega) (by simp; omega) h
  simp at this; omega
theorem nK_size (i : Nat) : (nK i).size ≤ 281474976710656 := by
  have : (nK i).size = 2 := rfl
  rw [this]; decide
def inN (b : Int) : Prop := 0 ≤ b ∧ b ≤ 65535
instance (b : Int) : Decidable (inN b) := inferInstanceAs (Decidable (_ ∧ _))
def qd (d : DR) : QR := ⟨nK d.b.toNat, d.u⟩
theorem perm_map {α β : Type} (f : α → β) : ∀ {L : List β} {M : List α}, L.Perm (M.map f) → ∃ M1 : List α, M1.Perm M ∧ L = M1.map f
  | [], M, h => ⟨[], by have := h.length_eq; simp at this; rw [List.eq_nil_of_length_eq_zero this.symm], rfl⟩
  | x :: L, M, h => by
    obtain ⟨d, hd, e⟩ := List.mem_map.1 (h.mem_iff.1 List.mem_cons_self)
    obtain ⟨s, t, rfl⟩ := List.append_of_mem hd
    have h2 : (x :: L).Perm (f d :: (s ++ t).map f) := h.trans (List.perm_middle.map f)
    rw [e] at h2
    obtain ⟨M1, p1, e1⟩ := perm_map f (h2.cons_inv)
    exact ⟨d :: M1, (p1.cons d).trans List.perm_middle.symm, by rw [List.map_cons, e1, e]⟩
theorem has_qd {M : List DR} (ok : ∀ d ∈ M, inN d.b) {b : Int} (hb : inN b) : hasQ (M.map qd) (nK b.toNat) = hasD M b := by
  rw [Bool.eq_iff_iff, has_iff, hasD_iff, List.map_map, List.mem_map, List.mem_map]
  constructor
  · rintro ⟨d, hd, e⟩
    have h1 := ok d hd
    have := nK_inj (by have := h1.1; have := h1.2; omega) (by have := hb.1; have := hb.2; omega) e
    exact ⟨d, hd, by have := h1.1; have := hb.1; omega⟩
  · rintro ⟨d, hd, e⟩
    exact ⟨d, hd, by simp only [Function.comp, qd, e]⟩
theorem del_qd {M : List DR} (ok : ∀ d ∈ M, inN d.b) {b : Int} (hb : inN b) : delQ (M.map qd) (nK b.toNat) = (delD M b).map qd := by
  unfold delQ delD
  rw [List.filter_map]
  congr 1
  apply List.filter_congr
  intro d hd
  have h1 := ok d hd
  by_cases e : d.b = b
  · simp [e, qd]
  · have : ¬ nK d.b.toNat = nK b.toNat := fun h => e (by
      have := nK_inj (by have := h1.1; have := h1.2; omega) (by have := hb.1; have := hb.2; omega) h
      have := h1.1; have := hb.1; omega)
    simp [e, qd, this]
/-- What Put tells. -/
def setDE (M : List DR) (b u : Int) : Int :=
  if ¬ inN b then 1 else if u < 0 ∨ 1099511627776 < u then 1 else if hasD M b then 0 else if 1024 ≤ M.length then 9 else 0
theorem setE_qd {M : List DR} (ok : ∀ d ∈ M, inN d.b) {b : Int} (hb : inN b) (u : Int) : setE (M.map qd) (nK b.toNat) u = setDE M b u := by
  unfold setE setDE
  rw [has_qd ok hb, List.length_map, if_neg (show ¬ ¬ inN b from fun h => h hb)]
theorem set_qd {M : List DR} (ok : ∀ d ∈ M, inN d.b) {b : Int} (hb : inN b) {u : Int} (he : setDE M b u = 0) : ∃ M1 : List DR, M1.Perm (⟨b, u⟩ :: delD M b) ∧ setQ (M.map qd) (nK b.toNat) u = M1.map qd := by
  apply perm_map
  unfold setQ
  rw [if_pos (by rw [setE_qd ok hb]; exact he), del_qd ok hb]
  exact ins_perm _ _
/-- Where a set lies. -/
structure DH where
  mb : Nat
  bq : Nat
  hq : QH
def footD (s : Nat) (h : DH) (k : Nat) : Prop := k = s ∨ k = h.mb ∨ footQ h.bq h.hq k
/-- The set in block s has M, in the order in which it is due. -/
structure DS (w : World) (s : Nat) (h : DH) (M : List DR) : Prop where
  head : w.heap[s]? = some (.cells #[.map (some h.mb), .pointer (some ⟨h.bq, 0, none⟩)] 95 (0, 0))
  q : QL w h.bq h.hq (M.map qd)
  map : OwnZ w 3 2 h.mb M
  n1 : s ≠ h.mb
  n2 : ¬ footQ h.bq h.hq s
  n3 : ¬ footQ h.bq h.hq h.mb
  ok : ∀ d ∈ M, inN d.b
def DStep (w w' : World) (s : Nat) (h : DH) (M' : List DR) : Prop :=
  ∃ h' M1, M1.Perm M' ∧ DS w' s h' M1 ∧ Touch w w' (footD s h) ∧ ∀ k, footD s h' k → footD s h k ∨ w.heap.size ≤ k
section
variable {w w' : World} {s : Nat} {h : DH} {M : List DR}
theorem DS.touch {S : Nat → Prop} (d : DS w s h M) (t : Touch w w' S) (hn : ∀ k, footD s h k → ¬ S k) : DS w' s h M :=
  ⟨t.keeps d.head (hn s (.inl rfl)), d.q.touch t (fun k hk => hn k (.inr (.inr hk))), d.map.touch t (hn _ (.inr (.inl rfl))), d.n1, d.n2, d.n3, d.ok⟩
theorem DS.still (d : DS w s h M) (t : Touch w w' (fun _ => False)) : DS w' s h M := d.touch t (fun _ _ h => h)
theorem DS.footlt (d : DS w s h M) : ∀ k, footD s h k → k < w.heap.size := by
  rintro k (rfl | rfl | hk)
  · exact heap_lt d.head
  · exact d.map.lt
  · exact d.q.footlt k hk
theorem DS.len (d : DS w s h M) : M.length ≤ 1024 := by have := d.q.len; simpa using this
theorem DS.nd (d : DS w s h M) : (M.map DR.b).Nodup := d.map.nd
theorem DS.tm (d : DS w s h M) : ∀ x ∈ M, 0 ≤ x.u ∧ x.u ≤ 1099511627776 := fun x hx => (d.q.ok (qd x) (List.mem_map.2 ⟨x, hx, rfl⟩)).2
theorem DS.cells (d : DS w s h M) : w.cell? ⟨s, 0, none⟩ = some (.map (some h.mb)) ∧ w.cell? ⟨s, 1, none⟩ = some (.pointer (some ⟨h.bq, 0, none⟩)) := ⟨cell_of_cells d.head 0, cell_of_cells d.head 1⟩
theorem DStep.refl (d : DS w s h M) : DStep w w s h M := ⟨h, M, .refl _, d, Touch.refl _ _, fun _ hk => .inl hk⟩
end
theorem zero64 (w : World) : (zeroValue 2).run Try.prog w = .ok (.int .i64 0) w := by kernel_rfl
theorem mapIT : Try.prog.underlying 74 = some (.map 3 2) := Try.underlying74
theorem two_strD (w : World) (p q : Nat) (hp : p < 256) (hq : q < 256) :
    Sem.run Try.prog (convert 48 9 (.slice (some ⟨w.heap.size, 0, none⟩) 2 2)) (w.alloc (.cells #[.int .u8 (p : Int), .int .u8 (q : Int)] 5)) = .ok (.string (strB [p, q])) (w.alloc (.cells #[.int .u8 (p : Int), .int .u8 (q : Int)] 5)) := by
  refine run_string_of (P := Try.prog) ?_ 48 9 5 Try.underlying48 Try.underlying5 Try.underlying9
  have hc := heap_alloc_new w (.cells #[.int .u8 (p : Int), .int .u8 (q : Int)] 5)
  refine ⟨rfl, Nat.le_refl _, by decide, by decide, fun x hx => ?_, .inr ⟨_, 0, rfl, fun j hj => ?_⟩⟩
  · simp only [List.mem_cons, List.not_mem_nil, or_false] at hx
    rcases hx with rfl | rfl <;> omega
  · have hj' : j < 2 := hj
    rcases (by omega : j = 0 ∨ j = 1) with rfl | rfl
    · exact cell_of_cells hc 0
    · exact cell_of_cells hc 1
set_option maxRecDepth 20000 in
set_option maxHeartbeats 4000000 in
theorem dkey_any (w : World) (b : Int) (hb : inN b) :
    Calls Try.prog 46 #[.int .i64 b] w fun e w' => e = .returned (.string (nK b.toNat)) ∧ Touch w w' (fun _ => False) := by
  obtain ⟨k, rfl⟩ : ∃ k : Nat, b = k := ⟨b.toNat, by have := hb.1; omega⟩
  have hk : k < 65536 := by have := hb.2; omega
  clear hb
  have hs0 := two_strD w (k / 256) (k % 256) (by omega) (by omega)
  have hkz : strB [k / 256, k % 256] = nK (k : Int).toNat := rfl
  have e1 : (k : Int) / 256 = ((k / 256 : Nat) : Int) := by omega
  have e2 : (k : Int) % 256 = ((k % 256 : Nat) : Int) := by omega
  rw [hkz, ← e1, ← e2] at hs0
  obtain ⟨WS, hWS⟩ : ∃ W, w.alloc (.cells #[.int .u8 ((k : Int) / 256), .int .u8 ((k : Int) % 256)] 5) = W := ⟨_, rfl⟩
  have tS : Touch w WS (fun _ => False) := hWS ▸ (Touch.refl w _).alloc _
  rw [hWS] at hs0
  have HT := Lib.hid tS
  clear tS hkz e1 e2
  obtain ⟨K, hK⟩ : ∃ K, nK (k : Int).toNat = K := ⟨_, rfl⟩
  rw [hK] at hs0 ⊢
  clear hK
  go_enter Try.func46, Try.ntmps46
  go_wp2_with fail
  go_ret
  exact ⟨rfl, HT.out⟩
set_option maxRecDepth 20000 in
set_option maxHeartbeats 4000000 in
theorem dnum_any (w : World) (b : Int) (hb : inN b) :
    Calls Try.prog 47 #[.string (nK b.toNat)] w fun e w' => e = .returned (.int .i64 b) ∧ Touch w w' (fun _ => False) := by
  obtain ⟨k, rfl⟩ : ∃ k : Nat, b = k := ⟨b.toNat, by have := hb.1; omega⟩
  have hk : k < 65536 := by have := hb.2; omega
  clear hb
  obtain ⟨K, hK⟩ : ∃ K, nK (k : Int).toNat = K := ⟨_, rfl⟩
  have k0 : K.size = 2 := by rw [← hK]; rfl
  have k1 : (K[0]'(by omega)).toNat = k / 256 := by
    subst hK
    show (UInt8.ofNat ((k : Int).toNat / 256)).toNat = k / 256
    rw [UInt8.toNat_ofNat']; simp; omega
  have k2 : (K[1]'(by omega)).toNat = k % 256 := by
    subst hK
    show (UInt8.ofNat ((k : Int).toNat % 256)).toNat = k % 256
    rw [UInt8.toNat_ofNat']; simp
  rw [hK]
  clear hK
  go_enter Try.func47, Try.ntmps47
  go_wp2_with fail
  go_quiet (fail)
  all_goals (go_wp2_with fail)
  all_goals go_ret
  refine ⟨?_, (Touch.refl w _).drewN _⟩
  have e : bits BinOp.or IntKind.i64 ((k : Int) / 256 * 256) ((k : Int) % 256) = k := by
    rw [or_i64 _ _ 8 (by omega) (by omega) (by omega) (by omega) (by omega) (by omega)]; omega
  show Ending.returned (.int .i64 (bits BinOp.or IntKind.i64 ((k : Int) / 256 * 256) ((k : Int) % 256))) = _
  rw [e]
set_option maxRecDepth 20000 in
set_option maxHeartbeats 4000000 in
theorem dnew_any (w : World) :
    Calls Try.prog 26 #[] w fun e w' => ∃ s h, e = .returned (.pointer (some ⟨s, 0, none⟩)) ∧ DS w' s h [] ∧ Touch w w' (fun _ => False) ∧ ∀ k, footD s h k → w.heap.size ≤ k := by
  obtain ⟨W1, hW1⟩ : ∃ W, w.alloc (.map #[] 0) = W := ⟨_, rfl⟩
  have t1 : Touch w W1 (fun _ => False) := hW1 ▸ (Touch.refl w _).alloc _
  have hmo : OwnZ W1 3 2 w.heap.size [] := hW1 ▸ OwnZ.made w _ _
  have hs1 : W1.heap.size = w.heap.size + 1 := by rw [← hW1]; simp
  have hmk := run_makeMap (P := Try.prog) 74 w
  rw [hW1] at hmk
  have HT1 := Lib.hid t1
  have HMO := Lib.hid hmo
  clear t1 hmo
  go_enter Try.func26, Try.ntmps26
  go_wp2_with fail
  refine (qnew_any W1).mono ?_
  rintro e w2 ⟨rfl, q2, t2, f2⟩
  have hsz := t2.size
  have hlt := q2.footlt _ (.inl rfl)
  obtain ⟨W3, hW3⟩ : ∃ W, w2.alloc (.cells #[.map (some w.heap.size), .pointer (some ⟨W1.heap.size, 0, none⟩)] 95) = W := ⟨_, rfl⟩
  have t3 : Touch w2 W3 (fun _ => False) := hW3 ▸ (Touch.refl w2 _).alloc _
  have h3 : W3.heap[w2.heap.size]? = some (.cells #[.map (some w.heap.size), .pointer (some ⟨W1.heap.size, 0, none⟩)] 95 (0, 0)) := hW3 ▸ heap_alloc_new ..
  have HDS : RowKit.Hid (DS W3 w2.heap.size ⟨w.heap.size, W1.heap.size, ⟨none, 0, none⟩⟩ [] ∧ Touch w W3 (fun _ => False) ∧ ∀ k, footD w2.heap.size ⟨w.heap.size, W1.heap.size, ⟨none, 0, none⟩⟩ k → w.heap.size ≤ k) := Lib.hid (by
    refine ⟨⟨h3, q2.still t3, HMO.out.still (t2.trans t3 (fun _ _ h => h)), by dsimp only; omega, fun hf => ?_, fun hf => ?_, by simp⟩, (HT1.out.trans t2 (fun _ _ h => h)).trans t3 (fun _ _ h => h), ?_⟩
    · have := q2.footlt _ hf; omega
    · have := f2 _ hf; dsimp only at this; omega
    · rintro k (rfl | rfl | hf)
      · omega
      · exact Nat.le_refl _
      · have := f2 _ hf; omega)
  clear q2 t2 f2 t3 h3 hmk hsz hlt hs1
  go_wp2_with fail
  go_ret
  exact ⟨_, _, rfl, HDS.out⟩
set_option maxRecDepth 20000 in
set_option maxHeartbeats 4000000 in
theorem duntil_any (w : World) (s : Nat) (h : DH) (M : List DR) (d : DS w s h M) (b : Int) (hb : i64D b) :
    Calls Try.prog 33 #[.pointer (some ⟨s, 0, none⟩), .int .i64 b] w fun e w' => e = .returned (.tuple #[.int .i64 (timeD M b), .bool (hasD M b)]) ∧ w = w' := by
  obtain ⟨c0, c1⟩ := d.cells
  have hrun := d.map.ok Try.underlying3 Try.underlying2 mapIT (zero64 w) hb
  go_enter Try.func33, Try.ntmps33
  go_wp2_with fail
  go_ret2
  exact ⟨rfl, rfl⟩
set_option maxRecDepth 20000 in
set_option maxHeartbeats 4000000 in
theorem dis_any (w : World) (s : Nat) (h : DH) (M : List DR) (d : DS w s h M) (b : Int) (hb : i64D b) :
    Calls Try.prog 35 #[.pointer (some ⟨s, 0, none⟩), .int .i64 b] w fun e w' => e = .returned (.bool (hasD M b)) ∧ w = w' := by
  have HU := Lib.hid (duntil_any w s h M d b hb)
  clear d
  go_enter Try.func35, Try.ntmps35
  go_wp2_with fail
  refine HU.out.mono ?_
  rintro e w' ⟨rfl, rfl⟩
  go_wp2_with fail
  go_ret
  exact ⟨rfl, rfl⟩
set_option maxRecDepth 20000 in
set_option maxHeartbeats 4000000 in
theorem dlen_any (w : World) (s : Nat) (h : DH) (M : List DR) (d : DS w s h M) :
    Calls Try.prog 38 #[.pointer (some ⟨s, 0, none⟩)] w fun e w' => e = .returned (.int .i64 M.length) ∧ w = w' := by
  obtain ⟨c0, c1⟩ := d.cells
  have hrun := d.map.len mapIT 3
  go_enter Try.func38, Try.ntmps38
  go_wp2_with fail
  go_ret
  exact ⟨rfl, rfl⟩
theorem enter_dkey (a : Value) (w : World) : (callFunc 46 #[a]).run Try.prog w = .ok (.enter 46 #[a]) w := by kernel_rfl
theorem enter_dnum (a : Value) (w : World) : (callFunc 47 #[a]).run Try.prog w = .ok (.enter 47 #[a]) w := by kernel_rfl
theorem enter_qsetD (a b c : Value) (w : World) : (callFunc 13 #[a, b, c]).run Try.prog w = .ok (.enter 13 #[a, b, c]) w := by kernel_rfl
theorem enter_qdropD (a b : Value) (w : World) : (callFunc 15 #[a, b]).run Try.prog w = .ok (.enter 15 #[a, b]) w := by kernel_rfl
/-- Between the queue's change and the map's. -/
theorem DS.mid {w w1 w2 : World} {s : Nat} {h : DH} {M : List DR} (d : DS w s h M) (t : Touch w w1 (fun _ => False)) (t2 : Touch w1 w2 (footQ h.bq h.hq)) :
    w2.heap[s]? = some (.cells #[.map (some h.mb), .pointer (some ⟨h.bq, 0, none⟩)] 95 (0, 0)) ∧ OwnZ w2 3 2 h.mb M :=
  ⟨t2.keeps (t.keeps d.head (fun h => h)) d.n2, (d.map.still t).touch t2 d.n3⟩
theorem DS.step {w w1 w2 w3 : World} {s : Nat} {h : DH} {M M1 M' : List DR} (d : DS w s h M) (t : Touch w w1 (fun _ => False)) (q : QLStep w1 w2 h.bq h.hq (M1.map qd)) (hp : M1.Perm M')
    (m : OwnZ w3 3 2 h.mb M') (t3 : Touch w2 w3 (fun k => k = h.mb)) (ok : ∀ d ∈ M', inN d.b) : DStep w w3 s h M' := by
  obtain ⟨hq', q2, t2, f2⟩ := q
  have hs := heap_lt d.head
  have hm := d.map.lt
  have hz := t.size
  have hz2 := t2.size
  have n2' : ¬ footQ h.bq hq' s := fun hf => by
    rcases f2 _ hf with h1 | h1
    · exact d.n2 h1
    · omega
  have n3' : ¬ footQ h.bq hq' h.mb := fun hf => by
    rcases f2 _ hf with h1 | h1
    · exact d.n3 h1
    · omega
  refine ⟨⟨h.mb, h.bq, hq'⟩, M1, hp, ⟨t3.keeps (d.mid t t2).1 d.n1, q2.touch t3 (fun k hk e => n3' (e ▸ hk)), m.perm hp.symm, d.n1, n2', n3', fun x hx => ok x (hp.mem_iff.1 hx)⟩, ?_, ?_⟩
  · refine ((t.mono (T := footD s h) (fun _ _ h => h.elim)).trans t2 (fun k _ hk => .inr (.inr hk))).trans t3 (fun k _ hk => .inr (.inl hk))
  · rintro k (rfl | rfl | hk)
    · exact .inl (.inl rfl)
    · exact .inl (.inr (.inl rfl))
    · rcases f2 k hk with h1 | h1
      · exact .inl (.inr (.inr h1))
      · exact .inr (by omega)
def putD (M : List DR) (b u : Int) : List DR := if setDE M b u = 0 then ⟨b, u⟩ :: delD M b else M
set_option maxRecDepth 20000 in
set_option maxHeartbeats 4000000 in
theorem dput_any (w : World) (s : Nat) (h : DH) (M : List DR) (d : DS w s h M) (b u : Int) :
    Calls Try.prog 27 #[.pointer (some ⟨s, 0, none⟩), .int .i64 b, .int .i64 u] w fun e w' => e = .returned (.int .i64 (setDE M b u)) ∧ DStep w w' s h (putD M b u) := by
  by_cases hb : inN b
  case neg =>
    have e1 : setDE M b u = 1 := by unfold setDE; rw [if_pos hb]
    have e2 : putD M b u = M := by unfold putD; rw [e1, if_neg (by decide)]
    rw [e1, e2]
    have HR := Lib.hid (DStep.refl d)
    clear d e1 e2
    by_cases h0 : b < 0
    · clear hb
      go_enter Try.func27, Try.ntmps27
      go_wp2_with fail
      go_ret
      exact ⟨rfl, HR.out⟩
    · have h1 : 65535 < b := by
        rcases Int.lt_or_le 65535 b with h | h
        · exact h
        · exact absurd ⟨by omega, h⟩ hb
      clear hb
      go_enter Try.func27, Try.ntmps27
      go_wp2_with fail
      go_ret
      exact ⟨rfl, HR.out⟩
  case pos =>
    have hb0 : ¬ b < 0 := by have := hb.1; omega
    have hb1 : ¬ 65535 < b := by have := hb.2; omega
    obtain ⟨c0, c1⟩ := d.cells
    have HD := Lib.hid d
    have HB := Lib.hid hb
    have HCC : RowKit.Hid (∀ W, Touch w W (footQ h.bq h.hq) → W.cell? ⟨s, 1, none⟩ = some (.pointer (some ⟨h.bq, 0, none⟩))) := Lib.hid (fun W t => cell_of_cells (HD.out.mid (Touch.refl w _) t).1 1)
    have HKEY := Lib.hid (fun W => dkey_any W b hb)
    have HSET : RowKit.Hid (∀ W, QL W h.bq h.hq (M.map qd) → Calls Try.prog 13 #[.pointer (some ⟨h.bq, 0, none⟩), .string (nK b.toNat), .int .i64 u] W fun e w' => e = .returned (.int .i64 (setDE M b u)) ∧ QLStep W w' h.bq h.hq (setQ (M.map qd) (nK b.toNat) u)) := Lib.hid (fun W q => by
      have := qset_any W h.bq h.hq (M.map qd) q (nK b.toNat) (nK_size _) u
      rwa [setE_qd HD.out.ok HB.out] at this)
    obtain ⟨K, hK⟩ : ∃ K, nK b.toNat = K := ⟨_, rfl⟩
    rw [hK] at HKEY HSET
    have HKK := Lib.hid hK
    clear d hb hK
    by_cases he : setDE M b u = 0
    · have e2 : putD M b u = ⟨b, u⟩ :: delD M b := by unfold putD; rw [if_pos he]
      obtain ⟨M1, hp1, hq1⟩ := set_qd HD.out.ok HB.out he
      rw [HKK.out] at hq1
      rw [he, e2]
      rw [he, hq1] at HSET
      have HP1 := Lib.hid hp1
      have hu : i64D u := by
        have h1 : ¬ (u < 0 ∨ 1099511627776 < u) := fun h => by
          unfold setDE at he
          rw [if_neg (fun h => h HB.out), if_pos h] at he; cases he
        constructor <;> omega
      have HU := Lib.hid hu
      clear e2 he hp1 hq1 hu
      go_enter Try.func27, Try.ntmps27
      go_upto_region 5 with (fail)
      have hS := (Touch.refl w (footQ h.bq h.hq)).drew
      refine wp_region_sched (fun w' => Touch w w' (footQ h.bq h.hq)) [(0, true), (1, true), (2, true), (3, true), (4, true), (6, true), (5, false), (7, false), (8, true)] (by kernel_rfl) (by kernel_rfl) rfl (by kernel_rfl) hS ?_
      (refine walkS_take (v := ?_) (some 28) rfl rfl (fun _ _ _ h => h) (by rfl) ?_ ?_; rotate_left; (focus (intro w' hw'; have y0 := HCC.out w' hw'; go_simp; (try with_reducible rfl))); (try simp only [Act.put, List.setIfInBounds_toArray, List.set_cons_zero, List.set_cons_succ]))
      (refine walkS_take (v := ?_) (some 29) rfl rfl (fun _ _ _ h => h) (by rfl) ?_ ?_; rotate_left; (focus (intro w' hw'; have y0 := HCC.out w' hw'; go_simp; (try with_reducible rfl))); (try simp only [Act.put, List.setIfInBounds_toArray, List.set_cons_zero, List.set_cons_succ]))
      (refine walkS_take (v := ?_) (some 30) rfl rfl (fun _ _ _ h => h) (by rfl) ?_ ?_; rotate_left; (focus (intro w' hw'; have y0 := HCC.out w' hw'; go_simp; (try with_reducible rfl))); (try simp only [Act.put, List.setIfInBounds_toArray, List.set_cons_zero, List.set_cons_succ]))
      (refine walkS_take (v := ?_) (some 31) rfl rfl (fun _ _ _ h => h) (by rfl) ?_ ?_; rotate_left; (focus (intro w' hw'; have y0 := HCC.out w' hw'; go_simp; (try with_reducible rfl))); (try simp only [Act.put, List.setIfInBounds_toArray, List.set_cons_zero, List.set_cons_succ]))
      (refine walkS_take (v := ?_) (some 32) rfl rfl (fun _ _ _ h => h) (by rfl) ?_ ?_; rotate_left; (focus (intro w' hw'; have y0 := HCC.out w' hw'; go_simp; (try with_reducible rfl))); (try simp only [Act.put, List.setIfInBounds_toArray, List.set_cons_zero, List.set_cons_succ]))
      (refine walkS_take (v := ?_) (some 34) rfl rfl (fun _ _ _ h => h) (by rfl) ?_ ?_; rotate_left; (focus (intro w' hw'; have y0 := HCC.out w' hw'; go_simp; (try with_reducible rfl))); (try simp only [Act.put, List.setIfInBounds_toArray, List.set_cons_zero, List.set_cons_succ]))
      (refine walkS_call 33 _ _ _ _ (HKEY.out _) rfl rfl rfl (by rfl) rfl (enter_dkey _ _) ?_; rintro e w1 ⟨rfl, t1⟩; have HT1 := Lib.hid (((Touch.refl w (fun _ => False)).drew).trans t1 (fun _ _ h => h)); refine ⟨_, rfl, hS.trans t1 (fun _ _ h => h.elim), fun hS => ?_⟩; clear t1; (try simp only [Act.put, List.setIfInBounds_toArray, List.set_cons_zero, List.set_cons_succ]))
      (refine walkS_call 35 _ _ _ _ (HSET.out _ (HD.out.q.still HT1.out)) rfl rfl rfl (by rfl) rfl (enter_qsetD _ _ _ _) ?_; rintro e w2 ⟨rfl, s2⟩; have HS2 := Lib.hid s2; obtain ⟨_, _, t2, _⟩ := s2; have HMID := Lib.hid (HD.out.mid HT1.out t2); refine ⟨_, rfl, hS.trans t2 (fun _ _ h => h), fun hS => ?_⟩; clear t2; (try simp only [Act.put, List.setIfInBounds_toArray, List.set_cons_zero, List.set_cons_succ]))
      (refine walkS_take (v := ?_) (some 7) rfl rfl (fun _ _ _ h => h) (by rfl) ?_ ?_; rotate_left; (focus (intro w' hw'; have y0 := HCC.out w' hw'; go_simp; (try with_reducible rfl))); (try simp only [Act.put, List.setIfInBounds_toArray, List.set_cons_zero, List.set_cons_succ]))
      refine walkS_done ?_
      obtain ⟨wz, hz1, hz2, hz3⟩ := HMID.out.2.store Try.underlying3 Try.underlying2 mapIT (by have := HD.out.len; omega) ⟨b, u⟩ (by have := HB.out; unfold inN at this; constructor <;> dsimp only <;> omega) HU.out
      have hc0 : w2.cell? ⟨s, 0, none⟩ = some (.map (some h.mb)) := cell_of_cells HMID.out.1 0
      have HZ2 := Lib.hid hz2
      have HZ3 := Lib.hid hz3
      clear hz2 hz3
      go_wp2_with fail
      go_ret
      refine ⟨rfl, HD.out.step HT1.out HS2.out HP1.out HZ2.out HZ3.out (fun x hx => ?_)⟩
      rcases List.mem_cons.1 hx with rfl | hx
      · exact HB.out
      · exact HD.out.ok x (List.mem_filter.1 hx).1
    · have e2 : putD M b u = M := by unfold putD; rw [if_neg he]
      have e3 : setQ (M.map qd) K u = M.map qd := by
        unfold setQ
        rw [← HKK.out, setE_qd HD.out.ok HB.out, if_neg he]
      rw [e2]
      rw [e3] at HSET
      generalize setDE M b u = E at *
      clear e2 e3
      go_enter Try.func27, Try.ntmps27
      go_upto_region 5 with (fail)
      have hS := (Touch.refl w (footQ h.bq h.hq)).drew
      refine wp_region_sched (fun w' => Touch w w' (footQ h.bq h.hq)) [(0, true), (1, true), (2, true), (3, true), (4, true), (6, true), (5, false), (7, false), (8, true)] (by kernel_rfl) (by kernel_rfl) rfl (by kernel_rfl) hS ?_
      (refine walkS_take (v := ?_) (some 28) rfl rfl (fun _ _ _ h => h) (by rfl) ?_ ?_; rotate_left; (focus (intro w' hw'; have y0 := HCC.out w' hw'; go_simp; (try with_reducible rfl))); (try simp only [Act.put, List.setIfInBounds_toArray, List.set_cons_zero, List.set_cons_succ]))
      (refine walkS_take (v := ?_) (some 29) rfl rfl (fun _ _ _ h => h) (by rfl) ?_ ?_; rotate_left; (focus (intro w' hw'; have y0 := HCC.out w' hw'; go_simp; (try with_reducible rfl))); (try simp only [Act.put, List.setIfInBounds_toArray, List.set_cons_zero, List.set_cons_succ]))
      (refine walkS_take (v := ?_) (some 30) rfl rfl (fun _ _ _ h => h) (by rfl) ?_ ?_; rotate_left; (focus (intro w' hw'; have y0 := HCC.out w' hw'; go_simp; (try with_reducible rfl))); (try simp only [Act.put, List.setIfInBounds_toArray, List.set_cons_zero, List.set_cons_succ]))
      (refine walkS_take (v := ?_) (some 31) rfl rfl (fun _ _ _ h => h) (by rfl) ?_ ?_; rotate_left; (focus (intro w' hw'; have y0 := HCC.out w' hw'; go_simp; (try with_reducible rfl))); (try simp only [Act.put, List.setIfInBounds_toArray, List.set_cons_zero, List.set_cons_succ]))
      (refine walkS_take (v := ?_) (some 32) rfl rfl (fun _ _ _ h => h) (by rfl) ?_ ?_; rotate_left; (focus (intro w' hw'; have y0 := HCC.out w' hw'; go_simp; (try with_reducible rfl))); (try simp only [Act.put, List.setIfInBounds_toArray, List.set_cons_zero, List.set_cons_succ]))
      (refine walkS_take (v := ?_) (some 34) rfl rfl (fun _ _ _ h => h) (by rfl) ?_ ?_; rotate_left; (focus (intro w' hw'; have y0 := HCC.out w' hw'; go_simp; (try with_reducible rfl))); (try simp only [Act.put, List.setIfInBounds_toArray, List.set_cons_zero, List.set_cons_succ]))
      (refine walkS_call 33 _ _ _ _ (HKEY.out _) rfl rfl rfl (by rfl) rfl (enter_dkey _ _) ?_; rintro e w1 ⟨rfl, t1⟩; have HT1 := Lib.hid (((Touch.refl w (fun _ => False)).drew).trans t1 (fun _ _ h => h)); refine ⟨_, rfl, hS.trans t1 (fun _ _ h => h.elim), fun hS => ?_⟩; clear t1; (try simp only [Act.put, List.setIfInBounds_toArray, List.set_cons_zero, List.set_cons_succ]))
      (refine walkS_call 35 _ _ _ _ (HSET.out _ (HD.out.q.still HT1.out)) rfl rfl rfl (by rfl) rfl (enter_qsetD _ _ _ _) ?_; rintro e w2 ⟨rfl, s2⟩; have HS2 := Lib.hid s2; obtain ⟨_, _, t2, _⟩ := s2; have HMID := Lib.hid (HD.out.mid HT1.out t2); refine ⟨_, rfl, hS.trans t2 (fun _ _ h => h), fun hS => ?_⟩; clear t2; (try simp only [Act.put, List.setIfInBounds_toArray, List.set_cons_zero, List.set_cons_succ]))
      (refine walkS_take (v := ?_) (some 7) rfl rfl (fun _ _ _ h => h) (by rfl) ?_ ?_; rotate_left; (focus (intro w' hw'; have y0 := HCC.out w' hw'; go_simp; (try with_reducible rfl))); (try simp only [Act.put, List.setIfInBounds_toArray, List.set_cons_zero, List.set_cons_succ]))
      refine walkS_done ?_
      go_wp2_with fail
      go_ret
      exact ⟨rfl, HD.out.step HT1.out HS2.out (.refl _) HMID.out.2 (Touch.refl _ _) HD.out.ok⟩
set_option maxRecDepth 20000 in
set_option maxHeartbeats 4000000 in
theorem dclear_any (w : World) (s : Nat) (h : DH) (M : List DR) (d : DS w s h M) (b : Int) (hbI : i64D b) :
    Calls Try.prog 29 #[.pointer (some ⟨s, 0, none⟩), .int .i64 b] w fun e w' => e = .returned (.bool (hasD M b)) ∧ DStep w w' s h (delD M b) := by
  have HIS := Lib.hid (dis_any w s h M d b hbI)
  cases hh : hasD M b with
  | false =>
    have e2 : delD M b = M := delD_none (fun hm => by rw [(hasD_iff M b).2 hm] at hh; cases hh)
    rw [e2]
    rw [hh] at HIS
    have HR := Lib.hid (DStep.refl d)
    clear d e2 hh
    go_enter Try.func29, Try.ntmps29
    go_wp2_with fail
    refine HIS.out.mono ?_
    rintro e w' ⟨rfl, rfl⟩
    go_wp2_with fail
    go_ret
    exact ⟨rfl, HR.out⟩
  | true =>
    rw [hh] at HIS
    have hb : inN b := by
      obtain ⟨x, hx, rfl⟩ := List.mem_map.1 ((hasD_iff M b).1 hh)
      exact d.ok x hx
    obtain ⟨c0, c1⟩ := d.cells
    obtain ⟨wz, hz1, hz2, hz3⟩ := d.map.drop Try.underlying3 mapIT b hbI 0
    have hs := d.n1
    have HZC : RowKit.Hid (wz.cell? ⟨s, 1, none⟩ = some (.pointer (some ⟨h.bq, 0, none⟩)) ∧ wz.heap[s]? = some (.cells #[.map (some h.mb), .pointer (some ⟨h.bq, 0, none⟩)] 95 (0, 0)) ∧ QL wz h.bq h.hq (M.map qd) ∧ OwnZ wz 3 2 h.mb (delD M b) ∧ Touch w wz (fun k => k = h.mb)) :=
      Lib.hid ⟨cell_of_cells (hz3.keeps d.head hs) 1, hz3.keeps d.head hs, d.q.touch hz3 (fun k hk e => d.n3 (e ▸ hk)), hz2, hz3⟩
    have HD := Lib.hid d
    have HB := Lib.hid hb
    have HCC : RowKit.Hid (∀ W, Touch wz W (footQ h.bq h.hq) → W.cell? ⟨s, 1, none⟩ = some (.pointer (some ⟨h.bq, 0, none⟩))) := Lib.hid (fun W t => cell_of_cells (t.keeps HZC.out.2.1 HD.out.n2) 1)
    have HKEY := Lib.hid (fun W => dkey_any W b hb)
    have HDROP : RowKit.Hid (∀ W, QL W h.bq h.hq (M.map qd) → Calls Try.prog 15 #[.pointer (some ⟨h.bq, 0, none⟩), .string (nK b.toNat)] W fun e w' => e = .returned (.bool true) ∧ QLStep W w' h.bq h.hq ((delD M b).map qd)) := Lib.hid (fun W q => by
      have := qdrop_any W h.bq h.hq (M.map qd) q (nK b.toNat) (nK_size _)
      rwa [has_qd HD.out.ok HB.out, hh, del_qd HD.out.ok HB.out] at this)
    obtain ⟨K, hK⟩ : ∃ K, nK b.toNat = K := ⟨_, rfl⟩
    rw [hK] at HKEY HDROP
    clear d hb hK hz2 hz3 hs c1
    go_enter Try.func29, Try.ntmps29
    go_wp2_with fail
    refine HIS.out.mono ?_
    rintro e w' ⟨rfl, rfl⟩
    go_upto_region 4 with (fail)
    clear hz1 c0
    have hS := (Touch.refl wz (footQ h.bq h.hq)).drew
    refine wp_region_sched (fun w' => Touch wz w' (footQ h.bq h.hq)) [(0, true), (1, true), (2, true), (3, true), (4, true), (5, false), (6, false), (7, true)] (by kernel_rfl) (by kernel_rfl) rfl (by kernel_rfl) hS ?_
    (refine walkS_take (v := ?_) (some 14) rfl rfl (fun _ _ _ h => h) (by rfl) ?_ ?_; rotate_left; (focus (intro w' hw'; have y0 := HCC.out w' hw'; go_simp; (try with_reducible rfl))); (try simp only [Act.put, List.setIfInBounds_toArray, List.set_cons_zero, List.set_cons_succ]))
    (refine walkS_take (v := ?_) (some 15) rfl rfl (fun _ _ _ h => h) (by rfl) ?_ ?_; rotate_left; (focus (intro w' hw'; have y0 := HCC.out w' hw'; go_simp; (try with_reducible rfl))); (try simp only [Act.put, List.setIfInBounds_toArray, List.set_cons_zero, List.set_cons_succ]))
    (refine walkS_take (v := ?_) (some 16) rfl rfl (fun _ _ _ h => h) (by rfl) ?_ ?_; rotate_left; (focus (intro w' hw'; have y0 := HCC.out w' hw'; go_simp; (try with_reducible rfl))); (try simp only [Act.put, List.setIfInBounds_toArray, List.set_cons_zero, List.set_cons_succ]))
    (refine walkS_take (v := ?_) (some 17) rfl rfl (fun _ _ _ h => h) (by rfl) ?_ ?_; rotate_left; (focus (intro w' hw'; have y0 := HCC.out w' hw'; go_simp; (try with_reducible rfl))); (try simp only [Act.put, List.setIfInBounds_toArray, List.set_cons_zero, List.set_cons_succ]))
    (refine walkS_take (v := ?_) (some 18) rfl rfl (fun _ _ _ h => h) (by rfl) ?_ ?_; rotate_left; (focus (intro w' hw'; have y0 := HCC.out w' hw'; go_simp; (try with_reducible rfl))); (try simp only [Act.put, List.setIfInBounds_toArray, List.set_cons_zero, List.set_cons_succ]))
    (refine walkS_call 19 _ _ _ _ (HKEY.out _) rfl rfl rfl (by rfl) rfl (enter_dkey _ _) ?_; rintro e w1 ⟨rfl, t1⟩; have HT1 := Lib.hid (((Touch.refl wz (fun _ => False)).drew).trans t1 (fun _ _ h => h)); refine ⟨_, rfl, hS.trans t1 (fun _ _ h => h.elim), fun hS => ?_⟩; clear t1; (try simp only [Act.put, List.setIfInBounds_toArray, List.set_cons_zero, List.set_cons_succ]))
    (refine walkS_call 20 _ _ _ _ (HDROP.out _ (HZC.out.2.2.1.still HT1.out)) rfl rfl rfl (by rfl) rfl (enter_qdropD _ _ _) ?_; rintro e w2 ⟨rfl, s2⟩; have HS2 := Lib.hid s2; obtain ⟨_, _, t2, _⟩ := s2; refine ⟨_, rfl, hS.trans t2 (fun _ _ h => h), fun hS => ?_⟩; clear t2; (try simp only [Act.put, List.setIfInBounds_toArray, List.set_cons_zero, List.set_cons_succ]))
    (refine walkS_take (v := ?_) (some 4) rfl rfl (fun _ _ _ h => h) (by rfl) ?_ ?_; rotate_left; (focus (intro w' hw'; have y0 := HCC.out w' hw'; go_simp; (try with_reducible rfl))); (try simp only [Act.put, List.setIfInBounds_toArray, List.set_cons_zero, List.set_cons_succ]))
    refine walkS_done ?_
    go_wp2_with fail
    go_ret
    refine ⟨rfl, ?_⟩
    obtain ⟨hq', q2, t2, f2⟩ := HS2.out
    have hs := heap_lt HD.out.head
    have hm := HD.out.map.lt
    have hz := HT1.out.size
    have hz0 := HZC.out.2.2.2.2.size
    have hz2 := t2.size
    have n2' : ¬ footQ h.bq hq' s := fun hf => by
      rcases f2 _ hf with h1 | h1
      · exact HD.out.n2 h1
      · omega
    have n3' : ¬ footQ h.bq hq' h.mb := fun hf => by
      rcases f2 _ hf with h1 | h1
      · exact HD.out.n3 h1
      · omega
    refine ⟨⟨h.mb, h.bq, hq'⟩, delD M b, .refl _, ⟨t2.keeps (HT1.out.keeps HZC.out.2.1 (fun h => h)) HD.out.n2, q2, (HZC.out.2.2.2.1.still HT1.out).touch t2 HD.out.n3, HD.out.n1, n2', n3', fun x hx => HD.out.ok x (List.mem_filter.1 hx).1⟩, ?_, ?_⟩
    · refine (((HZC.out.2.2.2.2).mono (T := footD s h) (fun k _ hk => .inr (.inl hk))).trans HT1.out (fun k _ hk => hk.elim)).trans t2 (fun k _ hk => .inr (.inr hk))
    · rintro k (rfl | rfl | hk)
      · exact .inl (.inl rfl)
      · exact .inl (.inr (.inl rfl))
      · rcases f2 k hk with h1 | h1
        · exact .inl (.inr (.inr h1))
        · exact .inr (by omega)
end Go.Proofs.Ytdjkjdeaglimeaa
