import Derived.Test.YtpjdcgjoepjmcaaGreatGHZ
import Derived.Test.YtpjdcgjoepjmcaaGreatTupLessZ
import Derived.Sort.Defs
import Derived.Sort.Walk11
import Derived.Deep.RegionWith
import Derived.Shelf.SlSortFunc.Xorshift
import Derived.Sort.Walk7
set_option linter.unusedVariables false
set_option linter.unusedSimpArgs false
section
namespace Go.Proofs.YtpjdcgjoepjmcaaGreat
open Go.RowKit
def setFrom : List Value → Nat → List Value → List Value
 | l, _, [] => l
 | l, o, v :: r => setFrom (l.set o v) (o + 1) r
theorem own_puts {base g n c k : Nat} {T : TypeId} : ∀ (vs : List Value) (o : Nat) {w : World} {L : List (List Value)} (h : OwnS w base T k (.slice (some ⟨g, 0, none⟩) n c) L) (i : Nat) (hi : i < L.length), o + vs.length ≤ k →
 OwnS (w.setCells g (i * k + o) vs) base T k (.slice (some ⟨g, 0, none⟩) n c) (L.set i (setFrom L[i] o vs))
 | [], o, w, L, h, i, hi, _ => by
   unfold setFrom
   rw [List.set_getElem_self]
   exact h
 | v :: r, o, w, L, h, i, hi, hk => by
   have hk' : o + 1 + r.length ≤ k := by simp at hk; omega
   have h1 := OwnS.stored h i hi o (by simp at hk; omega) v
   have hi2 : i < (L.set i (L[i].set o v)).length := by simpa using hi
   have h2 := own_puts r (o + 1) h1 i hi2 hk'
   rw [List.set_set, List.getElem_set_self] at h2
   exact h2
theorem own_putF {w : World} {base g n c : Nat} {T : TypeId} {L : List FlD} (h : OwnS w base T 8 (.slice (some ⟨g, 0, none⟩) n c) (L.map fcl)) (i : Nat) (hi : i < L.length) (x : FlD) :
 OwnS (w.setCells g (i * 8) (fcl x)) base T 8 (.slice (some ⟨g, 0, none⟩) n c) ((L.set i x).map fcl) := by
 have h1 := own_puts (fcl x) 0 h i (by simpa using hi) (by simp [fcl])
 rw [Nat.add_zero] at h1
 have e : setFrom ((L.map fcl)[i]'(by simpa using hi)) 0 (fcl x) = fcl x := by
  rw [List.getElem_map]
  rfl
 rw [e, ← List.map_set] at h1
 exact h1
instance : Inhabited FlD := ⟨noF⟩
def ltFl (x y : FlD) : Bool := lessT x.t y.t
structure SrtC (W0 : World) (base B c : Nat) (d : Array FlD) (W : World) : Prop where
 row : OwnS W base 83 8 (.slice (some ⟨B, 0, none⟩) d.size c) (d.toList.map fcl)
 t : Touch W0 W (fun k => k = B)
theorem SrtC.still {W0 W W' : World} {base B c : Nat} {d : Array FlD} (h : SrtC W0 base B c d W) (t : Touch W W' (fun _ => False)) : SrtC W0 base B c d W' :=
 ⟨h.row.still t, h.t.trans t (fun _ _ h => h.elim)⟩
def LessC (W0 : World) (base B c n : Nat) (g : Nat) (lb : Array Value) : Prop := ∀ W d, d.size = n → SrtC W0 base B c d W → ∀ i j : Nat, i < n → j < n →
 Calls Tryz.prog g (#[.int .i64 i, .int .i64 j] ++ lb) W fun e w' => e = .returned (.bool (ltFl d[i]! d[j]!)) ∧ Touch W w' (fun _ => False)
def SwapC (W0 : World) (base B c n : Nat) (sf : Nat) (sb : Array Value) : Prop := ∀ W d, d.size = n → SrtC W0 base B c d W → ∀ i j : Nat, i < n → j < n →
 ∃ w', (callFunc sf (#[.int .i64 i, .int .i64 j] ++ sb)).run Tryz.prog W = .ok (.value (.tuple #[])) w' ∧ SrtC W0 base B c (Go.Sort.swp d i j) w' ∧ (Go.Sort.swp d i j).size = n ∧ Touch W w' (fun k => k = B)
end Go.Proofs.YtpjdcgjoepjmcaaGreat
end
section
namespace Go.Proofs.YtpjdcgjoepjmcaaGreat
open Go.RowKit
set_option maxRecDepth 20000 in
set_option maxHeartbeats 4000000 in
theorem order2_any (W0 : World) (base B c n : Nat) (g : Nat) (lb : Array Value) (eg : ∀ args w, (callFunc g args).run Tryz.prog w = .ok (.enter g args) w) (hl : LessC W0 base B c n g lb) (sf : Nat) (sb : Array Value)
 (W : World) (d : Array FlD) (hd : d.size = n) (hr : SrtC W0 base B c d W) (a b s sw : Nat) (ha : a < n) (hb : b < n) (hs : s < 1000) (hn : n ≤ 4000000) (hsw : W.heap[sw]? = some (.cells #[.int .i64 s] 3 (0, 0))) (hne : sw ≠ B) (h0 : W0.heap.size ≤ sw) :
 Calls Tryz.prog 183 #[.agg #[.func (.func g) #[] lb, .func (.func sf) #[] sb], .int .i64 a, .int .i64 b, .pointer (some ⟨sw, 0, none⟩)] W fun e w' => e = .returned (.tuple #[.int .i64 (Go.Sort.order2 ltFl d a b s).1, .int .i64 (Go.Sort.order2 ltFl d a b s).2.1]) ∧ w'.heap[sw]? = some (.cells #[.int .i64 (Go.Sort.order2 ltFl d a b s).2.2] 3 (0, 0)) ∧ Touch W w' (fun k => k = sw) := by
 obtain ⟨W1, hW1⟩ : ∃ X, W.alloc (.cells #[.func (.func g) #[] lb, .func (.func sf) #[] sb] 193) = X := ⟨_, rfl⟩
 have t1 : Touch W W1 (fun _ => False) := hW1 ▸ (Touch.refl W _).alloc _
 have g1 : W1.heap[W.heap.size]? = some (.cells #[.func (.func g) #[] lb, .func (.func sf) #[] sb] 193 (0, 0)) := hW1 ▸ heap_alloc_new ..
 have c0 := cell_of_cells g1 0
 have HL := Lib.hid (hl W1 d hd (hr.still t1) b a hb ha)
 have HW1 := Lib.hid hW1
 have HT1 := Lib.hid t1
 have HSW := Lib.hid (t1.keeps hsw (fun h => h))
 clear hW1 t1 g1 hl hr hsw
 obtain ⟨m, hm⟩ : ∃ m, ltFl d[b]! d[a]! = m := ⟨_, rfl⟩
 unfold Go.Sort.order2
 rw [hm] at HL ⊢
 clear hm
 go_enter Tryz.func183, Tryz.ntmps183
 go_upto_region 1 with (fail)
 rw [HW1.out]
 cases m with
 | true =>
   go_wp2_with (go_at_fn g; (refine HL.out.mono ?_); rintro e w2 ⟨rfl, t2⟩; have H2 := Lib.hid (t2.keeps HSW.out (fun h => h)); have HT2 := Lib.hid (HT1.out.trans t2 (fun _ _ h => h)); clear t2; have cc := cell_of_cells H2.out 0; have ff := free_of_cells H2.out 0)
   have e1 : ((s + 1 : Nat) : Int) = (s : Int) + 1 := by omega
   go_ret2
   refine ⟨rfl, ?_, (HT2.out.mono (T := fun k => k = sw) (fun _ _ h => h.elim)).setCell _ _ (fun _ => rfl)⟩
   exact heap_setCell_same w2 sw 0 _ _ _ H2.out
 | false =>
   go_wp2_with (go_at_fn g; (refine HL.out.mono ?_); rintro e w2 ⟨rfl, t2⟩; have H2 := Lib.hid (t2.keeps HSW.out (fun h => h)); have HT2 := Lib.hid (HT1.out.trans t2 (fun _ _ h => h)); clear t2)
   go_ret2
   exact ⟨rfl, H2.out, HT2.out.mono (fun _ _ h => h.elim)⟩
end Go.Proofs.YtpjdcgjoepjmcaaGreat
end
section
namespace Go.Proofs.YtpjdcgjoepjmcaaGreat
open Go.RowKit
theorem SrtC.beside {W0 W W' : World} {base B c sw : Nat} {d : Array FlD} (h : SrtC W0 base B c d W) (t : Touch W W' (fun k => k = sw)) (hne : sw ≠ B) (h0 : W0.heap.size ≤ sw) : SrtC W0 base B c d W' :=
 ⟨h.row.touch t (fun x hx e => by simp only [Value.ownBlock, Option.map_some, Option.some.injEq] at hx; exact hne (e.symm.trans hx.symm)), h.t.trans t (fun k hk e => by have e : k = sw := e; omega)⟩
theorem order2_lt (d : Array FlD) (a b s n : Nat) (ha : a < n) (hb : b < n) : (Go.Sort.order2 ltFl d a b s).1 < n ∧ (Go.Sort.order2 ltFl d a b s).2.1 < n ∧ (Go.Sort.order2 ltFl d a b s).2.2 ≤ s + 1 := by
 unfold Go.Sort.order2
 split
 ·exact ⟨hb, ha, Nat.le_refl _⟩
 ·exact ⟨ha, hb, Nat.le_succ _⟩
set_option maxRecDepth 20000 in
set_option maxHeartbeats 4000000 in
theorem median_any (W0 : World) (base B c n : Nat) (g : Nat) (lb : Array Value) (eg : ∀ args w, (callFunc g args).run Tryz.prog w = .ok (.enter g args) w) (hl : LessC W0 base B c n g lb) (sf : Nat) (sb : Array Value)
 (W : World) (d : Array FlD) (hd : d.size = n) (hr : SrtC W0 base B c d W) (a b z s sw : Nat) (ha : a < n) (hb : b < n) (hz : z < n) (hs : s + 3 < 1000) (hn : n ≤ 4000000) (hsw : W.heap[sw]? = some (.cells #[.int .i64 s] 3 (0, 0))) (hne : sw ≠ B) (h0 : W0.heap.size ≤ sw) :
 Calls Tryz.prog 178 #[.agg #[.func (.func g) #[] lb, .func (.func sf) #[] sb], .int .i64 a, .int .i64 b, .int .i64 z, .pointer (some ⟨sw, 0, none⟩)] W fun e w' => e = .returned (.int .i64 (Go.Sort.median ltFl d a b z s).1) ∧ w'.heap[sw]? = some (.cells #[.int .i64 (Go.Sort.median ltFl d a b z s).2] 3 (0, 0)) ∧ Touch W w' (fun k => k = sw) := by
 obtain ⟨W1, hW1⟩ : ∃ X, W.alloc (.cells #[.func (.func g) #[] lb, .func (.func sf) #[] sb] 193) = X := ⟨_, rfl⟩
 have t1 : Touch W W1 (fun _ => False) := hW1 ▸ (Touch.refl W _).alloc _
 have g1 : W1.heap[W.heap.size]? = some (.cells #[.func (.func g) #[] lb, .func (.func sf) #[] sb] 193 (0, 0)) := hW1 ▸ heap_alloc_new ..
 have hlt := heap_lt hsw
 have HBX : RowKit.Hid (∀ X, Touch W1 X (fun k => k = sw) → X.cell? ⟨W.heap.size, 0, none⟩ = some (.func (.func g) #[] lb) ∧ X.cell? ⟨W.heap.size, 1, none⟩ = some (.func (.func sf) #[] sb)) := Lib.hid (fun X x => by
  have h1 := x.keeps g1 (fun e => by have e : W.heap.size = sw := e; omega)
  exact ⟨cell_of_cells h1 0, cell_of_cells h1 1⟩)
 have HO : RowKit.Hid (∀ X, Touch W1 X (fun k => k = sw) → ∀ a b s : Nat, a < n → b < n → s < 1000 → X.heap[sw]? = some (.cells #[.int .i64 s] 3 (0, 0)) → Calls Tryz.prog 183 #[.agg #[.func (.func g) #[] lb, .func (.func sf) #[] sb], .int .i64 a, .int .i64 b, .pointer (some ⟨sw, 0, none⟩)] X fun e w' => e = .returned (.tuple #[.int .i64 (Go.Sort.order2 ltFl d a b s).1, .int .i64 (Go.Sort.order2 ltFl d a b s).2.1]) ∧ w'.heap[sw]? = some (.cells #[.int .i64 (Go.Sort.order2 ltFl d a b s).2.2] 3 (0, 0)) ∧ Touch X w' (fun k => k = sw)) := Lib.hid (fun X x a b s ha hb hs hsw =>
  order2_any W0 base B c n g lb eg hl sf sb X d hd ((hr.still t1).beside x hne h0) a b s sw ha hb hs hn hsw hne h0)
 have HW1 := Lib.hid hW1
 have HT1 := Lib.hid t1
 have H1 := Lib.hid (HO.out W1 (Touch.refl _ _) a b s ha hb (by omega) (t1.keeps hsw (fun h => h)))
 have k1 := order2_lt d a b s n ha hb
 unfold Go.Sort.median
 obtain ⟨r1, hr1⟩ : ∃ r, Go.Sort.order2 ltFl d a b s = r := ⟨_, rfl⟩
 rw [hr1] at k1 H1 ⊢
 obtain ⟨p1, q1, s1⟩ := r1
 simp only at k1 H1 ⊢
 have k2 := order2_lt d q1 z s1 n k1.2.1 hz
 obtain ⟨r2, hr2⟩ : ∃ r, Go.Sort.order2 ltFl d q1 z s1 = r := ⟨_, rfl⟩
 rw [hr2] at k2 ⊢
 obtain ⟨p2, q2, s2⟩ := r2
 simp only at k2 ⊢
 obtain ⟨r3, hr3⟩ : ∃ r, Go.Sort.order2 ltFl d p1 p2 s2 = r := ⟨_, rfl⟩
 rw [hr3]
 obtain ⟨p3, q3, s3⟩ := r3
 simp only
 have HR := Lib.hid (And.intro hr2 hr3)
 obtain ⟨b0, b1⟩ := HBX.out W1 (Touch.refl _ _)
 clear hW1 t1 g1 hl hr hsw hr1 hr2 hr3
 go_enter Tryz.func178, Tryz.ntmps178
 go_upto_region 1 with (fail)
 rw [HW1.out]
 go_upto_region 2 with (go_at_call 183; (with_reducible refine H1.out.mono ?_); rintro e w2 ⟨rfl, hs2, t2⟩)
 have H2 := HO.out w2 t2 q1 z s1 k1.2.1 hz (by omega) hs2
 rw [HR.out.1] at H2
 have H2 := Lib.hid H2
 have HT2 := Lib.hid t2
 obtain ⟨b0, b1⟩ := HBX.out w2 t2
 clear hs2 t2
 go_upto_region 3 with (go_at_call 183; (with_reducible refine H2.out.mono ?_); rintro e w3 ⟨rfl, hs3, t3⟩)
 have t13 := HT2.out.trans t3 (fun _ _ h => h)
 have H3 := HO.out w3 t13 p1 p2 s2 k1.1 k2.1 (by omega) hs3
 rw [HR.out.2] at H3
 have H3 := Lib.hid H3
 have HT3 := Lib.hid t13
 obtain ⟨b0, b1⟩ := HBX.out w3 t13
 clear hs3 t3 t13
 go_wp2_with (go_at_call 183; (with_reducible refine H3.out.mono ?_); rintro e w4 ⟨rfl, hs4, t4⟩; have HS4 := Lib.hid hs4; have HT4 := Lib.hid (HT3.out.trans t4 (fun _ _ h => h)); clear hs4 t4)
 go_ret
 exact ⟨rfl, HS4.out, (HT1.out.mono (T := fun k => k = sw) (fun _ _ h => h.elim)).trans HT4.out (fun _ _ h => h)⟩
set_option maxRecDepth 20000 in
set_option maxHeartbeats 4000000 in
theorem medadj_any (W0 : World) (base B c n : Nat) (g : Nat) (lb : Array Value) (eg : ∀ args w, (callFunc g args).run Tryz.prog w = .ok (.enter g args) w) (hl : LessC W0 base B c n g lb) (sf : Nat) (sb : Array Value)
 (W : World) (d : Array FlD) (hd : d.size = n) (hr : SrtC W0 base B c d W) (a s sw : Nat) (ha1 : 1 ≤ a) (ha : a + 1 < n) (hs : s + 3 < 1000) (hn : n ≤ 4000000) (hsw : W.heap[sw]? = some (.cells #[.int .i64 s] 3 (0, 0))) (hne : sw ≠ B) (h0 : W0.heap.size ≤ sw) :
 Calls Tryz.prog 177 #[.agg #[.func (.func g) #[] lb, .func (.func sf) #[] sb], .int .i64 a, .pointer (some ⟨sw, 0, none⟩)] W fun e w' => e = .returned (.int .i64 (Go.Sort.medianAdjacent ltFl d a s).1) ∧ w'.heap[sw]? = some (.cells #[.int .i64 (Go.Sort.medianAdjacent ltFl d a s).2] 3 (0, 0)) ∧ Touch W w' (fun k => k = sw) := by
 obtain ⟨W1, hW1⟩ : ∃ X, W.alloc (.cells #[.func (.func g) #[] lb, .func (.func sf) #[] sb] 193) = X := ⟨_, rfl⟩
 have t1 : Touch W W1 (fun _ => False) := hW1 ▸ (Touch.refl W _).alloc _
 have g1 : W1.heap[W.heap.size]? = some (.cells #[.func (.func g) #[] lb, .func (.func sf) #[] sb] 193 (0, 0)) := hW1 ▸ heap_alloc_new ..
 have b0 := cell_of_cells g1 0
 have b1 := cell_of_cells g1 1
 have hm := median_any W0 base B c n g lb eg hl sf sb W1 d hd (hr.still t1) (a - 1) a (a + 1) s sw (by omega) (by omega) ha hs hn (t1.keeps hsw (fun h => h)) hne h0
 rw [show ((a - 1 : Nat) : Int) = (a : Int) - 1 by omega, show ((a + 1 : Nat) : Int) = (a : Int) + 1 by omega] at hm
 unfold Go.Sort.medianAdjacent
 generalize Go.Sort.median ltFl d (a - 1) a (a + 1) s = r at *
 have HM := Lib.hid hm
 have HW1 := Lib.hid hW1
 have HT1 := Lib.hid t1
 have w1 : 1 ≤ (a : Int) := by omega
 have w2 : (a : Int) < 4000000 := by omega
 clear hW1 t1 g1 hl hr hsw hm
 go_enter Tryz.func177, Tryz.ntmps177
 go_upto_region 1 with (fail)
 rw [HW1.out]
 go_wp2_with (go_at_call 178; (with_reducible refine HM.out.mono ?_); rintro e w4 ⟨rfl, hs4, t4⟩; have HS4 := Lib.hid hs4; have HT4 := Lib.hid t4; clear hs4 t4)
 go_ret
 exact ⟨rfl, HS4.out, (HT1.out.mono (T := fun k => k = sw) (fun _ _ h => h.elim)).trans HT4.out (fun _ _ h => h)⟩
end Go.Proofs.YtpjdcgjoepjmcaaGreat
end
section
namespace Go.Proofs.YtpjdcgjoepjmcaaGreat
open Go.RowKit
set_option maxRecDepth 20000 in
set_option maxHeartbeats 4000000 in
theorem reverse_any (W0 : World) (base B c n : Nat) (lf : Fn) (la lb : Array Value) (sf : Nat) (sb : Array Value) (hs : SwapC W0 base B c n sf sb)
 (W : World) (d : Array FlD) (hd : d.size = n) (hr : SrtC W0 base B c d W) (a b : Nat) (hb : b ≤ n) (hb1 : 1 ≤ b) (ha : a ≤ n) (hn : n ≤ 4000000) :
 Calls Tryz.prog 163 #[.agg #[.func lf la lb, .func (.func sf) #[] sb], .int .i64 a, .int .i64 b] W fun e w' => e = .returned (.tuple #[]) ∧ SrtC W0 base B c (Go.Sort.reverseRange d a b) w' ∧ (Go.Sort.reverseRange d a b).size = n ∧ Touch W w' (fun k => k = B) := by
 obtain ⟨W1, hW1⟩ : ∃ X, W.alloc (.cells #[.func lf la lb, .func (.func sf) #[] sb] 193) = X := ⟨_, rfl⟩
 have t1 : Touch W W1 (fun _ => False) := hW1 ▸ (Touch.refl W _).alloc _
 have g1 : W1.heap[W.heap.size]? = some (.cells #[.func lf la lb, .func (.func sf) #[] sb] 193 (0, 0)) := hW1 ▸ heap_alloc_new ..
 have hBW : B < W.heap.size := (hr.row.row'.2.2 ⟨B, 0, none⟩ rfl).2
 have HBX : RowKit.Hid (∀ X, Touch W1 X (fun k => k = B) → X.cell? ⟨W.heap.size, 1, none⟩ = some (.func (.func sf) #[] sb)) := Lib.hid (fun X x => cell_of_cells (x.keeps g1 (fun e => by have e : W.heap.size = B := e; omega)) 1)
 have HR1 := Lib.hid (hr.still t1)
 have HSW := Lib.hid hs
 have HW1 := Lib.hid hW1
 have HT1 := Lib.hid t1
 have e1 : ((b - 1 : Nat) : Int) = (b : Int) - 1 := by omega
 have b1 : 1 ≤ (b : Int) := by omega
 have b2 : (b : Int) ≤ 4000000 := by omega
 have HE1 := Lib.hid e1
 clear hW1 t1 g1 hr hs e1
 go_enter Tryz.func163, Tryz.ntmps163
 go_upto_region 1 with (fail)
 rw [HW1.out]
 go_wp2_with fail
 go_loopw [6, 7] (fun s6 s7 wr => ∃ (i j : Nat) (dk : Array FlD), s6 = .int .i64 i ∧ s7 = .int .i64 j ∧ dk.size = n ∧ SrtC W0 base B c dk wr ∧ Go.Sort.reverseLoop i j dk = Go.Sort.reverseLoop a (b - 1) d ∧ i ≤ n ∧ j < n ∧ Touch W1 wr (fun k => k = B)) (fun s6 s7 _ => (RowKit.intOf s7 - RowKit.intOf s6).toNat)
 case atStart => exact ⟨a, b - 1, d, rfl, by rw [HE1.out], hd, HR1.out, rfl, ha, by omega, Touch.refl _ _⟩
 case round =>
  obtain ⟨i, j, dk, rfl, rfl, hz, hr, he, hi, hj, ht⟩ := hrel
  have HE := Lib.hid he
  have HR := Lib.hid hr
  have HT := Lib.hid ht
  have HZ := Lib.hid hz
  have y1 := HBX.out wr ht
  clear hr he ht hz
  by_cases hlt : i < j
  case neg =>
   have hlI : ¬ (i : Int) < j := by omega
   have hx : dk = Go.Sort.reverseLoop a (b - 1) d := by
    rw [← HE.out, Go.Sort.reverseLoop, if_neg hlt]
   have HX := Lib.hid hx
   clear hx
   go_wp2_with fail
   go_end0
   unfold Go.Sort.reverseRange
   rw [← HX.out]
   exact ⟨rfl, HR.out, HZ.out, (HT1.out.mono (T := fun k => k = B) (fun _ _ h => h.elim)).trans HT.out (fun _ _ h => h)⟩
  case pos =>
   have hlI : (i : Int) < j := by omega
   obtain ⟨w2, hsw, hr2, hz2, ht2⟩ := HSW.out wr dk HZ.out HR.out i j (by omega) hj
   have HR2 := Lib.hid hr2
   have HZ2 := Lib.hid hz2
   have HT2 := Lib.hid ht2
   clear hr2 hz2 ht2
   have j1 : (j : Int) < 4000000 := by omega
   have i1 : (i : Int) < 4000000 := by omega
   go_wp2_with fail
   go_roundw
   ·refine ⟨i + 1, j - 1, _, by go_num, ?_, HZ2.out, HR2.out, ?_, by omega, by omega, HT.out.trans HT2.out (fun _ _ h => h)⟩
    ·rw [show ((j - 1 : Nat) : Int) = (j : Int) - 1 by omega]
    ·rw [← HE.out]
     conv => rhs; rw [Go.Sort.reverseLoop, if_pos hlt]
   ·simp only [RowKit.intOf]; omega
end Go.Proofs.YtpjdcgjoepjmcaaGreat
end
section
namespace Go.Proofs.YtpjdcgjoepjmcaaGreat
open Go.RowKit
theorem insInner_stop (a j : Nat) (d : Array FlD) (h : ¬ a < j) : Go.Sort.insInner ltFl a j d = d := by
 cases j with
 | zero => rfl
 | succ m => unfold Go.Sort.insInner; rw [if_neg (by simp; intro h2; omega)]
theorem insInner_no (a j : Nat) (d : Array FlD) (h1 : 1 ≤ j) (h : ltFl d[j]! d[j - 1]! = false) : Go.Sort.insInner ltFl a j d = d := by
 obtain ⟨m, rfl⟩ : ∃ m, j = m + 1 := ⟨j - 1, by omega⟩
 rw [Nat.add_sub_cancel] at h
 unfold Go.Sort.insInner; rw [if_neg (by rw [h]; simp)]
theorem insInner_yes (a j : Nat) (d : Array FlD) (h0 : a < j) (h : ltFl d[j]! d[j - 1]! = true) : Go.Sort.insInner ltFl a j d = Go.Sort.insInner ltFl a (j - 1) (Go.Sort.swp d j (j - 1)) := by
 obtain ⟨m, rfl⟩ : ∃ m, j = m + 1 := ⟨j - 1, by omega⟩
 rw [Nat.add_sub_cancel] at h ⊢
 conv => lhs; unfold Go.Sort.insInner
 rw [if_pos (by rw [h]; simp; omega)]
set_option maxRecDepth 20000 in
set_option maxHeartbeats 4000000 in
theorem inssort_any (W0 : World) (base B c n : Nat) (g : Nat) (lb : Array Value) (eg : ∀ args w, (callFunc g args).run Tryz.prog w = .ok (.enter g args) w) (hl : LessC W0 base B c n g lb) (sf : Nat) (sb : Array Value) (hs : SwapC W0 base B c n sf sb)
 (W : World) (d : Array FlD) (hd : d.size = n) (hr : SrtC W0 base B c d W) (a b : Nat) (hb : b ≤ n) (ha : a ≤ n) (hn : n ≤ 4000000) :
 Calls Tryz.prog 159 #[.agg #[.func (.func g) #[] lb, .func (.func sf) #[] sb], .int .i64 a, .int .i64 b] W fun e w' => e = .returned (.tuple #[]) ∧ SrtC W0 base B c (Go.Sort.insertionSort ltFl d a b) w' ∧ (Go.Sort.insertionSort ltFl d a b).size = n ∧ Touch W w' (fun k => k = B) := by
 obtain ⟨W1, hW1⟩ : ∃ X, W.alloc (.cells #[.func (.func g) #[] lb, .func (.func sf) #[] sb] 193) = X := ⟨_, rfl⟩
 have t1 : Touch W W1 (fun _ => False) := hW1 ▸ (Touch.refl W _).alloc _
 have g1 : W1.heap[W.heap.size]? = some (.cells #[.func (.func g) #[] lb, .func (.func sf) #[] sb] 193 (0, 0)) := hW1 ▸ heap_alloc_new ..
 have hBW : B < W.heap.size := (hr.row.row'.2.2 ⟨B, 0, none⟩ rfl).2
 have HBX : RowKit.Hid (∀ X, Touch W1 X (fun k => k = B) → X.cell? ⟨W.heap.size, 0, none⟩ = some (.func (.func g) #[] lb) ∧ X.cell? ⟨W.heap.size, 1, none⟩ = some (.func (.func sf) #[] sb)) := Lib.hid (fun X x => by
  have h1 := x.keeps g1 (fun e => by have e : W.heap.size = B := e; omega)
  exact ⟨cell_of_cells h1 0, cell_of_cells h1 1⟩)
 have HR1 := Lib.hid (hr.still t1)
 have HSW := Lib.hid hs
 have HLS := Lib.hid hl
 have HW1 := Lib.hid hW1
 have HT1 := Lib.hid t1
 have a2 : (a : Int) ≤ 4000000 := by omega
 have b2 : (b : Int) ≤ 4000000 := by omega
 clear hW1 t1 g1 hr hs hl
 go_enter Tryz.func159, Tryz.ntmps159
 go_upto_region 1 with (fail)
 rw [HW1.out]
 go_wp2_with fail
 go_loopw [6] (fun s6 wr => ∃ (i : Nat) (dk : Array FlD), s6 = .int .i64 i ∧ dk.size = n ∧ SrtC W0 base B c dk wr ∧ Go.Sort.insOuter ltFl a b i dk = Go.Sort.insOuter ltFl a b (a + 1) d ∧ a + 1 ≤ i ∧ i ≤ n + 1 ∧ Touch W1 wr (fun k => k = B)) (fun s6 _ => b - (RowKit.intOf s6).toNat)
 case atStart => exact ⟨a + 1, d, by go_num, hd, HR1.out, rfl, Nat.le_refl _, by omega, Touch.refl _ _⟩
 case round =>
  obtain ⟨i, dk, rfl, hz, hr, he, hi1, hi, ht⟩ := hrel
  have HE := Lib.hid he
  have HR := Lib.hid hr
  have HT := Lib.hid ht
  have HZ := Lib.hid hz
  clear hr he ht hz
  obtain ⟨Wo, hWo⟩ : ∃ Wo, Wo = wr := ⟨_, rfl⟩
  by_cases hlt : i < b
  case neg =>
   have hlI : ¬ (i : Int) < b := by omega
   have hx : dk = Go.Sort.insOuter ltFl a b (a + 1) d := by
    rw [← HE.out, Go.Sort.insOuter, if_neg hlt]
   have HX := Lib.hid hx
   clear hx hWo
   go_wp2_with fail
   go_end0
   unfold Go.Sort.insertionSort
   rw [← HX.out]
   exact ⟨rfl, HR.out, HZ.out, (HT1.out.mono (T := fun k => k = B) (fun _ _ h => h.elim)).trans HT.out (fun _ _ h => h)⟩
  case pos =>
   have hlI : (i : Int) < b := by omega
   have hiI : (i : Int) ≤ 4000001 := by omega
   subst hWo
   go_wp2_with fail
   go_loopw [7] (fun s7 wr => ∃ (j : Nat) (dj : Array FlD), s7 = .int .i64 j ∧ dj.size = n ∧ SrtC W0 base B c dj wr ∧ Go.Sort.insInner ltFl a j dj = Go.Sort.insInner ltFl a i dk ∧ j ≤ i ∧ Touch W1 wr (fun k => k = B)) (fun s7 _ => (RowKit.intOf s7).toNat)
   case atStart => exact ⟨i, dk, rfl, HZ.out, HR.out, rfl, Nat.le_refl _, HT.out⟩
   case round =>
    obtain ⟨j, dj, rfl, hz2, hr2, he2, hj, ht2⟩ := hrel
    have HE2 := Lib.hid he2
    have HR2 := Lib.hid hr2
    have HT2 := Lib.hid ht2
    have HZ2 := Lib.hid hz2
    have hjI : (j : Int) ≤ 4000001 := by omega
    have hEND : ∀ w5, SrtC W0 base B c dj w5 → Touch W1 w5 (fun k => k = B) → Go.Sort.insInner ltFl a j dj = dj → ∃ (i' : Nat) (dk' : Array FlD), Value.int .i64 ((i : Int) + 1) = .int .i64 i' ∧ dk'.size = n ∧ SrtC W0 base B c dk' w5 ∧ Go.Sort.insOuter ltFl a b i' dk' = Go.Sort.insOuter ltFl a b (a + 1) d ∧ a + 1 ≤ i' ∧ i' ≤ n + 1 ∧ Touch W1 w5 (fun k => k = B) := fun w5 r5 t5 h5 => by
     refine ⟨i + 1, dj, by go_num, hz2, r5, ?_, by omega, by omega, t5⟩
     rw [← HE.out]
     conv => rhs; rw [Go.Sort.insOuter, if_pos hlt]
     rw [← he2, h5]
    have HEND := Lib.hid hEND
    clear hr2 he2 ht2 hz2 hEND
    by_cases haj : a < j
    case neg =>
     have hjJ : ¬ (a : Int) < j := by omega
     have HX := Lib.hid (HEND.out wr HR2.out HT2.out (insInner_stop a j dj haj))
     go_wp2_with fail
     go_roundw
     ·exact HX.out
     ·simp only [RowKit.intOf]; omega
    case pos =>
     have hjJ : (a : Int) < j := by omega
     have h1j : 1 ≤ (j : Int) := by omega
     obtain ⟨y0, y1⟩ := HBX.out wr HT2.out
     have hls := HLS.out wr dj HZ2.out HR2.out j (j - 1) (by omega) (by omega)
     rw [show ((j - 1 : Nat) : Int) = (j : Int) - 1 by omega] at hls
     obtain ⟨m, hm⟩ : ∃ m, ltFl dj[j]! dj[j - 1]! = m := ⟨_, rfl⟩
     rw [hm] at hls
     have HLL := Lib.hid hls
     have HM := Lib.hid hm
     clear hls hm
     cases m with
     | false =>
       go_wp2_with (go_at_fn g; (refine HLL.out.mono ?_); rintro e w2 ⟨rfl, t2⟩; have HX := Lib.hid (HEND.out w2 (HR2.out.still t2) (HT2.out.trans t2 (fun _ _ h => h.elim)) (insInner_no a j dj (by omega) HM.out)); clear t2)
       go_roundw
       ·exact HX.out
       ·simp only [RowKit.intOf]; omega
     | true =>
       go_upto_region 7 with (go_at_fn g; (refine HLL.out.mono ?_); rintro e w2 ⟨rfl, t2⟩; have HR3 := Lib.hid (HR2.out.still t2); have HT3 := Lib.hid (HT2.out.trans t2 (fun _ _ h => h.elim)); clear t2)
       obtain ⟨z0, z1⟩ := HBX.out w2 HT3.out
       obtain ⟨w3, hsw, hr4, hz4, ht4⟩ := HSW.out w2 dj HZ2.out HR3.out j (j - 1) (by omega) (by omega)
       rw [show ((j - 1 : Nat) : Int) = (j : Int) - 1 by omega] at hsw
       have HR4 := Lib.hid hr4
       have HZ4 := Lib.hid hz4
       have HT4 := Lib.hid (HT3.out.trans ht4 (fun _ _ h => h))
       clear hr4 hz4 ht4
       go_wp2_with fail
       go_roundw
       ·refine ⟨j - 1, _, ?_, HZ4.out, HR4.out, ?_, by omega, HT4.out⟩
        ·rw [show ((j - 1 : Nat) : Int) = (j : Int) - 1 by omega]
        ·rw [← HE2.out]
         exact (insInner_yes a j dj haj HM.out).symm
       ·simp only [RowKit.intOf]; omega
end Go.Proofs.YtpjdcgjoepjmcaaGreat
end
section
namespace Go.Proofs.YtpjdcgjoepjmcaaGreat
open Go.RowKit
set_option maxRecDepth 20000 in
set_option maxHeartbeats 12000000 in
theorem pivot_any (W0 : World) (base B c n : Nat) (g : Nat) (lb : Array Value) (eg : ∀ args w, (callFunc g args).run Tryz.prog w = .ok (.enter g args) w) (hl : LessC W0 base B c n g lb) (sf : Nat) (sb : Array Value)
 (W : World) (d : Array FlD) (hd : d.size = n) (hr : SrtC W0 base B c d W) (a b : Nat) (hab : a < b) (hb : b ≤ n) (hn : n ≤ 4000000) :
 Calls Tryz.prog 162 #[.agg #[.func (.func g) #[] lb, .func (.func sf) #[] sb], .int .i64 a, .int .i64 b] W fun e w' => e = .returned (.tuple #[.int .i64 (Go.Sort.choosePivot ltFl d a b).1, .int .i64 (Go.Sort.hintCode (Go.Sort.choosePivot ltFl d a b).2)]) ∧ SrtC W0 base B c d w' ∧ Touch W w' (fun _ => False) := by
 rw [Go.Sort.choosePivot_eq]
 obtain ⟨W1, hW1⟩ : ∃ X, W.alloc (.cells #[.func (.func g) #[] lb, .func (.func sf) #[] sb] 193) = X := ⟨_, rfl⟩
 obtain ⟨W2, hW2⟩ : ∃ X, W1.alloc (.cells #[.int .i64 0] 3) = X := ⟨_, rfl⟩
 have t1 : Touch W W1 (fun _ => False) := hW1 ▸ (Touch.refl W _).alloc _
 have g1 : W1.heap[W.heap.size]? = some (.cells #[.func (.func g) #[] lb, .func (.func sf) #[] sb] 193 (0, 0)) := hW1 ▸ heap_alloc_new ..
 have t2 : Touch W1 W2 (fun _ => False) := hW2 ▸ (Touch.refl W1 _).alloc _
 have g2 : W2.heap[W1.heap.size]? = some (.cells #[.int .i64 ((0 : Nat) : Int)] 3 (0, 0)) := hW2 ▸ heap_alloc_new ..
 have hBW : B < W.heap.size := (hr.row.row'.2.2 ⟨B, 0, none⟩ rfl).2
 have hs1 : W.heap.size < W1.heap.size := heap_lt g1
 obtain ⟨R, hR⟩ : ∃ R, W1.heap.size = R := ⟨_, rfl⟩
 rw [hR] at hs1 g2
 have h0R : W0.heap.size ≤ R := Nat.le_trans hr.t.size (by omega)
 have hr2 := (hr.still t1).still t2
 have HBX : RowKit.Hid (∀ X, Touch W2 X (fun k => k = R) → X.cell? ⟨W.heap.size, 0, none⟩ = some (.func (.func g) #[] lb) ∧ X.cell? ⟨W.heap.size, 1, none⟩ = some (.func (.func sf) #[] sb)) := Lib.hid (fun X x => by
  have h1 := x.keeps (t2.keeps g1 (fun h => h)) (fun e => by have e : W.heap.size = R := e; omega)
  exact ⟨cell_of_cells h1 0, cell_of_cells h1 1⟩)
 -- the counter's block and the touch
 have MA : RowKit.Hid (∀ X x s, Touch W2 X (fun k => k = R) → X.heap[R]? = some (.cells #[.int .i64 (s : Nat)] 3 (0, 0)) → 1 ≤ x → x + 1 < n → s + 3 < 1000 → Calls Tryz.prog 177 #[.agg #[.func (.func g) #[] lb, .func (.func sf) #[] sb], .int .i64 (x : Nat), .pointer (some ⟨R, 0, none⟩)] X fun e w' => e = .returned (.int .i64 (Go.Sort.medianAdjacent ltFl d x s).1) ∧ w'.heap[R]? = some (.cells #[.int .i64 (Go.Sort.medianAdjacent ltFl d x s).2] 3 (0, 0)) ∧ Touch W2 w' (fun k => k = R)) := Lib.hid (fun X x s hx hg h1 h2 h3 =>
  (medadj_any W0 base B c n g lb eg hl sf sb X d hd (hr2.beside hx (by omega) h0R) x s R h1 h2 h3 hn hg (by omega) h0R).mono fun e w' ⟨p, q, r⟩ => ⟨p, q, hx.trans r (fun _ _ h => h)⟩)
 have MD : RowKit.Hid (∀ X x y z s, Touch W2 X (fun k => k = R) → X.heap[R]? = some (.cells #[.int .i64 (s : Nat)] 3 (0, 0)) → x < n → y < n → z < n → s + 3 < 1000 → Calls Tryz.prog 178 #[.agg #[.func (.func g) #[] lb, .func (.func sf) #[] sb], .int .i64 (x : Nat), .int .i64 (y : Nat), .int .i64 (z : Nat), .pointer (some ⟨R, 0, none⟩)] X fun e w' => e = .returned (.int .i64 (Go.Sort.median ltFl d x y z s).1) ∧ w'.heap[R]? = some (.cells #[.int .i64 (Go.Sort.median ltFl d x y z s).2] 3 (0, 0)) ∧ Touch W2 w' (fun k => k = R)) := Lib.hid (fun X x y z s hx hg h1 h2 h3 h4 =>
  (median_any W0 base B c n g lb eg hl sf sb X d hd (hr2.beside hx (by omega) h0R) x y z s R h1 h2 h3 h4 hn hg (by omega) h0R).mono fun e w' ⟨p, q, r⟩ => ⟨p, q, hx.trans r (fun _ _ h => h)⟩)
 have HEND : RowKit.Hid (∀ X, Touch W2 X (fun k => k = R) → SrtC W0 base B c d X ∧ Touch W X (fun _ => False)) := Lib.hid (fun X x => ⟨hr2.beside x (by omega) h0R, (t1.trans t2 (fun _ _ h => h)).trans x (fun k hk h => by have h : k = R := h; omega)⟩)
 have HW1 := Lib.hid hW1
 have HW2 := Lib.hid hW2
 have HRR := Lib.hid hR
 have G2 := Lib.hid g2
 obtain ⟨y0, y1⟩ := HBX.out W2 (Touch.refl _ _)
 obtain ⟨I, hI⟩ : ∃ I : Nat, I = a + (b - a) / 4 * 1 := ⟨_, rfl⟩
 obtain ⟨J, hJ⟩ : ∃ J : Nat, J = a + (b - a) / 4 * 2 := ⟨_, rfl⟩
 obtain ⟨K, hK⟩ : ∃ K : Nat, K = a + (b - a) / 4 * 3 := ⟨_, rfl⟩
 have eI : ((a : Int) + ((b : Int) - (a : Int)) / 4) = (I : Int) := by omega
 have eJ : ((a : Int) + ((b : Int) - (a : Int)) / 4 * 2) = (J : Int) := by omega
 have eK : ((a : Int) + ((b : Int) - (a : Int)) / 4 * 3) = (K : Int) := by omega
 have a2 : (a : Int) ≤ 4000000 := by omega
 have b2 : (b : Int) ≤ 4000000 := by omega
 have abI : (a : Int) < b := by omega
 clear hW1 hW2 t1 g1 t2 g2 hr hr2 hl hd hR
 by_cases h8 : b - a ≥ 8
 case pos =>
  by_cases h50 : b - a ≥ 50
  case pos =>
   obtain ⟨i1, s1, h1⟩ : ∃ i1 s1, Go.Sort.medianAdjacent ltFl d I 0 = (i1, s1) := ⟨_, _, rfl⟩
   obtain ⟨j1, s2, h2⟩ : ∃ j1 s2, Go.Sort.medianAdjacent ltFl d J s1 = (j1, s2) := ⟨_, _, rfl⟩
   obtain ⟨k1, s3, h3⟩ : ∃ k1 s3, Go.Sort.medianAdjacent ltFl d K s2 = (k1, s3) := ⟨_, _, rfl⟩
   obtain ⟨p, s, h4⟩ : ∃ p s, Go.Sort.median ltFl d i1 j1 k1 s3 = (p, s) := ⟨_, _, rfl⟩
   have hraw : Go.Sort.rawPivot ltFl d a b = (p, s) := by simp only [Go.Sort.rawPivot, if_pos h8, if_pos h50, ← hI, ← hJ, ← hK, h1, h2, h3, h4]
   have m1 := Go.Sort.medianAdjacent_mem ltFl d I 0; rw [h1] at m1
   have m2 := Go.Sort.medianAdjacent_mem ltFl d J s1; rw [h2] at m2
   have m3 := Go.Sort.medianAdjacent_mem ltFl d K s2; rw [h3] at m3
   have n1 := Go.Sort.medianAdjacent_count ltFl d I 0; rw [h1] at n1
   have n2 := Go.Sort.medianAdjacent_count ltFl d J s1; rw [h2] at n2
   have n3 := Go.Sort.medianAdjacent_count ltFl d K s2; rw [h3] at n3
   simp only [] at m1 m2 m3 n1 n2 n3
   have c1 := MA.out W2 I 0 (Touch.refl _ _) G2.out (by omega) (by omega) (by omega)
   rw [h1] at c1
   have C1 := Lib.hid c1
   have C2 : RowKit.Hid (∀ X, Touch W2 X (fun k => k = R) → X.heap[R]? = some (.cells #[.int .i64 (s1 : Nat)] 3 (0, 0)) → Calls Tryz.prog 177 #[.agg #[.func (.func g) #[] lb, .func (.func sf) #[] sb], .int .i64 (J : Int), .pointer (some ⟨R, 0, none⟩)] X fun e w' => e = .returned (.int .i64 (j1 : Int)) ∧ w'.heap[R]? = some (.cells #[.int .i64 (s2 : Nat)] 3 (0, 0)) ∧ Touch W2 w' (fun k => k = R)) := Lib.hid (fun X x hg => by
    have h := MA.out X J s1 x hg (by omega) (by omega) (by omega)
    rw [h2] at h
    exact h)
   have C3 : RowKit.Hid (∀ X, Touch W2 X (fun k => k = R) → X.heap[R]? = some (.cells #[.int .i64 (s2 : Nat)] 3 (0, 0)) → Calls Tryz.prog 177 #[.agg #[.func (.func g) #[] lb, .func (.func sf) #[] sb], .int .i64 (K : Int), .pointer (some ⟨R, 0, none⟩)] X fun e w' => e = .returned (.int .i64 (k1 : Int)) ∧ w'.heap[R]? = some (.cells #[.int .i64 (s3 : Nat)] 3 (0, 0)) ∧ Touch W2 w' (fun k => k = R)) := Lib.hid (fun X x hg => by
    have h := MA.out X K s2 x hg (by omega) (by omega) (by omega)
    rw [h3] at h
    exact h)
   have C4 : RowKit.Hid (∀ X, Touch W2 X (fun k => k = R) → X.heap[R]? = some (.cells #[.int .i64 (s3 : Nat)] 3 (0, 0)) → Calls Tryz.prog 178 #[.agg #[.func (.func g) #[] lb, .func (.func sf) #[] sb], .int .i64 (i1 : Int), .int .i64 (j1 : Int), .int .i64 (k1 : Int), .pointer (some ⟨R, 0, none⟩)] X fun e w' => e = .returned (.int .i64 (p : Int)) ∧ w'.heap[R]? = some (.cells #[.int .i64 (s : Nat)] 3 (0, 0)) ∧ Touch W2 w' (fun k => k = R)) := Lib.hid (fun X x hg => by
    have h := MD.out X i1 j1 k1 s3 x hg (by omega) (by omega) (by omega) (by omega)
    rw [h4] at h
    exact h)
   have h8I : 8 ≤ (b : Int) - a := by omega
   have h50I : 50 ≤ (b : Int) - a := by omega
   obtain ⟨Hc, hHc⟩ : ∃ Hc : Int, Hc = Go.Sort.hintCode (Go.Sort.hintOf s) := ⟨_, rfl⟩
   have hh0 : s = 0 → Hc = 1 := fun h => by rw [hHc, h]; rfl
   have hh12 : s = 12 → Hc = 2 := fun h => by rw [hHc, h]; rfl
   have hhx : s ≠ 0 → s ≠ 12 → Hc = 0 := fun h1 h2 => by rw [hHc]; unfold Go.Sort.hintOf; rw [if_neg h1, if_neg h2]; rfl
   rw [hraw]
   show Calls Tryz.prog 162 _ W fun e w' => e = .returned (.tuple #[.int .i64 (p : Int), .int .i64 (Go.Sort.hintCode (Go.Sort.hintOf s))]) ∧ SrtC W0 base B c d w' ∧ Touch W w' (fun _ => False)
   rw [← hHc]
   have HH := Lib.hid (And.intro hh0 (And.intro hh12 hhx))
   clear hHc hraw hh0 hh12 hhx
   clear h1 h2 h3 h4 hI hJ hK m1 m2 m3 n1 n2 n3 c1
   go_enter Tryz.func162, Tryz.ntmps162
   go_upto_region 1 with (fail)
   rw [HW1.out]
   have hW2 := HW2.out
   have hRR := HRR.out
   go_wp2_with (first
    | (go_at_call_of 177 (Value.int .i64 (I : Int)); (with_reducible refine C1.out.mono ?_); rintro e w5 ⟨rfl, g5, t5⟩; obtain ⟨x5, z5⟩ := HBX.out w5 t5; have HT5 := Lib.hid t5; have c5 := cell_of_cells g5 0; have HG5 := Lib.hid g5; clear t5 g5)
    | (go_at_call_of 177 (Value.int .i64 (J : Int)); (with_reducible refine (C2.out _ HT5.out HG5.out).mono ?_); rintro e w6 ⟨rfl, g6, t6⟩; obtain ⟨x6, z6⟩ := HBX.out w6 t6; have HT6 := Lib.hid t6; have c6 := cell_of_cells g6 0; have HG6 := Lib.hid g6; clear t6 g6)
    | (go_at_call_of 177 (Value.int .i64 (K : Int)); (with_reducible refine (C3.out _ HT6.out HG6.out).mono ?_); rintro e w7 ⟨rfl, g7, t7⟩; obtain ⟨x7, z7⟩ := HBX.out w7 t7; have HT7 := Lib.hid t7; have c7 := cell_of_cells g7 0; have HG7 := Lib.hid g7; clear t7 g7)
    | (go_at_call 178; (with_reducible refine (C4.out _ HT7.out HG7.out).mono ?_); rintro e w8 ⟨rfl, g8, t8⟩; have HT8 := Lib.hid t8; have c8 := cell_of_cells g8 0; clear t8 g8))
   all_goals
    go_ret2
    refine ⟨?_, HEND.out _ HT8.out⟩
    obtain ⟨hh0, hh12, hhx⟩ := HH.out
    first
     | (have e0 : (s : Int) = 0 := Go.Proofs.of_beq_int (by assumption)
        rw [hh0 (by omega)]; rfl)
     | (have e1 : (s : Int) = 12 := Go.Proofs.of_beq_int (by assumption)
        rw [hh12 (by omega)]; rfl)
     | (have e0 : (s : Int) ≠ 0 := Go.Proofs.of_bne_int (by assumption)
        have e1 : (s : Int) ≠ 12 := Go.Proofs.of_bne_int (by assumption)
        rw [hhx (by omega) (by omega)]; rfl)
     | (rw [hh0 (by omega)]; rfl)
     | (rw [hh0 rfl]; rfl)
  case neg =>
   obtain ⟨p, s, h4⟩ : ∃ p s, Go.Sort.median ltFl d I J K 0 = (p, s) := ⟨_, _, rfl⟩
   have hraw : Go.Sort.rawPivot ltFl d a b = (p, s) := by simp only [Go.Sort.rawPivot, if_pos h8, if_neg h50, ← hI, ← hJ, ← hK, h4]
   have c4 := MD.out W2 I J K 0 (Touch.refl _ _) G2.out (by omega) (by omega) (by omega) (by omega)
   rw [h4] at c4
   have C4 := Lib.hid c4
   have h8I : 8 ≤ (b : Int) - a := by omega
   have h50I : ¬ 50 ≤ (b : Int) - a := by omega
   obtain ⟨Hc, hHc⟩ : ∃ Hc : Int, Hc = Go.Sort.hintCode (Go.Sort.hintOf s) := ⟨_, rfl⟩
   have hh0 : s = 0 → Hc = 1 := fun h => by rw [hHc, h]; rfl
   have hh12 : s = 12 → Hc = 2 := fun h => by rw [hHc, h]; rfl
   have hhx : s ≠ 0 → s ≠ 12 → Hc = 0 := fun h1 h2 => by rw [hHc]; unfold Go.Sort.hintOf; rw [if_neg h1, if_neg h2]; rfl
   rw [hraw]
   show Calls Tryz.prog 162 _ W fun e w' => e = .returned (.tuple #[.int .i64 (p : Int), .int .i64 (Go.Sort.hintCode (Go.Sort.hintOf s))]) ∧ SrtC W0 base B c d w' ∧ Touch W w' (fun _ => False)
   rw [← hHc]
   have HH := Lib.hid (And.intro hh0 (And.intro hh12 hhx))
   clear hHc hraw hh0 hh12 hhx
   clear h4 hI hJ hK c4
   go_enter Tryz.func162, Tryz.ntmps162
   go_upto_region 1 with (fail)
   rw [HW1.out]
   have hW2 := HW2.out
   have hRR := HRR.out
   go_wp2_with (go_at_call 178; (with_reducible refine C4.out.mono ?_); rintro e w8 ⟨rfl, g8, t8⟩; have HT8 := Lib.hid t8; have c8 := cell_of_cells g8 0; clear t8 g8)
   all_goals
    go_ret2
    refine ⟨?_, HEND.out _ HT8.out⟩
    obtain ⟨hh0, hh12, hhx⟩ := HH.out
    first
     | (have e0 : (s : Int) = 0 := Go.Proofs.of_beq_int (by assumption)
        rw [hh0 (by omega)]; rfl)
     | (have e1 : (s : Int) = 12 := Go.Proofs.of_beq_int (by assumption)
        rw [hh12 (by omega)]; rfl)
     | (have e0 : (s : Int) ≠ 0 := Go.Proofs.of_bne_int (by assumption)
        have e1 : (s : Int) ≠ 12 := Go.Proofs.of_bne_int (by assumption)
        rw [hhx (by omega) (by omega)]; rfl)
     | (rw [hh0 (by omega)]; rfl)
     | (rw [hh0 rfl]; rfl)
 case neg =>
  obtain ⟨p, hp⟩ : ∃ p : Nat, p = J := ⟨_, rfl⟩
  obtain ⟨s, hs⟩ : ∃ s : Nat, s = 0 := ⟨_, rfl⟩
  have hraw : Go.Sort.rawPivot ltFl d a b = (p, s) := by simp only [Go.Sort.rawPivot, if_neg h8, ← hJ, hp, hs]
  have c8 : W2.cell? ⟨R, 0, none⟩ = some (.int .i64 (0 : Int)) := cell_of_cells G2.out 0
  have h8I : ¬ 8 ≤ (b : Int) - a := by omega
  obtain ⟨Hc, hHc⟩ : ∃ Hc : Int, Hc = Go.Sort.hintCode (Go.Sort.hintOf s) := ⟨_, rfl⟩
  have hh0 : s = 0 → Hc = 1 := fun h => by rw [hHc, h]; rfl
  have hh12 : s = 12 → Hc = 2 := fun h => by rw [hHc, h]; rfl
  have hhx : s ≠ 0 → s ≠ 12 → Hc = 0 := fun h1 h2 => by rw [hHc]; unfold Go.Sort.hintOf; rw [if_neg h1, if_neg h2]; rfl
  rw [hraw]
  show Calls Tryz.prog 162 _ W fun e w' => e = .returned (.tuple #[.int .i64 (p : Int), .int .i64 (Go.Sort.hintCode (Go.Sort.hintOf s))]) ∧ SrtC W0 base B c d w' ∧ Touch W w' (fun _ => False)
  rw [← hHc]
  have HH := Lib.hid (And.intro hh0 (And.intro hh12 hhx))
  clear hHc hraw hh0 hh12 hhx
  have HS := Lib.hid (And.intro hp hs)
  clear hI hJ hK hp hs
  go_enter Tryz.func162, Tryz.ntmps162
  go_upto_region 1 with (fail)
  rw [HW1.out]
  have hW2 := HW2.out
  have hRR := HRR.out
  go_wp2_with fail
  all_goals
   go_ret2
   obtain ⟨rfl, rfl⟩ := HS.out
   refine ⟨?_, HEND.out _ (Touch.refl _ _)⟩
   rw [HH.out.1 rfl]
   rfl
end Go.Proofs.YtpjdcgjoepjmcaaGreat
end
section
namespace Go.Proofs.YtpjdcgjoepjmcaaGreat
open Go.RowKit
theorem next_any (rb X : Nat) (hX : X < 18446744073709551616) (w : World) (h : w.heap[rb]? = some (.cells #[.int .u64 X] 221 (0, 0))) :
 Calls Tryz.prog 176 #[.pointer (some ⟨rb, 0, none⟩)] w fun e w' => e = .returned (.int .u64 (Go.Sort.xorNextN X : Nat)) ∧ w'.heap[rb]? = some (.cells #[.int .u64 (Go.Sort.xorNextN X : Nat)] 221 (0, 0)) ∧ Touch w w' (fun k => k = rb) := by
 have L := Tryz.laysGg6
 have h1 := Any.xorshift_Next (P := Tryz.prog) { L with } rb 0 X hX w (cell_of_cells h 0) (free_of_cells h 0)
 refine h1.mono ?_
 rintro e w' ⟨rfl, rfl⟩
 exact ⟨rfl, heap_setCell_same w rb 0 _ _ _ h, ((Touch.refl w (fun k => k = rb)).setCell _ _ (fun _ => rfl)).drewN 3⟩
theorem pow_any (n : Nat) (hn : n < 4611686018427387904) (w : World) :
 Calls Tryz.prog 175 #[.int .i64 n] w fun e w' => e = .returned (.int .u64 ((1 <<< Go.Sort.bitsLen n : Nat) : Int)) ∧ w = w' := by
 have L := Tryz.laysGg6
 refine (Any.nextPowerOfTwo (P := Tryz.prog) { L with } n hn w).mono ?_
 rintro e w' ⟨rfl, rfl⟩
 exact ⟨rfl, rfl⟩
set_option maxRecDepth 20000 in
set_option maxHeartbeats 12000000 in
theorem break_go (W0 : World) (base B c n : Nat) (g : Nat) (lb : Array Value) (sf : Nat) (sb : Array Value) (hs : SwapC W0 base B c n sf sb)
 (W : World) (d : Array FlD) (hd : d.size = n) (hr : SrtC W0 base B c d W) (a L : Nat) (hb : a + L ≤ n) (h8 : 8 ≤ L) (hn : n ≤ 4000000) :
 Calls Tryz.prog 161 #[.agg #[.func (.func g) #[] lb, .func (.func sf) #[] sb], .int .i64 a, .int .i64 ((a + L : Nat) : Int)] W fun e w' => e = .returned (.tuple #[]) ∧ SrtC W0 base B c (Go.Sort.breakPatterns d a (a + L)) w' ∧ (Go.Sort.breakPatterns d a (a + L)).size = n ∧ Touch W w' (fun k => k = B) := by
 rw [Go.Proofs.breakPatterns_eq d a L h8]
 obtain ⟨W1, hW1⟩ : ∃ X, W.alloc (.cells #[.func (.func g) #[] lb, .func (.func sf) #[] sb] 193) = X := ⟨_, rfl⟩
 obtain ⟨W2, hW2⟩ : ∃ X, W1.alloc (.cells #[.int .u64 (L : Int)] 221) = X := ⟨_, rfl⟩
 have t1 : Touch W W1 (fun _ => False) := hW1 ▸ (Touch.refl W _).alloc _
 have g1 : W1.heap[W.heap.size]? = some (.cells #[.func (.func g) #[] lb, .func (.func sf) #[] sb] 193 (0, 0)) := hW1 ▸ heap_alloc_new ..
 have t2 : Touch W1 W2 (fun _ => False) := hW2 ▸ (Touch.refl W1 _).alloc _
 have g2 : W2.heap[W1.heap.size]? = some (.cells #[.int .u64 (L : Int)] 221 (0, 0)) := hW2 ▸ heap_alloc_new ..
 have hBW : B < W.heap.size := (hr.row.row'.2.2 ⟨B, 0, none⟩ rfl).2
 have hs1 : W.heap.size < W1.heap.size := heap_lt g1
 obtain ⟨R, hR⟩ : ∃ R, W1.heap.size = R := ⟨_, rfl⟩
 rw [hR] at hs1 g2
 have h0R : W0.heap.size ≤ R := Nat.le_trans hr.t.size (by omega)
 have HBX : RowKit.Hid (∀ X, Touch W2 X (fun k => k = B ∨ k = R) → X.cell? ⟨W.heap.size, 1, none⟩ = some (.func (.func sf) #[] sb)) := Lib.hid (fun X x => by
  have h1 := x.keeps (t2.keeps g1 (fun h => h)) (fun e => by rcases e with e | e <;> omega)
  exact cell_of_cells h1 1)
 have HR0 := Lib.hid ((hr.still t1).still t2)
 have HSW := Lib.hid hs
 have HT2 := Lib.hid (t1.trans t2 (fun _ _ h => h))
 obtain ⟨M, hM⟩ : ∃ M : Nat, M = 1 <<< Go.Sort.bitsLen L := ⟨_, rfl⟩
 have hM1 : 1 ≤ M := by rw [hM, Nat.one_shiftLeft]; exact Nat.two_pow_pos _
 have hM2 : M ≤ 2 * L := by rw [hM, Nat.one_shiftLeft]; exact Go.Sort.two_pow_bitsLen_le (by omega)
 have hNP : ∀ w, Calls Tryz.prog 175 #[.int .i64 (L : Int)] w fun e w' => e = .returned (.int .u64 (M : Int)) ∧ w = w' := by rw [hM]; exact fun w => pow_any L (by omega) w
 have HNP := Lib.hid hNP
 rw [← hM]
 have hLz : ((a : Int) + (L : Int) - (a : Int)) = (L : Int) := by omega
 have h8z : (8 : Int) ≤ (L : Int) := by omega
 have lz : (L : Int) ≤ 4000000 := by omega
 have az : (a : Int) ≤ 4000000 := by omega
 have mz : (M : Int) ≤ 8000000 := by omega
 have m1z : 1 ≤ (M : Int) := by omega
 have HW1 := Lib.hid hW1
 have HW2 := Lib.hid hW2
 have HRR := Lib.hid hR
 have G2 := Lib.hid g2
 have HD := Lib.hid hd
 clear hW1 hW2 t1 g1 t2 g2 hr hs hM hNP hR hd
 go_enter Tryz.func161, Tryz.ntmps161
 go_upto_region 1 with (fail)
 rw [HW1.out]
 have hW2 := HW2.out
 have hRR := HRR.out
 go_wp2_with (go_at_call 175; (with_reducible refine (HNP.out _).mono ?_); rintro e w' ⟨rfl, rfl⟩)
 clear hW2 hRR
 go_loopw [9] (fun s9 wr => ∃ (t : Nat) (r : UInt64) (dk : Array FlD), s9 = .int .i64 ((a : Int) + (L : Int) / 4 * 2 - 1 + (t : Int)) ∧ t ≤ 3 ∧ dk.size = n ∧ SrtC W0 base B c dk wr ∧ Touch W2 wr (fun k => k = B ∨ k = R) ∧
  wr.heap[R]? = some (.cells #[.int .u64 (r.toNat : Int)] 221 (0, 0)) ∧
  RowKit.Hid (Go.Proofs.bpRest a L M (a + L / 4 * 2 - 1) (3 - t) t (r, dk) = Go.Proofs.bpRest a L M (a + L / 4 * 2 - 1) 3 0 (UInt64.ofNat L, d))) (fun s9 _ => ((a : Int) + (L : Int) / 4 * 2 + 3 - RowKit.intOf s9).toNat)
 case atStart =>
  refine ⟨0, UInt64.ofNat L, d, by simp, by omega, HD.out, HR0.out, Touch.refl _ _, ?_, rfl⟩
  rw [show (UInt64.ofNat L).toNat = L from by simp; omega]
  exact G2.out
 case round =>
  obtain ⟨t, r, dk, rfl, ht, hz, hr, htt, hg, HE⟩ := hrel
  have HZ := Lib.hid hz
  have HRs := Lib.hid hr
  have HTs := Lib.hid htt
  have HG := Lib.hid hg
  clear hz hr htt hg
  by_cases ht3 : t < 3
  case pos =>
   have hle : (a : Int) + (L : Int) / 4 * 2 - 1 + (t : Int) ≤ (a : Int) + (L : Int) / 4 * 2 + 1 := by omega
   obtain ⟨X, hX⟩ : ∃ X : Nat, X = r.toNat := ⟨_, rfl⟩
   have lX : X < 18446744073709551616 := by rw [hX]; exact r.toNat_lt
   obtain ⟨X', hX'⟩ : ∃ X' : Nat, X' = Go.Sort.xorNextN X := ⟨_, rfl⟩
   have lX' : X' < 18446744073709551616 := by rw [hX']; exact Go.Sort.xorNextN_lt X lX
   obtain ⟨O, hO⟩ : ∃ O : Nat, O = X' &&& (M - 1) := ⟨_, rfl⟩
   have lO : O ≤ M - 1 := by rw [hO]; exact Nat.and_le_right
   have eAnd : bits .and .u64 (X' : Int) ((M : Int) - 1) = (O : Int) := by
    rw [show ((M : Int) - 1) = ((M - 1 : Nat) : Int) by omega, bits_and_u64_nat _ _ lX' (by omega), hO]
   have hNX := next_any R X lX wr (by rw [hX]; exact HG.out)
   rw [← hX'] at hNX
   have HNX := Lib.hid hNX
   have HN : RowKit.Hid (X' = (Go.Sort.xorNext r).toNat ∧ O = (Go.Sort.xorNext r).toNat &&& (M - 1)) := by
    have e : X' = (Go.Sort.xorNext r).toNat := by rw [hX', hX, Go.Sort.xorNext_toNat]
    exact Lib.hid ⟨e, by rw [hO, e]⟩
   clear hX hX' hO hNX
   -- the random place under a name
   obtain ⟨q, hq⟩ : ∃ q : Nat, (if L ≤ O then O - L else O) = q := ⟨_, rfl⟩
   have hqL : q < L := by
    rw [← hq]
    split <;> omega
   have HQ : RowKit.Hid ((if (Go.Sort.xorNext r).toNat &&& (M - 1) ≥ L then ((Go.Sort.xorNext r).toNat &&& (M - 1)) - L else (Go.Sort.xorNext r).toNat &&& (M - 1)) = q) := by
    show _ = _
    rw [← HN.out.2]; exact hq
   have HFIN : RowKit.Hid (∀ w6, SrtC W0 base B c (Go.Sort.swp dk (a + L / 4 * 2 - 1 + t) (a + q)) w6 → (Go.Sort.swp dk (a + L / 4 * 2 - 1 + t) (a + q)).size = n → Touch W2 w6 (fun k => k = B ∨ k = R) → w6.heap[R]? = some (.cells #[.int .u64 (X' : Int)] 221 (0, 0)) →
    ∃ (t' : Nat) (r : UInt64) (dk : Array FlD), Value.int .i64 ((a : Int) + (L : Int) / 4 * 2 - 1 + (t : Int) + 1) = .int .i64 ((a : Int) + (L : Int) / 4 * 2 - 1 + (t' : Int)) ∧ t' ≤ 3 ∧ dk.size = n ∧ SrtC W0 base B c dk w6 ∧ Touch W2 w6 (fun k => k = B ∨ k = R) ∧
   w6.heap[R]? = some (.cells #[.int .u64 (r.toNat : Int)] 221 (0, 0)) ∧
   RowKit.Hid (Go.Proofs.bpRest a L M (a + L / 4 * 2 - 1) (3 - t') t' (r, dk) = Go.Proofs.bpRest a L M (a + L / 4 * 2 - 1) 3 0 (UInt64.ofNat L, d))) := Lib.hid (fun w6 r6 z6 t6 g6 =>
    ⟨t + 1, Go.Sort.xorNext r, _, by congr 1; push_cast; omega, by omega, z6, r6, t6, by rw [← HN.out.1]; exact g6, (show RowKit.Hid _ from by rw [← HE.out, Go.Proofs.bp_step a L M _ t r dk q ht3 HQ.out]; exact rfl)⟩)
   clear HN HE HQ
   have HWK : RowKit.Hid (∀ w5, w5.heap[R]? = some (.cells #[.int .u64 (X' : Int)] 221 (0, 0)) → Touch wr w5 (fun k => k = R) → w5.cell? ⟨W.heap.size, 1, none⟩ = some (.func (.func sf) #[] sb) ∧ ∃ w6, (callFunc sf (#[.int .i64 ((a : Int) + (L : Int) / 4 * 2 - 1 + (t : Int)), .int .i64 ((a : Int) + (q : Int))] ++ sb)).run Tryz.prog w5 = .ok (.value (.tuple #[])) w6 ∧ SrtC W0 base B c (Go.Sort.swp dk (a + L / 4 * 2 - 1 + t) (a + q)) w6 ∧ (Go.Sort.swp dk (a + L / 4 * 2 - 1 + t) (a + q)).size = n ∧ Touch W2 w6 (fun k => k = B ∨ k = R) ∧ w6.heap[R]? = some (.cells #[.int .u64 (X' : Int)] 221 (0, 0))) := Lib.hid (fun w5 g5 t5 => by
    have t25 := HTs.out.trans t5 (fun k _ h => Or.inr h)
    obtain ⟨w6, hsw, hr6, hz6, ht6⟩ := HSW.out w5 dk HZ.out (HRs.out.beside t5 (by omega) h0R) (a + L / 4 * 2 - 1 + t) (a + q) (by omega) (by omega)
    rw [show ((a + L / 4 * 2 - 1 + t : Nat) : Int) = (a : Int) + (L : Int) / 4 * 2 - 1 + (t : Int) by omega, show ((a + q : Nat) : Int) = (a : Int) + (q : Int) by omega] at hsw
    exact ⟨HBX.out w5 t25, w6, hsw, hr6, hz6, t25.trans ht6 (fun k _ h => Or.inl h), ht6.keeps g5 (by omega)⟩)
   by_cases hLO : L ≤ O
   case pos =>
    have hLOz : (L : Int) ≤ (O : Int) := by omega
    have hqz : (O : Int) - (L : Int) = (q : Int) := by
     rw [if_pos hLO] at hq
     omega
    clear hq
    go_wp2_with (go_at_call 176; (with_reducible refine HNX.out.mono ?_); rintro e w5 ⟨rfl, g5, t5⟩; obtain ⟨y1, w6, hsw6, hr6, hz6, ht6, hg6⟩ := HWK.out w5 g5 t5; have HR6 := Lib.hid hr6; have HZ6 := Lib.hid hz6; have HT6 := Lib.hid ht6; have HG6 := Lib.hid hg6; clear hr6 hz6 ht6 hg6 g5 t5)
    go_roundw
    case rel => exact HFIN.out w6 HR6.out HZ6.out HT6.out HG6.out
    case measure => simp [RowKit.intOf]; omega
   case neg =>
    have hLOz : ¬ (L : Int) ≤ (O : Int) := by omega
    obtain rfl : O = q := by
     rw [if_neg hLO] at hq
     omega
    clear hq
    go_wp2_with (go_at_call 176; (with_reducible refine HNX.out.mono ?_); rintro e w5 ⟨rfl, g5, t5⟩; obtain ⟨y1, w6, hsw6, hr6, hz6, ht6, hg6⟩ := HWK.out w5 g5 t5; have HR6 := Lib.hid hr6; have HZ6 := Lib.hid hz6; have HT6 := Lib.hid ht6; have HG6 := Lib.hid hg6; clear hr6 hz6 ht6 hg6 g5 t5)
    go_roundw
    case rel => exact HFIN.out w6 HR6.out HZ6.out HT6.out HG6.out
    case measure => simp [RowKit.intOf]; omega
  case neg =>
   obtain rfl : t = 3 := by omega
   have hle : ¬ ((a : Int) + (L : Int) / 4 * 2 - 1 + ((3 : Nat) : Int) ≤ (a : Int) + (L : Int) / 4 * 2 + 1) := by omega
   go_wp2_with fail
   go_end0
   rw [← HE.out]
   exact ⟨rfl, HRs.out, HZ.out, HT2.out.mono (T := fun k => k = B) (fun _ _ h => h.elim) |>.trans HTs.out (fun k hk h => by rcases h with h | h; exact h; omega)⟩
set_option maxRecDepth 20000 in
set_option maxHeartbeats 4000000 in
theorem break_any (W0 : World) (base B c n : Nat) (g : Nat) (lb : Array Value) (sf : Nat) (sb : Array Value) (hs : SwapC W0 base B c n sf sb)
 (W : World) (d : Array FlD) (hd : d.size = n) (hr : SrtC W0 base B c d W) (a b : Nat) (hab : a ≤ b) (hb : b ≤ n) (hn : n ≤ 4000000) :
 Calls Tryz.prog 161 #[.agg #[.func (.func g) #[] lb, .func (.func sf) #[] sb], .int .i64 a, .int .i64 b] W fun e w' => e = .returned (.tuple #[]) ∧ SrtC W0 base B c (Go.Sort.breakPatterns d a b) w' ∧ (Go.Sort.breakPatterns d a b).size = n ∧ Touch W w' (fun k => k = B) := by
 obtain ⟨L, rfl⟩ : ∃ L, b = a + L := ⟨b - a, by omega⟩
 by_cases h8 : 8 ≤ L
 ·exact break_go W0 base B c n g lb sf sb hs W d hd hr a L hb h8 hn
 ·have hv : Go.Sort.breakPatterns d a (a + L) = d := by unfold Go.Sort.breakPatterns; simp only [Nat.add_sub_cancel_left]; rw [if_neg h8]
  rw [hv]
  obtain ⟨W1, hW1⟩ : ∃ X, W.alloc (.cells #[.func (.func g) #[] lb, .func (.func sf) #[] sb] 193) = X := ⟨_, rfl⟩
  have t1 : Touch W W1 (fun _ => False) := hW1 ▸ (Touch.refl W _).alloc _
  have HR := Lib.hid (hr.still t1)
  have HT := Lib.hid t1
  have HW1 := Lib.hid hW1
  have HD := Lib.hid hd
  have hLz : ((a : Int) + (L : Int) - (a : Int)) = (L : Int) := by omega
  have h8z : ¬ (8 : Int) ≤ (L : Int) := by omega
  have lz : (L : Int) ≤ 4000000 := by omega
  have az : (a : Int) ≤ 4000000 := by omega
  clear hW1 t1 hr hs hd
  go_enter Tryz.func161, Tryz.ntmps161
  go_upto_region 1 with (fail)
  rw [HW1.out]
  go_wp2_with fail
  go_end0
  exact ⟨rfl, HR.out, HD.out, HT.out.mono (fun _ _ h => h.elim)⟩
end Go.Proofs.YtpjdcgjoepjmcaaGreat
end
