import Derived.Test.YtpjdcgjoepjmcaaGreatPlMZ
import Derived.Test.YtpjdcgjoepjmcaaGreatLBZ
import Derived.Deep.DeepCutAuto
import Derived.Test.YtpjdcgjoepjmcaaGreatKNZ
set_option linter.unusedVariables false
set_option linter.unusedSimpArgs false
section
namespace Go.Proofs.YtpjdcgjoepjmcaaGreat
open Go.RowKit
theorem infoOut : (Tryz.prog.info? 50).map (·.size) = some 4 := by kernel_rfl
def outV (v r b : Int) (p : Value) : Array Value := #[.int .i64 v, .int .i64 r, .int .i64 b, p]
theorem enter_rfindK (a b : Value) (w : World) : (callFunc 54 #[a, b]).run Tryz.prog w = .ok (.enter 54 #[a, b]) w := by kernel_rfl
set_option maxRecDepth 20000 in
set_option maxHeartbeats 4000000 in
theorem rdrop_any (r : Int) (w : World) : Calls Tryz.prog 52 #[.int .i64 r] w fun e w' => e = .returned (.agg (outV 1 r 0 (.slice none 0 0))) ∧ Touch w w' (fun _ => False) := by
 obtain ⟨W0, hW0⟩ : ∃ W, w.alloc (.cells (outV 0 0 0 (.slice none 0 0)) 50) = W := ⟨_, rfl⟩
 have t0 : Touch w W0 (fun _ => False) := hW0 ▸ (Touch.refl w _).alloc _
 have g0 : W0.heap[w.heap.size]? = some (.cells (outV 0 0 0 (.slice none 0 0)) 50 (0, 0)) := hW0 ▸ heap_alloc_new ..
 have HG0 := Lib.hid g0
 have HT0 := Lib.hid t0
 have HW0 := Lib.hid hW0
 have HPI := Lib.hid infoOut
 simp only [outV] at HW0
 clear t0 g0 hW0
 go_enter Tryz.func52, Tryz.ntmps52
 go_upto_region 1 with (fail)
 rw [HW0.out]
 go_wp2_with (refine store_row rfl 50 (.tmp 2) (.tmp 4) rfl w.heap.size _ rfl rfl _ _ HG0.out HPI.out rfl rfl ?_)
 refine ret_row rfl rfl w.heap.size _ (outV 1 r 0 (.slice none 0 0)) _ _ rfl (setRow_heap _ _ _ _ _ _ HG0.out) Tryz.underlying50 rfl infoOut ?_
 exact ⟨rfl, HT0.out.setRow _ _ (fun h => absurd h (Nat.lt_irrefl _))⟩
def RPkIs (w w' : World) (b : Nat) (a : Option Addr) (most : Int) (p : PkR) (e : Ending) : Prop :=
 ∃ pa pn pc qa qc, e = .returned (.tuple #[.agg (outV p.v p.r p.b (.slice pa pn pc)), .slice qa p.rs.length qc]) ∧ RowB w' pa pn pc p.xs ∧ RowS w' qa p.rs.length qc 14 (p.rs.map rcl) ∧ RFStep w w' b a most 20 p.M
theorem rpk_drop {w w' : World} {b : Nat} {a : Option Addr} {c : Nat} {most : Int} {L : List FlD} (r : RF w b a c most 20 L) (t : Touch w w' (fun _ => False)) (y : Int) : RPkIs w w' b a most ⟨1, y, 0, [], [], L⟩ (.returned (.tuple #[.agg (outV 1 y 0 (.slice none 0 0)), .slice none 0 0])) :=
 ⟨none, 0, 0, none, 0, rfl, RowB.nil _ _ _ (by omega), RowS.nil _ _ _ _ (by omega), a, c, r.still t, t.mono (fun _ _ h => h.elim), fun y hy => .inr ⟨y, hy, rfl⟩⟩
theorem row_rc {w : World} {B : Nat} {r : RecD} (h : w.heap[B]? = some (.cells (rcs r none 0) 85 (0, 0))) (hr : r.bs = []) : RowS w (some ⟨B, 0, none⟩) 1 1 14 ([r].map rcl) := by
 refine ⟨rfl, Nat.le_refl _, by simp, fun l hl => ?_, .inr ⟨B, 0, rfl, heap_lt h, fun i hi j u hu => ?_⟩⟩
 ·obtain rfl := List.mem_singleton.1 hl
  rfl
 ·have hi0 : i = 0 := by simp at hi; omega
  subst hi0
  have hc := cell_of_cells h j
  simp only [Nat.zero_mul, Nat.zero_add]
  rw [hc]
  simpa [rcl] using hu
theorem RFStep.own {w0 w w1 w2 : World} {b : Nat} {a : Option Addr} {most wait : Int} {L' : List FlD} (t : Touch w0 w (fun _ => False)) (s : RFStep w w1 b a most wait L') (hb : b < w0.heap.size) (hal : ∀ x, a = some x → x.block < w0.heap.size) (B : Nat) (h1 : w0.heap.size ≤ B) (h2 : B < w.heap.size) (t2 : Touch w1 w2 (fun k => k = B)) : RFStep w0 w2 b a most wait L' := by
 obtain ⟨a', c', r, ht, hy⟩ := s
 refine ⟨a', c', r.touch t2 (fun e => by have e : b = B := e; omega) (fun x hx e => ?_), ((t.mono (T := fun k => k = b) (fun _ _ h => h.elim)).trans ht (fun _ _ h => h)).trans t2 (fun k hk e => by have e : k = B := e; omega), fun y hy' => ?_⟩
 ·have e : x.block = B := e
  rcases hy x hx with h3 | ⟨z, hz, h3⟩
  ·omega
  ·have := hal z hz; omega
 ·rcases hy y hy' with h3 | h3
  ·exact .inl ⟨Nat.le_trans t.size h3.1, Nat.lt_of_lt_of_le h3.2 t2.size⟩
  ·exact .inr h3
theorem rowB_not {w : World} {B : Nat} {cs : Array Value} {T : TypeId} {m : Nat × Nat} (h : w.heap[B]? = some (.cells cs T m)) (hcs : ∀ (k : Nat) (x : Int), cs[k]? ≠ some (.int .u8 x)) {pa : Option Addr} {n cp : Nat} {ys : List Nat} (hr : RowB w pa n cp ys) : ∀ x, pa = some x → n = 0 ∨ x.block ≠ B := by
 intro x hx
 rcases hr.2.2.2.2.2 with h0 | ⟨b', off, h0, hc⟩
 ·exact .inl h0
 ·rw [hx] at h0
  obtain rfl := Option.some.inj h0
  by_cases h1 : n = 0
  ·exact .inl h1
  ·right
   rintro rfl
   have h2 := hc 0 (by rw [hr.1]; omega)
   rw [Nat.add_zero, cell_of_cells h off] at h2
   exact hcs _ _ h2
theorem RF.notB {w : World} {b : Nat} {a : Option Addr} {c : Nat} {most wait : Int} {L : List FlD} (r : RF w b a c most wait L) {pa : Option Addr} {n cp : Nat} {ys : List Nat} (hr : RowB w pa n cp ys) : ∀ x, pa = some x → n = 0 ∨ x.block ≠ b :=
 rowB_not r.head (fun k x => by
  match k with
  | 0 => simp
  | 1 => simp
  | 2 => simp
  | k + 3 => simp) hr
theorem out_notB {w : World} {B : Nat} {v r i : Int} {m : Nat × Nat} {T : TypeId} (h : w.heap[B]? = some (.cells (outV v r i (.slice none 0 0)) T m)) {pa : Option Addr} {n cp : Nat} {ys : List Nat} (hr : RowB w pa n cp ys) : ∀ x, pa = some x → n = 0 ∨ x.block ≠ B :=
 rowB_not h (fun k x => by
  match k with
  | 0 => simp [outV]
  | 1 => simp [outV]
  | 2 => simp [outV]
  | 3 => simp [outV]
  | k + 4 => simp [outV]) hr
theorem tup2_injP {a b c d : Value} (h : Value.tuple #[a, b] = Value.tuple #[c, d]) : a = c ∧ b = d := by
 injection h with h
 have h5 : [a, b] = [c, d] := congrArg Array.toList h
 injection h5 with h6 h7
 injection h7 with h7
 exact ⟨h6, h7⟩
set_option maxRecDepth 20000 in
set_option maxHeartbeats 24000000 in
theorem rpacket_any (self slots flows cidle mtu seg quota ver gen now : Int) (w : World) (b X : Nat) (most : Int) (L : List FlD) (bs : List BkD) (T : List Int) (a : Option Addr) (c : Nat) (r : RF w b a c most 20 L) (ab : Option Addr) (lb cb G m : Nat) (x : RCh w X 13 bs T ab lb cb G m) (hnd : (L.map FlD.t).Nodup) (hl : L.length ≤ 1000) (hal : ∀ y, a = some y → y.block < w.heap.size) (hs1 : 0 ≤ self ∧ self ≤ 4294967295) (hbs : ∀ b ∈ bs, 0 ≤ b.addr ∧ b.addr ≤ 4294967295) (hid : ∀ b ∈ bs, 0 ≤ b.id) (ma : Option Addr) (n mc : Nat) (xs : List Nat) (hr : RowB w ma n mc xs) (hn : n ≤ 10000) :
 Calls Tryz.prog 20 #[.agg (cfgC self slots flows cidle mtu seg quota ver), .pointer (some ⟨b, 0, none⟩), .pointer (some ⟨X, 0, none⟩), .int .i64 gen, .int .i64 now, .slice ma n mc] w fun e w' => RPkIs w w' b a most (rpkF self mtu gen now most bs T 13 L xs) e := by
 have hbl := heap_lt r.head
 obtain ⟨Wa, hWa⟩ : ∃ W, w.alloc (.cells (cfgC self slots flows cidle mtu seg quota ver) 26) = W := ⟨_, rfl⟩
 obtain ⟨W0, hW0⟩ : ∃ W, Wa.alloc (.cells (outV 0 0 0 (.slice none 0 0)) 50) = W := ⟨_, rfl⟩
 have ta : Touch w Wa (fun _ => False) := hWa ▸ (Touch.refl w _).alloc _
 have t0' : Touch Wa W0 (fun _ => False) := hW0 ▸ (Touch.refl Wa _).alloc _
 have t0 := ta.trans t0' (fun _ _ h => h)
 have sa : Wa.heap.size = w.heap.size + 1 := by rw [← hWa]; simp
 have gc : W0.heap[w.heap.size]? = some (.cells (cfgC self slots flows cidle mtu seg quota ver) 26 (0, 0)) := t0'.keeps (hWa ▸ heap_alloc_new ..) (fun h => h)
 have g0 : W0.heap[w.heap.size + 1]? = some (.cells (outV 0 0 0 (.slice none 0 0)) 50 (0, 0)) := by
  rw [← sa]; exact hW0 ▸ heap_alloc_new ..
 have HWa := Lib.hid hWa
 have HW0 := Lib.hid hW0
 simp only [cfgC] at HWa ⊢
 simp only [outV] at HW0
 have hsz : w.heap.size + 2 = W0.heap.size := by rw [← hW0]; simp [sa]
 clear hWa hW0
 have htup : Calls Tryz.prog 30 #[.slice ma n mc] W0 fun e w' => e = .returned (.tuple #[.agg (tcs (tupT (tellT xs))), .agg (hcs (tellG xs)), .int .i64 (whyT xs : Nat)]) ∧ Touch W0 w' (fun _ => False) := rtuple_any ma n mc xs W0 (hr.touch t0 (fun _ _ => .inr (fun h => h))) (by omega)
 have hok := tell_ok xs hr.2.2.2.2.1
 have hpk : rpkF self mtu gen now most bs T 13 L xs = if whyT xs ≠ 0 then ⟨1, (whyT xs : Nat), 0, [], [], L⟩ else match backF bs T 13 L (tupT (tellT xs)) with
  | none => ⟨1, 10, 0, [], [], L⟩
  | some b => if whyW xs mtu ≠ 0 then ⟨1, (whyW xs mtu : Nat), 0, [], [], L⟩
    else ⟨2, 0, b.id, wrapF xs self b.addr, rkR L most ⟨tupT (tellT xs), b.id, gen, now⟩ (endsB (kOf (tupT (tellT xs))) xs) (sameP bs L (tupT (tellT xs))), rkM L most ⟨tupT (tellT xs), b.id, gen, now⟩ (endsB (kOf (tupT (tellT xs))) xs) (sameP bs L (tupT (tellT xs)))⟩ := rfl
 obtain ⟨R, hR⟩ : ∃ R, rpkF self mtu gen now most bs T 13 L xs = R := ⟨_, rfl⟩
 obtain ⟨t, ht⟩ : ∃ t, tupT (tellT xs) = t := ⟨_, rfl⟩
 obtain ⟨K, hK⟩ : ∃ K, tellG xs = K := ⟨_, rfl⟩
 obtain ⟨Y, hY⟩ : ∃ Y, whyT xs = Y := ⟨_, rfl⟩
 rw [hR] at hpk ⊢
 rw [ht] at htup hok hpk
 rw [hK, hY] at htup
 rw [hY] at hpk
 have HPK := Lib.hid hpk
 have HTUP := Lib.hid htup
 have HC0 := Lib.hid gc
 have HG0 := Lib.hid g0
 have HT0 := Lib.hid t0
 have HPI := Lib.hid infoOut
 have HRF := Lib.hid r
 have HCH := Lib.hid x
 have HR := Lib.hid hr
 have HSZ := Lib.hid hsz
 have HLA := Lib.hid (And.intro hbl hal)
 have HND := Lib.hid hnd
 have HLN := Lib.hid hl
 have HBS := Lib.hid hbs
 have HID := Lib.hid hid
 have HS1S := Lib.hid hs1
 have HOK := Lib.hid hok
 have HN := Lib.hid hn
 simp only [tcs, hcs] at HTUP
 clear hpk htup gc g0 t0 ta t0' sa r x hR ht hK hY hr hsz hbl hal hnd hl hbs hid hs1 hok hn
 go_enter Tryz.func20, Tryz.ntmps20
 go_upto_region 1 with (fail)
 rw [HWa.out, HW0.out]
 go_wp2_with fail
 (with_reducible refine HTUP.out.mono ?_)
 rintro e w1 ⟨rfl, t1⟩
 obtain ⟨W2, hW2⟩ : ∃ W, w1.alloc (.cells (tcs t) 37) = W := ⟨_, rfl⟩
 obtain ⟨W3, hW3⟩ : ∃ W, W2.alloc (.cells (hcs K) 76) = W := ⟨_, rfl⟩
 have t2 : Touch w1 W2 (fun _ => False) := hW2 ▸ (Touch.refl w1 _).alloc _
 have t3 : Touch W2 W3 (fun _ => False) := hW3 ▸ (Touch.refl W2 _).alloc _
 have g2 : W3.heap[w1.heap.size]? = some (.cells (tcs t) 37 (0, 0)) := t3.keeps (hW2 ▸ heap_alloc_new ..) (fun h => h)
 have t13 := (t1.trans t2 (fun _ _ h => h)).trans t3 (fun _ _ h => h)
 have HTU3 := Lib.hid g2
 have HTX := Lib.hid (HT0.out.trans t13 (fun _ _ h => h))
 have HGX := Lib.hid (t13.keeps HG0.out (fun h => h))
 have HCX := Lib.hid (t13.keeps HC0.out (fun h => h))
 have HW2 := Lib.hid hW2
 have HW3 := Lib.hid hW3
 have HS3 : RowKit.Hid (w.heap.size + 2 ≤ W3.heap.size ∧ w.heap.size + 2 ≤ w1.heap.size) := Lib.hid ⟨by rw [HSZ.out]; exact t13.size, by rw [HSZ.out]; exact t1.size⟩
 simp only [tcs] at HW2
 simp only [hcs] at HW3
 clear t1 t2 t3 g2 t13 hW2 hW3 HTUP HC0 HG0
 go_upto_region 2 with (fail)
 rw [HW2.out, HW3.out]
 by_cases hy : Y = 0
 case neg =>
  have hyn : ((Y : Int) != 0) = true := bne_iff_ne.2 (by omega)
  have HRES := Lib.hid (show R = ⟨1, (Y : Nat), 0, [], [], L⟩ by rw [HPK.out, if_pos hy])
  clear HPK hy
  have HDR := Lib.hid (rdrop_any (Y : Nat) W3)
  simp only [outV] at HDR
  go_wp2_with (first
   | (go_at_call 52; (with_reducible refine HDR.out.mono ?_); rintro e w20 ⟨rfl, t20⟩; have HG20 := Lib.hid (t20.keeps HGX.out (fun h => h)); have HT20 := Lib.hid (HTX.out.trans t20 (fun _ _ h => h)); clear t20)
   | (refine store_row rfl 50 (.tmp 12) (.tmp 36) rfl (w.heap.size + 1) _ rfl rfl _ _ HG20.out HPI.out rfl rfl ?_))
  refine ret_row1 rfl rfl (w.heap.size + 1) _ (outV 1 (Y : Nat) 0 (.slice none 0 0)) _ _ rfl (setRow_heap _ _ _ _ _ _ HG20.out) Tryz.underlying50 rfl infoOut (.slice none 0 0) rfl ?_
  rw [HRES.out]
  exact rpk_drop HRF.out (HT20.out.setRow _ _ (fun h => absurd h (by omega))) _
 case pos =>
 have hyn : ((Y : Int) != 0) = false := by subst hy; rfl
 have hpk2 := HPK.out
 rw [if_neg (fun h => h hy)] at hpk2
 have HPK := Lib.hid hpk2
 have hget := rfget_any W3 b a c most 20 L (HRF.out.still HTX.out) HND.out t
 obtain ⟨y, hyy⟩ : ∃ y, getF L t = y := ⟨_, rfl⟩
 obtain ⟨kn, hkn⟩ : ∃ kn, hasF L t = kn := ⟨_, rfl⟩
 rw [hyy, hkn] at hget
 have HKN := Lib.hid (And.intro hyy hkn)
 have HGET := Lib.hid hget
 simp only [tcs, fca] at HGET
 obtain ⟨q0, q1, q2, q3, q4⟩ : W3.cell? ⟨w1.heap.size, 0, none⟩ = some (.int .u32 t.src) ∧ W3.cell? ⟨w1.heap.size, 1, none⟩ = some (.int .u32 t.dst) ∧ W3.cell? ⟨w1.heap.size, 2, none⟩ = some (.int .i64 t.proto) ∧ W3.cell? ⟨w1.heap.size, 3, none⟩ = some (.int .i64 t.sport) ∧ W3.cell? ⟨w1.heap.size, 4, none⟩ = some (.int .i64 t.dport) := ⟨cell_of_cells HTU3.out 0, cell_of_cells HTU3.out 1, cell_of_cells HTU3.out 2, cell_of_cells HTU3.out 3, cell_of_cells HTU3.out 4⟩
 clear hpk2 hget hyy hkn hy
 go_wp2_with fail
 (with_reducible refine HGET.out.mono ?_)
 rintro e w4 ⟨rfl, t4⟩
 obtain ⟨W5, hW5⟩ : ∃ W, w4.alloc (.cells (fca y) 83) = W := ⟨_, rfl⟩
 have t5 : Touch w4 W5 (fun _ => False) := hW5 ▸ (Touch.refl w4 _).alloc _
 have g5 : W5.heap[w4.heap.size]? = some (.cells (fca y) 83 (0, 0)) := hW5 ▸ heap_alloc_new ..
 have t45 := t4.trans t5 (fun _ _ h => h)
 have HGX := Lib.hid (t45.keeps HGX.out (fun h => h))
 have HCX := Lib.hid (t45.keeps HCX.out (fun h => h))
 have HTX := Lib.hid (HTX.out.trans t45 (fun _ _ h => h))
 have HTU5 := Lib.hid (t45.keeps HTU3.out (fun h => h))
 have HS5 : RowKit.Hid (w.heap.size + 2 ≤ W5.heap.size) := Lib.hid (Nat.le_trans HS3.out.1 t45.size)
 have HW5 := Lib.hid hW5
 have HXX := Lib.hid (HCH.out.still HTX.out)
 have HX1 : RowKit.Hid (∀ W, Touch W5 W (fun _ => False) → W.cell? ⟨X, 1, none⟩ = some (.slice ab lb cb)) := Lib.hid (fun W t => cell_of_cells (t.keeps HXX.out.hc (fun h => h)) 1)
 have HY5 : RowKit.Hid (∀ W, Touch W5 W (fun _ => False) → W.cell? ⟨w4.heap.size, 5, none⟩ = some (.int .i64 y.fb)) := Lib.hid (fun W t => cell_of_cells (t.keeps g5 (fun h => h)) 5)
 obtain ⟨⟨bi1, ba1, bw1⟩, ok1, hbf1⟩ := bkO_form (findF bs y.fb)
 have HFD : RowKit.Hid (∀ W, Touch W5 W (fun _ => False) → Calls Tryz.prog 54 #[.slice ab lb cb, .int .i64 y.fb] W fun e w' => e = .returned (.tuple #[.agg #[.int .i64 bi1, .int .u32 ba1, .int .i64 bw1], .bool ok1]) ∧ Touch W w' (fun _ => False)) := Lib.hid (fun W t => by have := rfind_any ab lb cb bs y.fb W (HXX.out.hr.still t); rwa [findV_O, hbf1] at this)
 have HBF1 := Lib.hid hbf1
 simp only [fca] at HW5
 clear t4 t5 t45 hW5 g5 q0 q1 q2 q3 q4 HGET hbf1
 go_upto_region 5 with (fail)
 rw [HW5.out]
 go_cut [19, 20] (fun s19 s20 wx => ∃ BB, s19 = .pointer (some ⟨BB, 0, none⟩) ∧ s20 = .bool ok1 ∧ wx.heap[BB]? = some (.cells #[.int .i64 bi1, .int .u32 ba1, .int .i64 bw1] 70 (0, 0)) ∧ W5.heap.size ≤ BB ∧ Touch W5 wx (fun _ => False))
 case first =>
  as_aux_lemma =>
   go_wp2_with fail
   have hS := (Touch.refl W5 (fun _ => False)).drew
   refine wp_region_tree (fun w' => Touch W5 w' (fun _ => False)) (.take 0 (.take 1 (.take 2 (.take 3 (.take 4 (.take 5 (.two 6 10 (.take 7 (.take 8 (.take 9 (.one 10 (.one 11 (.take 12 .fin)))))) (.one 6 (.take 7 (.take 8 (.take 9 (.one 11 (.take 12 .fin))))))))))))) (by kernel_rfl) (by kernel_rfl) (by kernel_rfl) (by kernel_rfl) hS ?_
   repeat' (first
    | (with_reducible refine walkT_take ?_)
    | (with_reducible refine walkT_one ?_)
    | (with_reducible refine walkT_two ?_ ?_)
    | (with_reducible refine walkT_fin ?_)
    | ((with_reducible show TakeN _ _ _ _ _ _ _ _); ((refine takeN_take (v := ?_) (some _) rfl rfl (fun _ _ _ h => h) (by rfl) ?_ ?_; rotate_left; (focus (intro w' hw'; have x1 := HX1.out w' hw'; have y5 := HY5.out w' hw'; go_simp; (try with_reducible rfl))); (try simp only [Act.put, List.setIfInBounds_toArray, List.set_cons_zero, List.set_cons_succ]))))
    | ((with_reducible show RunN _ _ _ _ 6 _ _ _); ((refine runN_call 50 54 _ _ _ (HFD.out _ hS) rfl rfl rfl (by rfl) rfl (enter_rfindK _ _ _) ?_; rintro e wb ⟨rfl, tb⟩; (try have HBX := Lib.hid (tb.keeps HBX.out (fun h => h))); refine ⟨_, rfl, hS.trans tb (fun _ _ h => h), fun hS => ?_⟩; clear tb; (try simp only [Act.put, List.setIfInBounds_toArray, List.set_cons_zero, List.set_cons_succ]))))
    | ((with_reducible show RunN _ _ _ _ 10 _ _ _); ((have HBS := Lib.hid hS.size; refine runN_new 19 (fun W => .pointer (some ⟨W.heap.size, 0, none⟩)) #[.int .i64 0, .int .u32 0, .int .i64 0] 70 rfl rfl (by rfl) (by intro W; go_simp <;> first | with_reducible rfl | rfl | exact ⟨rfl, rfl⟩) ?_; intro wd hwd hMd hsd td; have HBX := Lib.hid hMd; refine ⟨hS.trans td (fun _ _ h => h), fun hS => ?_⟩; clear hwd hMd hsd td; (try simp only [Act.put, List.setIfInBounds_toArray, List.set_cons_zero, List.set_cons_succ]))))
    | ((with_reducible show RunN _ _ _ _ 11 _ _ _); ((refine runN_store rfl rfl (by rfl) 70 _ _ rfl _ #[.int .i64 bi1, .int .u32 ba1, .int .i64 bw1] rfl rfl _ _ HBX.out infoBk3 rfl rfl ?_; intro we hMe te; have HBX := Lib.hid hMe; refine ⟨hS.trans te (fun k hk e => by have e : k = _ := e; have := HBS.out; omega), fun hS => ?_⟩; clear hMe te; (try simp only [Act.put, List.setIfInBounds_toArray, List.set_cons_zero, List.set_cons_succ])))))
   all_goals
    go_wp2_with fail
    go_meet
    exact ⟨_, rfl, rfl, HBX.out, HBS.out, hS⟩
 case rest =>
 obtain ⟨BB, rfl, rfl, hbx, hbs5, t6⟩ := hcut
 obtain ⟨wk, hwk⟩ : ∃ W, wc = W := ⟨_, rfl⟩
 rw [hwk] at hbx t6 ⊢
 have HBX := Lib.hid hbx
 have HBB : RowKit.Hid (w.heap.size + 2 ≤ BB) := Lib.hid (Nat.le_trans HS5.out hbs5)
 have HGX := Lib.hid (t6.keeps HGX.out (fun h => h))
 have HCX := Lib.hid (t6.keeps HCX.out (fun h => h))
 have HTU6 := Lib.hid (t6.keeps HTU5.out (fun h => h))
 have HBN : RowKit.Hid (w1.heap.size < BB) := Lib.hid (Nat.lt_of_lt_of_le (heap_lt HTU5.out) hbs5)
 have HTX := Lib.hid (HTX.out.trans t6 (fun _ _ h => h))
 clear hbx hbs5 t6 hwk HXX HX1 HY5 HFD HTU5 HTU3
 go_upto_region 6 with (fail)
 go_cut [21] (fun s wx => s = .bool (kn && ok1) ∧ wk = wx)
 case first =>
  cases kn <;> cases ok1
  all_goals
   go_wp2_with fail
   go_meet
   exact ⟨rfl, rfl⟩
 case rest =>
 obtain ⟨rfl, rfl⟩ := hcut
 obtain ⟨⟨bi, ba, bw⟩, okF, hbO⟩ := bkO_form (backF bs T 13 L t)
 have hsm : sameP bs L t = (kn && ok1) := by
  unfold sameP
  rw [HKN.out.1, HKN.out.2]
  congr 1
  have := HBF1.out
  cases hf : findF bs y.fb with
  | none => rw [hf] at this; obtain ⟨-, h2⟩ := tup2_injP this; injection h2 with h2
  | some z => rw [hf] at this; obtain ⟨-, h2⟩ := tup2_injP this; injection h2 with h2
 have hbk : backF bs T 13 L t = match (if kn then findF bs y.fb else none) with | some b => some b | none => pickO bs T 13 t := by
  unfold backF
  rw [HKN.out.1, HKN.out.2]
  rfl
 have hS1 : (kn && ok1) = true → (⟨bi1, ba1, bw1⟩ : BkD) = ⟨bi, ba, bw⟩ ∧ okF = true ∧ ok1 = true := by
  intro h
  rw [Bool.and_eq_true] at h
  rw [h.1, if_pos rfl] at hbk
  have h1 := HBF1.out
  cases hf : findF bs y.fb with
  | none => rw [hf] at h1; obtain ⟨-, h2⟩ := tup2_injP h1; injection h2 with h2; rw [h.2] at h2; cases h2
  | some z =>
    rw [hf] at hbk h1
    rw [hbk] at hbO
    have h2 := h1.symm.trans hbO
    obtain ⟨h3, h4⟩ := tup2_injP h2
    injection h4 with h4
    exact ⟨bkV_inj h3, by rw [← h4]; exact h.2, h.2⟩
 have hS0 : (kn && ok1) = false → bkO (pickO bs T 13 t) = .tuple #[bkV' ⟨bi, ba, bw⟩, .bool okF] := by
  intro h
  rw [← hbO, hbk]
  cases kn with
  | false => rfl
  | true =>
    rw [if_pos rfl]
    have h1 := HBF1.out
    cases hf : findF bs y.fb with
    | none => rfl
    | some z => rw [hf] at h1; obtain ⟨-, h2⟩ := tup2_injP h1; injection h2 with h2; rw [← h2] at h; cases h
 have HPI1 := Lib.hid (rpick_any 13 X ab lb cb G m bs T t wk (by omega) (by omega) HOK.out (HCH.out.still HTX.out) HID.out)
 rw [← hsm] at hS1 hS0
 rw [← hsm]
 have HBO := Lib.hid hbO
 have HPK : RowKit.Hid (R = (match backF bs T 13 L t with
  | none => ⟨1, 10, 0, [], [], L⟩
  | some b => if whyW xs mtu ≠ 0 then ⟨1, (whyW xs mtu : Nat), 0, [], [], L⟩
    else ⟨2, 0, b.id, wrapF xs self b.addr, rkR L most ⟨t, b.id, gen, now⟩ (endsB (kOf t) xs) (sameP bs L t), rkM L most ⟨t, b.id, gen, now⟩ (endsB (kOf t) xs) (sameP bs L t)⟩)) := Lib.hid HPK.out
 clear hbk hbO hsm HBF1
 generalize sameP bs L t = sm at *
 have HS1 := Lib.hid (And.intro hS1 hS0)
 clear hS1 hS0
 go_upto_if 58 with (fail)
 go_cut [20] (fun s wx => s = .bool okF ∧ wx.heap[BB]? = some (.cells #[.int .i64 bi, .int .u32 ba, .int .i64 bw] 70 (0, 0)) ∧ Touch wk wx (fun k => k = BB))
 case first =>
  as_aux_lemma =>
   cases sm with
   | true =>
     obtain ⟨h1, h2, h3⟩ := HS1.out.1 rfl
     injection h1 with e1 e2 e3
     subst e1 e2 e3
     go_wp2_with fail
     go_meet
     exact ⟨by first | rfl | (rw [h2, h3]) | (rw [h2]), HBX.out, Touch.refl _ _⟩
   | false =>
     have hpk := HPI1.out
     rw [HS1.out.2 rfl] at hpk
     have HPK2 := Lib.hid hpk
     simp only [tcs, bkV'] at HPK2
     obtain ⟨q0, q1, q2, q3, q4⟩ : wk.cell? ⟨w1.heap.size, 0, none⟩ = some (.int .u32 t.src) ∧ wk.cell? ⟨w1.heap.size, 1, none⟩ = some (.int .u32 t.dst) ∧ wk.cell? ⟨w1.heap.size, 2, none⟩ = some (.int .i64 t.proto) ∧ wk.cell? ⟨w1.heap.size, 3, none⟩ = some (.int .i64 t.sport) ∧ wk.cell? ⟨w1.heap.size, 4, none⟩ = some (.int .i64 t.dport) := ⟨cell_of_cells HTU6.out 0, cell_of_cells HTU6.out 1, cell_of_cells HTU6.out 2, cell_of_cells HTU6.out 3, cell_of_cells HTU6.out 4⟩
     clear hpk
     go_wp2_with (first
      | (go_at_call 55; (with_reducible refine HPK2.out.mono ?_); rintro e w7 ⟨rfl, t7⟩; have HB7 := Lib.hid (t7.keeps HBX.out (fun h => h)); have HT7 := Lib.hid t7; clear t7)
      | (refine store_row rfl 70 (.tmp 19) (.tmp 63) rfl BB _ rfl rfl _ _ HB7.out infoBk3 rfl rfl ?_))
     go_meet
     exact ⟨rfl, setRow_heap _ _ _ _ _ _ HB7.out, (HT7.out.mono (fun _ _ h => h.elim)).setRow _ _ (fun _ => rfl)⟩
 case rest =>
 obtain ⟨rfl, hbx, t7⟩ := hcut
 obtain ⟨wl, hwl⟩ : ∃ W, wc = W := ⟨_, rfl⟩
 rw [hwl] at hbx t7 ⊢
 have HBX := Lib.hid hbx
 have HGX := Lib.hid (t7.keeps HGX.out (fun e => by have e : w.heap.size + 1 = BB := e; have := HBB.out; omega))
 have HCX := Lib.hid (t7.keeps HCX.out (fun e => by have e : w.heap.size = BB := e; have := HBB.out; omega))
 have HTU7 := Lib.hid (t7.keeps HTU6.out (fun e => by have e : w1.heap.size = BB := e; have := HBN.out; omega))
 have HTX := Lib.hid (HTX.out.trans t7 (fun k hk e => by have e : k = BB := e; have := HBB.out; omega))
 clear hbx t7 hwl HS1 HPI1 HTU6
 cases hO : backF bs T 13 L t with
 | none =>
   have HRES := Lib.hid (show R = ⟨1, 10, 0, [], [], L⟩ by rw [HPK.out, hO])
   have hx := HBO.out
   rw [hO] at hx
   obtain ⟨-, h2⟩ := tup2_injP hx
   injection h2 with h2
   subst h2
   clear hx HPK HBO hO
   have HDR := Lib.hid (rdrop_any 10 wl)
   simp only [outV] at HDR
   go_wp2_with (first
    | (go_at_call 52; (with_reducible refine HDR.out.mono ?_); rintro e w20 ⟨rfl, t20⟩; have HG20 := Lib.hid (t20.keeps HGX.out (fun h => h)); have HT20 := Lib.hid (HTX.out.trans t20 (fun _ _ h => h)); clear t20)
    | (refine store_row rfl 50 (.tmp 12) (.tmp 67) rfl (w.heap.size + 1) _ rfl rfl _ _ HG20.out HPI.out rfl rfl ?_; (repeat (first | go_values | go_skip | go_guarded | go_step | go_upon)); refine ret_row1 rfl rfl (w.heap.size + 1) _ (outV 1 10 0 (.slice none 0 0)) _ _ rfl (setRow_heap _ _ _ _ _ _ HG20.out) Tryz.underlying50 rfl infoOut (.slice none 0 0) rfl ?_; rw [HRES.out]; exact rpk_drop HRF.out (HT20.out.setRow _ _ (fun h => absurd h (by omega))) _))
 | some b0 =>
 have hx := HBO.out
 rw [hO] at hx
 obtain ⟨h1, h2⟩ := tup2_injP hx
 injection h2 with h2
 have h3 := bkV_inj h1
 have hpk2 := HPK.out
 rw [hO] at hpk2
 simp only at hpk2
 have had := HBS.out b0 (backF_mem hO)
 have HBX : RowKit.Hid (wl.heap[BB]? = some (.cells #[.int .i64 b0.id, .int .u32 b0.addr, .int .i64 b0.weight] 70 (0, 0))) := Lib.hid (by subst h3; exact HBX.out)
 have HPK := Lib.hid hpk2
 subst h2
 clear hx h1 h3 hpk2 HBO hO
 have c0 : wl.cell? ⟨w.heap.size, 0, none⟩ = some (.int .u32 self) := cell_of_cells HCX.out 0
 have c4 : wl.cell? ⟨w.heap.size, 4, none⟩ = some (.int .i64 mtu) := cell_of_cells HCX.out 4
 have z1 : wl.cell? ⟨BB, 1, none⟩ = some (.int .u32 b0.addr) := cell_of_cells HBX.out 1
 have hwr := rwrap_any ma n mc xs self b0.addr mtu wl (HR.out.touch HTX.out (fun _ _ => .inr (fun h => h))) (by have := HN.out; omega) HS1S.out had
 have htw : whyW xs mtu = 0 → tellW xs self b0.addr mtu = wrapF xs self b0.addr := fun h => by unfold tellW; rw [if_pos h]
 obtain ⟨V, hV⟩ : ∃ V, whyW xs mtu = V := ⟨_, rfl⟩
 rw [hV] at hwr htw
 have HPK := Lib.hid (show R = (if V ≠ 0 then ⟨1, (V : Nat), 0, [], [], L⟩
  else ⟨2, 0, b0.id, wrapF xs self b0.addr, rkR L most ⟨t, b0.id, gen, now⟩ (endsB (kOf t) xs) sm, rkM L most ⟨t, b0.id, gen, now⟩ (endsB (kOf t) xs) sm⟩) by rw [HPK.out, hV])
 have HWR := Lib.hid hwr
 have HTW := Lib.hid htw
 clear hwr htw hV had
 go_wp2_with fail
 (with_reducible refine HWR.out.mono ?_)
 rintro e w6 ⟨pa, pn, pc, rfl, hpr, t6⟩
 have HT6 := Lib.hid (HTX.out.trans t6 (fun _ _ h => h))
 have HG6 := Lib.hid (t6.keeps HGX.out (fun h => h))
 have HTU6 := Lib.hid (t6.keeps HTU7.out (fun h => h))
 have HBX6 := Lib.hid (t6.keeps HBX.out (fun h => h))
 have HPR := Lib.hid hpr
 have HS6 : RowKit.Hid (w.heap.size + 2 ≤ w6.heap.size ∧ w1.heap.size < w6.heap.size ∧ BB < w6.heap.size) := Lib.hid ⟨by have := heap_lt HBX6.out; have := HBB.out; omega, heap_lt HTU6.out, heap_lt HBX6.out⟩
 clear t6 hpr c0 c4 z1 HWR
 go_upto_region 12 with (fail)
 by_cases hv : V = 0
 case neg =>
  have hvn : ((V : Int) != 0) = true := bne_iff_ne.2 (by omega)
  have HRES := Lib.hid (show R = ⟨1, (V : Nat), 0, [], [], L⟩ by rw [HPK.out, if_pos hv])
  clear HPK hv
  have HDR := Lib.hid (rdrop_any (V : Nat) w6)
  simp only [outV] at HDR
  go_wp2_with (first
   | (go_at_call 52; (with_reducible refine HDR.out.mono ?_); rintro e w20 ⟨rfl, t20⟩; have HG20 := Lib.hid (t20.keeps HG6.out (fun h => h)); have HT20 := Lib.hid (HT6.out.trans t20 (fun _ _ h => h)); clear t20)
   | (refine store_row rfl 50 (.tmp 12) (.tmp 82) rfl (w.heap.size + 1) _ rfl rfl _ _ HG20.out HPI.out rfl rfl ?_; (repeat (first | go_values | go_skip | go_guarded | go_step | go_upon)); refine ret_row1 rfl rfl (w.heap.size + 1) _ (outV 1 (V : Nat) 0 (.slice none 0 0)) _ _ rfl (setRow_heap _ _ _ _ _ _ HG20.out) Tryz.underlying50 rfl infoOut (.slice none 0 0) rfl ?_; rw [HRES.out]; exact rpk_drop HRF.out (HT20.out.setRow _ _ (fun h => absurd h (by omega))) _))
 case pos =>
 have hvn : ((V : Int) != 0) = false := by subst hv; rfl
 have hpr := HPR.out
 rw [HTW.out hv] at hpr
 have HPR := Lib.hid hpr
 have HRES := Lib.hid (show R = ⟨2, 0, b0.id, wrapF xs self b0.addr, rkR L most ⟨t, b0.id, gen, now⟩ (endsB (kOf t) xs) sm, rkM L most ⟨t, b0.id, gen, now⟩ (endsB (kOf t) xs) sm⟩ by rw [HPK.out, if_neg (fun h => h hv)])
 obtain ⟨f, hf⟩ : ∃ f : FlD, (⟨t, b0.id, gen, now⟩ : FlD) = f := ⟨_, rfl⟩
 obtain ⟨W7, hW7⟩ : ∃ W, w6.alloc (.cells (outV 2 0 b0.id (.slice pa pn pc)) 50) = W := ⟨_, rfl⟩
 obtain ⟨W8, hW8⟩ : ∃ W, W7.alloc (.cells (fca f) 83) = W := ⟨_, rfl⟩
 have t7 : Touch w6 W7 (fun _ => False) := hW7 ▸ (Touch.refl w6 _).alloc _
 have t8 : Touch W7 W8 (fun _ => False) := hW8 ▸ (Touch.refl W7 _).alloc _
 have t78 := t7.trans t8 (fun _ _ h => h)
 have g7 : W7.heap[w6.heap.size]? = some (.cells (outV 2 0 b0.id (.slice pa pn pc)) 50 (0, 0)) := hW7 ▸ heap_alloc_new ..
 have HO8 := Lib.hid (t8.keeps g7 (fun h => h))
 have HFL8 : RowKit.Hid (W8.heap[W7.heap.size]? = some (.cells (fca f) 83 (0, 0))) := Lib.hid (hW8 ▸ heap_alloc_new ..)
 have HT8 := Lib.hid (HT6.out.trans t78 (fun _ _ h => h))
 have HG8 := Lib.hid (t78.keeps HG6.out (fun h => h))
 have HTU8 := Lib.hid (t78.keeps HTU6.out (fun h => h))
 have HPR8 := Lib.hid (HPR.out.touch t78 (fun _ _ => .inr (fun h => h)))
 have HS7 : RowKit.Hid (w6.heap.size < W7.heap.size) := Lib.hid (heap_lt g7)
 have HFE := Lib.hid hf
 have HW7 := Lib.hid hW7
 have HW8 := Lib.hid hW8
 have HTU7 := Lib.hid (t7.keeps HTU6.out (fun h => h))
 have HBX7 := Lib.hid (t7.keeps HBX6.out (fun h => h))
 rw [← hf] at HW8
 simp only [outV] at HW7
 simp only [fca] at HW8
 have z0 : w6.cell? ⟨BB, 0, none⟩ = some (.int .i64 b0.id) := cell_of_cells HBX6.out 0
 clear t7 t8 t78 g7 hW7 hW8 hf hpr hv HPK HTW
 go_upto_region 15 with (fail)
 rw [HW7.out]
 clear z0
 have z0 : W7.cell? ⟨BB, 0, none⟩ = some (.int .i64 b0.id) := cell_of_cells HBX7.out 0
 obtain ⟨q0, q1, q2, q3, q4⟩ : W7.cell? ⟨w1.heap.size, 0, none⟩ = some (.int .u32 t.src) ∧ W7.cell? ⟨w1.heap.size, 1, none⟩ = some (.int .u32 t.dst) ∧ W7.cell? ⟨w1.heap.size, 2, none⟩ = some (.int .i64 t.proto) ∧ W7.cell? ⟨w1.heap.size, 3, none⟩ = some (.int .i64 t.sport) ∧ W7.cell? ⟨w1.heap.size, 4, none⟩ = some (.int .i64 t.dport) := ⟨cell_of_cells HTU7.out 0, cell_of_cells HTU7.out 1, cell_of_cells HTU7.out 2, cell_of_cells HTU7.out 3, cell_of_cells HTU7.out 4⟩
 go_upto_region 16 with (fail)
 rw [HW8.out]
 clear z0 q0 q1 q2 q3 q4
 obtain ⟨q0, q1, q2, q3, q4⟩ : W8.cell? ⟨w1.heap.size, 0, none⟩ = some (.int .u32 t.src) ∧ W8.cell? ⟨w1.heap.size, 1, none⟩ = some (.int .u32 t.dst) ∧ W8.cell? ⟨w1.heap.size, 2, none⟩ = some (.int .i64 t.proto) ∧ W8.cell? ⟨w1.heap.size, 3, none⟩ = some (.int .i64 t.sport) ∧ W8.cell? ⟨w1.heap.size, 4, none⟩ = some (.int .i64 t.dport) := ⟨cell_of_cells HTU8.out 0, cell_of_cells HTU8.out 1, cell_of_cells HTU8.out 2, cell_of_cells HTU8.out 3, cell_of_cells HTU8.out 4⟩
 have hen : Calls Tryz.prog 57 #[.agg (tcs t), .slice ma n mc] W8 fun e w' => e = .returned (.bool (endsB (kOf t) xs)) ∧ Touch W8 w' (fun _ => False) := rends_any (kOf t) ma n mc xs W8 (HR.out.touch HT8.out (fun _ _ => .inr (fun h => h))) (by have := HN.out; omega)
 obtain ⟨E, hE⟩ : ∃ E, endsB (kOf t) xs = E := ⟨_, rfl⟩
 rw [hE] at hen
 have HRES := Lib.hid (show R = ⟨2, 0, b0.id, wrapF xs self b0.addr, rkR L most f E sm, rkM L most f E sm⟩ by rw [HRES.out, hE, ← HFE.out])
 have HEN := Lib.hid hen
 simp only [tcs] at HEN
 clear hen hE
 go_wp2_with fail
 (with_reducible refine HEN.out.mono ?_)
 rintro e w8 ⟨rfl, t8⟩
 have HT8 := Lib.hid (HT8.out.trans t8 (fun _ _ h => h))
 have HG8 := Lib.hid (t8.keeps HG8.out (fun h => h))
 have HO8 := Lib.hid (t8.keeps HO8.out (fun h => h))
 have HTU8 := Lib.hid (t8.keeps HTU8.out (fun h => h))
 have HFL8 := Lib.hid (t8.keeps HFL8.out (fun h => h))
 have HPR8 := Lib.hid (HPR8.out.touch t8 (fun _ _ => .inr (fun h => h)))
 have HRF8 := Lib.hid (HRF.out.still HT8.out)
 have HN5A : RowKit.Hid (¬ w1.heap.size = w.heap.size + 1) := Lib.hid (by have := HS3.out.2; omega)
 have HN6 : RowKit.Hid (¬ w6.heap.size = w.heap.size + 1) := Lib.hid (by have := HS6.out.1; omega)
 have HN5B : RowKit.Hid (¬ W7.heap.size = w.heap.size + 1) := Lib.hid (by have := HS6.out.1; have := HS7.out; omega)
 have HNB : RowKit.Hid (∀ B, w.heap.size ≤ B → ¬ B = b) := Lib.hid (fun B h e => by have := HLA.out.1; omega)
 have HNL : RowKit.Hid (∀ B, w.heap.size + 1 < B → ¬ w.heap.size + 1 = B) := Lib.hid (fun B h e => by omega)
 have HEND : RowKit.Hid (∀ (w9 w11 : World) (qa : Option Addr) (qc : Nat) (rs : List RecD) (L' : List FlD), RFStep w8 w9 b a most 20 L' → Touch w9 w11 (fun k => k = w.heap.size + 1) → RowS w11 qa rs.length qc 14 (rs.map rcl) → R = ⟨2, 0, b0.id, wrapF xs self b0.addr, rs, L'⟩ → RPkIs w w11 b a most R (.returned (.tuple #[.agg (outV 2 0 b0.id (.slice pa pn pc)), .slice qa rs.length qc]))) := Lib.hid (by
  intro w9 w11 qa qc rs L' h1 h2 h3 h4
  rw [h4]
  refine ⟨pa, pn, pc, qa, qc, rfl, ?_, h3, RFStep.own HT8.out h1 HLA.out.1 HLA.out.2 (w.heap.size + 1) (by omega) (heap_lt HG8.out) h2⟩
  have h5 := h1
  obtain ⟨a', c', r9, t9, -⟩ := h5
  have p9 := HPR8.out.touch t9 (fun x hx => RF.notB HRF8.out HPR8.out x hx)
  refine p9.touch h2 (fun x hx => ?_)
  exact out_notB (t9.keeps HG8.out (HNB.out _ (by omega))) p9 x hx)
 clear t8 q0 q1 q2 q3 q4 HEN HTU6 HTU7 HBX6 HBX7 HG6 HT6 HPR
 cases E with
 | true =>
   have hdr := rfdrop_any w8 b a c most 20 L HRF8.out HND.out HLN.out t
   rw [HKN.out.2] at hdr
   have HDR := Lib.hid hdr
   simp only [tcs] at HDR
   obtain ⟨q0, q1, q2, q3, q4⟩ : w8.cell? ⟨w1.heap.size, 0, none⟩ = some (.int .u32 t.src) ∧ w8.cell? ⟨w1.heap.size, 1, none⟩ = some (.int .u32 t.dst) ∧ w8.cell? ⟨w1.heap.size, 2, none⟩ = some (.int .i64 t.proto) ∧ w8.cell? ⟨w1.heap.size, 3, none⟩ = some (.int .i64 t.sport) ∧ w8.cell? ⟨w1.heap.size, 4, none⟩ = some (.int .i64 t.dport) := ⟨cell_of_cells HTU8.out 0, cell_of_cells HTU8.out 1, cell_of_cells HTU8.out 2, cell_of_cells HTU8.out 3, cell_of_cells HTU8.out 4⟩
   clear hdr
   go_wp2_with fail
   (with_reducible refine HDR.out.mono ?_)
   rintro e w9 ⟨rfl, s9⟩
   have HST := Lib.hid s9
   obtain ⟨a9, c9, r9, t9, -⟩ := s9
   have HG9 := Lib.hid (t9.keeps HG8.out (HNB.out _ (by omega)))
   have HO9 := Lib.hid (t9.keeps HO8.out (HNB.out _ (by have := HS6.out.1; omega)))
   have HTU9 := Lib.hid (t9.keeps HTU8.out (HNB.out _ (by have := HS3.out.2; omega)))
   have HFL9 := Lib.hid (t9.keeps HFL8.out (HNB.out _ (by have := HS6.out.1; have := HS7.out; omega)))
   clear r9 t9
   clear q0 q1 q2 q3 q4 HDR
   cases kn with
   | true =>
     have HRES := Lib.hid (show R = ⟨2, 0, b0.id, wrapF xs self b0.addr, [recF 2 ⟨t, 0, 0, 0⟩], delF L t⟩ by
      rw [HRES.out, ← HFE.out]
      show (⟨2, 0, b0.id, _, (if hasF L t then [recF 2 ⟨t, 0, 0, 0⟩] else []), delF L t⟩ : PkR) = _
      rw [HKN.out.2]; rfl)
     have HN5 := HN5A
     as_aux_lemma =>
      have HG9 : RowKit.Hid (w9.drew.heap[w.heap.size + 1]? = some (.cells (outV 0 0 0 (.slice none 0 0)) 50 (0, 0))) := Lib.hid HG9.out
      have HTT : RowKit.Hid (Touch w9 w9.drew (fun k => k = w.heap.size + 1)) := Lib.hid (Touch.refl w9 _).drew
      go_upto_region 18 with (fail)
      have hS := And.intro HO9.out HTU9.out
      refine wp_region_tree (fun w' => w'.heap[w6.heap.size]? = some (.cells (outV 2 0 b0.id (.slice pa pn pc)) 50 (0, 0)) ∧ w'.heap[w1.heap.size]? = some (.cells #[.int .u32 t.src, .int .u32 t.dst, .int .i64 t.proto, .int .i64 t.sport, .int .i64 t.dport] 37 (0, 0))) (.take 0 (.take 1 (.take 2 (.take 3 (.two 4 5 (.one 5 (.take 6 .fin)) (.one 4 (.take 6 .fin))))))) (by kernel_rfl) (by kernel_rfl) (by kernel_rfl) (by kernel_rfl) hS ?_
      repeat' (first
       | (with_reducible refine walkT_take ?_)
       | (with_reducible refine walkT_one ?_)
       | (with_reducible refine walkT_two ?_ ?_)
       | (with_reducible refine walkT_fin ?_)
       | ((with_reducible show TakeN _ _ _ _ 0 _ _ _); ((refine takeN_row (some 100) rfl rfl 50 (.tmp 23) rfl (w6.heap.size) rfl _ _ _ _ (fun w' h => h.1) Tryz.underlying50 rfl infoOut (fun _ _ _ h => h) (by rfl) ?_; (try simp only [Act.put, List.setIfInBounds_toArray, List.set_cons_zero, List.set_cons_succ]))))
       | ((with_reducible show TakeN _ _ _ _ 1 _ _ _); ((refine takeN_row (some 101) rfl rfl 37 (.tmp 14) rfl (w1.heap.size) rfl _ _ _ _ (fun w' h => h.2) Tryz.underlying37 rfl infoT (fun _ _ _ h => h) (by rfl) ?_; (try simp only [Act.put, List.setIfInBounds_toArray, List.set_cons_zero, List.set_cons_succ]))))
       | ((with_reducible show TakeN _ _ _ _ 2 _ _ _); ((refine takeN_flow 102 _ rfl rfl rfl _ _ _ _ _ rfl (fun _ _ _ _ h => h) (by rfl) ?_; (try simp only [Act.put, List.setIfInBounds_toArray, List.set_cons_zero, List.set_cons_succ]))))
       | ((with_reducible show TakeN _ _ _ _ 3 _ _ _); ((refine takeN_rec 103 _ _ rfl rfl rfl 2 _ _ _ _ _ _ _ _ rfl rfl (fun _ _ _ _ h => h) (by rfl) ?_; (try simp only [Act.put, List.setIfInBounds_toArray, List.set_cons_zero, List.set_cons_succ]))))
       | ((with_reducible show TakeN _ _ _ _ 6 _ _ _); ((refine takeN_take (v := ?_) (some 13) rfl rfl (fun _ _ _ h => h) (by rfl) ?_ ?_; rotate_left; (focus (intro w' hw'; go_simp; (try with_reducible rfl))); (try simp only [Act.put, List.setIfInBounds_toArray, List.set_cons_zero, List.set_cons_succ]))))
       | ((with_reducible show RunN _ _ _ _ 4 _ _ _); ((refine runN_rec 104 _ rfl rfl rfl (recF 2 ⟨t, 0, 0, 0⟩) rfl rfl (by rfl) ?_; intro wd hwd hMd hsd td; have HRX := Lib.hid hMd; have HNX := Lib.hid (Ne.symm (HNL.out _ (heap_lt HG9.out))); have HTT := Lib.hid (HTT.out.trans (td.mono (fun _ _ h => h.elim)) (fun _ _ h => h)); have HG9 := Lib.hid (td.keeps HG9.out (fun h => h)); refine ⟨⟨td.keeps hS.1 (fun h => h), td.keeps hS.2 (fun h => h)⟩, fun hS => ?_⟩; clear hwd hMd hsd td; (try simp only [Act.put, List.setIfInBounds_toArray, List.set_cons_zero, List.set_cons_succ]))))
       | ((with_reducible show RunN _ _ _ _ 5 _ _ _); ((refine runN_store rfl rfl (by rfl) 50 _ _ rfl (w.heap.size + 1) (outV 2 0 b0.id (.slice pa pn pc)) rfl rfl _ _ HG9.out infoOut rfl rfl ?_; intro we hMe te; have HTT := Lib.hid (HTT.out.trans te (fun _ _ h => h)); (try have HRX := Lib.hid (te.keeps HRX.out HNX.out)); have HG9 := Lib.hid hMe; refine ⟨⟨te.keeps hS.1 HN6.out, te.keeps hS.2 HN5.out⟩, fun hS => ?_⟩; clear hMe te; (try simp only [Act.put, List.setIfInBounds_toArray, List.set_cons_zero, List.set_cons_succ])))))
      all_goals
       (repeat (first | go_values | go_skip | go_guarded | go_step | go_upon))
       refine ret_row1 rfl rfl (w.heap.size + 1) _ (outV 2 0 b0.id (.slice pa pn pc)) _ _ rfl HG9.out Tryz.underlying50 rfl infoOut _ rfl ?_
       exact HEND.out _ _ _ _ [_] _ HST.out HTT.out (row_rc HRX.out rfl) HRES.out
   | false =>
     have HRES := Lib.hid (show R = ⟨2, 0, b0.id, wrapF xs self b0.addr, [], delF L t⟩ by
      rw [HRES.out, ← HFE.out]
      show (⟨2, 0, b0.id, _, (if hasF L t then [recF 2 ⟨t, 0, 0, 0⟩] else []), delF L t⟩ : PkR) = _
      rw [HKN.out.2]; rfl)
     obtain ⟨o0, o1, o2, o3⟩ : w9.cell? ⟨w6.heap.size, 0, none⟩ = some (.int .i64 2) ∧ w9.cell? ⟨w6.heap.size, 1, none⟩ = some (.int .i64 0) ∧ w9.cell? ⟨w6.heap.size, 2, none⟩ = some (.int .i64 b0.id) ∧ w9.cell? ⟨w6.heap.size, 3, none⟩ = some (.slice pa pn pc) := ⟨cell_of_cells HO9.out 0, cell_of_cells HO9.out 1, cell_of_cells HO9.out 2, cell_of_cells HO9.out 3⟩
     go_wp2_with (refine store_row rfl 50 (.tmp 12) (.tmp 105) rfl (w.heap.size + 1) _ rfl rfl _ _ HG9.out HPI.out rfl rfl ?_; (repeat (first | go_values | go_skip | go_guarded | go_step | go_upon)); refine ret_row1 rfl rfl (w.heap.size + 1) _ (outV 2 0 b0.id (.slice pa pn pc)) _ _ rfl (setRow_heap _ _ _ _ _ _ HG9.out) Tryz.underlying50 rfl infoOut (.slice none 0 0) rfl ?_; exact HEND.out _ _ none 0 [] _ HST.out ((Touch.refl w9 _).setRow _ _ (fun _ => rfl)) (RowS.nil _ _ _ _ (by omega)) HRES.out)
 | false =>
   cases sm with
   | true =>
     have hto := rftouch_any w8 b a c most 20 L HRF8.out HND.out HLN.out t now
     have HDR := Lib.hid hto
     simp only [tcs] at HDR
     obtain ⟨q0, q1, q2, q3, q4⟩ : w8.cell? ⟨w1.heap.size, 0, none⟩ = some (.int .u32 t.src) ∧ w8.cell? ⟨w1.heap.size, 1, none⟩ = some (.int .u32 t.dst) ∧ w8.cell? ⟨w1.heap.size, 2, none⟩ = some (.int .i64 t.proto) ∧ w8.cell? ⟨w1.heap.size, 3, none⟩ = some (.int .i64 t.sport) ∧ w8.cell? ⟨w1.heap.size, 4, none⟩ = some (.int .i64 t.dport) := ⟨cell_of_cells HTU8.out 0, cell_of_cells HTU8.out 1, cell_of_cells HTU8.out 2, cell_of_cells HTU8.out 3, cell_of_cells HTU8.out 4⟩
     clear hto
     go_wp2_with fail
     (with_reducible refine HDR.out.mono ?_)
     rintro e w9 ⟨rfl, s9⟩
     have HST := Lib.hid s9
     obtain ⟨a9, c9, r9, t9, -⟩ := s9
     have HG9 := Lib.hid (t9.keeps HG8.out (HNB.out _ (by omega)))
     have HO9 := Lib.hid (t9.keeps HO8.out (HNB.out _ (by have := HS6.out.1; omega)))
     have HTU9 := Lib.hid (t9.keeps HTU8.out (HNB.out _ (by have := HS3.out.2; omega)))
     have HFL9 := Lib.hid (t9.keeps HFL8.out (HNB.out _ (by have := HS6.out.1; have := HS7.out; omega)))
     clear r9 t9
     clear q0 q1 q2 q3 q4 HDR
     have HRES := Lib.hid (show R = ⟨2, 0, b0.id, wrapF xs self b0.addr, [], rtouF L t now⟩ by
      rw [HRES.out, ← HFE.out]; rfl)
     obtain ⟨o0, o1, o2, o3⟩ : w9.cell? ⟨w6.heap.size, 0, none⟩ = some (.int .i64 2) ∧ w9.cell? ⟨w6.heap.size, 1, none⟩ = some (.int .i64 0) ∧ w9.cell? ⟨w6.heap.size, 2, none⟩ = some (.int .i64 b0.id) ∧ w9.cell? ⟨w6.heap.size, 3, none⟩ = some (.slice pa pn pc) := ⟨cell_of_cells HO9.out 0, cell_of_cells HO9.out 1, cell_of_cells HO9.out 2, cell_of_cells HO9.out 3⟩
     go_wp2_with (refine store_row rfl 50 (.tmp 12) (.tmp 112) rfl (w.heap.size + 1) _ rfl rfl _ _ HG9.out HPI.out rfl rfl ?_; (repeat (first | go_values | go_skip | go_guarded | go_step | go_upon)); refine ret_row1 rfl rfl (w.heap.size + 1) _ (outV 2 0 b0.id (.slice pa pn pc)) _ _ rfl (setRow_heap _ _ _ _ _ _ HG9.out) Tryz.underlying50 rfl infoOut (.slice none 0 0) rfl ?_; exact HEND.out _ _ none 0 [] _ HST.out ((Touch.refl w9 _).setRow _ _ (fun _ => rfl)) (RowS.nil _ _ _ _ (by omega)) HRES.out)
   | false =>
     have hpu := rfput_any w8 b a c most 20 L HRF8.out HLN.out f
     obtain ⟨pB, hpB⟩ : ∃ x, rpB L most f = x := ⟨_, rfl⟩
     obtain ⟨pE, hpE⟩ : ∃ x, rpE L most f = x := ⟨_, rfl⟩
     rw [hpB, hpE] at hpu
     have HDR := Lib.hid hpu
     simp only [fca] at HDR
     obtain ⟨f0, f1, f2, f3, f4, f5, f6, f7⟩ := fcells_of HFL8.out
     clear hpu hpB
     go_wp2_with fail
     (with_reducible refine HDR.out.mono ?_)
     rintro e w9 ⟨rfl, s9⟩
     have HST := Lib.hid s9
     obtain ⟨a9, c9, r9, t9, -⟩ := s9
     have HG9 := Lib.hid (t9.keeps HG8.out (HNB.out _ (by omega)))
     have HO9 := Lib.hid (t9.keeps HO8.out (HNB.out _ (by have := HS6.out.1; omega)))
     have HTU9 := Lib.hid (t9.keeps HTU8.out (HNB.out _ (by have := HS3.out.2; omega)))
     have HFL9 := Lib.hid (t9.keeps HFL8.out (HNB.out _ (by have := HS6.out.1; have := HS7.out; omega)))
     clear r9 t9
     clear f0 f1 f2 f3 f4 f5 f6 f7 HDR
     by_cases he : pE = 0
     ·have hen : (pE != 0) = false := by subst he; rfl
      have HRES := Lib.hid (show R = ⟨2, 0, b0.id, wrapF xs self b0.addr, [recF 1 f], rpL L most f⟩ by
       rw [HRES.out]
       show (⟨2, 0, b0.id, _, (if rpE L most f = 0 then [recF 1 f] else []), rpL L most f⟩ : PkR) = _
       rw [hpE, if_pos he])
      have HN5 := HN5B
      clear he hpE
      as_aux_lemma =>
       have HG9 : RowKit.Hid (w9.drew.heap[w.heap.size + 1]? = some (.cells (outV 0 0 0 (.slice none 0 0)) 50 (0, 0))) := Lib.hid HG9.out
       have HTT : RowKit.Hid (Touch w9 w9.drew (fun k => k = w.heap.size + 1)) := Lib.hid (Touch.refl w9 _).drew
       go_upto_region 26 with (fail)
       have hS := And.intro HO9.out HFL9.out
       refine wp_region_tree (fun w' => w'.heap[w6.heap.size]? = some (.cells (outV 2 0 b0.id (.slice pa pn pc)) 50 (0, 0)) ∧ w'.heap[W7.heap.size]? = some (.cells #[.int .u32 f.t.src, .int .u32 f.t.dst, .int .i64 f.t.proto, .int .i64 f.t.sport, .int .i64 f.t.dport, .int .i64 f.fb, .int .i64 f.fg, .int .i64 f.fs] 83 (0, 0))) (.take 0 (.take 1 (.take 2 (.two 3 4 (.one 4 (.take 5 .fin)) (.one 3 (.take 5 .fin)))))) (by kernel_rfl) (by kernel_rfl) (by kernel_rfl) (by kernel_rfl) hS ?_
       repeat' (first
        | (with_reducible refine walkT_take ?_)
        | (with_reducible refine walkT_one ?_)
        | (with_reducible refine walkT_two ?_ ?_)
        | (with_reducible refine walkT_fin ?_)
        | ((with_reducible show TakeN _ _ _ _ 0 _ _ _); ((refine takeN_row (some 122) rfl rfl 50 (.tmp 23) rfl (w6.heap.size) rfl _ _ _ _ (fun w' h => h.1) Tryz.underlying50 rfl infoOut (fun _ _ _ h => h) (by rfl) ?_; (try simp only [Act.put, List.setIfInBounds_toArray, List.set_cons_zero, List.set_cons_succ]))))
        | ((with_reducible show TakeN _ _ _ _ 1 _ _ _); ((refine takeN_row (some 123) rfl rfl 83 (.tmp 24) rfl (W7.heap.size) rfl _ _ _ _ (fun w' h => h.2) Tryz.underlying83 rfl infoFlow (fun _ _ _ h => h) (by rfl) ?_; (try simp only [Act.put, List.setIfInBounds_toArray, List.set_cons_zero, List.set_cons_succ]))))
        | ((with_reducible show TakeN _ _ _ _ 2 _ _ _); ((refine takeN_rec 124 _ _ rfl rfl rfl 1 _ _ _ _ _ _ _ _ rfl rfl (fun _ _ _ _ h => h) (by rfl) ?_; (try simp only [Act.put, List.setIfInBounds_toArray, List.set_cons_zero, List.set_cons_succ]))))
        | ((with_reducible show TakeN _ _ _ _ 5 _ _ _); ((refine takeN_take (v := ?_) (some 13) rfl rfl (fun _ _ _ h => h) (by rfl) ?_ ?_; rotate_left; (focus (intro w' hw'; go_simp; (try with_reducible rfl))); (try simp only [Act.put, List.setIfInBounds_toArray, List.set_cons_zero, List.set_cons_succ]))))
        | ((with_reducible show RunN _ _ _ _ 3 _ _ _); ((refine runN_rec 125 _ rfl rfl rfl (recF 1 f) rfl rfl (by rfl) ?_; intro wd hwd hMd hsd td; have HRX := Lib.hid hMd; have HNX := Lib.hid (Ne.symm (HNL.out _ (heap_lt HG9.out))); have HTT := Lib.hid (HTT.out.trans (td.mono (fun _ _ h => h.elim)) (fun _ _ h => h)); have HG9 := Lib.hid (td.keeps HG9.out (fun h => h)); refine ⟨⟨td.keeps hS.1 (fun h => h), td.keeps hS.2 (fun h => h)⟩, fun hS => ?_⟩; clear hwd hMd hsd td; (try simp only [Act.put, List.setIfInBounds_toArray, List.set_cons_zero, List.set_cons_succ]))))
        | ((with_reducible show RunN _ _ _ _ 4 _ _ _); ((refine runN_store rfl rfl (by rfl) 50 _ _ rfl (w.heap.size + 1) (outV 2 0 b0.id (.slice pa pn pc)) rfl rfl _ _ HG9.out infoOut rfl rfl ?_; intro we hMe te; have HTT := Lib.hid (HTT.out.trans te (fun _ _ h => h)); (try have HRX := Lib.hid (te.keeps HRX.out HNX.out)); have HG9 := Lib.hid hMe; refine ⟨⟨te.keeps hS.1 HN6.out, te.keeps hS.2 HN5.out⟩, fun hS => ?_⟩; clear hMe te; (try simp only [Act.put, List.setIfInBounds_toArray, List.set_cons_zero, List.set_cons_succ])))))
       all_goals
        (repeat (first | go_values | go_skip | go_guarded | go_step | go_upon))
        refine ret_row1 rfl rfl (w.heap.size + 1) _ (outV 2 0 b0.id (.slice pa pn pc)) _ _ rfl HG9.out Tryz.underlying50 rfl infoOut _ rfl ?_
        exact HEND.out _ _ _ _ [_] _ HST.out HTT.out (row_rc HRX.out rfl) HRES.out
     ·have hen : (pE != 0) = true := bne_iff_ne.2 he
      have HRES := Lib.hid (show R = ⟨2, 0, b0.id, wrapF xs self b0.addr, [], rpL L most f⟩ by
       rw [HRES.out]
       show (⟨2, 0, b0.id, _, (if rpE L most f = 0 then [recF 1 f] else []), rpL L most f⟩ : PkR) = _
       rw [hpE, if_neg he])
      clear he hpE
      obtain ⟨o0, o1, o2, o3⟩ : w9.cell? ⟨w6.heap.size, 0, none⟩ = some (.int .i64 2) ∧ w9.cell? ⟨w6.heap.size, 1, none⟩ = some (.int .i64 0) ∧ w9.cell? ⟨w6.heap.size, 2, none⟩ = some (.int .i64 b0.id) ∧ w9.cell? ⟨w6.heap.size, 3, none⟩ = some (.slice pa pn pc) := ⟨cell_of_cells HO9.out 0, cell_of_cells HO9.out 1, cell_of_cells HO9.out 2, cell_of_cells HO9.out 3⟩
      go_wp2_with (refine store_row rfl 50 (.tmp 12) (.tmp 121) rfl (w.heap.size + 1) _ rfl rfl _ _ HG9.out HPI.out rfl rfl ?_; (repeat (first | go_values | go_skip | go_guarded | go_step | go_upon)); refine ret_row1 rfl rfl (w.heap.size + 1) _ (outV 2 0 b0.id (.slice pa pn pc)) _ _ rfl (setRow_heap _ _ _ _ _ _ HG9.out) Tryz.underlying50 rfl infoOut (.slice none 0 0) rfl ?_; exact HEND.out _ _ none 0 [] _ HST.out ((Touch.refl w9 _).setRow _ _ (fun _ => rfl)) (RowS.nil _ _ _ _ (by omega)) HRES.out)
end Go.Proofs.YtpjdcgjoepjmcaaGreat
end
section
namespace Go.Proofs.YtpjdcgjoepjmcaaGreat
open Go.RowKit
def RBk (b X : Nat) (a ab : Option Addr) (G B : Nat) : Prop := B = b ∨ B = X ∨ B = G ∨ (∃ x, a = some x ∧ x.block = B) ∨ (∃ x, ab = some x ∧ x.block = B)
structure QX (w wr : World) (g C b X : Nat) (most : Int) (mb : Nat) (M L : List FlD) (bs : List BkD) (T : List Int) (bs2 : List BkD) (T2 : List Int) (K : List Nat) (h : FH) (ab : Option Addr) (lb cb G m : Nat) (a : Option Addr) (c : Nat) (ab2 : Option Addr) (lb2 cb2 G2 m2 : Nat) : Prop where
 p : PW w wr g h most 20 M C 13 bs T ab lb cb G m
 r : RF wr b a c most 20 L
 x : RCh wr X 13 bs2 T2 ab2 lb2 cb2 G2 m2
 m : m ≤ mb
 m2 : m2 ≤ mb
 ad : ∀ b ∈ bs, (0 ≤ b.addr ∧ b.addr ≤ 4294967295) ∧ 0 ≤ b.id
 cw : w.heap.size ≤ C
 bw : w.heap.size ≤ b ∧ w.heap.size ≤ X
 k : ∀ B, (B < w.heap.size ∨ B ∈ K ∨ RBk b X a ab2 G2 B) → B < wr.heap.size ∧ Off g h C ab lb G B
 d : b ≠ X ∧ b ≠ G2 ∧ X ≠ G2 ∧ (∀ x, a = some x → x.block ≠ X) ∧ (∀ x, ab2 = some x → x.block ≠ b ∧ x.block ≠ X)
 kd : ∀ B ∈ K, ¬ RBk b X a ab2 G2 B
def Q (w wr : World) (g C b X : Nat) (most : Int) (mb : Nat) (M L : List FlD) (bs : List BkD) (T : List Int) (bs2 : List BkD) (T2 : List Int) (K : List Nat) : Prop :=
 ∃ h ab lb cb G m a c ab2 lb2 cb2 G2 m2, QX w wr g C b X most mb M L bs T bs2 T2 K h ab lb cb G m a c ab2 lb2 cb2 G2 m2
section
variable {w w1 w2 : World} {g C b X : Nat} {most : Int} {mb : Nat} {M M' L L' : List FlD} {bs : List BkD} {T : List Int} {bs2 : List BkD} {T2 : List Int} {K : List Nat}
theorem Q.still (q : Q w w1 g C b X most mb M L bs T bs2 T2 K) (t : Touch w1 w2 (fun _ => False)) : Q w w2 g C b X most mb M L bs T bs2 T2 K := by
 obtain ⟨h, ab, lb, cb, G, m, a, c, ab2, lb2, cb2, G2, m2, q⟩ := q
 exact ⟨h, ab, lb, cb, G, m, a, c, ab2, lb2, cb2, G2, m2, q.p.still t, q.r.still t, q.x.still t, q.m, q.m2, q.ad, q.cw, q.bw, fun B hB => ⟨Nat.lt_of_lt_of_le (q.k B hB).1 t.size, (q.k B hB).2⟩, q.d, q.kd⟩
theorem Q.add (q : Q w w1 g C b X most mb M L bs T bs2 T2 K) (t : Touch w1 w2 (fun _ => False)) (B : Nat) (h1 : w1.heap.size ≤ B) (h2 : B < w2.heap.size) : Q w w2 g C b X most mb M L bs T bs2 T2 (B :: K) := by
 obtain ⟨h, ab, lb, cb, G, m, a, c, ab2, lb2, cb2, G2, m2, q⟩ := q
 refine ⟨h, ab, lb, cb, G, m, a, c, ab2, lb2, cb2, G2, m2, q.p.still t, q.r.still t, q.x.still t, q.m, q.m2, q.ad, q.cw, q.bw, fun B' hB => ?_, q.d, fun B' hB e => ?_⟩
 ·have key : B' = B ∨ (B' < w.heap.size ∨ B' ∈ K ∨ RBk b X a ab2 G2 B') := by
   rcases hB with hB | hB | hB
   ·exact .inr (.inl hB)
   ·rcases List.mem_cons.1 hB with rfl | hB
    ·exact .inl rfl
    ·exact .inr (.inr (.inl hB))
   ·exact .inr (.inr (.inr hB))
  rcases key with rfl | hB
  ·exact ⟨h2, q.p.new _ h1⟩
  ·exact ⟨Nat.lt_of_lt_of_le (q.k B' hB).1 t.size, (q.k B' hB).2⟩
 ·rcases List.mem_cons.1 hB with rfl | hB
  ·have := (q.k _ (.inr (.inr e))).1; omega
  ·exact q.kd B' hB e
theorem Q.less {K' : List Nat} (q : Q w w1 g C b X most mb M L bs T bs2 T2 K) (h1 : ∀ B ∈ K', B ∈ K) : Q w w1 g C b X most mb M L bs T bs2 T2 K' := by
 obtain ⟨h, ab, lb, cb, G, m, a, c, ab2, lb2, cb2, G2, m2, q⟩ := q
 exact ⟨h, ab, lb, cb, G, m, a, c, ab2, lb2, cb2, G2, m2, q.p, q.r, q.x, q.m, q.m2, q.ad, q.cw, q.bw, fun B hB => q.k B (hB.imp (fun h => h) (fun h => h.imp (h1 B) (fun h => h))), q.d, fun B hB => q.kd B (h1 B hB)⟩
theorem Q.mono {mb' : Nat} (q : Q w w1 g C b X most mb M L bs T bs2 T2 K) (h1 : mb ≤ mb') : Q w w1 g C b X most mb' M L bs T bs2 T2 K := by
 obtain ⟨h, ab, lb, cb, G, m, a, c, ab2, lb2, cb2, G2, m2, q⟩ := q
 exact ⟨h, ab, lb, cb, G, m, a, c, ab2, lb2, cb2, G2, m2, q.p, q.r, q.x, Nat.le_trans q.m h1, Nat.le_trans q.m2 h1, q.ad, q.cw, q.bw, q.k, q.d, q.kd⟩
theorem Q.touch (q : Q w w1 g C b X most mb M L bs T bs2 T2 K) : Touch w w1 (fun _ => False) := by
 obtain ⟨h, ab, lb, cb, G, m, a, c, ab2, lb2, cb2, G2, m2, q⟩ := q
 exact q.p.f.t
theorem Q.row (q : Q w w1 g C b X most mb M L bs T bs2 T2 K) (t : Touch w1 w2 (fun _ => False)) {a : Option Addr} {n : Nat} (hr : ∀ x, a = some x → n = 0 ∨ x.block < w2.heap.size)
 (h : ∀ x, a = some x → n = 0 ∨ x.block < w.heap.size ∨ w1.heap.size ≤ x.block) : ∃ K', Q w w2 g C b X most mb M L bs T bs2 T2 K' ∧ (∀ B ∈ K, B ∈ K') ∧ ∀ x, a = some x → n = 0 ∨ x.block < w.heap.size ∨ x.block ∈ K' := by
 cases a with
 | none => exact ⟨K, q.still t, fun _ h => h, fun x hx => by cases hx⟩
 | some x =>
   rcases h x rfl with h0 | h0 | h0
   ·exact ⟨K, q.still t, fun _ h => h, fun y hy => by cases hy; exact .inl h0⟩
   ·exact ⟨K, q.still t, fun _ h => h, fun y hy => by cases hy; exact .inr (.inl h0)⟩
   ·rcases hr x rfl with h1 | h1
    ·exact ⟨K, q.still t, fun _ h => h, fun y hy => by cases hy; exact .inl h1⟩
    ·exact ⟨x.block :: K, q.add t x.block h0 h1, fun B hB => List.mem_cons_of_mem _ hB, fun y hy => by cases hy; exact .inr (.inr List.mem_cons_self)⟩
end
set_option maxRecDepth 20000 in
theorem Q.pk {w W : World} {g C b X : Nat} {most : Int} {mb : Nat} {M L : List FlD} {bs : List BkD} {T : List Int} {bs2 : List BkD} {T2 : List Int} {K : List Nat} (q : Q w W g C b X most mb M L bs T bs2 T2 K) (mtu gen now : Int) (ma : Option Addr) (n mc : Nat) (xs : List Nat) (hr : RowB W ma n mc xs) :
 Calls Tryz.prog 18 #[.agg (cfgC 168364297 13 most 20 mtu 200 20000 3), .pointer (some ⟨g, 0, none⟩), .pointer (some ⟨C, 0, none⟩), .int .i64 gen, .int .i64 now, .slice ma n mc] W fun e w' => ∃ (pa : Option Addr) (pn pc : Nat) (qa : Option Addr) (qc : Nat) (M1 : List FlD),
  e = .returned (.agg (planV (pkF 168364297 mtu gen now most bs T 13 M xs).v (pkF 168364297 mtu gen now most bs T 13 M xs).r (pkF 168364297 mtu gen now most bs T 13 M xs).b (.slice pa pn pc) (.slice qa (pkF 168364297 mtu gen now most bs T 13 M xs).rs.length qc))) ∧ RowB w' pa pn pc (pkF 168364297 mtu gen now most bs T 13 M xs).xs ∧
  RowS w' qa (pkF 168364297 mtu gen now most bs T 13 M xs).rs.length qc 14 ((pkF 168364297 mtu gen now most bs T 13 M xs).rs.map rcl) ∧ (∀ x, qa = some x → W.heap.size ≤ x.block) ∧ M1.Perm (pkF 168364297 mtu gen now most bs T 13 M xs).M ∧ Q w w' g C b X most mb M1 L bs T bs2 T2 K ∧ Touch W w' (TK w K) := by
 obtain ⟨h, ab, lb, cb, G, m, a, c, ab2, lb2, cb2, G2, m2, q⟩ := q
 refine (packet_any 168364297 13 most 20 mtu 200 20000 3 gen now W g h most 20 M q.p.f.q C 13 bs T ab lb cb G m q.p.c (by omega) (by omega) ⟨by decide, by decide⟩ (fun b hb => (q.ad b hb).1) ma n mc xs hr).mono ?_
 intro e w' hp
 generalize pkF 168364297 mtu gen now most bs T 13 M xs = p at *
 obtain ⟨pa, pn, pc, v, he, hx, ⟨qa, qc, rfl, hq1, hq2⟩, hs⟩ := hp
 have hst := step_touch hs
 obtain ⟨h', M1, pm, hpw, hoff⟩ := q.p.step hs
 have hk : ∀ B, (B < w.heap.size ∨ B ∈ K ∨ RBk b X a ab2 G2 B) → ¬ footF g h B := fun B hB => (q.k B hB).2.1
 refine ⟨pa, pn, pc, qa, qc, M1, he, hx, hq1, fun x hx => (hq2 x hx).1, pm, ⟨h', ab, lb, cb, G, m, a, c, ab2, lb2, cb2, G2, m2, hpw,
  q.r.touch hst (hk b (.inr (.inr (.inl rfl)))) (fun x hx => hk _ (.inr (.inr (.inr (.inr (.inr (.inl ⟨x, hx, rfl⟩))))))),
  q.x.by hst (hk X (.inr (.inr (.inr (.inl rfl))))) (fun x hx => hk _ (.inr (.inr (.inr (.inr (.inr (.inr ⟨x, hx, rfl⟩))))))) (hk G2 (.inr (.inr (.inr (.inr (.inl rfl)))))),
  q.m, q.m2, q.ad, q.cw, q.bw, fun B hB => ⟨Nat.lt_of_lt_of_le (q.k B hB).1 hst.size, hoff B (q.k B hB).1 (q.k B hB).2⟩, q.d, q.kd⟩, hst.mono (fun k hk2 hf => ⟨q.p.f.f k hf, fun hk3 => hk k (.inr (.inl hk3)) hf⟩)⟩
set_option maxRecDepth 20000 in
theorem Q.rpk {w W : World} {g C b X : Nat} {most : Int} {mb : Nat} {M L L' : List FlD} {bs : List BkD} {T : List Int} {K : List Nat} (q : Q w W g C b X most mb M L bs T bs T K) (hnd : (L.map FlD.t).Nodup) (hl : L.length ≤ 1000) (mtu gen now : Int) (ma : Option Addr) (n mc : Nat) (xs : List Nat) (hr : RowB W ma n mc xs) (hn : n ≤ 10000) (v r i : Int) (ys : List Nat) (rs : List RecD) (hp : rpkF 168364297 mtu gen now most bs T 13 L xs = ⟨v, r, i, ys, rs, L'⟩) :
 Calls Tryz.prog 20 #[.agg (cfgC 168364297 13 most 20 mtu 200 20000 3), .pointer (some ⟨b, 0, none⟩), .pointer (some ⟨X, 0, none⟩), .int .i64 gen, .int .i64 now, .slice ma n mc] W fun e w' => ∃ (pa : Option Addr) (pn pc : Nat) (qa : Option Addr) (qc : Nat),
  e = .returned (.tuple #[.agg #[.int .i64 v, .int .i64 r, .int .i64 i, .slice pa pn pc], .slice qa rs.length qc]) ∧ RowB w' pa pn pc ys ∧ RowS w' qa rs.length qc 14 (rs.map rcl) ∧ Q w w' g C b X most mb M L' bs T bs T K ∧ Touch W w' (fun k => k = b) := by
 obtain ⟨h, ab, lb, cb, G, m, a, c, ab2, lb2, cb2, G2, m2, q⟩ := q
 refine (rpacket_any 168364297 13 most 20 mtu 200 20000 3 gen now W b X most L bs T a c q.r ab2 lb2 cb2 G2 m2 q.x hnd hl (fun x hx => (q.k _ (.inr (.inr (.inr (.inr (.inr (.inl ⟨x, hx, rfl⟩))))))).1) ⟨by decide, by decide⟩ (fun b hb => (q.ad b hb).1) (fun b hb => (q.ad b hb).2) ma n mc xs hr hn).mono ?_
 intro e w' h0
 rw [hp] at h0
 obtain ⟨pa, pn, pc, qa, qc, he, hy, hrs, a', c', hrf, t, ha⟩ := h0
 have hf := q.k b (.inr (.inr (.inl rfl)))
 refine ⟨pa, pn, pc, qa, qc, he, hy, hrs, ⟨h, ab, lb, cb, G, m, a', c', ab2, lb2, cb2, G2, m2, q.p.set b hf.2 q.bw.1 t, hrf,
  q.x.by t (fun e => q.d.1 e.symm) (fun x hx => (q.d.2.2.2.2 x hx).1) (fun e => q.d.2.1 e.symm), q.m, q.m2, q.ad, q.cw, q.bw, fun B hB => ?_, ⟨q.d.1, q.d.2.1, q.d.2.2.1, fun x hx e => ?_, q.d.2.2.2.2⟩, fun B hB e => ?_⟩, t⟩
 ·have key : (W.heap.size ≤ B ∧ B < w'.heap.size) ∨ (B < w.heap.size ∨ B ∈ K ∨ RBk b X a ab2 G2 B) := by
   rcases hB with hB | hB | hB | hB | hB | ⟨x, hx, hB⟩ | hB
   ·exact .inr (.inl hB)
   ·exact .inr (.inr (.inl hB))
   ·exact .inr (.inr (.inr (.inl hB)))
   ·exact .inr (.inr (.inr (.inr (.inl hB))))
   ·exact .inr (.inr (.inr (.inr (.inr (.inl hB)))))
   ·rcases ha x hx with h1 | ⟨z, hz, h1⟩
    ·exact .inl (hB ▸ h1)
    ·exact .inr (.inr (.inr (.inr (.inr (.inr (.inl ⟨z, hz, h1.symm.trans hB⟩))))))
   ·exact .inr (.inr (.inr (.inr (.inr (.inr (.inr hB))))))
  rcases key with ⟨h1, h2⟩ | hB
  ·exact ⟨h2, q.p.new _ h1⟩
  ·exact ⟨Nat.lt_of_lt_of_le (q.k B hB).1 t.size, (q.k B hB).2⟩
 ·rcases ha x hx with h1 | ⟨z, hz, h1⟩
  ·have := (q.k X (.inr (.inr (.inr (.inl rfl))))).1; omega
  ·exact q.d.2.2.2.1 z hz (h1.symm.trans e)
 ·have hx := q.k B (.inr (.inl hB))
  rcases e with e | e | e | ⟨x, hx2, e⟩ | e
  ·exact q.kd B hB (.inl e)
  ·exact q.kd B hB (.inr (.inl e))
  ·exact q.kd B hB (.inr (.inr (.inl e)))
  ·rcases ha x hx2 with h1 | ⟨z, hz, h1⟩
   ·have := hx.1; omega
   ·exact q.kd B hB (.inr (.inr (.inr (.inl ⟨z, hz, h1.symm.trans e⟩))))
  ·exact q.kd B hB (.inr (.inr (.inr (.inr e))))
def setR (L : List BkD) : Int := if gmay L then 0 else 1
def setN (L bs : List BkD) : List BkD := if gmay L then L else bs
def setT (L : List BkD) (O : List Int) (T : List Int) : List Int := if gmay L then tabF (keepF (outB O) L) 13 else T
set_option maxRecDepth 20000 in
theorem Q.setP {w W : World} {g C b X : Nat} {most : Int} {mb : Nat} {M L : List FlD} {bs : List BkD} {T : List Int} {bs2 : List BkD} {T2 : List Int} {K : List Nat} (q : Q w W g C b X most mb M L bs T bs2 T2 K) (hmb : mb ≤ 1000000) (sa : Option Addr) (sn sc : Nat) (N : List BkD) (hr : RowK W sa sn sc N) (hS : ∀ x, sa = some x → sn = 0 ∨ x.block < w.heap.size) (hA : ∀ b ∈ N, 0 ≤ b.addr ∧ b.addr ≤ 4294967295)
 (gb : Nat) (oa : Option Addr) (on oc : Nat) (O : List Int) (hg : W.cell? ⟨gb, 0, none⟩ = some (.slice oa on oc)) (ho : RowI W oa on oc O) :
 Calls Tryz.prog 14 #[.pointer (some ⟨C, 0, none⟩), .slice sa sn sc, goneV23 gb] W fun e w' => e = .returned (.int .i64 (setR N)) ∧ Q w w' g C b X most (mb + 1) M L (setN N bs) (setT N O T) bs2 T2 K ∧ Touch W w' (TK w K) := by
 obtain ⟨h, ab, lb, cb, G, m, a, c, ab2, lb2, cb2, G2, m2, q⟩ := q
 have hmm := q.m
 have hmm2 := q.m2
 unfold setR setN setT
 cases hg2 : gmay N with
 | false =>
   refine (set_bad 13 C ab lb cb (some ⟨G, 0, none⟩) 13 13 m sa sn sc N (goneV23 gb) W prm13 q.p.c.hc hr hg2).mono ?_
   rintro e w' ⟨rfl, t1⟩
   exact ⟨by simp, Q.mono (Q.still ⟨h, ab, lb, cb, G, m, a, c, ab2, lb2, cb2, G2, m2, by simpa using q⟩ t1) (Nat.le_succ _), TK.of t1⟩
 | true =>
   have hl16 : sn ≤ 16 := by have := ((gmay_iff N).1 hg2).1; have := hr.len; omega
   refine (set_out 13 (goneV23 gb) (keepF (outB O) N) C ab lb cb (some ⟨G, 0, none⟩) 13 13 m sa sn sc N W prm13 (by omega) q.p.c.hc hr hg2 (fun x hx => (hS x hx).imp (fun h => h) (fun h1 => (q.k _ (.inl h1)).2.2.1))
    (fun W' t => (without_says 41 #[goneV23 gb] #[] (outB O) sa sn sc N W' (hr.still t) (by omega) (fun W2 id t2 => says_gone23 gb oa on oc O id W2 (((t.trans t2 (fun _ _ h => h)).cell (block_lt_of_cell hg) (fun h => h)).trans hg) (ho.still (t.trans t2 (fun _ _ h => h))))).mono (fun e w' h => h))).mono ?_
   rintro e w' ⟨rfl, a', c', G', hc', hk', hi', hb', hG', t⟩
   have hC : ∀ B, (B < w.heap.size ∨ B ∈ K ∨ RBk b X a ab2 G2 B) → ¬ B = C := fun B hB => (q.k B hB).2.2.1
   refine ⟨by simp, ⟨h, a', sn, c', G', m + 1, a, c, ab2, lb2, cb2, G2, m2, by simpa using PW.made q.p.f (by omega) q.p.l.1 q.p.o.1 q.cw t hc' hk' hi' hb' hG',
    q.r.touch t (hC b (.inr (.inr (.inl rfl)))) (fun x hx => hC _ (.inr (.inr (.inr (.inr (.inr (.inl ⟨x, hx, rfl⟩))))))),
    q.x.by t (hC X (.inr (.inr (.inr (.inl rfl))))) (fun x hx => hC _ (.inr (.inr (.inr (.inr (.inr (.inr ⟨x, hx, rfl⟩))))))) (hC G2 (.inr (.inr (.inr (.inr (.inl rfl)))))),
    by omega, by omega, by simpa using fun b hb => ⟨hA b hb, ((mayKB_iff _).1 (((gmayK_iff _).1 hg2).2.1 b hb)).1.1⟩, q.cw, q.bw, fun B hB => ?_, q.d, q.kd⟩, t.mono (fun k hk e => ?_)⟩
   ·have h1 := q.k B hB
    exact ⟨Nat.lt_of_lt_of_le h1.1 t.size, h1.2.1, h1.2.2.1, .inr (fun x hx e => by have := hb' x hx; omega), by omega⟩
   ·have e : k = C := e
    subst e
    exact ⟨q.cw, fun h1 => (q.k _ (.inr (.inl h1))).2.2.1 rfl⟩
set_option maxRecDepth 20000 in
theorem Q.setX {w W : World} {g C b X : Nat} {most : Int} {mb : Nat} {M L : List FlD} {bs : List BkD} {T : List Int} {bs2 : List BkD} {T2 : List Int} {K : List Nat} (q : Q w W g C b X most mb M L bs T bs2 T2 K) (hmb : mb ≤ 1000000) (sa : Option Addr) (sn sc : Nat) (N : List BkD) (hr : RowK W sa sn sc N) (hS : ∀ x, sa = some x → sn = 0 ∨ x.block < w.heap.size)
 (oa : Option Addr) (on oc : Nat) (O : List Int) (ho : RowI W oa on oc O) (hO : ∀ x, oa = some x → on = 0 ∨ x.block < w.heap.size) :
 Calls Tryz.prog 16 #[.pointer (some ⟨X, 0, none⟩), .slice sa sn sc, .slice oa on oc] W fun e w' => e = .returned (.int .i64 (setR N)) ∧ Q w w' g C b X most (mb + 1) M L bs T (setN N bs2) (setT N O T2) K ∧ Touch W w' (fun k => k = X) := by
 obtain ⟨h, ab, lb, cb, G, m, a, c, ab2, lb2, cb2, G2, m2, q⟩ := q
 have hmm := q.m
 have hmm2 := q.m2
 have hbw := q.bw.2
 unfold setR setN setT
 cases hg2 : gmay N with
 | false =>
   refine (rset_bad 13 X ab2 lb2 cb2 (some ⟨G2, 0, none⟩) 13 13 m2 sa sn sc N oa on oc W q.x.hc hr hg2).mono ?_
   rintro e w' ⟨rfl, t1⟩
   exact ⟨by simp, Q.mono (Q.still ⟨h, ab, lb, cb, G, m, a, c, ab2, lb2, cb2, G2, m2, by simpa using q⟩ t1) (Nat.le_succ _), t1.mono (fun _ _ h => h.elim)⟩
 | true =>
   refine (rset_any 13 X ab2 lb2 cb2 (some ⟨G2, 0, none⟩) 13 13 m2 sa sn sc N oa on oc O W prm13 (by omega) q.x.hc hr hg2 ho (fun x hx => (hS x hx).imp (fun h => h) (fun h1 => by omega)) (fun x hx => (hO x hx).imp (fun h => h) (fun h1 => by omega))).mono ?_
   rintro e w' ⟨rfl, a', c', G', hc', hk', hi', hb', hG', t⟩
   have hX := q.k X (.inr (.inr (.inr (.inl rfl))))
   have hGl : G' < w'.heap.size := by
    rcases hi'.2.2.2.2 with h0 | ⟨b0, o0, h0, h1, -⟩
    ·exact absurd h0 (by decide)
    ·simp only [Option.some.injEq, Addr.mk.injEq] at h0
     rw [h0.1]; exact h1
   have hbl := (q.k b (.inr (.inr (.inl rfl)))).1
   have hnew : ∀ B, W.heap.size ≤ B → B < w'.heap.size → B < w'.heap.size ∧ Off g h C ab lb G B := fun B h1 h2 => ⟨h2, q.p.new _ h1⟩
   have hold : ∀ B, (B < w.heap.size ∨ B ∈ K ∨ RBk b X a ab2 G2 B) → B < w'.heap.size ∧ Off g h C ab lb G B := fun B hB => ⟨Nat.lt_of_lt_of_le (q.k B hB).1 t.size, (q.k B hB).2⟩
   refine ⟨by simp, ⟨h, ab, lb, cb, G, m, a, c, a', sn, c', G', m2 + 1, q.p.set X hX.2 q.bw.2 t,
    q.r.touch t (fun e => q.d.1 e) (fun x hx => q.d.2.2.2.1 x hx), ⟨hc', by simpa using hk', by simpa using hi'⟩,
    by omega, by omega, q.ad, q.cw, q.bw, fun B hB => ?_, ⟨q.d.1, by omega, by have := hX.1; omega, q.d.2.2.2.1, fun x hx => ⟨by have := hb' x hx; omega, by have := hb' x hx; have := hX.1; omega⟩⟩, fun B hB e => ?_⟩, t⟩
   ·rcases hB with hB | hB | hB | hB | hB | hB | ⟨x, hx, rfl⟩
    ·exact hold B (.inl hB)
    ·exact hold B (.inr (.inl hB))
    ·exact hold B (.inr (.inr (.inl hB)))
    ·exact hold B (.inr (.inr (.inr (.inl hB))))
    ·exact hnew B (by omega) (by omega)
    ·exact hold B (.inr (.inr (.inr (.inr (.inr (.inl hB))))))
    ·exact hnew _ (hb' x hx).1 (hb' x hx).2
   ·have h1 := (q.k B (.inr (.inl hB))).1
    rcases e with e | e | e | e | ⟨x, hx, rfl⟩
    ·exact q.kd B hB (.inl e)
    ·exact q.kd B hB (.inr (.inl e))
    ·omega
    ·exact q.kd B hB (.inr (.inr (.inr (.inl e))))
    ·have := hb' x hx; omega
set_option maxRecDepth 20000 in
theorem Q.all {w W : World} {g C b X : Nat} {most : Int} {mb : Nat} {M L : List FlD} {bs : List BkD} {T : List Int} {bs2 : List BkD} {T2 : List Int} {K : List Nat} (q : Q w W g C b X most mb M L bs T bs2 T2 K) :
 Calls Tryz.prog 24 #[.pointer (some ⟨g, 0, none⟩)] W fun e w' => ∃ a c l, e = .returned (.slice a l.length c) ∧ l.Perm M ∧ StrictF l ∧ l.length ≤ 256 ∧ OwnS w' W.heap.size 83 8 (.slice a l.length c) (l.map fcl) ∧ Touch W w' (fun _ => False) := by
 obtain ⟨h, ab, lb, cb, G, m, a, c, ab2, lb2, cb2, G2, m2, q⟩ := q
 refine (fall_any W g h most 20 M q.p.f.q).mono ?_
 rintro e w' ⟨a, c, l, rfl, h1, h2, h3, h4⟩
 exact ⟨a, c, l, rfl, h1, h2, by rw [h1.length_eq]; exact q.p.f.q.small, h3, h4⟩
theorem Q.rows {w W : World} {g C b X : Nat} {most : Int} {mb : Nat} {M L : List FlD} {bs : List BkD} {T : List Int} {bs2 : List BkD} {T2 : List Int} {K : List Nat} (q : Q w W g C b X most mb M L bs T bs2 T2 K) :
 ∃ a c, W.cell? ⟨b, 0, none⟩ = some (.slice a L.length c) ∧ RowS W a L.length c 8 (L.map fcl) := by
 obtain ⟨h, ab, lb, cb, G, m, a, c, ab2, lb2, cb2, G2, m2, q⟩ := q
 exact ⟨a, c, cell_of_cells q.r.head 0, q.r.row⟩
end Go.Proofs.YtpjdcgjoepjmcaaGreat
end
