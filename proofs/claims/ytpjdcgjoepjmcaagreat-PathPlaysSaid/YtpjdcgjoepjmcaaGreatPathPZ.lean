import Derived.Test.YtpjdcgjoepjmcaaGreatKPZ
import Derived.Test.YtpjdcgjoepjmcaaGreatKHZ
set_option linter.unusedVariables false
set_option linter.unusedSimpArgs false
namespace Go.Proofs.YtpjdcgjoepjmcaaGreat
open Go.RowKit
section
variable {P : Program} {ops : Array Oper} {Q : Exit → Act → World → Prop} {md : Region.Mode} {S : World → Prop} {N : Act → World → Prop}
theorem runN_callV {i : Nat} {a : Act} {w : World} {o : Oper} (d : Tmp) (x : Operand) (f : Nat) (xs : Array Operand) (ts : Array TypeId) (vs : Array Value) {R : Ending → World → Prop} (hc : Calls P f vs w R)
 (ho : ops[i]? = some o) (hop : o.op = .call { callee := .value x, args := xs, argTypes := ts }) (hf : a.eval x = .func (.func f) #[] #[]) (hd : o.dst = some d)
 (hw : Region.wanted o (yielded ops a.tmps) = true) (hx : (xs.toList.map a.eval) = vs.toList) (hf1 : (callFunc f vs).run P w = .ok (.enter f vs) w)
 (h : ∀ e w', R e w' → ∃ u, e = .returned u ∧ S w' ∧ (S w' → N (a.put (some d) u) w')) : RunN P ops Q S i N a w := by
 refine ⟨o, ho, fun K' hK => ?_⟩
 rw [if_pos hw]
 have hx' : (xs.map a.eval) = vs := by
  apply Array.ext'
  rw [Array.toList_map]
  exact hx
 unfold Oper.wp execOp
 simp [hop, resolve, invoke, hf, Deferred.ofValue, hx']
 rw [hf1]
 refine Calls.mono hc fun e w' he => ?_
 obtain ⟨u, rfl, hS, hh⟩ := h e w' he
 rw [← hd] at hh
 exact hK.out _ _ hS hh
end
theorem FStep.own {w0 w w1 w2 : World} {g : Nat} {h : FH} {most idle : Int} {M : List FlD} (t : Touch w0 w (fun _ => False)) (s : FStep w w1 g h most idle M) (B : Nat) (h1 : w0.heap.size ≤ B) (h2 : B < w.heap.size) (hd : ¬ footF g h B) (t2 : Touch w1 w2 (fun k => k = B)) : FStep w0 w2 g h most idle M := by
 obtain ⟨h', M1, p, q, t1, f⟩ := s
 refine ⟨h', M1, p, q.touch t2 (fun k hk e => ?_), ((t.mono (T := footF g h) (fun _ _ h => h.elim)).trans t1 (fun _ _ h => h)).trans t2 (fun k hk e => ?_), fun k hk => (f k hk).imp (fun h => h) (fun h => Nat.le_trans t.size h)⟩
 ·have e : k = B := e
  subst e
  exact (f k hk).elim hd (fun h => by omega)
 ·have e : k = B := e
  omega
theorem RecsIs.own {w0 w w1 w2 : World} {v : Value} {rs : List RecD} (r : RecsIs w w1 v rs) (h0 : w0.heap.size ≤ w.heap.size) (B : Nat) (h2 : B < w.heap.size) (t : Touch w1 w2 (fun k => k = B)) : RecsIs w0 w2 v rs := by
 obtain ⟨a, c, rfl, hr, hb⟩ := r
 refine ⟨a, c, rfl, hr.touch t (fun x hx => .inr (fun e => ?_)), fun x hx => ⟨Nat.le_trans h0 (hb x hx).1, Nat.lt_of_lt_of_le (hb x hx).2.1 t.size, by
  obtain ⟨cs, m, hk⟩ := (hb x hx).2.2
  exact ⟨cs, m, t.keeps hk (fun e => by have e : x.block = B := e; have := (hb x hx).1; omega)⟩⟩⟩
 have e : x.block = B := e
 have := (hb x hx).1
 omega
def cfgC (self slots flows idle mtu seg quota ver : Int) : Array Value := #[.int .u32 self, .int .i64 slots, .int .i64 flows, .int .i64 idle, .int .i64 mtu, .int .i64 seg, .int .i64 quota, .int .i64 ver]
structure PkR where
 v : Int
 r : Int
 b : Int
 xs : List Nat
 rs : List RecD
 M : List FlD
def pkF (self mtu gen now most : Int) (bs : List BkD) (T : List Int) (n : Nat) (M : List FlD) (xs : List Nat) : PkR :=
 if now < 0 ∨ 1099511627776 < now then ⟨0, 0, 0, [], [], M⟩
 else if whyT xs ≠ 0 then ⟨1, (whyT xs : Nat), 0, [], [], M⟩
 else match backF bs T n M (tupT (tellT xs)) with
  | none => ⟨1, 10, 0, [], [], M⟩
  | some b => if whyW xs mtu ≠ 0 then ⟨1, (whyW xs mtu : Nat), 0, [], [], M⟩
    else ⟨2, 0, b.id, wrapF xs self b.addr, keepR M most ⟨tupT (tellT xs), b.id, gen, now⟩ (endsB (kOf (tupT (tellT xs))) xs), keepM M most ⟨tupT (tellT xs), b.id, gen, now⟩ (endsB (kOf (tupT (tellT xs))) xs)⟩
def PkIs (w w' : World) (g : Nat) (h : FH) (most idle : Int) (p : PkR) (e : Ending) : Prop :=
 ∃ pa pn pc q, e = .returned (.agg (planV p.v p.r p.b (.slice pa pn pc) q)) ∧ RowB w' pa pn pc p.xs ∧ RecsIs w w' q p.rs ∧ FStep w w' g h most idle p.M
theorem pk_drop {w w' : World} {g : Nat} {h : FH} {most idle : Int} {M : List FlD} (d : FS w g h most idle M) (t : Touch w w' (fun _ => False)) (v r : Int) : PkIs w w' g h most idle ⟨v, r, 0, [], [], M⟩ (.returned (.agg (planV v r 0 (.slice none 0 0) (.slice none 0 0)))) :=
 ⟨none, 0, 0, _, rfl, RowB.nil _ _ _ (by omega), recs_nil _ _, FStep.none d t⟩
theorem backF_mem {bs : List BkD} {T : List Int} {n : Nat} {M : List FlD} {t : TupD} {b : BkD} (h : backF bs T n M t = some b) : b ∈ bs := by
 unfold backF pickO findF at h
 split at h
 ·rename_i h1
  obtain rfl := Option.some.inj h
  split at h1
  ·exact List.mem_of_find?_eq_some h1
  ·cases h1
 ·split at h
  ·exact List.mem_of_find?_eq_some h
  ·cases h
set_option maxRecDepth 20000 in
set_option maxHeartbeats 4000000 in
theorem packet_time (self slots flows cidle mtu seg quota ver gen now : Int) (w : World) (g C : Nat) (a : Option Addr) (len cap : Nat) (hb : now < 0 ∨ 1099511627776 < now) :
 Calls Tryz.prog 18 #[.agg (cfgC self slots flows cidle mtu seg quota ver), .pointer (some ⟨g, 0, none⟩), .pointer (some ⟨C, 0, none⟩), .int .i64 gen, .int .i64 now, .slice a len cap] w fun e w' => e = .returned (.agg (planV 0 0 0 (.slice none 0 0) (.slice none 0 0))) ∧ Touch w w' (fun _ => False) := by
 obtain ⟨Wa, hWa⟩ : ∃ W, w.alloc (.cells (cfgC self slots flows cidle mtu seg quota ver) 26) = W := ⟨_, rfl⟩
 obtain ⟨W0, hW0⟩ : ∃ W, Wa.alloc (.cells (planV 0 0 0 (.slice none 0 0) (.slice none 0 0)) 53) = W := ⟨_, rfl⟩
 have ta : Touch w Wa (fun _ => False) := hWa ▸ (Touch.refl w _).alloc _
 have t0' : Touch Wa W0 (fun _ => False) := hW0 ▸ (Touch.refl Wa _).alloc _
 have t0 := ta.trans t0' (fun _ _ h => h)
 have sa : Wa.heap.size = w.heap.size + 1 := by rw [← hWa]; simp
 have gc : W0.heap[w.heap.size]? = some (.cells (cfgC self slots flows cidle mtu seg quota ver) 26 (0, 0)) := t0'.keeps (hWa ▸ heap_alloc_new ..) (fun h => h)
 have g0 : W0.heap[w.heap.size + 1]? = some (.cells (planV 0 0 0 (.slice none 0 0) (.slice none 0 0)) 53 (0, 0)) := by
  rw [← sa]; exact hW0 ▸ heap_alloc_new ..
 have HT0 := Lib.hid t0
 have HG0 := Lib.hid g0
 have HPI := Lib.hid infoPlan
 have HWa := Lib.hid hWa
 have HW0 := Lib.hid hW0
 simp only [cfgC] at HWa ⊢
 simp only [planV] at HW0
 clear hWa hW0
 clear ta t0' t0 gc g0 sa
 have HB := Lib.hid hb
 rcases hb with h1 | h1
 ·go_enter Tryz.func18, Tryz.ntmps18
  go_upto_region 1 with (fail)
  rw [HWa.out, HW0.out]
  go_wp2_with (refine store_row rfl 53 (.tmp 12) (.tmp 35) rfl (w.heap.size + 1) _ rfl rfl _ _ HG0.out HPI.out rfl rfl ?_)
  refine ret_row rfl rfl (w.heap.size + 1) _ (planV 0 0 0 (.slice none 0 0) (.slice none 0 0)) _ _ rfl (setRow_heap _ _ _ _ _ _ HG0.out) Tryz.underlying53 rfl infoPlan ?_
  exact ⟨rfl, HT0.out.setRow _ _ (fun h => absurd h (by omega))⟩
 ·have h2 : ¬ now < 0 := by omega
  go_enter Tryz.func18, Tryz.ntmps18
  go_upto_region 1 with (fail)
  rw [HWa.out, HW0.out]
  go_wp2_with (refine store_row rfl 53 (.tmp 12) (.tmp 35) rfl (w.heap.size + 1) _ rfl rfl _ _ HG0.out HPI.out rfl rfl ?_)
  refine ret_row rfl rfl (w.heap.size + 1) _ (planV 0 0 0 (.slice none 0 0) (.slice none 0 0)) _ _ rfl (setRow_heap _ _ _ _ _ _ HG0.out) Tryz.underlying53 rfl infoPlan ?_
  exact ⟨rfl, HT0.out.setRow _ _ (fun h => absurd h (by omega))⟩
set_option maxRecDepth 20000 in
set_option maxHeartbeats 16000000 in
theorem packet_any (self slots flows cidle mtu seg quota ver gen now : Int) (w : World) (g : Nat) (h : FH) (most idle : Int) (M : List FlD) (d : FS w g h most idle M) (C n : Nat) (bs : List BkD) (T : List Int) (ab : Option Addr) (lb cb G m : Nat) (c : ChP w C n bs T ab lb cb G m) (hn : 0 < n) (hn2 : n ≤ 251) (hs1 : 0 ≤ self ∧ self ≤ 4294967295) (hbs : ∀ b ∈ bs, 0 ≤ b.addr ∧ b.addr ≤ 4294967295) (a : Option Addr) (len cap : Nat) (xs : List Nat) (hr : RowB w a len cap xs) :
 Calls Tryz.prog 18 #[.agg (cfgC self slots flows cidle mtu seg quota ver), .pointer (some ⟨g, 0, none⟩), .pointer (some ⟨C, 0, none⟩), .int .i64 gen, .int .i64 now, .slice a len cap] w fun e w' => PkIs w w' g h most idle (pkF self mtu gen now most bs T n M xs) e := by
 by_cases hb : now < 0 ∨ 1099511627776 < now
 case pos =>
  refine (packet_time self slots flows cidle mtu seg quota ver gen now w g C a len cap hb).mono ?_
  rintro e w' ⟨rfl, t⟩
  have : pkF self mtu gen now most bs T n M xs = ⟨0, 0, 0, [], [], M⟩ := by unfold pkF; rw [if_pos hb]
  rw [this]
  exact pk_drop d t 0 0
 have n1 : ¬ now < 0 := fun h => hb (.inl h)
 have n2 : ¬ 1099511627776 < now := fun h => hb (.inr h)
 obtain ⟨Wa, hWa⟩ : ∃ W, w.alloc (.cells (cfgC self slots flows cidle mtu seg quota ver) 26) = W := ⟨_, rfl⟩
 obtain ⟨W0, hW0⟩ : ∃ W, Wa.alloc (.cells (planV 0 0 0 (.slice none 0 0) (.slice none 0 0)) 53) = W := ⟨_, rfl⟩
 have ta : Touch w Wa (fun _ => False) := hWa ▸ (Touch.refl w _).alloc _
 have t0' : Touch Wa W0 (fun _ => False) := hW0 ▸ (Touch.refl Wa _).alloc _
 have t0 := ta.trans t0' (fun _ _ h => h)
 have sa : Wa.heap.size = w.heap.size + 1 := by rw [← hWa]; simp
 have gc : W0.heap[w.heap.size]? = some (.cells (cfgC self slots flows cidle mtu seg quota ver) 26 (0, 0)) := t0'.keeps (hWa ▸ heap_alloc_new ..) (fun h => h)
 have g0 : W0.heap[w.heap.size + 1]? = some (.cells (planV 0 0 0 (.slice none 0 0) (.slice none 0 0)) 53 (0, 0)) := by
  rw [← sa]; exact hW0 ▸ heap_alloc_new ..
 have HT0 := Lib.hid t0
 have HG0 := Lib.hid g0
 have HPI := Lib.hid infoPlan
 have HWa := Lib.hid hWa
 have HW0 := Lib.hid hW0
 simp only [cfgC] at HWa ⊢
 simp only [planV] at HW0
 clear hWa hW0
 have htup : Calls Tryz.prog 46 #[.slice a len cap] W0 fun e w' => e = .returned (.tuple #[.agg (tcs (tupT (tellT xs))), .agg (hcs (tellG xs)), .int .i64 (whyT xs : Nat)]) ∧ Touch W0 w' (fun _ => False) := tuple_any a len cap xs W0 (hr.touch t0 (fun _ _ => .inr (fun h => h)))
 have hok := tell_ok xs hr.2.2.2.2.1
 have hpk : pkF self mtu gen now most bs T n M xs = if whyT xs ≠ 0 then ⟨1, (whyT xs : Nat), 0, [], [], M⟩ else match backF bs T n M (tupT (tellT xs)) with
  | none => ⟨1, 10, 0, [], [], M⟩
  | some b => if whyW xs mtu ≠ 0 then ⟨1, (whyW xs mtu : Nat), 0, [], [], M⟩
    else ⟨2, 0, b.id, wrapF xs self b.addr, keepR M most ⟨tupT (tellT xs), b.id, gen, now⟩ (endsB (kOf (tupT (tellT xs))) xs), keepM M most ⟨tupT (tellT xs), b.id, gen, now⟩ (endsB (kOf (tupT (tellT xs))) xs)⟩ := by unfold pkF; rw [if_neg hb]
 obtain ⟨R, hR⟩ : ∃ R, pkF self mtu gen now most bs T n M xs = R := ⟨_, rfl⟩
 obtain ⟨t, ht⟩ : ∃ t, tupT (tellT xs) = t := ⟨_, rfl⟩
 obtain ⟨K, hK⟩ : ∃ K, tellG xs = K := ⟨_, rfl⟩
 obtain ⟨Y, hY⟩ : ∃ Y, whyT xs = Y := ⟨_, rfl⟩
 rw [hR] at hpk ⊢
 rw [ht] at htup hok hpk
 rw [hK, hY] at htup
 rw [hY] at hpk
 have HPK := Lib.hid hpk
 have HTUP := Lib.hid htup
 have HC0 := Lib.hid gc
 have HG0 := Lib.hid g0
 have HT0 := Lib.hid t0
 have HPI := Lib.hid infoPlan
 have HD := Lib.hid d
 have HCH := Lib.hid c
 have HR := Lib.hid hr
 have HSZ : RowKit.Hid (w.heap.size + 2 = W0.heap.size) := Lib.hid (by rw [← HW0.out]; simp [sa])
 simp only [tcs, hcs] at HTUP
 clear hpk htup gc g0 t0 ta t0' sa d c hR ht hK hY hb hr
 go_enter Tryz.func18, Tryz.ntmps18
 go_upto_region 1 with (fail)
 rw [HWa.out, HW0.out]
 go_wp2_with fail
 (with_reducible refine HTUP.out.mono ?_)
 rintro e w1 ⟨rfl, t1⟩
 obtain ⟨W2, hW2⟩ : ∃ W, w1.alloc (.cells (tcs t) 37) = W := ⟨_, rfl⟩
 obtain ⟨W3, hW3⟩ : ∃ W, W2.alloc (.cells (hcs K) 76) = W := ⟨_, rfl⟩
 have t2 : Touch w1 W2 (fun _ => False) := hW2 ▸ (Touch.refl w1 _).alloc _
 have t3 : Touch W2 W3 (fun _ => False) := hW3 ▸ (Touch.refl W2 _).alloc _
 have g2 : W3.heap[w1.heap.size]? = some (.cells (tcs t) 37 (0, 0)) := t3.keeps (hW2 ▸ heap_alloc_new ..) (fun h => h)
 have t13 := (t1.trans t2 (fun _ _ h => h)).trans t3 (fun _ _ h => h)
 have HTU3 := Lib.hid g2
 have HTX := Lib.hid (HT0.out.trans t13 (fun _ _ h => h))
 have HGX := Lib.hid (t13.keeps HG0.out (fun h => h))
 have HCX := Lib.hid (t13.keeps HC0.out (fun h => h))
 have HW2 := Lib.hid hW2
 have HW3 := Lib.hid hW3
 have HS3 : RowKit.Hid (w.heap.size + 2 ≤ W3.heap.size) := Lib.hid (by rw [HSZ.out]; exact t13.size)
 simp only [tcs] at HW2
 simp only [hcs] at HW3
 clear t1 t2 t3 g2 t13 hW2 hW3 HTUP HC0 HG0
 go_upto_region 4 with (fail)
 rw [HW2.out, HW3.out]
 by_cases hy : Y = 0
 case neg =>
  have hyn : ((Y : Int) != 0) = true := bne_iff_ne.2 (by omega)
  have HRES := Lib.hid (show R = ⟨1, (Y : Nat), 0, [], [], M⟩ by rw [HPK.out, if_pos hy])
  clear HPK hy
  have HDR := Lib.hid (dropped_any (Y : Nat) W3)
  simp only [planV] at HDR
  go_wp2_with (first
   | (go_at_call 47; (with_reducible refine HDR.out.mono ?_); rintro e w20 ⟨rfl, t20⟩; have HG20 := Lib.hid (t20.keeps HGX.out (fun h => h)); have HT20 := Lib.hid (HTX.out.trans t20 (fun _ _ h => h)); clear t20)
   | (refine store_row rfl 53 (.tmp 12) (.tmp 45) rfl (w.heap.size + 1) _ rfl rfl _ _ HG20.out HPI.out rfl rfl ?_))
  refine ret_row rfl rfl (w.heap.size + 1) _ (planV 1 (Y : Nat) 0 (.slice none 0 0) (.slice none 0 0)) _ _ rfl (setRow_heap _ _ _ _ _ _ HG20.out) Tryz.underlying53 rfl infoPlan ?_
  rw [HRES.out]
  exact pk_drop HD.out (HT20.out.setRow _ _ (fun h => absurd h (by omega))) 1 _
 case pos =>
  have hyn : ((Y : Int) != 0) = false := by subst hy; rfl
  have hpk2 := HPK.out
  rw [if_neg (fun h => h hy)] at hpk2
  have HPK := Lib.hid hpk2
  have hbk := backend_any W3 g h most idle M (HD.out.still HTX.out) C n bs T ab lb cb G m (HCH.out.still HTX.out) hn hn2 t hok
  obtain ⟨O, hO⟩ : ∃ O, backF bs T n M t = O := ⟨_, rfl⟩
  rw [hO] at hbk
  have HO := Lib.hid hO
  have HBK := Lib.hid hbk
  simp only [tcs] at HBK
  clear hpk2 hbk hO hy
  obtain ⟨q0, q1, q2, q3, q4⟩ : W3.cell? ⟨w1.heap.size, 0, none⟩ = some (.int .u32 t.src) ∧ W3.cell? ⟨w1.heap.size, 1, none⟩ = some (.int .u32 t.dst) ∧ W3.cell? ⟨w1.heap.size, 2, none⟩ = some (.int .i64 t.proto) ∧ W3.cell? ⟨w1.heap.size, 3, none⟩ = some (.int .i64 t.sport) ∧ W3.cell? ⟨w1.heap.size, 4, none⟩ = some (.int .i64 t.dport) := ⟨cell_of_cells HTU3.out 0, cell_of_cells HTU3.out 1, cell_of_cells HTU3.out 2, cell_of_cells HTU3.out 3, cell_of_cells HTU3.out 4⟩
  cases O with
  | none =>
    have HRES := Lib.hid (show R = ⟨1, 10, 0, [], [], M⟩ by rw [HPK.out, HO.out])
    simp only [bkO, bkV', bkZ] at HBK
    clear HPK
    go_wp2_with fail
    (with_reducible refine HBK.out.mono ?_)
    rintro e w4 ⟨rfl, t4⟩
    obtain ⟨W5, hW5⟩ : ∃ W, w4.alloc (.cells #[.int .i64 0, .int .u32 0, .int .i64 0] 70) = W := ⟨_, rfl⟩
    have t5 : Touch w4 W5 (fun _ => False) := hW5 ▸ (Touch.refl w4 _).alloc _
    have t45 := t4.trans t5 (fun _ _ h => h)
    have HGX := Lib.hid (t45.keeps HGX.out (fun h => h))
    have HTX := Lib.hid (HTX.out.trans t45 (fun _ _ h => h))
    have HW5 := Lib.hid hW5
    clear t4 t5 t45 hW5 q0 q1 q2 q3 q4
    go_upto_region 7 with (fail)
    rw [HW5.out]
    have HDR := Lib.hid (dropped_any 10 W5)
    simp only [planV] at HDR
    go_wp2_with (first
     | (go_at_call 47; (with_reducible refine HDR.out.mono ?_); rintro e w20 ⟨rfl, t20⟩; have HG20 := Lib.hid (t20.keeps HGX.out (fun h => h)); have HT20 := Lib.hid (HTX.out.trans t20 (fun _ _ h => h)); clear t20)
     | (refine store_row rfl 53 (.tmp 12) (.tmp 55) rfl (w.heap.size + 1) _ rfl rfl _ _ HG20.out HPI.out rfl rfl ?_))
    refine ret_row rfl rfl (w.heap.size + 1) _ (planV 1 10 0 (.slice none 0 0) (.slice none 0 0)) _ _ rfl (setRow_heap _ _ _ _ _ _ HG20.out) Tryz.underlying53 rfl infoPlan ?_
    rw [HRES.out]
    exact pk_drop HD.out (HT20.out.setRow _ _ (fun h => absurd h (by omega))) 1 _
  | some b =>
    have had := hbs b (backF_mem HO.out)
    have hpk2 : R = (if whyW xs mtu ≠ 0 then ⟨1, (whyW xs mtu : Nat), 0, [], [], M⟩
    else ⟨2, 0, b.id, wrapF xs self b.addr, keepR M most ⟨t, b.id, gen, now⟩ (endsB (kOf t) xs), keepM M most ⟨t, b.id, gen, now⟩ (endsB (kOf t) xs)⟩) := by rw [HPK.out, HO.out]
    have HPK := Lib.hid hpk2
    simp only [bkO, bkV'] at HBK
    clear hpk2
    go_wp2_with fail
    (with_reducible refine HBK.out.mono ?_)
    rintro e w4 ⟨rfl, t4⟩
    obtain ⟨W5, hW5⟩ : ∃ W, w4.alloc (.cells #[.int .i64 b.id, .int .u32 b.addr, .int .i64 b.weight] 70) = W := ⟨_, rfl⟩
    have t5 : Touch w4 W5 (fun _ => False) := hW5 ▸ (Touch.refl w4 _).alloc _
    have g5 : W5.heap[w4.heap.size]? = some (.cells #[.int .i64 b.id, .int .u32 b.addr, .int .i64 b.weight] 70 (0, 0)) := hW5 ▸ heap_alloc_new ..
    have t45 := t4.trans t5 (fun _ _ h => h)
    have HLT4 : RowKit.Hid (w.heap.size + 2 ≤ w4.heap.size) := Lib.hid (Nat.le_trans HS3.out t4.size)
    have HGX := Lib.hid (t45.keeps HGX.out (fun h => h))
    have HCX := Lib.hid (t45.keeps HCX.out (fun h => h))
    have HTX := Lib.hid (HTX.out.trans t45 (fun _ _ h => h))
    have HTU5 := Lib.hid (t45.keeps HTU3.out (fun h => h))
    have HBK5 := Lib.hid g5
    have HS5 : RowKit.Hid (w.heap.size + 2 ≤ W5.heap.size) := Lib.hid (Nat.le_trans HS3.out t45.size)
    have HW5 := Lib.hid hW5
    clear t4 t5 t45 hW5 g5 q0 q1 q2 q3 q4 HBK
    go_upto_region 7 with (fail)
    rw [HW5.out]
    have c0 : W5.cell? ⟨w.heap.size, 0, none⟩ = some (.int .u32 self) := cell_of_cells HCX.out 0
    have c4 : W5.cell? ⟨w.heap.size, 4, none⟩ = some (.int .i64 mtu) := cell_of_cells HCX.out 4
    have z1 : W5.cell? ⟨w4.heap.size, 1, none⟩ = some (.int .u32 b.addr) := cell_of_cells HBK5.out 1
    have hwr := wrap_new a len cap xs self b.addr mtu W5 (HR.out.touch HTX.out (fun _ _ => .inr (fun h => h))) hs1 had
    have htw : whyW xs mtu = 0 → tellW xs self b.addr mtu = wrapF xs self b.addr := fun h => by unfold tellW; rw [if_pos h]
    obtain ⟨V, hV⟩ : ∃ V, whyW xs mtu = V := ⟨_, rfl⟩
    rw [hV] at hwr htw
    have HPK := Lib.hid (show R = (if V ≠ 0 then ⟨1, (V : Nat), 0, [], [], M⟩
    else ⟨2, 0, b.id, wrapF xs self b.addr, keepR M most ⟨t, b.id, gen, now⟩ (endsB (kOf t) xs), keepM M most ⟨t, b.id, gen, now⟩ (endsB (kOf t) xs)⟩) by rw [HPK.out, hV])
    have HWR := Lib.hid hwr
    have HTW := Lib.hid htw
    clear hwr htw hV had
    go_wp2_with fail
    (with_reducible refine HWR.out.mono ?_)
    rintro e w6 ⟨pa, pn, pc, rfl, hpr, t6, hnew⟩
    have HT6 := Lib.hid (HTX.out.trans t6 (fun _ _ h => h))
    have HG6 := Lib.hid (t6.keeps HGX.out (fun h => h))
    have HTU6 := Lib.hid (t6.keeps HTU5.out (fun h => h))
    have HBK6 := Lib.hid (t6.keeps HBK5.out (fun h => h))
    have HPR := Lib.hid hpr
    have HNEW : RowKit.Hid (∀ x, pa = some x → w.heap.size + 2 ≤ x.block) := Lib.hid (fun x hx => Nat.le_trans HS5.out (hnew x hx))
    have HS6 : RowKit.Hid (w.heap.size + 2 ≤ w6.heap.size) := Lib.hid (Nat.le_trans HS5.out t6.size)
    clear t6 hpr hnew c0 c4 z1 HWR
    go_upto_region 10 with (fail)
    by_cases hv : V = 0
    case neg =>
     have hvn : ((V : Int) != 0) = true := bne_iff_ne.2 (by omega)
     have HRES := Lib.hid (show R = ⟨1, (V : Nat), 0, [], [], M⟩ by rw [HPK.out, if_pos hv])
     have HGX := HG6
     have HTX := HT6
     clear HPK hv
     have HDR := Lib.hid (dropped_any (V : Nat) w6)
     simp only [planV] at HDR
     go_wp2_with (first
      | (go_at_call 47; (with_reducible refine HDR.out.mono ?_); rintro e w20 ⟨rfl, t20⟩; have HG20 := Lib.hid (t20.keeps HGX.out (fun h => h)); have HT20 := Lib.hid (HTX.out.trans t20 (fun _ _ h => h)); clear t20)
      | (refine store_row rfl 53 (.tmp 12) (.tmp 70) rfl (w.heap.size + 1) _ rfl rfl _ _ HG20.out HPI.out rfl rfl ?_))
     refine ret_row rfl rfl (w.heap.size + 1) _ (planV 1 (V : Nat) 0 (.slice none 0 0) (.slice none 0 0)) _ _ rfl (setRow_heap _ _ _ _ _ _ HG20.out) Tryz.underlying53 rfl infoPlan ?_
     rw [HRES.out]
     exact pk_drop HD.out (HT20.out.setRow _ _ (fun h => absurd h (by omega))) 1 _
    case pos =>
     have hvn : ((V : Int) != 0) = false := by subst hv; rfl
     have hpr := HPR.out
     rw [HTW.out hv] at hpr
     have HPR := Lib.hid hpr
     have HRES := Lib.hid (show R = ⟨2, 0, b.id, wrapF xs self b.addr, keepR M most ⟨t, b.id, gen, now⟩ (endsB (kOf t) xs), keepM M most ⟨t, b.id, gen, now⟩ (endsB (kOf t) xs)⟩ by rw [HPK.out, if_neg (fun h => h hv)])
     obtain ⟨f, hf⟩ : ∃ f : FlD, (⟨t, b.id, gen, now⟩ : FlD) = f := ⟨_, rfl⟩
     obtain ⟨W7, hW7⟩ : ∃ W, w6.alloc (.cells (sgC g f) 113) = W := ⟨_, rfl⟩
     have t7 : Touch w6 W7 (fun _ => False) := hW7 ▸ (Touch.refl w6 _).alloc _
     have g7 : W7.heap[w6.heap.size]? = some (.cells (sgC g f) 113 (0, 0)) := hW7 ▸ heap_alloc_new ..
     have HT7 := Lib.hid (HT6.out.trans t7 (fun _ _ h => h))
     have HG7 := Lib.hid (t7.keeps HG6.out (fun h => h))
     have HBK7 := Lib.hid (t7.keeps HBK6.out (fun h => h))
     have HTU7 := Lib.hid (t7.keeps HTU6.out (fun h => h))
     have HPR7 := Lib.hid (HPR.out.touch t7 (fun _ _ => .inr (fun h => h)))
     have HSG7 := Lib.hid g7
     have HS7 : RowKit.Hid (w.heap.size + 2 ≤ W7.heap.size) := Lib.hid (Nat.le_trans HS6.out t7.size)
     have HFE := Lib.hid hf
     have HW7 := Lib.hid hW7
     rw [← hf] at HW7
     simp only [sgC] at HW7
     obtain ⟨q0, q1, q2, q3, q4⟩ : w6.cell? ⟨w1.heap.size, 0, none⟩ = some (.int .u32 t.src) ∧ w6.cell? ⟨w1.heap.size, 1, none⟩ = some (.int .u32 t.dst) ∧ w6.cell? ⟨w1.heap.size, 2, none⟩ = some (.int .i64 t.proto) ∧ w6.cell? ⟨w1.heap.size, 3, none⟩ = some (.int .i64 t.sport) ∧ w6.cell? ⟨w1.heap.size, 4, none⟩ = some (.int .i64 t.dport) := ⟨cell_of_cells HTU6.out 0, cell_of_cells HTU6.out 1, cell_of_cells HTU6.out 2, cell_of_cells HTU6.out 3, cell_of_cells HTU6.out 4⟩
     have z0 : w6.cell? ⟨w4.heap.size, 0, none⟩ = some (.int .i64 b.id) := cell_of_cells HBK6.out 0
     clear t7 g7 hf hW7 hpr hv HPK HTW
     go_upto_region 13 with (fail)
     rw [HW7.out]
     clear q0 q1 q2 q3 q4 z0
     obtain ⟨q0, q1, q2, q3, q4⟩ : W7.cell? ⟨w1.heap.size, 0, none⟩ = some (.int .u32 t.src) ∧ W7.cell? ⟨w1.heap.size, 1, none⟩ = some (.int .u32 t.dst) ∧ W7.cell? ⟨w1.heap.size, 2, none⟩ = some (.int .i64 t.proto) ∧ W7.cell? ⟨w1.heap.size, 3, none⟩ = some (.int .i64 t.sport) ∧ W7.cell? ⟨w1.heap.size, 4, none⟩ = some (.int .i64 t.dport) := ⟨cell_of_cells HTU7.out 0, cell_of_cells HTU7.out 1, cell_of_cells HTU7.out 2, cell_of_cells HTU7.out 3, cell_of_cells HTU7.out 4⟩
     have hen : Calls Tryz.prog 51 #[.agg (tcs t), .slice a len cap] W7 fun e w' => e = .returned (.bool (endsB (kOf t) xs)) ∧ Touch W7 w' (fun _ => False) := ends_any (kOf t) a len cap xs W7 (HR.out.touch HT7.out (fun _ _ => .inr (fun h => h)))
     obtain ⟨E, hE⟩ : ∃ E, endsB (kOf t) xs = E := ⟨_, rfl⟩
     rw [hE] at hen
     have HRES := Lib.hid (show R = ⟨2, 0, b.id, wrapF xs self b.addr, keepR M most f E, keepM M most f E⟩ by rw [HRES.out, hE, ← HFE.out])
     have HEN := Lib.hid hen
     simp only [tcs] at HEN
     clear hen hE
     go_wp2_with fail
     (with_reducible refine HEN.out.mono ?_)
     rintro e w8 ⟨rfl, t8⟩
     have hokf : TupOk f.t := by rw [← HFE.out]; exact hok
     have hru := rule_any w8 w6.heap.size g h most idle M (HD.out.still (HT7.out.trans t8 (fun _ _ h => h))) f (t8.keeps HSG7.out (fun h => h)) hokf E
     obtain ⟨F, hF⟩ : ∃ F, keepFn M f E = F := ⟨_, rfl⟩
     rw [hF] at hru
     have HRU := Lib.hid hru
     have HFF := Lib.hid hF
     have HT8 := Lib.hid (HT7.out.trans t8 (fun _ _ h => h))
     have HT78 := Lib.hid t8
     clear hru hF t8 q0 q1 q2 q3 q4 HEN
     go_wp2_with fail
     (with_reducible refine HRU.out.mono ?_)
     rintro e w9 ⟨rfl, t9⟩
     have t79 := HT78.out.trans t9 (fun _ _ h => h)
     have HT9 := Lib.hid (HT8.out.trans t9 (fun _ _ h => h))
     have HG9' := Lib.hid (t79.keeps HG7.out (fun h => h))
     have HG9 : RowKit.Hid (w9.drew.heap[w.heap.size + 1]? = some (.cells (planV 0 0 0 (.slice none 0 0) (.slice none 0 0)) 53 (0, 0))) := Lib.hid HG9'.out
     have HBK9 := Lib.hid (t79.keeps HBK7.out (fun h => h))
     have HPR9 := Lib.hid (HPR7.out.touch t79 (fun _ _ => .inr (fun h => h)))
     have hS9 : w.heap.size + 2 ≤ w9.heap.size := Nat.le_trans HS7.out t79.size
     have HNG : RowKit.Hid (¬ footF g h (w.heap.size + 1)) := Lib.hid (fun e => by have := HD.out.footlt _ e; omega)
     have HNB : RowKit.Hid (¬ footF g h w4.heap.size) := Lib.hid (fun e => by have := HD.out.footlt _ e; have := HLT4.out; omega)
     have HNP : RowKit.Hid (¬ w4.heap.size = w.heap.size + 1) := Lib.hid (by have := HLT4.out; omega)
     have hkp := keep_any w9.drew w6.heap.size g h most idle M (HD.out.still (HT9.out.trans (Touch.refl w9 (fun _ => False)).drew (fun _ _ h => h))) f (t79.keeps HSG7.out (fun h => h)) (fun e => by have := HD.out.footlt _ e; have := HS6.out; omega) hokf E
     have hent := fun (v : Value) (w : World) => enter_keep M f E v w
     rw [HFF.out] at hkp
     simp only [HFF.out] at hent
     have HKEEP := Lib.hid hkp
     have HENT := Lib.hid hent
     have HEND : RowKit.Hid (∀ (w10 w11 : World) (v : Value), RecsIs w9.drew w10 v (keepR M most f E) → FStep w9.drew w10 g h most idle (keepM M most f E) → Touch w10 w11 (fun k => k = w.heap.size + 1) → PkIs w w11 g h most idle R (.returned (.agg (planV 2 0 b.id (.slice pa pn pc) v)))) := Lib.hid (by
      intro w10 w11 v h1 h2 h3
      rw [HRES.out]
      have h4 : RowB w9.drew pa pn pc (wrapF xs self b.addr) := HPR9.out.touch (Touch.refl w9 (fun _ => False)).drew (fun _ _ => .inr (fun h => h))
      refine ⟨pa, pn, pc, v, rfl, (h4.touch (step_touch h2) (fun x hx => .inr (fun e => ?_))).touch h3 (fun x hx => .inr (fun e => ?_)), h1.own (by show w.heap.size ≤ w9.heap.size; omega) (w.heap.size + 1) (by show _ < w9.heap.size; omega) h3, FStep.own (HT9.out.trans (Touch.refl w9 (fun _ => False)).drew (fun _ _ h => h)) h2 (w.heap.size + 1) (by omega) (by show _ < w9.heap.size; omega) HNG.out h3⟩
      ·have := HD.out.footlt _ e
       have := HNEW.out x hx
       omega
      ·have e : x.block = w.heap.size + 1 := e
       have := HNEW.out x hx
       omega)
     clear t9 t79 hS9 hkp hent hokf
     go_wp2_with fail
     have hS := (Touch.refl w9 (fun k => footF g h k ∨ k = w.heap.size + 1)).drew
     refine wp_region_tree (fun w' => Touch w9 w' (fun k => footF g h k ∨ k = w.heap.size + 1)) (.take 0 (.take 1 (.take 2 (.take 3 (.take 4 (.take 5 (.one 6 (.take 7 (.one 8 .fin))))))))) (by kernel_rfl) (by kernel_rfl) (by kernel_rfl) (by kernel_rfl) hS ?_
     repeat' (first
      | (with_reducible refine walkT_take ?_)
      | (with_reducible refine walkT_one ?_)
      | (with_reducible refine walkT_two ?_ ?_)
      | (with_reducible refine walkT_fin ?_)
      | ((with_reducible show TakeN _ _ _ _ _ _ _ _); ((refine takeN_take (v := ?_) (some _) rfl rfl (fun _ _ _ h => h) (by rfl) ?_ ?_; rotate_left; (focus (intro w' hw'; have z0 : w'.cell? ⟨w4.heap.size, 0, none⟩ = some (.int .i64 b.id) := cell_of_cells (hw'.keeps HBK9.out (fun e => e.elim HNB.out HNP.out)) 0; go_simp; (try with_reducible rfl))); (try simp only [Act.put, List.setIfInBounds_toArray, List.set_cons_zero, List.set_cons_succ]))))
      | ((with_reducible show RunN _ _ _ _ 6 _ _ _); ((refine runN_callV 91 (.tmp 89) F _ _ _ HKEEP.out rfl rfl rfl rfl (by rfl) rfl (HENT.out _ _) ?_; rintro e w10 ⟨v, rfl, hv10, s10⟩; have HST := Lib.hid s10; have HRI := Lib.hid hv10; obtain ⟨qa, qc, rfl, _, _⟩ := hv10; have HG10 := Lib.hid ((step_touch s10).keeps (HG9.out) HNG.out); refine ⟨_, rfl, hS.trans (step_touch s10) (fun _ _ h => .inl h), fun hS => ?_⟩; clear s10; (try simp only [Act.put, List.setIfInBounds_toArray, List.set_cons_zero, List.set_cons_succ]))))
      | ((with_reducible show RunN _ _ _ _ 8 _ _ _); ((refine runN_store rfl rfl (by rfl) 53 _ _ rfl (w.heap.size + 1) (planV 2 0 b.id (.slice pa pn pc) (.slice qa _ qc)) rfl rfl _ _ HG10.out infoPlan rfl rfl ?_; intro w11 hM11 t11; have HG11 := Lib.hid hM11; have HT11 := Lib.hid t11; refine ⟨hS.trans t11 (fun _ _ h => .inr h), fun hS => ?_⟩; clear hM11 t11; (try simp only [Act.put, List.setIfInBounds_toArray, List.set_cons_zero, List.set_cons_succ])))))
     all_goals
      go_wp2_with fail
      refine ret_row rfl rfl (w.heap.size + 1) _ (planV 2 0 b.id (.slice pa pn pc) (.slice qa _ qc)) _ _ rfl HG11.out Tryz.underlying53 rfl infoPlan ?_
      exact HEND.out _ _ _ HRI.out HST.out HT11.out
end Go.Proofs.YtpjdcgjoepjmcaaGreat
