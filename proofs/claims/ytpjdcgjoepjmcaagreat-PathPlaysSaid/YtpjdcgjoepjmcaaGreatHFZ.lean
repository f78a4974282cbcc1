import Derived.Test.YtpjdcgjoepjmcaaGreatHCZ
import Derived.Deep.RegionHeld3
import Derived.Lib.QuietBelow
import Derived.BigQuiet
import Derived.Deep.DeepCutAuto
set_option linter.unusedVariables false
section
namespace Go.Proofs.YtpjdcgjoepjmcaaGreat
open Go.RowKit
theorem RowI.touch {w w' : World} {a : Option Addr} {len cap : Nat} {zs : List Int} {S : Nat → Prop} (h : RowI w a len cap zs) (t : Touch w w' S) (hn : ∀ x, a = Option.some x → len = 0 ∨ ¬ S x.block) : RowI w' a len cap zs := by
 obtain ⟨h1, h2, h3, h4, h5⟩ := h
 refine ⟨h1, h2, h3, h4, ?_⟩
 rcases h5 with h5 | ⟨b, off, ha, hlt, hc⟩
 ·exact .inl h5
 ·rcases hn _ ha with h9 | h9
  ·exact .inl h9
  ·exact .inr ⟨b, off, ha, Nat.lt_of_lt_of_le hlt t.size, fun i hi => (t.cell (p := ⟨b, off + i, none⟩) hlt h9).trans (hc i hi)⟩
def chC (n : Nat) (ab : Option Addr) (lb cb : Nat) (at_ : Option Addr) (lt ct : Nat) (m : Nat) : Array Value := #[.int .i64 (n : Nat), .slice ab lb cb, .slice at_ lt ct, .int .i64 (m : Nat)]
set_option maxRecDepth 20000 in
set_option maxHeartbeats 2000000 in
theorem new_any (n : Nat) (w : World) (hp : Prm n) :
 Calls Tryz.prog 12 #[.int .i64 n] w fun e w' => ∃ C G, e = .returned (.pointer (some ⟨C, 0, none⟩)) ∧ w'.heap[C]? = some (.cells (chC n none 0 0 (some ⟨G, 0, none⟩) n n 0) 100 (0, 0)) ∧ w.heap.size ≤ C ∧ RowI w' (some ⟨G, 0, none⟩) n n (tabF [] n) ∧ Touch w w' (fun _ => False) := by
 have h3 := hp.lo
 have h251 := hp.hi
 have HM := Lib.hid (mayS_any n w h3 h251)
 rw [prm_may hp] at HM
 have HTB := Lib.hid (table_any none 0 0 n [] w hp (RowS.nil _ _ _ _ (by omega)))
 have HP := Lib.hid hp
 go_enter Tryz.func12, Tryz.ntmps12
 go_wp2_with (first
  | (go_at_call 36; (with_reducible refine HM.out.mono ?_); rintro e w9 ⟨rfl, rfl⟩)
  | (go_at_call 37; (with_reducible refine HTB.out.mono ?_); rintro e w4 ⟨G, rfl, ho, t4⟩; have HI := Lib.hid (ho.rowI (tab_i64 HP.out)); have HT := Lib.hid t4; clear ho t4))
 go_ret
 have t5 := (Touch.refl w4 (fun _ => False)).alloc (.cells (chC n none 0 0 (some ⟨G, 0, none⟩) n n 0) 100)
 exact ⟨w4.heap.size, G, rfl, heap_alloc_new .., HT.out.size, HI.out.still t5, HT.out.trans t5 (fun _ _ h => h)⟩
end Go.Proofs.YtpjdcgjoepjmcaaGreat
end
section
namespace Go.Proofs.YtpjdcgjoepjmcaaGreat
open Go.RowKit
theorem findV_form (bs : List BkD) (id : Int) : ∃ (b : BkD) (x : Bool), findV bs id = .tuple #[bkV' b, .bool x] := by
 unfold findV
 cases findF bs id with
 | none => exact ⟨bkZ, false, rfl⟩
 | some b => exact ⟨b, true, rfl⟩
set_option maxRecDepth 20000 in
set_option maxHeartbeats 2000000 in
theorem cfind_any (n C : Nat) (ab : Option Addr) (lb cb : Nat) (at_ : Option Addr) (lt ct m : Nat) (bs : List BkD) (id : Int) (w : World)
 (hc : w.heap[C]? = some (.cells (chC n ab lb cb at_ lt ct m) 100 (0, 0))) (hr : RowK w ab lb cb bs) :
 Calls Tryz.prog 29 #[.pointer (some ⟨C, 0, none⟩), .int .i64 id] w fun e w' => e = .returned (findV bs id) ∧ Touch w w' (fun _ => False) := by
 obtain ⟨W0, hW0⟩ : ∃ W, w.alloc (.cells #[.int .i64 0, .int .u32 0, .int .i64 0] 70) = W := ⟨_, rfl⟩
 have t0 : Touch w W0 (fun _ => False) := hW0 ▸ (Touch.refl w _).alloc _
 have g0 : W0.heap[w.heap.size]? = some (.cells #[.int .i64 0, .int .u32 0, .int .i64 0] 70 (0, 0)) := hW0 ▸ heap_alloc_new ..
 have hc1 : W0.cell? ⟨C, 1, none⟩ = some (.slice ab lb cb) := cell_of_cells (t0.keeps hc (fun h => h)) 1
 have HFN := Lib.hid (find_any ab lb cb bs id W0 (hr.still t0))
 have HT0 := Lib.hid t0
 have HG0 := Lib.hid g0
 have HII := Lib.hid infoBk3
 have HW0 := Lib.hid hW0
 have HC1 := Lib.hid hc1
 obtain ⟨⟨bi, ba, bw⟩, x, hfv⟩ := findV_form bs id
 have HFV := Lib.hid hfv
 rw [hfv] at HFN
 clear t0 g0 hW0 hc hr hc1 hfv
 go_enter Tryz.func29, Tryz.ntmps29
 go_upto_region 1 with (fail)
 rw [HW0.out]
 have hc1 := HC1.out
 go_wp2_with fail
 refine HFN.out.mono ?_
 rintro e w3 ⟨rfl, t3⟩
 have HG3 := Lib.hid (t3.keeps HG0.out (fun h => h))
 have HT3 := Lib.hid (HT0.out.trans t3 (fun _ _ h => h))
 simp only [bkV']
 clear t3 hc1
 go_wp2_with (refine store_row rfl 70 (.tmp 4) (.tmp 15) rfl w.heap.size _ rfl rfl _ _ HG3.out HII.out rfl rfl ?_)
 refine ret_row1 rfl rfl w.heap.size _ #[.int .i64 bi, .int .u32 ba, .int .i64 bw] _ _ rfl (setRow_heap _ _ _ _ _ _ HG3.out) Tryz.underlying70 rfl HII.out (.bool x) rfl ?_
 exact ⟨by rw [HFV.out]; rfl, HT3.out.setRow _ _ (fun h => absurd h (Nat.lt_irrefl _))⟩
set_option maxRecDepth 20000 in
set_option maxHeartbeats 4000000 in
theorem pick_any (n C : Nat) (ab : Option Addr) (lb cb G m : Nat) (bs : List BkD) (T : List Int) (t : TupD) (w : World) (hn : 0 < n) (hn2 : n ≤ 251) (ok : TupOk t) (hm : mayTB t = true)
 (hc : w.heap[C]? = some (.cells (chC n ab lb cb (some ⟨G, 0, none⟩) n n m) 100 (0, 0))) (hr : RowK w ab lb cb bs) (hi : RowI w (some ⟨G, 0, none⟩) n n T) :
 Calls Tryz.prog 81 #[.pointer (some ⟨C, 0, none⟩), .agg (tcs t)] w fun e w' => (∃ (h : hashF t % n < T.length), e = .returned (findV bs T[hashF t % n])) ∧ Touch w w' (fun _ => False) := by
 obtain ⟨W0, hW0⟩ : ∃ W, (w.alloc (.cells (tcs t) 37)).alloc (.cells #[.int .i64 0, .int .u32 0, .int .i64 0] 70) = W := ⟨_, rfl⟩
 have t0 : Touch w W0 (fun _ => False) := hW0 ▸ ((Touch.refl w _).alloc _).alloc _
 have gk : W0.heap[w.heap.size]? = some (.cells (tcs t) 37 (0, 0)) := hW0 ▸ ((Touch.refl (w.alloc (.cells (tcs t) 37)) (fun _ => False)).alloc _).keeps (heap_alloc_new ..) (fun h => h)
 have g0 : W0.heap[w.heap.size + 1]? = some (.cells #[.int .i64 0, .int .u32 0, .int .i64 0] 70 (0, 0)) := by
  have := heap_alloc_new (w.alloc (.cells (tcs t) 37)) (.cells #[.int .i64 0, .int .u32 0, .int .i64 0] 70)
  rw [hW0] at this
  simpa using this
 have HK := Lib.hid gk
 have HG0 := Lib.hid g0
 have HT0 := Lib.hid t0
 have HC := Lib.hid (t0.keeps hc (fun h => h))
 have HR := Lib.hid (hr.still t0)
 have HI := Lib.hid (hi.still t0)
 have HW0 := Lib.hid hW0
 have HII := Lib.hid infoBk3
 have HMT : RowKit.Hid (∀ W, Calls Tryz.prog 113 #[.agg (tcs t)] W fun e w' => e = .returned (.bool true) ∧ Touch W w' (fun _ => False)) := Lib.hid (fun W => by rw [← hm]; exact mayT_any t W)
 have HHA := Lib.hid (fun W => hash_any t ok W)
 have hhl := hashF_lt t
 obtain ⟨H, hH⟩ : ∃ H, hashF t = H := ⟨_, rfl⟩
 rw [hH] at HHA hhl ⊢
 have hTl := hi.1
 have hsl : H % n < n := Nat.mod_lt _ hn
 obtain ⟨s, hs⟩ : ∃ s, H % n = s := ⟨_, rfl⟩
 have hsT : s < T.length := by rw [hTl, ← hs]; exact hsl
 rw [hs] at hsl
 suffices h : Calls Tryz.prog 81 #[.pointer (some ⟨C, 0, none⟩), .agg (tcs t)] w fun e w' => e = .returned (findV bs T[s]) ∧ Touch w w' (fun _ => False) by
  refine h.mono ?_
  rintro e w' ⟨he, ht⟩
  subst hs
  exact ⟨⟨hsT, he⟩, ht⟩
 have hTs : RowKit.Hid (∀ W, Touch W0 W (fun _ => False) → W.cell? ⟨G, s, none⟩ = some (.int .i64 T[s])) := Lib.hid (fun W t => by
  obtain ⟨b, off, hb, hcl⟩ := (HI.out.still t).some hn
  cases hb
  have := hcl s hsT
  rwa [Nat.zero_add] at this)
 have HFV : RowKit.Hid (∀ W, Touch W0 W (fun _ => False) → Calls Tryz.prog 29 #[.pointer (some ⟨C, 0, none⟩), .int .i64 T[s]] W fun e w' => e = .returned (findV bs T[s]) ∧ Touch W w' (fun _ => False)) := Lib.hid (fun W t => cfind_any n C ab lb cb (some ⟨G, 0, none⟩) n n m bs T[s] W (t.keeps HC.out (fun h => h)) (HR.out.still t))
 obtain ⟨⟨bi, ba, bw⟩, x, hfv⟩ := findV_form bs T[s]
 rw [hfv] at HFV ⊢
 have HSE : RowKit.Hid ((H : Int) % (n : Int) = (s : Int)) := Lib.hid (by omega)
 have htm : Int.tmod (H : Int) (n : Int) = (s : Int) := by
  rw [Int.tmod_eq_emod_of_nonneg (by omega)]; exact HSE.out
 generalize T[s] = z at *
 obtain ⟨t1', t2', t3', t4', t5'⟩ := t
 simp only [tcs] at HK HW0 HMT HHA ⊢
 have HCX : RowKit.Hid (∀ W, Touch W0 W (fun _ => False) → W.cell? ⟨C, 2, none⟩ = some (.slice (some ⟨G, 0, none⟩) n n)) := Lib.hid (fun W t => cell_of_cells (t.keeps HC.out (fun h => h)) 2)
 have HKX : RowKit.Hid (∀ W, Touch W0 W (fun _ => False) → W.cell? ⟨w.heap.size, 0, none⟩ = some (.int .u32 t1') ∧ W.cell? ⟨w.heap.size, 1, none⟩ = some (.int .u32 t2') ∧ W.cell? ⟨w.heap.size, 2, none⟩ = some (.int .i64 t3') ∧ W.cell? ⟨w.heap.size, 3, none⟩ = some (.int .i64 t4') ∧ W.cell? ⟨w.heap.size, 4, none⟩ = some (.int .i64 t5')) := Lib.hid (fun W t => by
  have g := t.keeps HK.out (fun h => h)
  exact ⟨cell_of_cells g 0, cell_of_cells g 1, cell_of_cells g 2, cell_of_cells g 3, cell_of_cells g 4⟩)
 clear t0 gk g0 hW0 hc hr hi ok hm hH
 go_enter Tryz.func81, Tryz.ntmps81
 go_upto_region 1 with (fail)
 rw [HW0.out]
 have k2 := HCX.out W0 (Touch.refl _ _)
 obtain ⟨q0, q1, q2, q3, q4⟩ := HKX.out W0 (Touch.refl _ _)
 have hnz : ¬ (n : Int) = 0 := by omega
 have hnB : ((n : Int) == 0) = false := beq_eq_false_iff_ne.2 hnz
 go_wp2_with (go_at_call 113; (with_reducible refine (HMT.out _).mono ?_); rintro e w3 ⟨rfl, t3⟩; have T3 := Lib.hid t3; clear t3)
 clear k2 q0 q1 q2 q3 q4
 obtain ⟨q0, q1, q2, q3, q4⟩ := HKX.out w3 T3.out
 have x0 := fun d os => cell_regrown q0 d os
 have x1 := fun d os => cell_regrown q1 d os
 have x2 := fun d os => cell_regrown q2 d os
 have x3 := fun d os => cell_regrown q3 d os
 have x4 := fun d os => cell_regrown q4 d os
 have xc := fun d os => cell_regrown (HCX.out w3 T3.out) d os
 have cH := fun d os => Calls.regrown_of ((HHA.out (Sort.grow (redrawn w3 d) os)).mono (fun e w' h => ⟨h.1, h.2.below (fun _ _ h => h.elim) (Nat.le_refl _)⟩))
 have hwn : IntKind.u32.wrap (n : Int) = n := by rw [IntKind.wrap_u32]; omega
 have hwS : IntKind.i64.wrap (s : Int) = s := IntWalk.i64_in _ (by omega)
 have hwH : IntKind.u32.wrap (s : Int) = s := by rw [IntKind.wrap_u32]; omega
 have hn0 : ¬ n = 0 := by omega
 have hse := HSE.out
 refine wp_region_quiet_below (by kernel_rfl) (by kernel_rfl) ?_
 repeat (go_big_quiet_step (exact cH _ _))
 refine wpQuiet_nil ?_
 intro _ hw'
 obtain ⟨⟨dq, osq⟩, hw''⟩ := hw'
 subst hw''
 have t4 := T3.out.trans (Touch.ofBelow (S := fun _ => False) (below_regrown w3 dq osq) (fun k h1 h2 => by omega)) (fun _ _ h => h)
 obtain ⟨w4, hw4⟩ : ∃ w4, Sort.grow (redrawn w3 dq) osq = w4 := ⟨_, rfl⟩
 have e4 : Sort.grow (redrawn w3 (Regrown.mk dq osq).d) (Regrown.mk dq osq).os = w4 := hw4
 rw [hw4] at t4
 rw [e4]
 have T4 := Lib.hid t4
 clear x0 x1 x2 x3 x4 xc cH hwn hwS hwH hw4 e4 t4 q0 q1 q2 q3 q4
 have k2 := HCX.out w4 T4.out
 have kt := hTs.out w4 T4.out
 have hsI : (s : Int) < n := by omega
 have HFN := Lib.hid (HFV.out w4 T4.out)
 clear HFV
 simp only [bkV'] at HFN ⊢
 go_wp2_with fail
 refine HFN.out.mono ?_
 rintro e w5 ⟨rfl, t5⟩
 have HG5 := Lib.hid ((T4.out.trans t5 (fun _ _ h => h)).keeps HG0.out (fun h => h))
 have HT5 := Lib.hid (HT0.out.trans (T4.out.trans t5 (fun _ _ h => h)) (fun _ _ h => h))
 clear t5 k2 kt
 go_wp2_with (refine store_row rfl 70 (.tmp 4) (.tmp 42) rfl (w.heap.size + 1) _ rfl rfl _ _ HG5.out HII.out rfl rfl ?_)
 refine ret_row1 rfl rfl (w.heap.size + 1) _ #[.int .i64 bi, .int .u32 ba, .int .i64 bw] _ _ rfl (setRow_heap _ _ _ _ _ _ HG5.out) Tryz.underlying70 rfl HII.out (.bool x) rfl ?_
 exact ⟨rfl, HT5.out.setRow _ _ (fun h => absurd h (by omega))⟩
end Go.Proofs.YtpjdcgjoepjmcaaGreat
end
section
namespace Go.Proofs.YtpjdcgjoepjmcaaGreat
open Go.RowKit
theorem tab_mem {bs : List BkD} {n : Nat} (hp : Prm n) (hg : gmay bs = true) (h0 : 0 < bs.length) : ∀ x ∈ tabF bs n, ∃ b ∈ bs, x = b.id := by
 intro x hx
 unfold tabF at hx
 rw [if_neg (by simp only [hg, not_or]; exact ⟨by omega, by simp⟩)] at hx
 have hI := inv_all (rows_fine hp hg) (by rw [rowsF_length]; exact h0) n (Nat.le_refl _)
 rcases hI.mem x hx with h1 | ⟨r, hr, h1⟩
 ·have h2 := hI.free
  have h3 : 0 < (stM (rowsF bs n) n n).1.count (-1) := List.count_pos_iff.2 (h1 ▸ hx)
  omega
 ·obtain ⟨b, hb, rfl⟩ := List.mem_map.1 hr
  exact ⟨b, hb, h1⟩
def bkA : BkD := ⟨5, 0, 1⟩
def tupA : TupD := ⟨0, 0, 6, 0, 0⟩
end Go.Proofs.YtpjdcgjoepjmcaaGreat
end
section
namespace Go.Proofs.YtpjdcgjoepjmcaaGreat
open Go.RowKit
def outB (xs : List Int) (id : Int) : Bool := decide (id ∈ xs)
theorem outB_nil (id : Int) : outB [] id = false := by simp [outB]
theorem outB_snoc (xs : List Int) (x id : Int) : outB (xs ++ [x]) id = (outB xs id || (x == id)) := by
 unfold outB
 rw [Bool.eq_iff_iff]
 simp only [List.mem_append, List.mem_singleton, decide_eq_true_eq, Bool.or_eq_true, beq_iff_eq]
 exact or_congr Iff.rfl eq_comm
theorem outB_mem {xs : List Int} {id : Int} (h : id ∈ xs) : outB xs id = true := decide_eq_true h
def keepF (out : Int → Bool) (bs : List BkD) : List BkD := bs.filter (fun b => !out b.id)
theorem keepF_snoc (out : Int → Bool) (bs : List BkD) (b : BkD) : keepF out (bs ++ [b]) = keepF out bs ++ (if out b.id then [] else [b]) := by
 unfold keepF
 rw [List.filter_append]
 congr 1
 cases h : out b.id <;> simp [h]
set_option maxRecDepth 20000 in
set_option maxHeartbeats 2000000 in
theorem without_says (fn : FuncId) (f1 f2 : Array Value) (out : Int → Bool) (a : Option Addr) (len cap : Nat) (bs : List BkD) (w : World) (hr : RowK w a len cap bs) (hlen : len ≤ 1000)
 (hsy : ∀ (W : World) (id : Int), Touch w W (fun _ => False) → Calls Tryz.prog 75 #[.func (.func fn) f1 f2, .int .i64 id] W fun e w' => e = .returned (.bool (out id)) ∧ Touch W w' (fun _ => False)) :
 Calls Tryz.prog 40 #[.slice a len cap, .func (.func fn) f1 f2] w fun e w' => ∃ a' c', e = .returned (.slice a' (keepF out bs).length c') ∧ OwnK w' w.heap.size (.slice a' (keepF out bs).length c') (keepF out bs) ∧ Touch w w' (fun _ => False) := by
 have hl := hr.len
 have hcap := hr.hmax
 have hcap1 := hr.hcap
 have HR := Lib.hid hr
 have HL := Lib.hid hl
 have HII := Lib.hid infoBk
 have HSY := Lib.hid hsy
 clear hr hl hsy
 go_enter Tryz.func40, Tryz.ntmps40
 go_wp2_with fail
 go_loopw [5, 10] (fun s i wr => ∃ (k n : Nat) (a' : Option Addr) (c' : Nat), k ≤ len ∧ n ≤ k ∧ i = .int .i64 k ∧ s = .slice a' n c' ∧ n = (keepF out (bs.take k)).length ∧ OwnK wr w.heap.size (.slice a' n c') (keepF out (bs.take k)) ∧ Touch w wr (fun _ => False)) (fun _ i _ => len - (intOf i).toNat)
 case atStart => exact ⟨0, 0, none, 0, Nat.zero_le _, Nat.le_refl _, rfl, rfl, rfl, OwnS.nil _ _ _ _, Touch.refl _ _⟩
 case round =>
  obtain ⟨k, n, a', c', hk, hnk, rfl, rfl, hn, ho, ht⟩ := hrel
  have HN := Lib.hid hn
  have HO := Lib.hid ho
  have HT := Lib.hid ht
  clear ho ht hn
  by_cases hlt : k < len
  case neg =>
   obtain rfl : len = k := by omega
   have hlt' : ¬ (len : Int) < len := by omega
   go_wp2
   go_ret
   have e : bs.take len = bs := by rw [← HL.out, List.take_length]
   have h1 := HO.out
   have h2 := HN.out
   rw [e] at h1 h2
   exact ⟨a', c', by rw [← h2]; rfl, by rw [← h2]; exact h1, HT.out⟩
  case pos =>
  have hr := HR.out.still HT.out
  obtain ⟨b, off, rfl⟩ := hr.some (by omega)
  have hk1 : k < bs.length := by rw [HL.out]; exact hlt
  obtain ⟨c0, c1, c2⟩ := hr.cells k hk1
  have HS : RowKit.Hid (keepF out (bs.take (k + 1)) = keepF out (bs.take k) ++ (if out bs[k].id then [] else [bs[k]])) := Lib.hid (by rw [List.take_succ_eq_append_getElem hk1, keepF_snoc])
  generalize bs[k] = f at *
  obtain ⟨W2, hW2⟩ : ∃ W, wr.alloc (.cells #[.int .i64 f.id, .int .u32 f.addr, .int .i64 f.weight] 70) = W := ⟨_, rfl⟩
  have t1 : Touch wr W2 (fun _ => False) := hW2 ▸ (Touch.refl wr _).alloc _
  have g2 : W2.heap[wr.heap.size]? = some (.cells #[.int .i64 f.id, .int .u32 f.addr, .int .i64 f.weight] 70 (0, 0)) := hW2 ▸ heap_alloc_new ..
  have HG2 := Lib.hid g2
  have HT2 := Lib.hid (HT.out.trans t1 (fun _ _ h => h))
  have HO2 := Lib.hid (OwnS.still HO.out.toS t1)
  have HSF := Lib.hid (HSY.out W2 f.id (HT.out.trans t1 (fun _ _ h => h)))
  have HW2 := Lib.hid hW2
  have hlI : (k : Int) < len := by omega
  clear hr t1 g2 hW2
  obtain ⟨x, hx⟩ : ∃ x, out f.id = x := ⟨_, rfl⟩
  rw [hx] at HSF HS
  clear hx
  go_wp2_with fail
  rw [HW2.out]
  refine HSF.out.mono ?_
  rintro e w4 ⟨rfl, t4⟩
  have g4 := t4.keeps HG2.out (fun h => h)
  have x0 : w4.cell? ⟨wr.heap.size, 0, none⟩ = some (.int .i64 f.id) := cell_of_cells g4 0
  have x1 : w4.cell? ⟨wr.heap.size, 1, none⟩ = some (.int .u32 f.addr) := cell_of_cells g4 1
  have x2 : w4.cell? ⟨wr.heap.size, 2, none⟩ = some (.int .i64 f.weight) := cell_of_cells g4 2
  cases x with
  | true =>
    have HT4 := Lib.hid (HT2.out.trans t4 (fun _ _ h => h))
    have HO4 := Lib.hid (OwnS.still HO2.out t4)
    have HS' : RowKit.Hid (keepF out (bs.take (k + 1)) = keepF out (bs.take k)) := Lib.hid (by rw [HS.out]; simp)
    clear t4 g4 HS
    go_wp2_with fail
    exact ⟨⟨k + 1, n, a', c', hlt, by omega, by go_num, rfl, by rw [HS'.out]; exact HN.out, by rw [HS'.out]; exact HO4.out, HT4.out⟩, by simp [intOf]; omega⟩
  | false =>
  have HS' : RowKit.Hid (keepF out (bs.take (k + 1)) = keepF out (bs.take k) ++ [f]) := Lib.hid (by rw [HS.out]; simp)
  clear HS
  have t5 := (Touch.refl w4 (fun _ => False)).alloc (.cells #[.int .i64 f.id, .int .u32 f.addr, .int .i64 f.weight] 70)
  have HT5 := Lib.hid ((HT2.out.trans t4 (fun _ _ h => h)).trans t5 (fun _ _ h => h))
  have HO5 := Lib.hid (OwnS.still (OwnS.still HO2.out t4) t5)
  have hown : (w4.alloc (.cells #[.int .i64 f.id, .int .u32 f.addr, .int .i64 f.weight] 70)).ownsRow w.heap.size 70 3 (.slice a' n c') n ((keepF out (bs.take k)).map BkD.cells).flatten := by
   have := HO5.out.own
   rwa [List.length_map, ← HN.out] at this
  have HOWN := Lib.hid hown
  have HQ := Lib.hid (news_of (heap_alloc_new w4 (.cells #[.int .i64 f.id, .int .u32 f.addr, .int .i64 f.weight] 70)))
  clear hown t4 t5 g4
  go_wp2_with (at_builtin; (with_reducible refine wp_appR HOWN.out 39 Tryz.underlying39 _ 24 HII.out rfl (by decide) ⟨w4.heap.size, 0, none⟩ 1 1 _ rfl HQ.out (by simp [Value.oneCell']) (by simp only [maxLen]; omega) (by omega) (HT5.out.under (Nat.le_refl _)) (Nat.le_refl _) HT5.out.size rfl _ _ rfl rfl rfl ?_); intro a4 c4 w6 ho4 hg4 hb4 hp4; have HO4 := Lib.hid ho4; have HT4 := Lib.hid (Touch.ofBelow (S := fun _ => False) hb4 (fun k h1 h2 => by omega)); clear ho4 hg4 hb4 hp4)
  have HO6 : RowKit.Hid (OwnK w6 w.heap.size (.slice a4 (n + 1) c4) (keepF out (bs.take (k + 1)))) := Lib.hid (by
   rw [HS'.out]
   unfold OwnK
   rw [List.map_append, List.map_cons, List.map_nil]
   refine HO5.out.add (L2 := [f.cells]) (by simp [BkD.cells]) ?_
   have := HO4.out
   rw [List.length_map, ← HN.out]
   simpa [BkD.cells] using this)
  exact ⟨⟨k + 1, n + 1, a4, c4, hlt, by omega, by go_num, rfl, by rw [HS'.out, List.length_append, ← HN.out]; rfl, HO6.out, HT4.out⟩, by simp [intOf]; omega⟩
set_option maxRecDepth 20000 in
set_option maxHeartbeats 4000000 in
theorem set_out (n : Nat) (fv : Value) (L : List BkD) (C : Nat) (ab : Option Addr) (lb cb : Nat) (at_ : Option Addr) (lt ct m : Nat) (a : Option Addr) (len cap : Nat) (bs : List BkD) (w : World) (hp : Prm n) (hm : m ≤ 1000000)
 (hc : w.heap[C]? = some (.cells (chC n ab lb cb at_ lt ct m) 100 (0, 0))) (hr : RowK w a len cap bs) (hg : gmay bs = true) (hne : ∀ x, a = some x → len = 0 ∨ ¬ x.block = C)
 (hwo : ∀ W, Touch w W (fun _ => False) → Calls Tryz.prog 40 #[.slice a len cap, .func (.func 41) #[fv] #[]] W fun e w' => ∃ a' c', e = .returned (.slice a' L.length c') ∧ OwnK w' W.heap.size (.slice a' L.length c') L ∧ Touch W w' (fun _ => False)) :
 Calls Tryz.prog 14 #[.pointer (some ⟨C, 0, none⟩), .slice a len cap, fv] w fun e w' => e = .returned (.int .i64 0) ∧ ∃ a' c' G, w'.heap[C]? = some (.cells (chC n a' len c' (some ⟨G, 0, none⟩) n n (m + 1)) 100 (0, 0)) ∧ RowK w' a' len c' bs ∧ RowI w' (some ⟨G, 0, none⟩) n n (tabF L n) ∧ (∀ x, a' = some x → w.heap.size ≤ x.block) ∧ w.heap.size ≤ G ∧ Touch w w' (fun k => k = C) := by
 have h3 := hp.lo
 have h251 := hp.hi
 have HM := Lib.hid (fun W => mayS_any n W h3 h251)
 rw [prm_may hp] at HM
 have hl := hr.len
 have hl16 : len ≤ 16 := by have := ((gmay_iff bs).1 hg).1; omega
 have HP := Lib.hid hp
 have HG := Lib.hid hg
 have HC := Lib.hid hc
 have HR := Lib.hid hr
 have HNE := Lib.hid hne
 have HGM : RowKit.Hid (∀ W, RowK W a len cap bs → Calls Tryz.prog 39 #[.slice a len cap] W fun e w' => e = .returned (.bool true) ∧ Touch W w' (fun _ => False)) := Lib.hid (fun W h => by have := gmay_any a len cap bs W h; rwa [hg] at this)
 have hmf : ∀ (fn : Fn) (first cap : Array Value) (w : World), (Instr.makeFunc fn first cap).run Tryz.prog w = .ok (.func fn first cap) w := fun _ _ _ _ => rfl
 have c0 : w.cell? ⟨C, 0, none⟩ = some (.int .i64 (n : Nat)) := cell_of_cells hc 0
 have HWO0 := Lib.hid hwo
 clear hc hr hg hne hp hl hwo
 go_enter Tryz.func14, Tryz.ntmps14
 go_wp2_with (first
  | (go_at_call 36; (with_reducible refine (HM.out _).mono ?_); rintro e w9 ⟨rfl, rfl⟩)
  | (go_at_call 39; (with_reducible refine (HGM.out _ HR.out).mono ?_); rintro e w3 ⟨rfl, t3⟩; have HT := Lib.hid t3; have HC := Lib.hid (t3.keeps HC.out (fun h => h)); have HR := Lib.hid (HR.out.still t3); clear t3))
 have hc := HC.out
 have c0 : w3.cell? ⟨C, 0, none⟩ = some (.int .i64 (n : Nat)) := cell_of_cells hc 0
 have HCC : RowKit.Hid (∀ W, Touch w3 W (fun _ => False) → W.cell? ⟨C, 0, none⟩ = some (.int .i64 (n : Nat))) := Lib.hid (fun W t => cell_of_cells (t.keeps hc (fun h => h)) 0)
 have HWO : RowKit.Hid (∀ W, Touch w3 W (fun _ => False) → Calls Tryz.prog 40 #[.slice a len cap, .func (.func 41) #[fv] #[]] W fun e w' => ∃ a' c', e = .returned (.slice a' L.length c') ∧ RowK w' a' L.length c' L ∧ Touch w3 w' (fun _ => False)) := Lib.hid (fun W t => by
  refine (HWO0.out W (HT.out.trans t (fun _ _ h => h))).mono ?_
  rintro e w' ⟨a', c', he, ho, t'⟩
  exact ⟨a', c', he, ho.row.2.1, t.trans t' (fun _ _ h => h)⟩)
 have HTA : RowKit.Hid (∀ W a5 c5, RowK W a5 L.length c5 L → Touch w3 W (fun _ => False) → Calls Tryz.prog 37 #[.slice a5 L.length c5, .int .i64 n] W fun e w' => ∃ G, e = .returned (.slice (some ⟨G, 0, none⟩) n n) ∧ RowI w' (some ⟨G, 0, none⟩) n n (tabF L n) ∧ w3.heap.size ≤ G ∧ Touch w3 w' (fun _ => False)) := Lib.hid (fun W a5 c5 h t => by
  refine (table_any a5 L.length c5 n L W HP.out h).mono ?_
  rintro e w' ⟨G, he, ho, t'⟩
  exact ⟨G, he, ho.rowI (tab_i64 HP.out), Nat.le_trans t.size ho.lt.1, t.trans t' (fun _ _ h => h)⟩)
 clear hc
 go_region_held3 (fun w' => w'.cell? ⟨C, 0, none⟩ = some (.int .i64 (n : Nat)))
  (first | (with_reducible exact HK8.out _) | (with_reducible exact HCC.out _ T8.out) | (with_reducible exact HCC.out _ T5.out) | go_keep)
  (first
  | (go_simp; go_at_call 37; have _u := HK5; (with_reducible refine (HTA.out _ _ _ HK5.out T5.out).mono ?_); rintro e w8 ⟨G, rfl, hi8, hg8, t8⟩; have HI8 := Lib.hid hi8; have HGS := Lib.hid hg8; have T8 := Lib.hid t8; have c2 : w8.cell? ⟨C, 2, none⟩ = some (.slice at_ lt ct) := cell_of_cells (t8.keeps HC.out (fun h => h)) 2; have f2 := free_of_cells (t8.keeps HC.out (fun h => h)) 2; have k0 := HCC.out _ t8; have HK8 : RowKit.Hid (∀ v, (w8.setCell ⟨C, 2, none⟩ v).cell? ⟨C, 0, none⟩ = some (.int .i64 (n : Nat))) := Lib.hid (fun v => (cell_of_cells (heap_setCell_same w8 C 2 _ _ v (T8.out.keeps HC.out (fun h => h))) 0).trans rfl); clear hi8 t8 hg8)
  | (go_simp; go_at_call 40; (with_reducible refine (HWO.out _ (Touch.refl _ _).drew).mono ?_); rintro e w5 ⟨a5, c5, rfl, hk5, t5⟩; have HK5 := Lib.hid hk5; have T5 := Lib.hid t5; have k5 := HCC.out _ t5; clear hk5 t5))
 clear k5 k0 c2 f2 c0 _u
 have HC8 := T8.out.keeps HC.out (fun h => h)
 have hCl : C < w3.heap.size := heap_lt HC.out
 obtain ⟨W9, hW9⟩ : ∃ W, w8.setCell ⟨C, 2, none⟩ (.slice (some ⟨G, 0, none⟩) n n) = W := ⟨_, rfl⟩
 have HC9 : RowKit.Hid (W9.heap[C]? = some (.cells (chC n ab lb cb (some ⟨G, 0, none⟩) n n m) 100 (0, 0))) := Lib.hid (by rw [← hW9]; exact heap_setCell_same w8 C 2 _ _ _ HC8)
 have t9 : Touch w8 W9 (fun k => k = C) := hW9 ▸ (Touch.refl w8 (fun k => k = C)).setCell _ _ (fun _ => rfl)
 have HR9 := Lib.hid ((HR.out.still T8.out).touch t9 HNE.out)
 have hGC : ¬ G = C := by have := HGS.out; omega
 have HI9 := Lib.hid (HI8.out.touch t9 (fun x hx => by cases hx; exact .inr hGC))
 have HT9 := Lib.hid ((HT.out.mono (fun _ _ h => h.elim)).trans ((T8.out.mono (fun _ _ h => h.elim)).trans t9 (fun _ _ h => h)) (fun _ _ h => h))
 rw [hW9]
 clear hW9 t9 HC8
 go_wp2_with fail
 refine (cloneK_any a len cap bs W9 HR9.out (by omega)).mono ?_
 rintro e w10 ⟨a10, c10, rfl, ho10, t10⟩
 have g10 := t10.keeps HC9.out (fun h => h)
 have y1 : w10.cell? ⟨C, 1, none⟩ = some (.slice ab lb cb) := cell_of_cells g10 1
 have y3 : w10.cell? ⟨C, 3, none⟩ = some (.int .i64 (m : Nat)) := cell_of_cells g10 3
 have f1 := free_of_cells g10 1
 have f3 := free_of_cells g10 3
 have hC9 : C < W9.heap.size := heap_lt HC9.out
 have g11 := heap_setCell_same w10 C 1 _ _ (.slice a10 len c10) g10
 have g12 := heap_setCell_same (w10.setCell ⟨C, 1, none⟩ (.slice a10 len c10)) C 3 _ _ (.int .i64 ((m + 1 : Nat))) g11
 have t12 := ((Touch.refl w10 (fun k => k = C)).setCell ⟨C, 1, none⟩ (.slice a10 len c10) (fun _ => rfl)).setCell ⟨C, 3, none⟩ (.int .i64 ((m + 1 : Nat))) (fun _ => rfl)
 have HG12 := Lib.hid g12
 have HK12 := Lib.hid (ho10.row.2.1.touch t12 (fun x hx => .inr (fun h => by have := (ho10.row.2.2 x hx).1; omega)))
 have HI12 := Lib.hid ((HI9.out.still t10).touch t12 (fun x hx => by cases hx; exact .inr hGC))
 have HFR : RowKit.Hid (∀ x, a10 = some x → w.heap.size ≤ x.block) := Lib.hid (fun x hx => Nat.le_trans HT9.out.size (ho10.row.2.2 x hx).1)
 have HFG : RowKit.Hid (w.heap.size ≤ G) := Lib.hid (Nat.le_trans HT.out.size HGS.out)
 have HT12 := Lib.hid ((HT9.out.trans (t10.mono (fun _ _ h => h.elim)) (fun _ _ h => h)).trans t12 (fun _ _ h => h))
 clear ho10 t10 g10 g11 g12 t12
 go_wp2_with fail
 go_ret
 have e : ((m : Int) + 1) = ((m + 1 : Nat) : Int) := by omega
 rw [e]
 exact ⟨rfl, a10, c10, G, HG12.out, HK12.out, HI12.out, HFR.out, HFG.out, HT12.out⟩
end Go.Proofs.YtpjdcgjoepjmcaaGreat
end
section
namespace Go.Proofs.YtpjdcgjoepjmcaaGreat
open Go.RowKit
set_option maxRecDepth 20000 in
set_option maxHeartbeats 2000000 in
theorem rgmay_any (a : Option Addr) (len cap : Nat) (bs : List BkD) (w : World) (hr : RowK w a len cap bs) :
 Calls Tryz.prog 44 #[.slice a len cap] w fun e w' => e = .returned (.bool (gmay bs)) ∧ Touch w w' (fun _ => False) := by
 have hl := hr.len
 have hcap := hr.hmax
 have hcap1 := hr.hcap
 have HG := Lib.hid (gmay_iff bs)
 have HR := Lib.hid hr
 have HL := Lib.hid hl
 by_cases h16 : len ≤ 16
 case neg =>
  have HF : RowKit.Hid (gmay bs = false) := Lib.hid (by
   cases hh : gmay bs with
   | false => rfl
   | true => have := (HG.out.1 hh).1; omega)
  have h16I : (len : Int) > 16 := by omega
  clear hr hl
  go_enter Tryz.func44, Tryz.ntmps44
  go_wp2
  go_ret
  exact ⟨by rw [HF.out]; rfl, Touch.refl _ _⟩
 case pos =>
 have h16I : ¬ (len : Int) > 16 := by omega
 clear hr hl
 go_enter Tryz.func44, Tryz.ntmps44
 go_wp2_with fail
 go_loopw [10] (fun i wr => ∃ k : Nat, k ≤ len ∧ i = .int .i64 k ∧ Touch w wr (fun _ => False) ∧ ∀ j, j < k → okAt bs j = true) (fun i _ => len - (intOf i).toNat)
 case atStart => exact ⟨0, Nat.zero_le _, rfl, Touch.refl _ _, fun j hj => by omega⟩
 case round =>
  obtain ⟨k, hk, rfl, ht, he⟩ := hrel
  have HT := Lib.hid ht
  have HE := Lib.hid he
  clear he ht
  by_cases hlt : k < len
  case neg =>
   obtain rfl : len = k := by omega
   have hlt' : ¬ (len : Int) < len := by omega
   have HF : RowKit.Hid (gmay bs = true) := Lib.hid (HG.out.2 ⟨by rw [HL.out]; exact h16, fun i hi => HE.out i (by rw [← HL.out]; exact hi)⟩)
   go_wp2
   go_ret
   exact ⟨by rw [HF.out]; rfl, HT.out⟩
  case pos =>
  have hr := HR.out.still HT.out
  obtain ⟨b, off, rfl⟩ := hr.some (by omega)
  have hk1 : k < bs.length := by rw [HL.out]; exact hlt
  obtain ⟨c0, c1, c2⟩ := hr.cells k hk1
  have HK : RowKit.Hid (bs[k]? = some bs[k]) := Lib.hid (List.getElem?_eq_getElem hk1)
  have HFA : RowKit.Hid (okAt bs k = false → gmay bs = false) := Lib.hid (fun h => by
   cases hh : gmay bs with
   | false => rfl
   | true => rw [(HG.out.1 hh).2 k hk1] at h; cases h)
  obtain ⟨W1, hW1⟩ : ∃ W, wr.alloc (.cells #[.int .i64 bs[k].id, .int .u32 bs[k].addr, .int .i64 bs[k].weight] 70) = W := ⟨_, rfl⟩
  have t1 : Touch wr W1 (fun _ => False) := hW1 ▸ (Touch.refl wr _).alloc _
  have HR1 := Lib.hid (hr.still t1)
  have g1 : W1.heap[wr.heap.size]? = some (.cells #[.int .i64 bs[k].id, .int .u32 bs[k].addr, .int .i64 bs[k].weight] 70 (0, 0)) := hW1 ▸ heap_alloc_new ..
  have x0 : W1.cell? ⟨wr.heap.size, 0, none⟩ = some (.int .i64 bs[k].id) := cell_of_cells g1 0
  have x1 : W1.cell? ⟨wr.heap.size, 1, none⟩ = some (.int .u32 bs[k].addr) := cell_of_cells g1 1
  have x2 : W1.cell? ⟨wr.heap.size, 2, none⟩ = some (.int .i64 bs[k].weight) := cell_of_cells g1 2
  have HX0 := Lib.hid x0
  have HX1 := Lib.hid x1
  have HX2 := Lib.hid x2
  have HG1 := Lib.hid g1
  have HKC : RowKit.Hid (∀ W, Touch W1 W (fun _ => False) → W.cell? ⟨wr.heap.size, 0, none⟩ = some (.int .i64 bs[k].id) ∧ W.cell? ⟨wr.heap.size, 1, none⟩ = some (.int .u32 bs[k].addr) ∧ W.cell? ⟨wr.heap.size, 2, none⟩ = some (.int .i64 bs[k].weight)) := Lib.hid (fun W t => by
   have g := t.keeps g1 (fun h => h)
   exact ⟨cell_of_cells g 0, cell_of_cells g 1, cell_of_cells g 2⟩)
  have HT1 := Lib.hid (HT.out.trans t1 (fun _ _ h => h))
  have HW1 := Lib.hid hW1
  have HMK : RowKit.Hid (∀ W, Calls Tryz.prog 76 #[.agg #[.int .i64 bs[k].id, .int .u32 bs[k].addr, .int .i64 bs[k].weight]] W fun e w' => e = .returned (.bool (mayKB bs[k])) ∧ Touch W w' (fun _ => False)) := Lib.hid (fun W => rmayK_any bs[k] W)
  clear hr t1 g1 hW1 x0 x1 x2
  have hlI : (k : Int) < len := by omega
  cases hm : mayKB bs[k]
  case false =>
   rw [hm] at HMK
   have HOK : RowKit.Hid (gmay bs = false) := Lib.hid (HFA.out (by unfold okAt; rw [HK.out]; simp [hm]))
   clear hm HK HFA
   generalize bs[k] = f at *
   go_upto_region 6 with (fail)
   rw [HW1.out]
   have x0 := fun d os => cell_regrown HX0.out d os
   have x1 := fun d os => cell_regrown HX1.out d os
   have x2 := fun d os => cell_regrown HX2.out d os
   have cM := fun d os => Calls.regrown_of ((HMK.out (Sort.grow (redrawn W1 d) os)).mono (fun e w' h => ⟨h.1, h.2.below (fun _ _ h => h.elim) (Nat.le_refl _)⟩))
   refine wp_region_quiet_below (by kernel_rfl) (by kernel_rfl) ?_
   repeat (go_big_quiet_step (exact cM _ _))
   refine wpQuiet_nil ?_
   intro _ hw'
   obtain ⟨⟨dq, osq⟩, hw''⟩ := hw'
   subst hw''
   have HT6 := Lib.hid (HT1.out.trans (Touch.ofBelow (S := fun _ => False) (below_regrown W1 dq osq) (fun k h1 h2 => by omega)) (fun _ _ h => h))
   go_wp2
   go_ret
   exact ⟨by rw [HOK.out]; rfl, HT6.out⟩
  case true =>
   rw [hm] at HMK
   cases k with
   | zero =>
     have HOK : RowKit.Hid (okAt bs 0 = true) := Lib.hid (by rw [okAt_zero HK.out]; exact hm)
     clear hm HK HFA
     generalize bs[0] = f at *
     simp only [Nat.zero_mul, Nat.add_zero] at c0 c1 c2
     go_upto_region 6 with (fail)
     rw [HW1.out]
     have x0 := fun d os => cell_regrown HX0.out d os
     have x1 := fun d os => cell_regrown HX1.out d os
     have x2 := fun d os => cell_regrown HX2.out d os
     have cM := fun d os => Calls.regrown_of ((HMK.out (Sort.grow (redrawn W1 d) os)).mono (fun e w' h => ⟨h.1, h.2.below (fun _ _ h => h.elim) (Nat.le_refl _)⟩))
     refine wp_region_quiet_below (by kernel_rfl) (by kernel_rfl) ?_
     repeat (go_big_quiet_step (exact cM _ _))
     refine wpQuiet_nil ?_
     intro _ hw'
     obtain ⟨⟨dq, osq⟩, hw''⟩ := hw'
     subst hw''
     have HT6 := Lib.hid (HT1.out.trans (Touch.ofBelow (S := fun _ => False) (below_regrown W1 dq osq) (fun k h1 h2 => by omega)) (fun _ _ h => h))
     go_wp2
     exact ⟨⟨1, hlt, rfl, HT6.out, fun j hj => by (obtain rfl : j = 0 := (by omega)); exact HOK.out⟩, by simp [intOf]; omega⟩
   | succ k =>
     have hk0 : k < bs.length := by omega
     obtain ⟨p, hp⟩ : ∃ p, bs[k] = p := ⟨_, rfl⟩
     have HCP : RowKit.Hid (∀ W, Touch W1 W (fun _ => False) → W.cell? ⟨b, off + k * 3, none⟩ = some (.int .i64 p.id)) := Lib.hid (fun W t => by
      have := ((HR1.out.still t).cells k hk0).1
      rwa [hp] at this)
     have hok := okAt_succ HK.out (show bs[k]? = some p by rw [List.getElem?_eq_getElem hk0, hp])
     rw [hm, Bool.true_and] at hok
     have HOK := Lib.hid hok
     clear hm hok HK hp
     generalize bs[k + 1] = f at *
     have hkl2 : (k : Int) < len := by omega
     have hkl3 : ¬ ((k : Int) + 1 = 0) := by omega
     obtain ⟨eb, heb⟩ : ∃ eb, decide (f.id ≤ p.id) = eb := ⟨_, rfl⟩
     have HEB := Lib.hid heb
     go_upto_region 6 with (fail)
     rw [HW1.out]
     have x0 := fun d os => cell_regrown HX0.out d os
     have x1 := fun d os => cell_regrown HX1.out d os
     have x2 := fun d os => cell_regrown HX2.out d os
     have cM := fun d os => Calls.regrown_of ((HMK.out (Sort.grow (redrawn W1 d) os)).mono (fun e w' h => ⟨h.1, h.2.below (fun _ _ h => h.elim) (Nat.le_refl _)⟩))
     have y2 := fun d os => cell_regrown (HCP.out W1 (Touch.refl _ _)) d os
     refine wp_region_quiet_below (by kernel_rfl) (by kernel_rfl) ?_
     repeat (go_big_quiet_step (exact cM _ _))
     refine wpQuiet_nil ?_
     intro _ hw'
     obtain ⟨⟨dq, osq⟩, hw''⟩ := hw'
     subst hw''
     have HT6 := Lib.hid (HT1.out.trans (Touch.ofBelow (S := fun _ => False) (below_regrown W1 dq osq) (fun k h1 h2 => by omega)) (fun _ _ h => h))
     clear heb
     cases eb with
     | true =>
       have HF : RowKit.Hid (gmay bs = false) := Lib.hid (HFA.out (by
        rw [HOK.out]
        have := of_decide_eq_true HEB.out
        exact decide_eq_false (by omega)))
       go_wp2
       go_ret
       exact ⟨by rw [HF.out]; rfl, HT6.out⟩
     | false =>
       go_wp2
       refine ⟨⟨k + 2, hlt, by go_num, HT6.out, fun j hj => ?_⟩, by simp [intOf]; omega⟩
       rcases Nat.lt_or_ge j (k + 1) with h9 | h9
       ·exact HE.out j h9
       ·obtain rfl : j = k + 1 := by omega
        rw [HOK.out]
        have := of_decide_eq_false HEB.out
        exact decide_eq_true (by omega)
end Go.Proofs.YtpjdcgjoepjmcaaGreat
end
section
namespace Go.Proofs.YtpjdcgjoepjmcaaGreat
open Go.RowKit
set_option maxRecDepth 20000 in
set_option maxHeartbeats 2000000 in
theorem rfind_any (a : Option Addr) (len cap : Nat) (bs : List BkD) (id : Int) (w : World) (hr : RowK w a len cap bs) :
 Calls Tryz.prog 54 #[.slice a len cap, .int .i64 id] w fun e w' => e = .returned (findV bs id) ∧ Touch w w' (fun _ => False) := by
 have hl := hr.len
 have hcap := hr.hmax
 have hcap1 := hr.hcap
 obtain ⟨W0, hW0⟩ : ∃ W, w.alloc (.cells #[.int .i64 0, .int .u32 0, .int .i64 0] 70) = W := ⟨_, rfl⟩
 have t0 : Touch w W0 (fun _ => False) := hW0 ▸ (Touch.refl w _).alloc _
 have g0 : W0.heap[w.heap.size]? = some (.cells #[.int .i64 0, .int .u32 0, .int .i64 0] 70 (0, 0)) := hW0 ▸ heap_alloc_new ..
 have HR := Lib.hid (hr.still t0)
 have HL := Lib.hid hl
 have HT0 := Lib.hid t0
 have HG0 := Lib.hid g0
 have HII := Lib.hid infoBk3
 have HW0 := Lib.hid hW0
 clear hr hl t0 g0 hW0
 go_enter Tryz.func54, Tryz.ntmps54
 go_upto_region 1 with (fail)
 rw [HW0.out]
 go_wp2_with fail
 go_loopw [10] (fun i wr => ∃ k : Nat, k ≤ len ∧ i = .int .i64 k ∧ findF (bs.take k) id = none ∧ Touch W0 wr (fun _ => False)) (fun i _ => len - (intOf i).toNat)
 case atStart => exact ⟨0, Nat.zero_le _, rfl, rfl, Touch.refl _ _⟩
 case round =>
  obtain ⟨k, hk, rfl, hf, ht⟩ := hrel
  have HT := Lib.hid ht
  have HF := Lib.hid hf
  have HG := Lib.hid (ht.keeps HG0.out (fun h => h))
  clear ht hf
  by_cases hlt : k < len
  case neg =>
   obtain rfl : len = k := by omega
   have hlt' : ¬ (len : Int) < len := by omega
   go_wp2_with (refine store_row rfl 70 (.tmp 4) (.tmp 20) rfl w.heap.size _ rfl rfl _ _ HG.out HII.out rfl rfl ?_)
   refine ret_row1 rfl rfl w.heap.size ?t ?cs ?fr _ rfl ?hg Tryz.underlying70 rfl ?hi _ rfl ?hR
   case hg => exact setRow_heap _ _ _ _ _ _ HG.out
   case hi => exact HII.out
   case hR =>
    refine ⟨?_, (HT0.out.trans HT.out (fun _ _ h => h)).setRow _ _ (fun h => absurd h (Nat.lt_irrefl _))⟩
    have e := HF.out
    rw [← HL.out, List.take_length] at e
    unfold findV
    rw [e]; rfl
  case pos =>
  have hr := HR.out.still HT.out
  obtain ⟨b, off, rfl⟩ := hr.some (by omega)
  have hk1 : k < bs.length := by rw [HL.out]; exact hlt
  obtain ⟨c0, c1, c2⟩ := hr.cells k hk1
  have HS1 : RowKit.Hid (findF (bs.take (k + 1)) id = if bs[k].id == id then some bs[k] else none) := Lib.hid (by
   rw [List.take_succ_eq_append_getElem hk1]
   unfold findF
   rw [List.find?_append]
   have := HF.out
   unfold findF at this
   rw [this]
   simp only [Option.none_or, List.find?_cons, List.find?_nil]
   split <;> simp_all)
  have HS2 : RowKit.Hid (bs[k].id = id → findF bs id = some bs[k]) := Lib.hid (fun h => by
   have key : bs.find? (fun b => b.id == id) = (bs.take (k + 1) ++ bs.drop (k + 1)).find? (fun b => b.id == id) := by rw [List.take_append_drop]
   have h2 := HS1.out
   unfold findF at h2 ⊢
   rw [key, List.find?_append, h2, if_pos (beq_iff_eq.2 h)]
   rfl)
  generalize bs[k] = f at *
  obtain ⟨W2, hW2⟩ : ∃ W, wr.alloc (.cells #[.int .i64 f.id, .int .u32 f.addr, .int .i64 f.weight] 70) = W := ⟨_, rfl⟩
  have t2 : Touch wr W2 (fun _ => False) := hW2 ▸ (Touch.refl wr _).alloc _
  have g2 : W2.heap[wr.heap.size]? = some (.cells #[.int .i64 f.id, .int .u32 f.addr, .int .i64 f.weight] 70 (0, 0)) := hW2 ▸ heap_alloc_new ..
  have HX0 : RowKit.Hid (W2.cell? ⟨wr.heap.size, 0, none⟩ = some (.int .i64 f.id)) := Lib.hid (cell_of_cells g2 0)
  have HX1 : RowKit.Hid (W2.cell? ⟨wr.heap.size, 1, none⟩ = some (.int .u32 f.addr)) := Lib.hid (cell_of_cells g2 1)
  have HX2 : RowKit.Hid (W2.cell? ⟨wr.heap.size, 2, none⟩ = some (.int .i64 f.weight)) := Lib.hid (cell_of_cells g2 2)
  have HT2 := Lib.hid (HT.out.trans t2 (fun _ _ h => h))
  have HG2 := Lib.hid (t2.keeps HG.out (fun h => h))
  have HW2 := Lib.hid hW2
  have hkI : (k : Int) < len := by omega
  clear hr t2 g2 hW2
  by_cases hid : f.id = id
  ·have HV := Lib.hid (HS2.out hid)
   subst hid
   clear HS1 HS2
   go_upto_region 4 with (fail)
   rw [HW2.out]
   have x0 := HX0.out
   have x1 := HX1.out
   have x2 := HX2.out
   go_wp2_with (refine store_row rfl 70 (.tmp 4) (.tmp 18) rfl w.heap.size _ rfl rfl _ _ HG2.out HII.out rfl rfl ?_)
   refine ret_row1 rfl rfl w.heap.size _ #[.int .i64 f.id, .int .u32 f.addr, .int .i64 f.weight] _ _ rfl (setRow_heap _ _ _ _ _ _ HG2.out) Tryz.underlying70 rfl HII.out (.bool true) rfl ?_
   refine ⟨?_, (HT0.out.trans HT2.out (fun _ _ h => h)).setRow _ _ (fun h => absurd h (Nat.lt_irrefl _))⟩
   unfold findV
   rw [HV.out]
   rfl
  ·have hb : (f.id == id) = false := beq_eq_false_iff_ne.2 hid
   go_upto_region 4 with (fail)
   rw [HW2.out]
   have x0 := HX0.out
   go_wp2_with fail
   exact ⟨⟨k + 1, hlt, by go_num, by rw [HS1.out]; simp [hid], HT2.out⟩, by simp [intOf]; omega⟩
set_option maxRecDepth 20000 in
set_option maxHeartbeats 2000000 in
theorem rwithout_any (a ax : Option Addr) (len cap lx cx : Nat) (bs : List BkD) (xs : List Int) (w : World) (hr : RowK w a len cap bs) (hlen : len ≤ 1000) (hx : RowI w ax lx cx xs) :
 Calls Tryz.prog 45 #[.slice a len cap, .slice ax lx cx] w fun e w' => ∃ a' c', e = .returned (.slice a' (keepF (outB xs) bs).length c') ∧ OwnK w' w.heap.size (.slice a' (keepF (outB xs) bs).length c') (keepF (outB xs) bs) ∧ Touch w w' (fun _ => False) := by
 have hl := hr.len
 have hcap := hr.hmax
 have hcap1 := hr.hcap
 have hcx := hx.2.2.1
 have hcx1 := hx.2.1
 have HR := Lib.hid hr
 have HL := Lib.hid hl
 have HX := Lib.hid hx
 have HLX := Lib.hid hx.1
 have HII := Lib.hid infoBk
 clear hr hl hx
 go_enter Tryz.func45, Tryz.ntmps45
 go_wp2_with fail
 go_loopw [5, 13] (fun s i wr => ∃ (k n : Nat) (a' : Option Addr) (c' : Nat), k ≤ len ∧ n ≤ k ∧ i = .int .i64 k ∧ s = .slice a' n c' ∧ n = (keepF (outB xs) (bs.take k)).length ∧ OwnK wr w.heap.size (.slice a' n c') (keepF (outB xs) (bs.take k)) ∧ Touch w wr (fun _ => False)) (fun _ i _ => len - (intOf i).toNat)
 case atStart => exact ⟨0, 0, none, 0, Nat.zero_le _, Nat.le_refl _, rfl, rfl, rfl, OwnS.nil _ _ _ _, Touch.refl _ _⟩
 case round =>
  obtain ⟨k, n, a', c', hk, hnk, rfl, rfl, hn, ho, ht⟩ := hrel
  have HN := Lib.hid hn
  have HO := Lib.hid ho
  have HT := Lib.hid ht
  clear ho ht hn
  by_cases hlt : k < len
  case neg =>
   obtain rfl : len = k := by omega
   have hlt' : ¬ (len : Int) < len := by omega
   go_wp2
   go_ret
   have e : bs.take len = bs := by rw [← HL.out, List.take_length]
   have h1 := HO.out
   have h2 := HN.out
   rw [e] at h1 h2
   exact ⟨a', c', by rw [← h2]; rfl, by rw [← h2]; exact h1, HT.out⟩
  case pos =>
  have hr := HR.out.still HT.out
  obtain ⟨b, off, rfl⟩ := hr.some (by omega)
  have hk1 : k < bs.length := by rw [HL.out]; exact hlt
  obtain ⟨c0, c1, c2⟩ := hr.cells k hk1
  have HS : RowKit.Hid (keepF (outB xs) (bs.take (k + 1)) = keepF (outB xs) (bs.take k) ++ (if outB xs bs[k].id then [] else [bs[k]])) := Lib.hid (by rw [List.take_succ_eq_append_getElem hk1, keepF_snoc])
  generalize bs[k] = f at *
  obtain ⟨W2, hW2⟩ : ∃ W, wr.alloc (.cells #[.int .i64 f.id, .int .u32 f.addr, .int .i64 f.weight] 70) = W := ⟨_, rfl⟩
  have t1 : Touch wr W2 (fun _ => False) := hW2 ▸ (Touch.refl wr _).alloc _
  have g2 : W2.heap[wr.heap.size]? = some (.cells #[.int .i64 f.id, .int .u32 f.addr, .int .i64 f.weight] 70 (0, 0)) := hW2 ▸ heap_alloc_new ..
  have x0 : W2.cell? ⟨wr.heap.size, 0, none⟩ = some (.int .i64 f.id) := cell_of_cells g2 0
  have x1 : W2.cell? ⟨wr.heap.size, 1, none⟩ = some (.int .u32 f.addr) := cell_of_cells g2 1
  have x2 : W2.cell? ⟨wr.heap.size, 2, none⟩ = some (.int .i64 f.weight) := cell_of_cells g2 2
  have HX0 := Lib.hid x0
  have HX1 := Lib.hid x1
  have HX2 := Lib.hid x2
  have HT2 := Lib.hid (HT.out.trans t1 (fun _ _ h => h))
  have HO2 := Lib.hid (OwnS.still HO.out.toS t1)
  have HXR := Lib.hid (HX.out.still HT2.out)
  have HW2 := Lib.hid hW2
  have hlI : (k : Int) < len := by omega
  clear hr t1 g2 hW2 x0 x1 x2
  go_upto_region 5 with (fail)
  rw [HW2.out]
  go_wp2_with fail
  go_loopw [8, 19] (fun s i wv => ∃ (j : Nat), j ≤ lx ∧ i = .int .i64 j ∧ s = .bool (outB (xs.take j) f.id) ∧ wv = W2) (fun _ i _ => lx - (intOf i).toNat)
  case atStart => exact ⟨0, Nat.zero_le _, rfl, by rw [List.take_zero, outB_nil], rfl⟩
  case round =>
   obtain ⟨j, hj, rfl, rfl, hwv⟩ := hrel
   subst hwv
   by_cases hjt : j < lx
   case pos =>
    obtain ⟨bx, ox, rfl, hcj⟩ := HXR.out.some (by omega)
    have hj1 : j < xs.length := by rw [HLX.out]; exact hjt
    have cj := hcj j hj1
    have x0 := HX0.out
    have hjI : (j : Int) < lx := by omega
    have HSN : RowKit.Hid (outB (xs.take (j + 1)) f.id = (outB (xs.take j) f.id || (xs[j] == f.id))) := Lib.hid (by rw [List.take_succ_eq_append_getElem hj1, outB_snoc])
    generalize xs[j] = x at *
    generalize outB (xs.take j) f.id = p at *
    obtain ⟨q, hq⟩ : ∃ q, (x == f.id) = q := ⟨_, rfl⟩
    rw [hq] at HSN
    clear hcj
    cases p with
    | true =>
      go_wp2
      exact ⟨⟨j + 1, hjt, by go_num, by rw [HSN.out]; rfl, trivial⟩, by simp [intOf]; omega⟩
    | false =>
      go_wp2
      exact ⟨⟨j + 1, hjt, by go_num, by rw [HSN.out]; rfl, trivial⟩, by simp [intOf]; omega⟩
   case neg =>
   obtain rfl : lx = j := by omega
   have hjt' : ¬ (lx : Int) < lx := by omega
   have e : xs.take lx = xs := by rw [← HLX.out, List.take_length]
   rw [e]
   obtain ⟨x, hx⟩ : ∃ x, outB xs f.id = x := ⟨_, rfl⟩
   rw [hx] at HS ⊢
   clear hx e
   cases x with
   | true =>
     have HS' : RowKit.Hid (keepF (outB xs) (bs.take (k + 1)) = keepF (outB xs) (bs.take k)) := Lib.hid (by rw [HS.out]; simp)
     clear HS
     go_wp2_with fail
     exact ⟨⟨k + 1, n, a', c', hlt, by omega, by go_num, rfl, by rw [HS'.out]; exact HN.out, by rw [HS'.out]; exact HO2.out, HT2.out⟩, by simp [intOf]; omega⟩
   | false =>
   have HS' : RowKit.Hid (keepF (outB xs) (bs.take (k + 1)) = keepF (outB xs) (bs.take k) ++ [f]) := Lib.hid (by rw [HS.out]; simp)
   clear HS
   have t5 := (Touch.refl wr (fun _ => False)).alloc (.cells #[.int .i64 f.id, .int .u32 f.addr, .int .i64 f.weight] 70)
   have HT5 := Lib.hid (HT2.out.trans t5 (fun _ _ h => h))
   have HO5 := Lib.hid (OwnS.still HO2.out t5)
   have hown : (wr.alloc (.cells #[.int .i64 f.id, .int .u32 f.addr, .int .i64 f.weight] 70)).ownsRow w.heap.size 70 3 (.slice a' n c') n ((keepF (outB xs) (bs.take k)).map BkD.cells).flatten := by
    have := HO5.out.own
    rwa [List.length_map, ← HN.out] at this
   have HOWN := Lib.hid hown
   have HQ := Lib.hid (news_of (heap_alloc_new wr (.cells #[.int .i64 f.id, .int .u32 f.addr, .int .i64 f.weight] 70)))
   have x0 := HX0.out
   have x1 := HX1.out
   have x2 := HX2.out
   clear hown t5
   go_wp2_with (at_builtin; (with_reducible refine wp_appR HOWN.out 39 Tryz.underlying39 _ 24 HII.out rfl (by decide) ⟨wr.heap.size, 0, none⟩ 1 1 _ rfl HQ.out (by simp [Value.oneCell']) (by simp only [maxLen]; omega) (by omega) (HT5.out.under (Nat.le_refl _)) (Nat.le_refl _) HT5.out.size rfl _ _ rfl rfl rfl ?_); intro a4 c4 w6 ho4 hg4 hb4 hp4; have HO4 := Lib.hid ho4; have HT4 := Lib.hid (Touch.ofBelow (S := fun _ => False) hb4 (fun k h1 h2 => by omega)); clear ho4 hg4 hb4 hp4)
   have HO6 : RowKit.Hid (OwnK w6 w.heap.size (.slice a4 (n + 1) c4) (keepF (outB xs) (bs.take (k + 1)))) := Lib.hid (by
    rw [HS'.out]
    unfold OwnK
    rw [List.map_append, List.map_cons, List.map_nil]
    refine HO5.out.add (L2 := [f.cells]) (by simp [BkD.cells]) ?_
    have := HO4.out
    rw [List.length_map, ← HN.out]
    simpa [BkD.cells] using this)
   exact ⟨⟨k + 1, n + 1, a4, c4, hlt, by omega, by go_num, rfl, by rw [HS'.out, List.length_append, ← HN.out]; rfl, HO6.out, HT4.out⟩, by simp [intOf]; omega⟩
end Go.Proofs.YtpjdcgjoepjmcaaGreat
end
section
namespace Go.Proofs.YtpjdcgjoepjmcaaGreat
open Go.RowKit Go.Maps
def totF (rs : List Rw) (n i : Nat) : Nat := ((List.range i).map (fun q => cnt rs q n)).sum
structure Fair (bs : List BkD) (n : Nat) (T : List Int) : Prop where
 each : ∀ (i : Nat) (b : BkD), bs[i]? = some b → T.count b.id = cnt (rowsF bs n) i n ∧ b.weight = ((b.weight.toNat : Nat) : Int) ∧ 1 ≤ b.weight.toNat ∧ b.weight.toNat ≤ 10 ∧ 0 ≤ b.id ∧ b.id ≤ 65535 ∧
  ((n + allW (rowsF bs n) - 1) / allW (rowsF bs n) - 1) * b.weight.toNat ≤ T.count b.id ∧ T.count b.id ≤ (n + allW (rowsF bs n) - 1) / allW (rowsF bs n) * b.weight.toNat ∧ pre (rowsF bs n) (i + 1) = pre (rowsF bs n) i + b.weight.toNat
 total : totF (rowsF bs n) n bs.length = n
 all : pre (rowsF bs n) bs.length = allW (rowsF bs n)
 pos : 0 < allW (rowsF bs n)
 le : allW (rowsF bs n) ≤ 160
 size : Maps.size (shD T n) ≤ bs.length
end Go.Proofs.YtpjdcgjoepjmcaaGreat
end
