/- ChoiceStays answers true for any backends, any that are out, any tuples: a tuple has always the same backend, one that is not out, as long as there is one. No condition. -/
import Derived.Test.YtfjnhaoiecndpaaChoS
import Derived.Test.YtfjnhaoiecndpaaFrChoiceStays
set_option linter.unusedVariables false
namespace Go.Proofs.Ytfjnhaoiecndpaa
open Go.RowKit

/-- A chooser that is set. -/
structure Chs (w : World) (C n lo : Nat) (bs : List BkD) (T : List Int) (ab : Option Addr) (lb cb G m : Nat) : Prop where
  hc : w.heap[C]? = some (.cells (chC n ab lb cb (some ⟨G, 0, none⟩) n n m) 49 (0, 0))
  hr : RowK w ab lb cb bs
  hi : RowI w (some ⟨G, 0, none⟩) n n T
  la : ∀ x, ab = some x → lo ≤ x.block
  lg : lo ≤ G
theorem Chs.still {w w' : World} {C n lo : Nat} {bs : List BkD} {T : List Int} {ab : Option Addr} {lb cb G m : Nat} (h : Chs w C n lo bs T ab lb cb G m) (t : Touch w w' (fun _ => False)) : Chs w' C n lo bs T ab lb cb G m :=
  ⟨t.keeps h.hc (fun h => h), h.hr.still t, h.hi.still t, h.la, h.lg⟩
theorem Chs.beside {w w' : World} {C n lo D : Nat} {bs : List BkD} {T : List Int} {ab : Option Addr} {lb cb G m : Nat} (h : Chs w C n lo bs T ab lb cb G m) (t : Touch w w' (fun k => k = D)) (h1 : ¬ C = D) (h2 : D < lo) : Chs w' C n lo bs T ab lb cb G m :=
  ⟨t.keeps h.hc h1, h.hr.touch t (fun x hx => .inr (fun e => by have := h.la x hx; omega)), h.hi.touch t (fun x hx => .inr (fun e => by cases hx; have := h.lg; simp at e; omega)), h.la, h.lg⟩
theorem Chs.pick {w : World} {C n lo : Nat} {bs : List BkD} {T : List Int} {ab : Option Addr} {lb cb G m : Nat} (h : Chs w C n lo bs T ab lb cb G m) (hn : 0 < n) (hn2 : n ≤ 251) {t : TupD} (ok : TupOk t) :
    Calls Try.prog 5 #[.pointer (some ⟨C, 0, none⟩), .agg (tcs t)] w fun e w' => e = .returned (pickV bs T n t) ∧ Touch w w' (fun _ => False) :=
  pick_all n C ab lb cb G m bs T t w hn hn2 ok h.hc h.hr h.hi
/-- What set_out gives, said of what 'gone' gave. -/
theorem set_gone (C g : Nat) (ab : Option Addr) (lb cb : Nat) (at_ : Option Addr) (lt ct : Nat) (a ax : Option Addr) (len cap lx cx : Nat) (bs : List BkD) (xs : List Int) (w : World)
    (hc : w.heap[C]? = some (.cells (chC 61 ab lb cb at_ lt ct 0) 49 (0, 0))) (hr : RowK w a len cap bs) (hg : gmay bs = true) (hne : ∀ x, a = some x → len = 0 ∨ ¬ x.block = C)
    (hk : w.cell? ⟨g, 0, none⟩ = some (.slice ax lx cx)) (hx : RowI w ax lx cx xs) :
    Calls Try.prog 7 #[.pointer (some ⟨C, 0, none⟩), .slice a len cap, goneV g] w fun e w' => e = .returned (.int .i64 0) ∧ (∃ a' c' G, Chs w' C 61 w.heap.size bs (tabF (keepF (outB xs) bs) 61) a' len c' G 1) ∧ Touch w w' (fun k => k = C) := by
  have h16 := ((gmay_iff bs).1 hg).1
  have hl := hr.len
  refine (set_out 61 (goneV g) (keepF (outB xs) bs) C ab lb cb at_ lt ct 0 a len cap bs w prm61 (by omega) hc hr hg hne ?_).mono ?_
  · intro W t
    exact without_says _ _ _ (outB xs) a len cap bs W (hr.still t) (by omega) (fun W' id t' => says_gone g ax lx cx xs id W' (((t.trans t' (fun _ _ h => h)).cell (block_lt_of_cell hk) (fun h => h)).trans hk) (hx.still (t.trans t' (fun _ _ h => h))))
  · rintro e w' ⟨he, a', c', G, h1, h2, h3, h4, h5, h6⟩
    exact ⟨he, ⟨a', c', G, h1, h2, h3, h4, h5⟩, h6⟩

set_option maxRecDepth 20000 in
set_option maxHeartbeats 8000000 in
theorem cst_walk (a ax at_ : Option Addr) (cap lx cx ct : Nat) (bs : List BkD) (xs : List Int) (ts : List TupD) (w : World) (hr : RowK w a bs.length cap bs) (hx : RowI w ax lx cx xs) (ht : RowT w at_ ts.length ct ts) (hok : ∀ t ∈ ts, TupOk t)
    (ha : ∀ x, a = some x → bs.length = 0 ∨ x.block < w.heap.size) :
    Calls Try.prog 4 #[.slice a bs.length cap, .slice ax lx cx, .slice at_ ts.length ct] w fun e w' => e = .returned (.bool true) ∧ Touch w w' (fun _ => False) := by
  obtain ⟨len, hlen⟩ : ∃ n, bs.length = n := ⟨_, rfl⟩
  obtain ⟨lt, hlt0⟩ : ∃ n, ts.length = n := ⟨_, rfl⟩
  rw [hlen] at hr ha ⊢
  rw [hlt0] at ht ⊢
  have hcap := hr.hmax
  have hcap1 := hr.hcap
  have hcx := hx.2.2.1
  have hcx1 := hx.2.1
  have hct := ht.hmax
  have hct1 := ht.hcap
  have HGM := Lib.hid (rgmay_any a len cap bs w hr)
  have HR := Lib.hid hr
  have HX := Lib.hid hx
  have HT := Lib.hid ht
  have HL := Lib.hid hlen
  have HLT := Lib.hid hlt0
  have HOK := Lib.hid hok
  have HA := Lib.hid ha
  have HII := Lib.hid infoBk3
  clear hr hx ht hlen hlt0 hok ha
  cases hg : gmay bs
  case false =>
    rw [hg] at HGM
    clear hg
    go_enter Try.func4, Try.ntmps4
    go_wp2_with (first
      | (go_at_call 11; (with_reducible refine HGM.out.mono ?_); rintro e w1 ⟨rfl, t1⟩; have HT1 := Lib.hid t1; clear t1)
      | (go_at_call 10; (with_reducible refine (awake19 _).mono ?_); rintro e w9 ⟨rfl, t9⟩; have HT9 := Lib.hid (HT1.out.trans t9 (fun _ _ h => h)); clear t9))
    go_ret
    exact ⟨rfl, HT9.out⟩
  case true =>
  rw [hg] at HGM
  have HG := Lib.hid hg
  clear hg
  by_cases hl1 : lx ≤ 20
  case neg =>
    have hb : (lx : Int) > 20 := by omega
    go_enter Try.func4, Try.ntmps4
    go_wp2_with (first
      | (go_at_call 11; (with_reducible refine HGM.out.mono ?_); rintro e w1 ⟨rfl, t1⟩; have HT1 := Lib.hid t1; clear t1)
      | (go_at_call 10; (with_reducible refine (awake19 _).mono ?_); rintro e w9 ⟨rfl, t9⟩; have HT9 := Lib.hid (HT1.out.trans t9 (fun _ _ h => h)); clear t9))
    go_ret
    exact ⟨rfl, HT9.out⟩
  case pos =>
  have hb1 : ¬ (lx : Int) > 20 := by omega
  by_cases hl2 : lt ≤ 40
  case neg =>
    have hb : (lt : Int) > 40 := by omega
    go_enter Try.func4, Try.ntmps4
    go_wp2_with (first
      | (go_at_call 11; (with_reducible refine HGM.out.mono ?_); rintro e w1 ⟨rfl, t1⟩; have HT1 := Lib.hid t1; clear t1)
      | (go_at_call 10; (with_reducible refine (awake19 _).mono ?_); rintro e w9 ⟨rfl, t9⟩; have HT9 := Lib.hid (HT1.out.trans t9 (fun _ _ h => h)); clear t9))
    go_ret
    exact ⟨rfl, HT9.out⟩
  case pos =>
  have hb2 : ¬ (lt : Int) > 40 := by omega
  go_enter Try.func4, Try.ntmps4
  go_wp2_with (go_at_call 11; (with_reducible refine HGM.out.mono ?_); rintro e w1 ⟨rfl, t1⟩; have HT1 := Lib.hid t1; clear t1)
  refine (new_any 61 w1 prm61).mono ?_
  rintro e w2 ⟨C, G0, rfl, hc, hC, hi0, t2⟩
  have HC := Lib.hid hc
  have HT2 := Lib.hid (HT1.out.trans t2 (fun _ _ h => h))
  have HC0 : RowKit.Hid (w.heap.size ≤ C) := Lib.hid (Nat.le_trans HT1.out.size hC)
  clear hc hC hi0 t2
  go_wp2_with fail
  refine (new_any 61 w2 prm61).mono ?_
  rintro e w3 ⟨D, G1, rfl, hd, hD, hi1, t3⟩
  have HD := Lib.hid hd
  have HT3 := Lib.hid (HT2.out.trans t3 (fun _ _ h => h))
  have HCD : RowKit.Hid (C < D) := Lib.hid (Nat.lt_of_lt_of_le (heap_lt HC.out) hD)
  have HC := Lib.hid (t3.keeps HC.out (fun h => h))
  clear hd hD hi1 t3
  go_wp2_with fail
  refine (gone_any ax lx cx w3).mono ?_
  rintro e w4 ⟨rfl, hw4⟩
  obtain ⟨g1, hg1⟩ : ∃ g, w3.heap.size = g := ⟨_, rfl⟩
  have t4 : Touch w3 w4 (fun _ => False) := hw4 ▸ (Touch.refl w3 _).alloc _
  have k4 : w4.cell? ⟨g1, 0, none⟩ = some (.slice ax lx cx) := by rw [hw4, ← hg1]; exact cell_of_cells (heap_alloc_new ..) 0
  rw [hg1]
  have HT4 := Lib.hid (HT3.out.trans t4 (fun _ _ h => h))
  have HS1 := Lib.hid (set_gone C g1 _ _ _ _ _ _ a ax len cap lx cx bs xs w4 (t4.keeps HC.out (fun h => h)) (HR.out.still HT4.out) HG.out (fun x hx => (HA.out x hx).imp id (fun h e => by have := HC0.out; omega)) k4 (HX.out.still HT4.out))
  have HD := Lib.hid (t4.keeps HD.out (fun h => h))
  have HD4 : RowKit.Hid (D < w4.heap.size) := Lib.hid (heap_lt HD.out)
  clear hw4 t4 k4 hg1
  go_wp2_with fail
  refine HS1.out.mono ?_
  rintro e w5 ⟨rfl, ⟨a5, c5, G5, hch⟩, t5⟩
  have HCH := Lib.hid hch
  have HD := Lib.hid (t5.keeps HD.out (fun e => by have := HCD.out; omega))
  have HT5 : RowKit.Hid (Touch w w5 (fun _ => False)) := Lib.hid (HT4.out.trans t5 (fun k hk h => by have := HC0.out; omega))
  clear hch t5 HS1
  go_wp2_with fail
  refine (gone_any ax lx cx w5).mono ?_
  rintro e w6 ⟨rfl, hw6⟩
  obtain ⟨g2, hg2⟩ : ∃ g, w5.heap.size = g := ⟨_, rfl⟩
  have t6 : Touch w5 w6 (fun _ => False) := hw6 ▸ (Touch.refl w5 _).alloc _
  have k6 : w6.cell? ⟨g2, 0, none⟩ = some (.slice ax lx cx) := by rw [hw6, ← hg2]; exact cell_of_cells (heap_alloc_new ..) 0
  rw [hg2]
  have HT6 := Lib.hid (HT5.out.trans t6 (fun _ _ h => h))
  have HS2 := Lib.hid (set_gone D g2 _ _ _ _ _ _ a ax len cap lx cx bs xs w6 (t6.keeps HD.out (fun h => h)) (HR.out.still HT6.out) HG.out (fun x hx => (HA.out x hx).imp id (fun h e => by have := HC0.out; have := HCD.out; omega)) k6 (HX.out.still HT6.out))
  have HCH := Lib.hid (HCH.out.still t6)
  clear hw6 t6 k6 hg2
  go_wp2_with fail
  refine HS2.out.mono ?_
  rintro e w7 ⟨rfl, ⟨a7, c7, G7, hdh⟩, t7⟩
  have HDH := Lib.hid hdh
  have HCH := Lib.hid (HCH.out.beside t7 (by have := HCD.out; omega) HD4.out)
  have HT7 : RowKit.Hid (Touch w w7 (fun _ => False)) := Lib.hid (HT6.out.trans t7 (fun k hk h => by have := HC0.out; have := HCD.out; omega))
  clear hdh t7 HS2 HD HC
  have HWO := Lib.hid (rwithout_any a ax len cap lx cx bs xs w7 (HR.out.still HT7.out) (by have := ((gmay_iff bs).1 HG.out).1; have := HL.out; omega) (HX.out.still HT7.out))
  have HPF := Lib.hid (fun t => pick_fact prm61 (outB xs) HG.out t)
  go_wp2_with fail
  refine HWO.out.mono ?_
  rintro e w8 ⟨a8, c8, rfl, ho8, t8⟩
  have HLK := Lib.hid ho8.row.2.1
  have HCH := Lib.hid (HCH.out.still t8)
  have HDH := Lib.hid (HDH.out.still t8)
  have HT8 : RowKit.Hid (Touch w w8 (fun _ => False)) := Lib.hid (HT7.out.trans t8 (fun _ _ h => h))
  clear ho8 t8 HWO
  have hn16 : (keepF (outB xs) bs).length ≤ 16 := by have := ((gmay_iff bs).1 HG.out).1; have := keepF_len (outB xs) bs; omega
  generalize tabF (keepF (outB xs) bs) 61 = T at *
  generalize keepF (outB xs) bs = L at *
  obtain ⟨n8, hn8⟩ : ∃ n, L.length = n := ⟨_, rfl⟩
  rw [hn8] at HLK hn16 ⊢
  simp only [hn8] at HPF
  clear hn8
  have HLT2 := Lib.hid (HT.out.still HT8.out)
  have HLR := Lib.hid (HR.out.still HT8.out)
  clear HX HT2 HT3 HT4 HT5 HT6 HT7 HT HR HD4 HA HGM
  go_wp2_with fail
  go_loopw [59] (fun i wr => ∃ k : Nat, k ≤ lt ∧ i = .int .i64 k ∧ Touch w8 wr (fun _ => False)) (fun i _ => lt - (intOf i).toNat)
  case atStart => exact ⟨0, Nat.zero_le _, rfl, Touch.refl _ _⟩
  case round =>
    obtain ⟨k, hk, rfl, htr⟩ := hrel
    have HTR := Lib.hid htr
    clear htr
    by_cases hlt : k < lt
    case pos =>
      have hr := HLT2.out.still HTR.out
      obtain ⟨b, off, rfl⟩ := RowS.some hr (by omega)
      have hk1 : k < ts.length := by rw [HLT.out]; exact hlt
      obtain ⟨c0, c1, c2, c3, c4⟩ := hr.cells k hk1
      have HOT := Lib.hid (HOK.out _ (List.getElem_mem hk1))
      obtain ⟨f, x, hpv, hxe, hxf⟩ := HPF.out ts[k]
      have HMT := Lib.hid (fun W => rmayT_any ts[k] W)
      have HPC : RowKit.Hid (∀ W, Touch w8 W (fun _ => False) → Calls Try.prog 5 #[.pointer (some ⟨C, 0, none⟩), .agg (tcs ts[k])] W fun e w' => e = .returned (.tuple #[.agg #[.int .i64 f.id, .int .u32 f.addr, .int .i64 f.weight], .bool x]) ∧ Touch W w' (fun _ => False)) := Lib.hid (fun W t => by
        have h := (HCH.out.still t).pick (by omega) (by omega) HOT.out
        rw [hpv] at h; exact h)
      have HPD : RowKit.Hid (∀ W, Touch w8 W (fun _ => False) → Calls Try.prog 5 #[.pointer (some ⟨D, 0, none⟩), .agg (tcs ts[k])] W fun e w' => e = .returned (.tuple #[.agg #[.int .i64 f.id, .int .u32 f.addr, .int .i64 f.weight], .bool x]) ∧ Touch W w' (fun _ => False)) := Lib.hid (fun W t => by
        have h := (HDH.out.still t).pick (by omega) (by omega) HOT.out
        rw [hpv] at h; exact h)
      have HXE := Lib.hid hxe
      have HXF := Lib.hid hxf
      have HFB : RowKit.Hid (∀ W, Touch w8 W (fun _ => False) → Calls Try.prog 16 #[.slice a8 n8 c8, .int .i64 f.id] W fun e w' => e = .returned (findV L f.id) ∧ Touch W w' (fun _ => False)) := Lib.hid (fun W t => rfind_any a8 n8 c8 L f.id W (HLK.out.still t))
      clear hpv hxe hxf hr
      generalize ts[k] = t at *
      obtain ⟨t1', t2', t3', t4', t5'⟩ := t
      simp only [tcs] at HPC HPD HMT
      obtain ⟨W2, hW2⟩ : ∃ W, wr.alloc (.cells #[.int .u32 t1', .int .u32 t2', .int .i64 t3', .int .i64 t4', .int .i64 t5'] 25) = W := ⟨_, rfl⟩
      have t2 : Touch wr W2 (fun _ => False) := hW2 ▸ (Touch.refl wr _).alloc _
      have g2 : W2.heap[wr.heap.size]? = some (.cells #[.int .u32 t1', .int .u32 t2', .int .i64 t3', .int .i64 t4', .int .i64 t5'] 25 (0, 0)) := hW2 ▸ heap_alloc_new ..
      obtain ⟨B, hB⟩ : ∃ B, wr.heap.size = B := ⟨_, rfl⟩
      rw [hB] at g2
      have HKX : RowKit.Hid (∀ W, Touch W2 W (fun _ => False) → W.cell? ⟨B, 0, none⟩ = some (.int .u32 t1') ∧ W.cell? ⟨B, 1, none⟩ = some (.int .u32 t2') ∧ W.cell? ⟨B, 2, none⟩ = some (.int .i64 t3') ∧ W.cell? ⟨B, 3, none⟩ = some (.int .i64 t4') ∧ W.cell? ⟨B, 4, none⟩ = some (.int .i64 t5')) := Lib.hid (fun W t => by
        have g := t.keeps g2 (fun h => h)
        exact ⟨cell_of_cells g 0, cell_of_cells g 1, cell_of_cells g 2, cell_of_cells g 3, cell_of_cells g 4⟩)
      have hltI : (k : Int) < lt := by omega
      have HT2 := Lib.hid (HTR.out.trans t2 (fun _ _ h => h))
      have HW2 := Lib.hid hW2
      have HB := Lib.hid hB
      clear t2 g2 hW2 hB
      go_upto_region 10 with (fail)
      rw [HW2.out, HB.out]
      obtain ⟨q0, q1, q2, q3, q4⟩ := HKX.out W2 (Touch.refl _ _)
      go_wp2_with fail
      refine (HPC.out _ HT2.out).mono ?_
      rintro e wA ⟨rfl, tA⟩
      obtain ⟨PA, hPA⟩ : ∃ B, wA.heap.size = B := ⟨_, rfl⟩
      obtain ⟨UA, hUA⟩ : ∃ W, wA.alloc (.cells #[.int .i64 0, .int .u32 0, .int .i64 0] 28) = W := ⟨_, rfl⟩
      have gUA : UA.heap[PA]? = some (.cells #[.int .i64 0, .int .u32 0, .int .i64 0] 28 (0, 0)) := by rw [← hPA, ← hUA]; exact heap_alloc_new ..
      have tUA : Touch wA UA (fun _ => False) := hUA ▸ (Touch.refl wA _).alloc _
      obtain ⟨VA, hVA⟩ : ∃ W, UA.setRow PA #[.int .i64 f.id, .int .u32 f.addr, .int .i64 f.weight] = W := ⟨_, rfl⟩
      have tVA : Touch W2 VA (fun _ => False) := by
        rw [← hVA]
        exact ((tA.trans tUA (fun _ _ h => h)).setRow _ _ (fun h => by have := tA.size; omega))
      have gVA : VA.heap[PA]? = some (.cells #[.int .i64 f.id, .int .u32 f.addr, .int .i64 f.weight] 28 (0, 0)) := by rw [← hVA]; exact setRow_heap _ _ _ _ _ _ gUA
      have HGUA := Lib.hid gUA
      have HGVA := Lib.hid gVA
      have HTVA := Lib.hid tVA
      have HTA := Lib.hid (HT2.out.trans tVA (fun _ _ h => h))
      have HTW := Lib.hid tVA
      have HPA := Lib.hid hPA
      have HUA := Lib.hid hUA
      have HVA := Lib.hid hVA
      clear tA hPA hUA gUA tUA hVA tVA gVA q0 q1 q2 q3 q4
      obtain ⟨q0, q1, q2, q3, q4⟩ := HKX.out VA HTW.out
      go_wp2_with (rw [HUA.out, HPA.out]; refine store_row rfl 28 (.tmp 12) (.tmp 67) rfl PA _ rfl rfl _ _ HGUA.out HII.out rfl rfl ?_; rw [HVA.out])
      refine (HPD.out _ HTA.out).mono ?_
      rintro e wB ⟨rfl, tB⟩
      obtain ⟨PB, hPB⟩ : ∃ B, wB.heap.size = B := ⟨_, rfl⟩
      obtain ⟨UB, hUB⟩ : ∃ W, wB.alloc (.cells #[.int .i64 0, .int .u32 0, .int .i64 0] 28) = W := ⟨_, rfl⟩
      have gUB : UB.heap[PB]? = some (.cells #[.int .i64 0, .int .u32 0, .int .i64 0] 28 (0, 0)) := by rw [← hPB, ← hUB]; exact heap_alloc_new ..
      have tUB : Touch wB UB (fun _ => False) := hUB ▸ (Touch.refl wB _).alloc _
      obtain ⟨VB, hVB⟩ : ∃ W, UB.setRow PB #[.int .i64 f.id, .int .u32 f.addr, .int .i64 f.weight] = W := ⟨_, rfl⟩
      have tVB : Touch VA VB (fun _ => False) := by
        rw [← hVB]
        exact ((tB.trans tUB (fun _ _ h => h)).setRow _ _ (fun h => by have := tB.size; omega))
      have gVB : VB.heap[PB]? = some (.cells #[.int .i64 f.id, .int .u32 f.addr, .int .i64 f.weight] 28 (0, 0)) := by rw [← hVB]; exact setRow_heap _ _ _ _ _ _ gUB
      have HGUB := Lib.hid gUB
      have HGVB := Lib.hid gVB
      have HTVB := Lib.hid tVB
      have HTB := Lib.hid (HTA.out.trans tVB (fun _ _ h => h))
      have HTW := Lib.hid (HTW.out.trans tVB (fun _ _ h => h))
      have HPB := Lib.hid hPB
      have HUB := Lib.hid hUB
      have HVB := Lib.hid hVB
      clear tB hPB hUB gUB tUB hVB tVB gVB q0 q1 q2 q3 q4
      obtain ⟨q0, q1, q2, q3, q4⟩ := HKX.out VB HTW.out
      go_wp2_with (rw [HUB.out, HPB.out]; refine store_row rfl 28 (.tmp 14) (.tmp 73) rfl PB _ rfl rfl _ _ HGUB.out HII.out rfl rfl ?_; rw [HVB.out])
      refine (HPC.out _ HTB.out).mono ?_
      rintro e wC ⟨rfl, tC⟩
      obtain ⟨PC, hPC⟩ : ∃ B, wC.heap.size = B := ⟨_, rfl⟩
      obtain ⟨UC, hUC⟩ : ∃ W, wC.alloc (.cells #[.int .i64 0, .int .u32 0, .int .i64 0] 28) = W := ⟨_, rfl⟩
      have gUC : UC.heap[PC]? = some (.cells #[.int .i64 0, .int .u32 0, .int .i64 0] 28 (0, 0)) := by rw [← hPC, ← hUC]; exact heap_alloc_new ..
      have tUC : Touch wC UC (fun _ => False) := hUC ▸ (Touch.refl wC _).alloc _
      obtain ⟨VC, hVC⟩ : ∃ W, UC.setRow PC #[.int .i64 f.id, .int .u32 f.addr, .int .i64 f.weight] = W := ⟨_, rfl⟩
      have tVC : Touch VB VC (fun _ => False) := by
        rw [← hVC]
        exact ((tC.trans tUC (fun _ _ h => h)).setRow _ _ (fun h => by have := tC.size; omega))
      have gVC : VC.heap[PC]? = some (.cells #[.int .i64 f.id, .int .u32 f.addr, .int .i64 f.weight] 28 (0, 0)) := by rw [← hVC]; exact setRow_heap _ _ _ _ _ _ gUC
      have HGUC := Lib.hid gUC
      have HGVC := Lib.hid gVC
      have HTVC := Lib.hid tVC
      have HTC := Lib.hid (HTB.out.trans tVC (fun _ _ h => h))
      have HTW := Lib.hid (HTW.out.trans tVC (fun _ _ h => h))
      have HPC1 := Lib.hid hPC
      have HUC := Lib.hid hUC
      have HVC := Lib.hid hVC
      clear tC hPC hUC gUC tUC hVC tVC gVC q0 q1 q2 q3 q4
      obtain ⟨q0, q1, q2, q3, q4⟩ := HKX.out VC HTW.out
      go_upto_region 13 with (rw [HUC.out, HPC1.out]; refine store_row rfl 28 (.tmp 16) (.tmp 79) rfl PC _ rfl rfl _ _ HGUC.out HII.out rfl rfl ?_; rw [HVC.out])
      have HFA := Lib.hid (HTVB.out.trans HTVC.out (fun _ _ h => h))
      have HCA : RowKit.Hid (∀ W, Touch VC W (fun _ => False) → W.cell? ⟨PA, 0, none⟩ = some (.int .i64 f.id) ∧ W.cell? ⟨PA, 1, none⟩ = some (.int .u32 f.addr) ∧ W.cell? ⟨PA, 2, none⟩ = some (.int .i64 f.weight)) := Lib.hid (fun W t => by
        have g := (HFA.out.trans t (fun _ _ h => h)).keeps HGVA.out (fun h => h)
        exact ⟨cell_of_cells g 0, cell_of_cells g 1, cell_of_cells g 2⟩)
      have HCB : RowKit.Hid (∀ W, Touch VC W (fun _ => False) → W.cell? ⟨PB, 0, none⟩ = some (.int .i64 f.id) ∧ W.cell? ⟨PB, 1, none⟩ = some (.int .u32 f.addr) ∧ W.cell? ⟨PB, 2, none⟩ = some (.int .i64 f.weight)) := Lib.hid (fun W t => by
        have g := (HTVC.out.trans t (fun _ _ h => h)).keeps HGVB.out (fun h => h)
        exact ⟨cell_of_cells g 0, cell_of_cells g 1, cell_of_cells g 2⟩)
      have HCC : RowKit.Hid (∀ W, Touch VC W (fun _ => False) → W.cell? ⟨PC, 0, none⟩ = some (.int .i64 f.id) ∧ W.cell? ⟨PC, 1, none⟩ = some (.int .u32 f.addr) ∧ W.cell? ⟨PC, 2, none⟩ = some (.int .i64 f.weight)) := Lib.hid (fun W t => by
        have g := t.keeps HGVC.out (fun h => h)
        exact ⟨cell_of_cells g 0, cell_of_cells g 1, cell_of_cells g 2⟩)
      obtain ⟨m, hm⟩ : ∃ m, mayTB ⟨t1', t2', t3', t4', t5'⟩ = m := ⟨_, rfl⟩
      rw [hm] at HXE HMT
      clear hm HPC HPD HGUA HGVA HGUB HGVB HGUC HGVC HTA HTB HUA HUB HUC HVA HVB HVC HPA HPB HPC1 HT2 HW2 HB c0 c1 c2 c3 c4 HC HD HPF
      obtain ⟨a0, a1, a2⟩ := HCA.out VC (Touch.refl _ _)
      obtain ⟨b0, b1, b2⟩ := HCB.out VC (Touch.refl _ _)
      obtain ⟨e0, e1, e2⟩ := HCC.out VC (Touch.refl _ _)
      by_cases h0 : 0 < n8
      case neg =>
        obtain rfl : n8 = 0 := by omega
        have hxx : x = false := by rw [HXE.out]; rfl
        subst hxx
        clear HXF HXE
        go_upto_region 15 with (fail)
        have HTx := Lib.hid (HTC.out.trans (Touch.refl VC _) (fun _ _ h => h))
        clear a0 a1 a2 b0 b1 b2 e0 e1 e2 q0 q1 q2 q3 q4
        obtain ⟨a0, a1, a2⟩ := HCA.out VC (Touch.refl VC _)
        go_wp2_with fail
        refine (HFB.out _ HTx.out).mono ?_
        rintro e w15 ⟨rfl, t15⟩
        obtain ⟨⟨gi, ga, gw⟩, y, hgv⟩ := findV_form L f.id
        rw [hgv]
        simp only [bkV']
        clear hgv
        obtain ⟨P9, hP9⟩ : ∃ B, w15.heap.size = B := ⟨_, rfl⟩
        obtain ⟨U9, hU9⟩ : ∃ W, w15.alloc (.cells #[.int .i64 0, .int .u32 0, .int .i64 0] 28) = W := ⟨_, rfl⟩
        have gU9 : U9.heap[P9]? = some (.cells #[.int .i64 0, .int .u32 0, .int .i64 0] 28 (0, 0)) := by rw [← hP9, ← hU9]; exact heap_alloc_new ..
        have tU9 : Touch w15 U9 (fun _ => False) := hU9 ▸ (Touch.refl w15 _).alloc _
        obtain ⟨V9, hV9⟩ : ∃ W, U9.setRow P9 #[.int .i64 gi, .int .u32 ga, .int .i64 gw] = W := ⟨_, rfl⟩
        have tV9 : Touch VC V9 (fun _ => False) := by
          rw [← hV9]
          exact ((t15.trans tU9 (fun _ _ h => h)).setRow _ _ (fun h => by have := t15.size; omega))
        have gV9 : V9.heap[P9]? = some (.cells #[.int .i64 gi, .int .u32 ga, .int .i64 gw] 28 (0, 0)) := by rw [← hV9]; exact setRow_heap _ _ _ _ _ _ gU9
        have HGU9 := Lib.hid gU9
        have HT9 := Lib.hid (HTx.out.trans tV9 (fun _ _ h => h))
        have HP9 := Lib.hid hP9
        have HU9 := Lib.hid hU9
        have HV9 := Lib.hid hV9
        clear a0 a1 a2
        obtain ⟨a0, a1, a2⟩ := HCA.out V9 (Touch.trans (Touch.refl VC _) tV9 (fun _ _ h => h))
        have z0 := cell_of_cells gV9 0
        have z1 := cell_of_cells gV9 1
        have z2 := cell_of_cells gV9 2
        clear t15 hP9 hU9 gU9 tU9 hV9 tV9 gV9
        go_wp2_with (rw [HU9.out, HP9.out]; refine store_row rfl 28 (.tmp 18) (.tmp 115) rfl P9 _ rfl rfl _ _ HGU9.out HII.out rfl rfl ?_; rw [HV9.out])
        exact ⟨⟨k + 1, hlt, by go_num, HT9.out⟩, by simp [intOf]; omega⟩
      case pos =>
      have h0I : (n8 : Int) > 0 := by omega
      cases m with
      | false =>
        have hxx : x = false := by rw [HXE.out]; simp
        subst hxx
        clear HXF HXE
        go_upto_region 15 with (go_at_call 15; (with_reducible refine (HMT.out _).mono ?_); rintro e w13 ⟨rfl, t13⟩; have HT13 := Lib.hid t13; clear t13)
        have HTx := Lib.hid (HTC.out.trans HT13.out (fun _ _ h => h))
        clear a0 a1 a2 b0 b1 b2 e0 e1 e2 q0 q1 q2 q3 q4
        obtain ⟨a0, a1, a2⟩ := HCA.out w13 HT13.out
        go_wp2_with fail
        refine (HFB.out _ HTx.out).mono ?_
        rintro e w15 ⟨rfl, t15⟩
        obtain ⟨⟨gi, ga, gw⟩, y, hgv⟩ := findV_form L f.id
        rw [hgv]
        simp only [bkV']
        clear hgv
        obtain ⟨P9, hP9⟩ : ∃ B, w15.heap.size = B := ⟨_, rfl⟩
        obtain ⟨U9, hU9⟩ : ∃ W, w15.alloc (.cells #[.int .i64 0, .int .u32 0, .int .i64 0] 28) = W := ⟨_, rfl⟩
        have gU9 : U9.heap[P9]? = some (.cells #[.int .i64 0, .int .u32 0, .int .i64 0] 28 (0, 0)) := by rw [← hP9, ← hU9]; exact heap_alloc_new ..
        have tU9 : Touch w15 U9 (fun _ => False) := hU9 ▸ (Touch.refl w15 _).alloc _
        obtain ⟨V9, hV9⟩ : ∃ W, U9.setRow P9 #[.int .i64 gi, .int .u32 ga, .int .i64 gw] = W := ⟨_, rfl⟩
        have tV9 : Touch w13 V9 (fun _ => False) := by
          rw [← hV9]
          exact ((t15.trans tU9 (fun _ _ h => h)).setRow _ _ (fun h => by have := t15.size; omega))
        have gV9 : V9.heap[P9]? = some (.cells #[.int .i64 gi, .int .u32 ga, .int .i64 gw] 28 (0, 0)) := by rw [← hV9]; exact setRow_heap _ _ _ _ _ _ gU9
        have HGU9 := Lib.hid gU9
        have HT9 := Lib.hid (HTx.out.trans tV9 (fun _ _ h => h))
        have HP9 := Lib.hid hP9
        have HU9 := Lib.hid hU9
        have HV9 := Lib.hid hV9
        clear a0 a1 a2
        obtain ⟨a0, a1, a2⟩ := HCA.out V9 (Touch.trans HT13.out tV9 (fun _ _ h => h))
        have z0 := cell_of_cells gV9 0
        have z1 := cell_of_cells gV9 1
        have z2 := cell_of_cells gV9 2
        clear t15 hP9 hU9 gU9 tU9 hV9 tV9 gV9
        go_wp2_with (rw [HU9.out, HP9.out]; refine store_row rfl 28 (.tmp 18) (.tmp 115) rfl P9 _ rfl rfl _ _ HGU9.out HII.out rfl rfl ?_; rw [HV9.out])
        exact ⟨⟨k + 1, hlt, by go_num, HT9.out⟩, by simp [intOf]; omega⟩
      | true =>
        have hxx : x = true := by rw [HXE.out]; simp [h0]
        subst hxx
        have HFN := Lib.hid (HXF.out rfl)
        clear HXF HXE
        go_upto_region 15 with (go_at_call 15; (with_reducible refine (HMT.out _).mono ?_); rintro e w13 ⟨rfl, t13⟩; have HT13 := Lib.hid t13; clear t13)
        have HTx := Lib.hid (HTC.out.trans HT13.out (fun _ _ h => h))
        clear a0 a1 a2 b0 b1 b2 e0 e1 e2 q0 q1 q2 q3 q4
        obtain ⟨a0, a1, a2⟩ := HCA.out w13 HT13.out
        go_wp2_with fail
        refine (HFB.out _ HTx.out).mono ?_
        rintro e w15 ⟨rfl, t15⟩
        rw [HFN.out]
        simp only [bkV']
        obtain ⟨P9, hP9⟩ : ∃ B, w15.heap.size = B := ⟨_, rfl⟩
        obtain ⟨U9, hU9⟩ : ∃ W, w15.alloc (.cells #[.int .i64 0, .int .u32 0, .int .i64 0] 28) = W := ⟨_, rfl⟩
        have gU9 : U9.heap[P9]? = some (.cells #[.int .i64 0, .int .u32 0, .int .i64 0] 28 (0, 0)) := by rw [← hP9, ← hU9]; exact heap_alloc_new ..
        have tU9 : Touch w15 U9 (fun _ => False) := hU9 ▸ (Touch.refl w15 _).alloc _
        obtain ⟨V9, hV9⟩ : ∃ W, U9.setRow P9 #[.int .i64 f.id, .int .u32 f.addr, .int .i64 f.weight] = W := ⟨_, rfl⟩
        have tV9 : Touch w13 V9 (fun _ => False) := by
          rw [← hV9]
          exact ((t15.trans tU9 (fun _ _ h => h)).setRow _ _ (fun h => by have := t15.size; omega))
        have gV9 : V9.heap[P9]? = some (.cells #[.int .i64 f.id, .int .u32 f.addr, .int .i64 f.weight] 28 (0, 0)) := by rw [← hV9]; exact setRow_heap _ _ _ _ _ _ gU9
        have HGU9 := Lib.hid gU9
        have HT9 := Lib.hid (HTx.out.trans tV9 (fun _ _ h => h))
        have HP9 := Lib.hid hP9
        have HU9 := Lib.hid hU9
        have HV9 := Lib.hid hV9
        clear a0 a1 a2
        obtain ⟨a0, a1, a2⟩ := HCA.out V9 (Touch.trans HT13.out tV9 (fun _ _ h => h))
        have z0 := cell_of_cells gV9 0
        have z1 := cell_of_cells gV9 1
        have z2 := cell_of_cells gV9 2
        clear t15 hP9 hU9 gU9 tU9 hV9 tV9 gV9
        go_wp2_with (rw [HU9.out, HP9.out]; refine store_row rfl 28 (.tmp 18) (.tmp 115) rfl P9 _ rfl rfl _ _ HGU9.out HII.out rfl rfl ?_; rw [HV9.out])
        exact ⟨⟨k + 1, hlt, by go_num, HT9.out⟩, by simp [intOf]; omega⟩
    case neg =>
      obtain rfl : lt = k := by omega
      have hlt' : ¬ (lt : Int) < lt := by omega
      have HFM : RowKit.Hid (∀ b ∈ bs, findV bs b.id = .tuple #[bkV' b, .bool true]) := Lib.hid (fun b hb => by unfold findV; rw [findF_mem ((gmay_iff2 _).1 HG.out).2.2 hb])
      have HTR0 := Lib.hid (HT8.out.trans HTR.out (fun _ _ h => h))
      clear HC HD HLT2 HLK HPF HOK HLT
      go_wp2_with fail
      go_loopw [130] (fun i wv => ∃ q : Nat, q ≤ len ∧ i = .int .i64 q ∧ Touch w8 wv (fun _ => False)) (fun i _ => len - (intOf i).toNat)
      case atStart => exact ⟨0, Nat.zero_le _, rfl, HTR.out⟩
      case round =>
        obtain ⟨q, hq, rfl, htq⟩ := hrel
        have HTQ := Lib.hid htq
        clear htq
        by_cases hqt : q < len
        case neg =>
          obtain rfl : len = q := by omega
          have hqt' : ¬ (len : Int) < len := by omega
          have HE := Lib.hid (HT8.out.trans HTQ.out (fun _ _ h => h))
          go_wp2_with (go_at_call 10; (with_reducible refine (awake19 _).mono ?_); rintro e w9 ⟨rfl, t9⟩; have HT9 := Lib.hid (HE.out.trans t9 (fun _ _ h => h)); clear t9)
          go_ret
          exact ⟨rfl, HT9.out⟩
        case pos =>
          have hr := HLR.out.still HTQ.out
          obtain ⟨b, off, rfl⟩ := hr.some (by omega)
          have hk1 : q < bs.length := by rw [HL.out]; exact hqt
          obtain ⟨c0, c1, c2⟩ := hr.cells q hk1
          have HFD : RowKit.Hid (∀ W, Touch w8 W (fun _ => False) → Calls Try.prog 6 #[.pointer (some ⟨C, 0, none⟩), .int .i64 bs[q].id] W fun e w' => e = .returned (.tuple #[.agg #[.int .i64 bs[q].id, .int .u32 bs[q].addr, .int .i64 bs[q].weight], .bool true]) ∧ Touch W w' (fun _ => False)) := Lib.hid (fun W t => by
            have hh := HCH.out.still t
            have h := cfind_any 61 C a5 len c5 _ _ _ 1 bs bs[q].id W hh.hc hh.hr
            rw [HFM.out _ (List.getElem_mem hk1)] at h; exact h)
          generalize bs[q] = f at *
          obtain ⟨W2, hW2⟩ : ∃ W, wr.alloc (.cells #[.int .i64 f.id, .int .u32 f.addr, .int .i64 f.weight] 28) = W := ⟨_, rfl⟩
          have t2 : Touch wr W2 (fun _ => False) := hW2 ▸ (Touch.refl wr _).alloc _
          have g2 : W2.heap[wr.heap.size]? = some (.cells #[.int .i64 f.id, .int .u32 f.addr, .int .i64 f.weight] 28 (0, 0)) := hW2 ▸ heap_alloc_new ..
          obtain ⟨B, hB⟩ : ∃ B, wr.heap.size = B := ⟨_, rfl⟩
          rw [hB] at g2
          have HKX : RowKit.Hid (∀ W, Touch W2 W (fun _ => False) → W.cell? ⟨B, 0, none⟩ = some (.int .i64 f.id) ∧ W.cell? ⟨B, 1, none⟩ = some (.int .u32 f.addr) ∧ W.cell? ⟨B, 2, none⟩ = some (.int .i64 f.weight)) := Lib.hid (fun W t => by
            have g := t.keeps g2 (fun h => h)
            exact ⟨cell_of_cells g 0, cell_of_cells g 1, cell_of_cells g 2⟩)
          have hqI : (q : Int) < len := by omega
          have HT2 := Lib.hid (HTQ.out.trans t2 (fun _ _ h => h))
          have HW2 := Lib.hid hW2
          have HB := Lib.hid hB
          clear t2 g2 hW2 hB hr
          go_upto_region 22 with (fail)
          rw [HW2.out, HB.out]
          obtain ⟨q0, q1, q2⟩ := HKX.out W2 (Touch.refl _ _)
          go_wp2_with fail
          refine (HFD.out _ HT2.out).mono ?_
          rintro e w15 ⟨rfl, t15⟩
          obtain ⟨P9, hP9⟩ : ∃ B, w15.heap.size = B := ⟨_, rfl⟩
          obtain ⟨U9, hU9⟩ : ∃ W, w15.alloc (.cells #[.int .i64 0, .int .u32 0, .int .i64 0] 28) = W := ⟨_, rfl⟩
          have gU9 : U9.heap[P9]? = some (.cells #[.int .i64 0, .int .u32 0, .int .i64 0] 28 (0, 0)) := by rw [← hP9, ← hU9]; exact heap_alloc_new ..
          have tU9 : Touch w15 U9 (fun _ => False) := hU9 ▸ (Touch.refl w15 _).alloc _
          obtain ⟨V9, hV9⟩ : ∃ W, U9.setRow P9 #[.int .i64 f.id, .int .u32 f.addr, .int .i64 f.weight] = W := ⟨_, rfl⟩
          have tV9 : Touch W2 V9 (fun _ => False) := by
            rw [← hV9]
            exact ((t15.trans tU9 (fun _ _ h => h)).setRow _ _ (fun h => by have := t15.size; omega))
          have gV9 : V9.heap[P9]? = some (.cells #[.int .i64 f.id, .int .u32 f.addr, .int .i64 f.weight] 28 (0, 0)) := by rw [← hV9]; exact setRow_heap _ _ _ _ _ _ gU9
          have HGU9 := Lib.hid gU9
          have HT9 := Lib.hid (HT2.out.trans tV9 (fun _ _ h => h))
          have HP9 := Lib.hid hP9
          have HU9 := Lib.hid hU9
          have HV9 := Lib.hid hV9
          clear q0 q1 q2
          obtain ⟨q0, q1, q2⟩ := HKX.out V9 tV9
          have z0 := cell_of_cells gV9 0
          have z1 := cell_of_cells gV9 1
          have z2 := cell_of_cells gV9 2
          clear t15 hP9 hU9 gU9 tU9 hV9 tV9 gV9
          go_wp2_with (rw [HU9.out, HP9.out]; refine store_row rfl 28 (.tmp 22) (.tmp 139) rfl P9 _ rfl rfl _ _ HGU9.out HII.out rfl rfl ?_; rw [HV9.out])
          exact ⟨⟨q + 1, hqt, by go_num, HT9.out⟩, by simp [intOf]; omega⟩

open Go.ChangeShapes Go.WideShapes Go.ChangeAt in
theorem choiceStays_holds : Rows.ChoiceStaysSaid := by
  refine choiceStays.said fun H enc W base v0 v1 v2 d0 d1 d2 p0 p1 p2 h0 h1 h2 => ?_
  obtain ⟨a, cap, bs, hv, hr, hok⟩ := h0.tr.backs
  obtain ⟨a', len', cap', rfl⟩ := okWide_slice Try.underlying22 h0.ok
  simp only [Value.cells, List.cons.injEq, Value.slice.injEq, and_true] at hv
  obtain ⟨rfl, rfl, rfl⟩ := hv
  obtain ⟨at_, ct, ts, hv2, ht, hot⟩ := h2.tr.tups
  obtain ⟨a2, len2, cap2, rfl⟩ := okWide_slice Try.underlying39 h2.ok
  simp only [Value.cells, List.cons.injEq, Value.slice.injEq, and_true] at hv2
  obtain ⟨rfl, rfl, rfl⟩ := hv2
  obtain ⟨a1, len1, cap1, xs, rfl, hxs⟩ := h1.ints Try.underlying34 Try.underlying3 cint
  exact (cst_walk a' a1 a2 cap' len1 cap1 cap2 bs xs ts W hr hxs ht hot (RowS.lt hr)).mono fun e w' h => ⟨h.1, h.2.below (fun _ _ h => h.elim) (Nat.le_refl _)⟩
end Go.Proofs.Ytfjnhaoiecndpaa
