import Derived.Test.YtpjdcgjoepjmcaaGreatLAZ
import Derived.Test.YtpjdcgjoepjmcaaGreatHFZ
import Derived.Test.YtpjdcgjoepjmcaaGreatKLZ
import Derived.Test.YtpjdcgjoepjmcaaGreatKMZ
import Derived.Deep.RegionHeld3
import Derived.Test.YtpjdcgjoepjmcaaGreatKAZ
import Derived.Test.YtpjdcgjoepjmcaaGreatKHZ
import Derived.Test.YtpjdcgjoepjmcaaGreatKFZ
import Derived.Test.YtpjdcgjoepjmcaaGreatHAZ
import Derived.Test.YtpjdcgjoepjmcaaGreatKPZ
import Derived.Test.YtpjdcgjoepjmcaaGreatPortRTupZ
import Derived.Test.YtpjdcgjoepjmcaaGreatIpRBuildZ
import Derived.Test.YtpjdcgjoepjmcaaGreatGAZ
import Derived.Laws.BitsAllLaws
import Derived.Test.YtpjdcgjoepjmcaaGreatKEZ
set_option linter.unusedVariables false
set_option linter.unusedSimpArgs false
section
namespace Go.Proofs.YtpjdcgjoepjmcaaGreat
open Go.RowKit
structure RCh (w : World) (X n : Nat) (bs : List BkD) (T : List Int) (ab : Option Addr) (lb cb G m : Nat) : Prop where
 hc : w.heap[X]? = some (.cells (chC n ab lb cb (some ⟨G, 0, none⟩) n n m) 102 (0, 0))
 hr : RowK w ab lb cb bs
 hi : RowI w (some ⟨G, 0, none⟩) n n T
theorem RCh.by {S : Nat → Prop} {w w' : World} {X n : Nat} {bs : List BkD} {T : List Int} {ab : Option Addr} {lb cb G m : Nat} (h : RCh w X n bs T ab lb cb G m) (t : Touch w w' S) (h1 : ¬ S X) (h2 : ∀ x, ab = some x → ¬ S x.block) (h3 : ¬ S G) : RCh w' X n bs T ab lb cb G m :=
 ⟨t.keeps h.hc h1, h.hr.touch t (fun x hx => .inr (h2 x hx)), h.hi.touch t (fun x hx => .inr (fun e => by cases hx; exact h3 e))⟩
theorem RCh.still {w w' : World} {X n : Nat} {bs : List BkD} {T : List Int} {ab : Option Addr} {lb cb G m : Nat} (h : RCh w X n bs T ab lb cb G m) (t : Touch w w' (fun _ => False)) : RCh w' X n bs T ab lb cb G m := h.by t (fun h => h) (fun _ _ h => h) (fun h => h)
set_option maxRecDepth 20000 in
set_option maxHeartbeats 4000000 in
theorem rset_bad (n : Nat) (C : Nat) (ab : Option Addr) (lb cb : Nat) (at_ : Option Addr) (lt ct m : Nat) (a : Option Addr) (len cap : Nat) (bs : List BkD) (oa : Option Addr) (on oc : Nat) (w : World)
 (hc : w.heap[C]? = some (.cells (chC n ab lb cb at_ lt ct m) 102 (0, 0))) (hr : RowK w a len cap bs) (hg : gmay bs = false) :
 Calls Tryz.prog 16 #[.pointer (some ⟨C, 0, none⟩), .slice a len cap, .slice oa on oc] w fun e w' => e = .returned (.int .i64 1) ∧ Touch w w' (fun _ => False) := by
 have HGM := Lib.hid (rgmay_any a len cap bs w hr)
 rw [hg] at HGM
 clear hr hg hc
 go_enter Tryz.func16, Tryz.ntmps16
 go_wp2_with (go_at_call 44; (with_reducible refine HGM.out.mono ?_); rintro e w9 ⟨rfl, t9⟩)
 go_ret
 exact ⟨rfl, t9⟩
set_option maxRecDepth 20000 in
set_option maxHeartbeats 4000000 in
theorem rset_any (n : Nat) (C : Nat) (ab : Option Addr) (lb cb : Nat) (at_ : Option Addr) (lt ct m : Nat) (a : Option Addr) (len cap : Nat) (bs : List BkD) (oa : Option Addr) (on oc : Nat) (O : List Int) (w : World) (hp : Prm n) (hm : m ≤ 1000000)
 (hc : w.heap[C]? = some (.cells (chC n ab lb cb at_ lt ct m) 102 (0, 0))) (hr : RowK w a len cap bs) (hg : gmay bs = true) (hro : RowI w oa on oc O) (hne : ∀ x, a = some x → len = 0 ∨ ¬ x.block = C) (hno : ∀ x, oa = some x → on = 0 ∨ ¬ x.block = C) :
 Calls Tryz.prog 16 #[.pointer (some ⟨C, 0, none⟩), .slice a len cap, .slice oa on oc] w fun e w' => e = .returned (.int .i64 0) ∧ ∃ a' c' G, w'.heap[C]? = some (.cells (chC n a' len c' (some ⟨G, 0, none⟩) n n (m + 1)) 102 (0, 0)) ∧ RowK w' a' len c' bs ∧ RowI w' (some ⟨G, 0, none⟩) n n (tabF (keepF (outB O) bs) n) ∧ (∀ x, a' = some x → w.heap.size ≤ x.block ∧ x.block < w'.heap.size) ∧ w.heap.size ≤ G ∧ Touch w w' (fun k => k = C) := by
 have h3 := hp.lo
 have h251 := hp.hi
 have hl := hr.len
 have hl16 : len ≤ 16 := by have := ((gmay_iff bs).1 hg).1; omega
 have HP := Lib.hid hp
 have HC := Lib.hid hc
 have HR := Lib.hid hr
 have HO := Lib.hid hro
 have HNE := Lib.hid (And.intro hne hno)
 have HLL := Lib.hid hl
 have HGM : RowKit.Hid (∀ W, RowK W a len cap bs → Calls Tryz.prog 44 #[.slice a len cap] W fun e w' => e = .returned (.bool true) ∧ Touch W w' (fun _ => False)) := Lib.hid (fun W h => by have := rgmay_any a len cap bs W h; rwa [hg] at this)
 clear hc hr hg hne hno hp hl hro
 go_enter Tryz.func16, Tryz.ntmps16
 go_wp2_with (first
  | (go_at_call 44; (with_reducible refine (HGM.out _ HR.out).mono ?_); rintro e w3 ⟨rfl, t3⟩; have HT := Lib.hid t3; have HC := Lib.hid (t3.keeps HC.out (fun h => h)); have HR := Lib.hid (HR.out.still t3); have HO := Lib.hid (HO.out.still t3); clear t3)
  | (at_builtin; (with_reducible refine wp_appS (OwnS.nil w3 w3.heap.size 70 3) HR.out.toS (one_bkK _) 39 Tryz.underlying39 _ 24 infoBk rfl (by decide) (by simp only [maxLen, List.length_nil]; omega) (by simp only [List.length_nil]; omega) ((Touch.refl w3 (fun _ => False)).under (Nat.le_refl _)) (Nat.le_refl _) (Nat.le_refl _) rfl _ _ rfl rfl rfl len (bs.map BkD.cells) (by simp) (by simp) ?_); intro a4 c4 w4 ho4 hg4 hb4 hp4; have HO4 := Lib.hid ho4; have HG4 := Lib.hid ((Touch.refl w3 (fun _ => False)).grown hg4 (fun k hk _ => by cases hk)); have y1 : w4.cell? ⟨C, 1, none⟩ = some (.slice ab lb cb) := cell_of_cells (HG4.out.keeps HC.out (fun h => h)) 1; have f1 := free_of_cells (HG4.out.keeps HC.out (fun h => h)) 1; clear ho4 hg4 hb4 hp4))
 have HCw4 := HG4.out.keeps HC.out (fun h => h)
 have hCl : C < w3.heap.size := heap_lt HC.out
 obtain ⟨W5, hW5⟩ : ∃ W, w4.setCell ⟨C, 1, none⟩ (.slice a4 len c4) = W := ⟨_, rfl⟩
 have g5 : W5.heap[C]? = some (.cells (chC n a4 len c4 at_ lt ct m) 102 (0, 0)) := by rw [← hW5]; exact heap_setCell_same w4 C 1 _ _ _ HCw4
 have t5 : Touch w4 W5 (fun k => k = C) := hW5 ▸ (Touch.refl w4 (fun k => k = C)).setCell _ _ (fun _ => rfl)
 have hrow4 := (HO4.out.row').2.1
 have hlt4 := (HO4.out.row').2.2
 have HK5 : RowKit.Hid (RowK W5 a4 len c4 bs) := Lib.hid (RowS.touch hrow4 t5 (fun x hx => .inr (fun h => by have := (hlt4 x hx).1; omega)))
 have HF5 : RowKit.Hid (∀ x, a4 = some x → w3.heap.size ≤ x.block ∧ x.block < W5.heap.size) := Lib.hid (fun x hx => ⟨(hlt4 x hx).1, Nat.lt_of_lt_of_le (hlt4 x hx).2 t5.size⟩)
 have HC5 := Lib.hid g5
 have HR5 := Lib.hid ((HR.out.still HG4.out).touch t5 HNE.out.1)
 have HO5 := Lib.hid ((HO.out.still HG4.out).touch t5 HNE.out.2)
 have HT5 := Lib.hid ((HT.out.mono (fun _ _ h => h.elim)).trans ((HG4.out.mono (fun _ _ h => h.elim)).trans t5 (fun _ _ h => h)) (fun _ _ h => h))
 have HS5 : RowKit.Hid (w.heap.size ≤ W5.heap.size ∧ C < w3.heap.size ∧ w.heap.size ≤ w3.heap.size ∧ C < W5.heap.size) := Lib.hid ⟨HT5.out.size, hCl, HT.out.size, heap_lt g5⟩
 rw [hW5]
 clear hW5 t5 g5 HCw4 hrow4 hlt4 y1 f1 hCl HG4 HO4 HC HR HO HNE HT
 have c0 : W5.cell? ⟨C, 0, none⟩ = some (.int .i64 (n : Nat)) := cell_of_cells HC5.out 0
 have HCC : RowKit.Hid (∀ W, Touch W5 W (fun _ => False) → W.cell? ⟨C, 0, none⟩ = some (.int .i64 (n : Nat))) := Lib.hid (fun W t => cell_of_cells (t.keeps HC5.out (fun h => h)) 0)
 have HWO : RowKit.Hid (∀ W, Touch W5 W (fun _ => False) → Calls Tryz.prog 45 #[.slice a len cap, .slice oa on oc] W fun e w' => ∃ a' c', e = .returned (.slice a' (keepF (outB O) bs).length c') ∧ RowK w' a' (keepF (outB O) bs).length c' (keepF (outB O) bs) ∧ Touch W5 w' (fun _ => False)) := Lib.hid (fun W t => by
  refine (rwithout_any a oa len cap on oc bs O W (HR5.out.still t) (by omega) (HO5.out.still t)).mono ?_
  rintro e w' ⟨a', c', he, ho, t'⟩
  exact ⟨a', c', he, ho.row.2.1, t.trans t' (fun _ _ h => h)⟩)
 have HTA : RowKit.Hid (∀ W a5 c5, RowK W a5 (keepF (outB O) bs).length c5 (keepF (outB O) bs) → Touch W5 W (fun _ => False) → Calls Tryz.prog 38 #[.slice a5 (keepF (outB O) bs).length c5, .int .i64 n] W fun e w' => ∃ G, e = .returned (.slice (some ⟨G, 0, none⟩) n n) ∧ RowI w' (some ⟨G, 0, none⟩) n n (tabF (keepF (outB O) bs) n) ∧ W5.heap.size ≤ G ∧ Touch W5 w' (fun _ => False)) := Lib.hid (fun W a5 c5 h t => by
  refine (rtable_any a5 (keepF (outB O) bs).length c5 n (keepF (outB O) bs) W HP.out h).mono ?_
  rintro e w' ⟨G, he, ho, t'⟩
  exact ⟨G, he, ho.rowI (tab_i64 HP.out), Nat.le_trans t.size ho.lt.1, t.trans t' (fun _ _ h => h)⟩)
 obtain ⟨Z, hZ⟩ : ∃ Z, keepF (outB O) bs = Z := ⟨_, rfl⟩
 rw [hZ] at HWO HTA
 have HZ := Lib.hid hZ
 clear hZ
 go_region_held3 (fun w' => w'.cell? ⟨C, 0, none⟩ = some (.int .i64 (n : Nat)))
  (first | (with_reducible exact HK8.out _) | (with_reducible exact HCC.out _ T8.out) | (with_reducible exact HCC.out _ T6.out) | go_keep)
  (first
  | (go_simp; go_at_call 38; have _u := HK6; (with_reducible refine (HTA.out _ _ _ HK6.out T6.out).mono ?_); rintro e w8 ⟨G, rfl, hi8, hg8, t8⟩; have HI8 := Lib.hid hi8; have HGS := Lib.hid hg8; have T8 := Lib.hid t8; have c2 : w8.cell? ⟨C, 2, none⟩ = some (.slice at_ lt ct) := cell_of_cells (t8.keeps HC5.out (fun h => h)) 2; have f2 := free_of_cells (t8.keeps HC5.out (fun h => h)) 2; have k0 := HCC.out _ t8; have HK8 : RowKit.Hid (∀ v, (w8.setCell ⟨C, 2, none⟩ v).cell? ⟨C, 0, none⟩ = some (.int .i64 (n : Nat))) := Lib.hid (fun v => (cell_of_cells (heap_setCell_same w8 C 2 _ _ v (T8.out.keeps HC5.out (fun h => h))) 0).trans rfl); clear hi8 t8 hg8)
  | (go_simp; go_at_call 45; (with_reducible refine (HWO.out _ (Touch.refl _ _).drew).mono ?_); rintro e w6 ⟨a6, c6, rfl, hk6, t6⟩; have HK6 := Lib.hid hk6; have T6 := Lib.hid t6; have k6 := HCC.out _ t6; clear hk6 t6))
 clear k6 k0 c2 f2 c0 _u
 have HC8 := T8.out.keeps HC5.out (fun h => h)
 obtain ⟨W9, hW9⟩ : ∃ W, w8.setCell ⟨C, 2, none⟩ (.slice (some ⟨G, 0, none⟩) n n) = W := ⟨_, rfl⟩
 have HC9 : RowKit.Hid (W9.heap[C]? = some (.cells (chC n a4 len c4 (some ⟨G, 0, none⟩) n n m) 102 (0, 0))) := Lib.hid (by rw [← hW9]; exact heap_setCell_same w8 C 2 _ _ _ HC8)
 have t9 : Touch w8 W9 (fun k => k = C) := hW9 ▸ (Touch.refl w8 (fun k => k = C)).setCell _ _ (fun _ => rfl)
 have h5C := HS5.out.2.1
 have h6C := HS5.out.2.2.2
 have HA4 : RowKit.Hid (∀ x, a4 = some x → ¬ x.block = C) := Lib.hid (fun x hx => by have := (HF5.out x hx).1; omega)
 have hGC : ¬ G = C := by have := HGS.out; omega
 have HK9 := Lib.hid ((HK5.out.still T8.out).touch t9 (fun x hx => .inr (HA4.out x hx)))
 have HI9 := Lib.hid (HI8.out.touch t9 (fun x hx => by cases hx; exact .inr hGC))
 have HT9 := Lib.hid (HT5.out.trans ((T8.out.mono (fun _ _ h => h.elim)).trans t9 (fun _ _ h => h)) (fun _ _ h => h))
 have HS9 := Lib.hid ((T8.out.mono (T := fun k => k = C) (fun _ _ h => h.elim)).trans t9 (fun _ _ h => h)).size
 rw [hW9]
 clear hW9 t9 HC8
 have y3 : W9.cell? ⟨C, 3, none⟩ = some (.int .i64 (m : Nat)) := cell_of_cells HC9.out 3
 have f3 := free_of_cells HC9.out 3
 have t12 := (Touch.refl W9 (fun k => k = C)).setCell ⟨C, 3, none⟩ (.int .i64 ((m + 1 : Nat))) (fun _ => rfl)
 have HG12 := Lib.hid (heap_setCell_same W9 C 3 _ _ (.int .i64 ((m + 1 : Nat))) HC9.out)
 have HK12 := Lib.hid (HK9.out.touch t12 (fun x hx => .inr (HA4.out x hx)))
 have HI12 := Lib.hid (HI9.out.touch t12 (fun x hx => by cases hx; exact .inr hGC))
 have HFR : RowKit.Hid (∀ x, a4 = some x → w.heap.size ≤ x.block ∧ x.block < (W9.setCell ⟨C, 3, none⟩ (.int .i64 ((m + 1 : Nat)))).heap.size) := Lib.hid (fun x hx => ⟨Nat.le_trans HS5.out.2.2.1 (HF5.out x hx).1, Nat.lt_of_lt_of_le (HF5.out x hx).2 (Nat.le_trans HS9.out t12.size)⟩)
 have HFG : RowKit.Hid (w.heap.size ≤ G) := Lib.hid (Nat.le_trans HS5.out.1 HGS.out)
 have HT12 := Lib.hid (HT9.out.trans t12 (fun _ _ h => h))
 clear t12
 go_wp2_with fail
 go_ret
 have e : ((m : Int) + 1) = ((m + 1 : Nat) : Int) := by omega
 rw [e]
 exact ⟨rfl, a4, c4, G, HG12.out, HK12.out, by rw [HZ.out]; exact HI12.out, HFR.out, HFG.out, HT12.out⟩
end Go.Proofs.YtpjdcgjoepjmcaaGreat
end
section
namespace Go.Proofs.YtpjdcgjoepjmcaaGreat
open Go.RowKit
theorem enter_rhashP (a : Value) (w : World) : (callFunc 89 #[a]).run Tryz.prog w = .ok (.enter 89 #[a]) w := by kernel_rfl
theorem mayB_kP (k : TupD) : mayB (kOf k) = mayTB k := by
 rw [Bool.eq_iff_iff, may_iff, mayTB_iff]
 simp only [kOf]
 constructor
 ·rintro ⟨a, b, c, d, e⟩; exact ⟨a, ⟨b, c⟩, d, e⟩
 ·rintro ⟨a, ⟨b, c⟩, d, e⟩; exact ⟨a, b, c, d, e⟩
theorem mayT_pl (k : TupD) (w : World) : Calls Tryz.prog 26 #[.agg (tcs k)] w fun e w' => e = .returned (.bool (mayTB k)) ∧ Touch w w' (fun _ => False) := by
 rw [← mayB_kP]; exact may_any (kOf k) w
theorem findF_neg {bs : List BkD} (h : ∀ b ∈ bs, 0 ≤ b.id) {z : Int} (hz : z < 0) : findF bs z = none := by
 unfold findF
 rw [List.find?_eq_none]
 intro b hb e
 have := h b hb
 simp at e
 omega
set_option maxRecDepth 20000 in
set_option maxHeartbeats 8000000 in
theorem rpick_any (n C : Nat) (ab : Option Addr) (lb cb G m : Nat) (bs : List BkD) (T : List Int) (t : TupD) (w : World) (hn : 0 < n) (hn2 : n ≤ 251) (ok : TupOk t) (x : RCh w C n bs T ab lb cb G m) (hid : ∀ b ∈ bs, 0 ≤ b.id) :
 Calls Tryz.prog 55 #[.pointer (some ⟨C, 0, none⟩), .agg (tcs t)] w fun e w' => e = .returned (bkO (pickO bs T n t)) ∧ Touch w w' (fun _ => False) := by
 obtain ⟨W0, hW0⟩ : ∃ W, (w.alloc (.cells (tcs t) 37)).alloc (.cells #[.int .i64 0, .int .u32 0, .int .i64 0] 70) = W := ⟨_, rfl⟩
 have t0 : Touch w W0 (fun _ => False) := hW0 ▸ ((Touch.refl w _).alloc _).alloc _
 have gk : W0.heap[w.heap.size]? = some (.cells (tcs t) 37 (0, 0)) := hW0 ▸ ((Touch.refl (w.alloc (.cells (tcs t) 37)) (fun _ => False)).alloc _).keeps (heap_alloc_new ..) (fun h => h)
 have g0 : W0.heap[w.heap.size + 1]? = some (.cells #[.int .i64 0, .int .u32 0, .int .i64 0] 70 (0, 0)) := by
  have := heap_alloc_new (w.alloc (.cells (tcs t) 37)) (.cells #[.int .i64 0, .int .u32 0, .int .i64 0] 70)
  rw [hW0] at this
  simpa using this
 have HK := Lib.hid gk
 have HG0 := Lib.hid g0
 have HT0 := Lib.hid t0
 have HX := Lib.hid (x.still t0)
 have HW0 := Lib.hid hW0
 have HII := Lib.hid infoBk3
 have hmt : ∀ W, Calls Tryz.prog 26 #[.agg (tcs t)] W fun e w' => e = .returned (.bool (mayTB t)) ∧ Touch W w' (fun _ => False) := fun W => mayT_pl t W
 have HHA := Lib.hid (fun W => rhash_any t ok W)
 have hfz : mayTB t = true → ∀ z : Int, T.getD (hashF t % n) 0 = z → pickO bs T n t = findF bs z := by
  intro h1 z hz
  unfold pickO
  rw [h1, if_pos rfl, hz]
 have hno : mayTB t = false → pickO bs T n t = none := by
  intro h1
  unfold pickO
  rw [h1]; rfl
 obtain ⟨PO, hPO⟩ : ∃ o, pickO bs T n t = o := ⟨_, rfl⟩
 rw [hPO] at hfz hno ⊢
 have hhl := hashF_lt t
 obtain ⟨H, hH⟩ : ∃ H, hashF t = H := ⟨_, rfl⟩
 rw [hH] at HHA hhl hfz
 have hTl := x.hi.1
 have hsl : H % n < n := Nat.mod_lt _ hn
 obtain ⟨s, hs⟩ : ∃ s, H % n = s := ⟨_, rfl⟩
 rw [hs] at hsl hfz
 have hsT : s < T.length := by rw [hTl]; exact hsl
 have hTs : RowKit.Hid (∀ W, Touch W0 W (fun _ => False) → W.cell? ⟨G, s, none⟩ = some (.int .i64 T[s])) := Lib.hid (fun W t => by
  obtain ⟨b, off, hb, hcl⟩ := (HX.out.hi.still t).some hn
  cases hb
  have := hcl s hsT
  rwa [Nat.zero_add] at this)
 have HFZ := Lib.hid (fun h1 => hfz h1 T[s] (by rw [List.getD_eq_getElem?_getD, List.getElem?_eq_getElem hsT]; rfl))
 have HNO := Lib.hid hno
 have HSE : RowKit.Hid ((H : Int) % (n : Int) = (s : Int)) := Lib.hid (by omega)
 have htm : Int.tmod (H : Int) (n : Int) = (s : Int) := by
  rw [Int.tmod_eq_emod_of_nonneg (by omega)]; exact HSE.out
 have HTM := Lib.hid htm
 have HID := Lib.hid hid
 generalize T[s] = z at *
 obtain ⟨b0, hmb⟩ : ∃ b, mayTB t = b := ⟨_, rfl⟩
 rw [hmb] at hmt HFZ HNO
 have HMT := Lib.hid hmt
 have HFV : RowKit.Hid (∀ W, Touch W0 W (fun _ => False) → Calls Tryz.prog 54 #[.slice ab lb cb, .int .i64 z] W fun e w' => e = .returned (bkO (findF bs z)) ∧ Touch W w' (fun _ => False)) := Lib.hid (fun W t => by have := rfind_any ab lb cb bs z W (HX.out.hr.still t); rwa [findV_O] at this)
 have HCX : RowKit.Hid (∀ W, Touch W0 W (fun _ => False) → W.cell? ⟨C, 2, none⟩ = some (.slice (some ⟨G, 0, none⟩) n n)) := Lib.hid (fun W t => cell_of_cells (t.keeps HX.out.hc (fun h => h)) 2)
 have HC0 : RowKit.Hid (∀ W, Touch W0 W (fun _ => False) → W.cell? ⟨C, 0, none⟩ = some (.int .i64 (n : Nat))) := Lib.hid (fun W t => cell_of_cells (t.keeps HX.out.hc (fun h => h)) 0)
 have HC1 : RowKit.Hid (∀ W, Touch W0 W (fun _ => False) → W.cell? ⟨C, 1, none⟩ = some (.slice ab lb cb)) := Lib.hid (fun W t => cell_of_cells (t.keeps HX.out.hc (fun h => h)) 1)
 have HKH : RowKit.Hid (∀ W, Touch W0 W (fun _ => False) → W.heap[w.heap.size]? = some (.cells (tcs t) 37 (0, 0))) := Lib.hid (fun W t => t.keeps HK.out (fun h => h))
 obtain ⟨t1', t2', t3', t4', t5'⟩ := t
 simp only [tcs] at HK HW0 HMT HHA HKH ⊢
 have HKX : RowKit.Hid (∀ W, Touch W0 W (fun _ => False) → W.cell? ⟨w.heap.size, 0, none⟩ = some (.int .u32 t1') ∧ W.cell? ⟨w.heap.size, 1, none⟩ = some (.int .u32 t2') ∧ W.cell? ⟨w.heap.size, 2, none⟩ = some (.int .i64 t3') ∧ W.cell? ⟨w.heap.size, 3, none⟩ = some (.int .i64 t4') ∧ W.cell? ⟨w.heap.size, 4, none⟩ = some (.int .i64 t5')) := Lib.hid (fun W t => by
  have g := HKH.out W t
  exact ⟨cell_of_cells g 0, cell_of_cells g 1, cell_of_cells g 2, cell_of_cells g 3, cell_of_cells g 4⟩)
 clear t0 gk g0 hW0 x ok hmb hmt hfz hno hhl hH hPO hid hTl hs hsT htm
 go_enter Tryz.func55, Tryz.ntmps55
 go_upto_region 1 with (fail)
 rw [HW0.out]
 have k2 := HCX.out W0 (Touch.refl _ _)
 obtain ⟨q0, q1, q2, q3, q4⟩ := HKX.out W0 (Touch.refl _ _)
 have hnz : ¬ (n : Int) = 0 := by omega
 have hnB : ((n : Int) == 0) = false := beq_eq_false_iff_ne.2 hnz
 cases b0 with
 | false =>
   have HRE := Lib.hid (show bkO PO = .tuple #[bkV' bkZ, .bool false] by rw [HNO.out rfl]; rfl)
   clear HNO HFZ
   go_wp2_with (first
    | (go_at_call 26; (with_reducible refine (HMT.out _).mono ?_); rintro e w3 ⟨rfl, t3⟩; have HG3 := Lib.hid (t3.keeps HG0.out (fun h => h)); have HT3 := Lib.hid (HT0.out.trans t3 (fun _ _ h => h)); clear t3)
    | (refine store_row rfl 70 (.tmp 4) (.tmp 18) rfl (w.heap.size + 1) _ rfl rfl _ _ HG3.out HII.out rfl rfl ?_))
   refine ret_row1 rfl rfl (w.heap.size + 1) _ #[.int .i64 0, .int .u32 0, .int .i64 0] _ _ rfl (setRow_heap _ _ _ _ _ _ HG3.out) Tryz.underlying70 rfl HII.out (.bool false) rfl ?_
   exact ⟨by rw [HRE.out]; rfl, HT3.out.setRow _ _ (fun h => absurd h (by omega))⟩
 | true =>
 have HFY := Lib.hid (HFZ.out rfl)
 clear k2 HFZ HNO
 go_wp2_with (go_at_call 26; (with_reducible refine (HMT.out _).mono ?_); rintro e w3 ⟨rfl, t3⟩; have T3 := Lib.hid t3; have k2 := HCX.out w3 t3; clear t3)
 clear q0 q1 q2 q3 q4 k2
 have hwn : IntKind.u32.wrap (n : Int) = n := by rw [IntKind.wrap_u32]; omega
 have hwS : IntKind.i64.wrap (s : Int) = s := IntWalk.i64_in _ (by omega)
 have hwH : IntKind.u32.wrap (s : Int) = s := by rw [IntKind.wrap_u32]; omega
 have hn0 : ¬ n = 0 := by omega
 have hsI : (s : Int) < n := by omega
 have htm := HTM.out
 have hS := (T3.out.trans ((Touch.refl w3 (fun _ => False)).drew) (fun _ _ h => h))
 refine wp_region_sched (fun w' => Touch W0 w' (fun _ => False)) [(0, true), (1, true), (2, true), (3, true), (4, true), (6, true), (7, true), (8, true), (9, true), (10, true), (5, false), (11, true), (12, true), (13, true), (14, true), (15, true)] (by kernel_rfl) (by kernel_rfl) rfl (by kernel_rfl) hS ?_
 iterate 4 ((refine walkS_take (v := ?_) (some _) rfl rfl (fun _ _ _ h => h) (by rfl) ?_ ?_; rotate_left; (focus (intro w' hw'; have k2 := HCX.out w' hw'; have k0 := HC0.out w' hw'; have kt := hTs.out w' hw'; go_simp; (try with_reducible rfl))); (try simp only [Act.put, List.setIfInBounds_toArray, List.set_cons_zero, List.set_cons_succ])))
 (refine walkS_row (some 23) rfl rfl 37 (.tmp 3) rfl (w.heap.size) rfl _ _ _ _ (fun w' h => (HKH.out _ h)) Tryz.underlying37 rfl infoT (fun _ _ _ h => h) (by rfl) ?_; (try simp only [Act.put, List.setIfInBounds_toArray, List.set_cons_zero, List.set_cons_succ]))
 iterate 5 ((refine walkS_take (v := ?_) (some _) rfl rfl (fun _ _ _ h => h) (by rfl) ?_ ?_; rotate_left; (focus (intro w' hw'; have k2 := HCX.out w' hw'; have k0 := HC0.out w' hw'; have kt := hTs.out w' hw'; go_simp; (try with_reducible rfl))); (try simp only [Act.put, List.setIfInBounds_toArray, List.set_cons_zero, List.set_cons_succ])))
 (refine walkS_call 24 _ _ _ _ ((HHA.out _)) rfl rfl rfl (by rfl) rfl (enter_rhashP _ _) ?_; rintro e w' ⟨rfl, t⟩; have hS := hS.trans t (fun _ _ h => h); clear t; refine ⟨_, rfl, hS, fun hS => ?_⟩; (try simp only [Act.put, List.setIfInBounds_toArray, List.set_cons_zero, List.set_cons_succ]))
 iterate 5 ((refine walkS_take (v := ?_) (some _) rfl rfl (fun _ _ _ h => h) (by rfl) ?_ ?_; rotate_left; (focus (intro w' hw'; have k2 := HCX.out w' hw'; have k0 := HC0.out w' hw'; have kt := hTs.out w' hw'; go_simp; (try with_reducible rfl))); (try simp only [Act.put, List.setIfInBounds_toArray, List.set_cons_zero, List.set_cons_succ])))
 refine walkS_done ?_
 have T4 := Lib.hid hS
 clear hwn hwS hwH hn0 htm hS
 have k1 := HC1.out _ T4.out
 by_cases hz : z < 0
 ·have HRE := Lib.hid (show bkO PO = .tuple #[bkV' bkZ, .bool false] by rw [HFY.out, findF_neg HID.out hz]; rfl)
  have hg := T4.out.keeps HG0.out (fun h => h)
  have HG3 := Lib.hid hg
  have HT3 := Lib.hid (HT0.out.trans T4.out (fun _ _ h => h))
  clear hg
  go_wp2_with (refine store_row rfl 70 (.tmp 4) (.tmp 36) rfl (w.heap.size + 1) _ rfl rfl _ _ HG3.out HII.out rfl rfl ?_)
  refine ret_row1 rfl rfl (w.heap.size + 1) _ #[.int .i64 0, .int .u32 0, .int .i64 0] _ _ rfl (setRow_heap _ _ _ _ _ _ HG3.out) Tryz.underlying70 rfl HII.out (.bool false) rfl ?_
  exact ⟨by rw [HRE.out]; rfl, HT3.out.setRow _ _ (fun h => absurd h (by omega))⟩
 ·obtain ⟨⟨bi, ba, bw⟩, x, hfv⟩ := bkO_form (findF bs z)
  have HFN := Lib.hid (HFV.out _ T4.out)
  rw [hfv] at HFN
  have HRE := Lib.hid (show bkO PO = .tuple #[bkV' ⟨bi, ba, bw⟩, .bool x] by rw [HFY.out, hfv])
  clear hfv HFV
  simp only [bkV'] at HFN
  go_wp2_with fail
  (with_reducible refine HFN.out.mono ?_)
  rintro e w5 ⟨rfl, t5⟩
  have HG5 := Lib.hid ((T4.out.trans t5 (fun _ _ h => h)).keeps HG0.out (fun h => h))
  have HT5 := Lib.hid (HT0.out.trans (T4.out.trans t5 (fun _ _ h => h)) (fun _ _ h => h))
  clear t5 k1
  go_wp2_with (refine store_row rfl 70 (.tmp 4) (.tmp 43) rfl (w.heap.size + 1) _ rfl rfl _ _ HG5.out HII.out rfl rfl ?_)
  refine ret_row1 rfl rfl (w.heap.size + 1) _ #[.int .i64 bi, .int .u32 ba, .int .i64 bw] _ _ rfl (setRow_heap _ _ _ _ _ _ HG5.out) Tryz.underlying70 rfl HII.out (.bool x) rfl ?_
  exact ⟨by rw [HRE.out]; rfl, HT5.out.setRow _ _ (fun h => absurd h (by omega))⟩
end Go.Proofs.YtpjdcgjoepjmcaaGreat
end
section
namespace Go.Proofs.YtpjdcgjoepjmcaaGreat
open Go.RowKit
set_option maxRecDepth 20000 in
theorem bld_flow (a b c d e : Int) (w : World) : (Instr.build 83 #[(0, .agg #[.int .u32 a, .int .u32 b, .int .i64 c, .int .i64 d, .int .i64 e])]).run Tryz.prog w = .ok (.agg #[.int .u32 a, .int .u32 b, .int .i64 c, .int .i64 d, .int .i64 e, .int .i64 0, .int .i64 0, .int .i64 0]) w := by kernel_rfl
set_option maxRecDepth 20000 in
theorem bld_rec (k a b c d e f g h : Int) (w : World) : (Instr.build 85 #[(0, .int .i64 k), (1, .agg #[.int .u32 a, .int .u32 b, .int .i64 c, .int .i64 d, .int .i64 e, .int .i64 f, .int .i64 g, .int .i64 h])]).run Tryz.prog w = .ok (.agg #[.int .i64 k, .int .u32 a, .int .u32 b, .int .i64 c, .int .i64 d, .int .i64 e, .int .i64 f, .int .i64 g, .int .i64 h, .int .i64 0, .slice none 0 0, .int .i64 0, .int .i64 0, .int .i64 0]) w := by kernel_rfl
section
variable {ops : Array Oper} {Q : Exit → Act → World → Prop} {S : World → Prop} {N : Act → World → Prop}
theorem takeN_flow {i : Nat} {a : Act} {w : World} {o : Oper} (d : Tmp) (x : Operand) (ho : ops[i]? = some o) (hd : o.dst = some d) (hop : o.op = .build 83 #[(0, x)]) (u1 u2 u3 u4 u5 : Int) (hx : a.eval x = .agg #[.int .u32 u1, .int .u32 u2, .int .i64 u3, .int .i64 u4, .int .i64 u5])
 (hQ : ∀ c a w v, Q (.panic c) (a.put (some d) v) w → Q (.panic c) a w) (hw : Region.wanted o (yielded ops a.tmps) = true) (h : N (a.put (some d) (.agg #[.int .u32 u1, .int .u32 u2, .int .i64 u3, .int .i64 u4, .int .i64 u5, .int .i64 0, .int .i64 0, .int .i64 0])) w) : TakeN Tryz.prog ops Q S i N a w :=
 takeN_take (some d) ho hd (fun c a w => hQ c a w _) hw (fun w' _ => by
  have h1 := bld_flow u1 u2 u3 u4 u5 w'
  unfold execOp
  simp only [hop, List.map_toArray, List.map_cons, List.map_nil, hx, Sem.run_bind, h1, Sem.run_pure, Result.andThen_ok]) h
theorem takeN_rec {i : Nat} {a : Act} {w : World} {o : Oper} (d : Tmp) (y x : Operand) (ho : ops[i]? = some o) (hd : o.dst = some d) (hop : o.op = .build 85 #[(0, y), (1, x)]) (k u1 u2 u3 u4 u5 u6 u7 u8 : Int) (hy : a.eval y = .int .i64 k) (hx : a.eval x = .agg #[.int .u32 u1, .int .u32 u2, .int .i64 u3, .int .i64 u4, .int .i64 u5, .int .i64 u6, .int .i64 u7, .int .i64 u8])
 (hQ : ∀ c a w v, Q (.panic c) (a.put (some d) v) w → Q (.panic c) a w) (hw : Region.wanted o (yielded ops a.tmps) = true) (h : N (a.put (some d) (.agg (rcs ⟨k, ⟨u1, u2, u3, u4, u5⟩, u6, u7, u8, 0, [], 0, 0, 0⟩ none 0))) w) : TakeN Tryz.prog ops Q S i N a w :=
 takeN_take (some d) ho hd (fun c a w => hQ c a w _) hw (fun w' _ => by
  have h1 := bld_rec k u1 u2 u3 u4 u5 u6 u7 u8 w'
  unfold execOp
  simp only [hop, List.map_toArray, List.map_cons, List.map_nil, hx, hy, Sem.run_bind, h1, Sem.run_pure, Result.andThen_ok]
  rfl) h
theorem runN_rec {i : Nat} {a : Act} {w : World} {o : Oper} (d : Tmp) (x : Operand) (ho : ops[i]? = some o) (hd : o.dst = some d) (hop : o.op = .buildSlice 51 1 #[(0, x)]) (r : RecD) (hr : r.bs = []) (hx : a.eval x = .agg (rcs r none 0)) (hw : Region.wanted o (yielded ops a.tmps) = true)
 (h : ∀ w', w' = w.alloc (.cells (rcs r none 0) 85) → w'.heap[w.heap.size]? = some (.cells (rcs r none 0) 85 (0, 0)) → w'.heap.size = w.heap.size + 1 → Touch w w' (fun _ => False) → S w' ∧ (S w' → N (a.put (some d) (.slice (some ⟨w.heap.size, 0, none⟩) 1 1)) w')) : RunN Tryz.prog ops Q S i N a w :=
 runN_new d (fun W => .slice (some ⟨W.heap.size, 0, none⟩) 1 1) (rcs r none 0) 85 ho hd hw (fun W => by
  unfold execOp
  simp only [hop, List.map_toArray, List.map_cons, List.map_nil, hx, rcs, hr, List.length_nil]
  go_simp <;> first | with_reducible rfl | rfl | exact ⟨rfl, rfl⟩) h
end
end Go.Proofs.YtpjdcgjoepjmcaaGreat
end
section
namespace Go.Proofs.YtpjdcgjoepjmcaaGreat
open Go.RowKit
theorem tcp_body {xs : List Nat} (h : whyT xs = 0) (hp : (tellT xs).proto = 6) : 14 ≤ (tellY xs).length ∧ gb (tellY xs) 13 = gb xs (4 * (tellG xs).ihl + 13) := by
 have hf : whyF xs = 0 := by
  unfold whyT at h
  by_cases hf : whyF xs = 0
  ·exact hf
  ·rw [if_neg hf] at h; exact h
 have e1 : (tellT xs).proto = (tellH xs).proto := by unfold tellT; rw [if_pos h]
 have e2 : tellG xs = tellH xs := by unfold tellG; rw [if_pos h]
 have e3 : tellH xs = hdr xs := by unfold tellH; rw [if_pos hf]
 rw [e1] at hp
 have hr : refF (tellH xs).flags (tellH xs).off (tellH xs).proto (tellY xs) = 0 := by unfold whyT at h; rwa [if_pos hf] at h
 rw [hp] at hr
 have hy : 20 ≤ (tellY xs).length := by
  unfold refF at hr
  by_cases h1 : wholeB (tellH xs).flags (tellH xs).off = false
  ·rw [if_pos h1] at hr; omega
  ·rw [if_neg h1, if_neg (by omega)] at hr
   by_cases h2 : tcpB (tellY xs) = false
   ·rw [if_pos ⟨rfl, h2⟩] at hr; omega
   ·unfold tcpB at h2
    by_cases h3 : (tellY xs).length < 20
    ·rw [if_pos h3] at h2; exact absurd rfl h2
    ·omega
 refine ⟨by omega, ?_⟩
 rw [e2, e3]
 have hY : tellY xs = (xs.take (hdr xs).len).drop (4 * (hdr xs).ihl) := by unfold tellY; rw [if_pos hf]
 rw [hY] at hy ⊢
 unfold gb
 rw [List.getD_eq_getElem?_getD, List.getD_eq_getElem?_getD, List.getElem?_drop, List.getElem?_take_of_lt (by simp at hy; omega)]
set_option maxRecDepth 20000 in
set_option maxHeartbeats 8000000 in
theorem rends_any (k : KArg) (a : Option Addr) (len cap : Nat) (xs : List Nat) (w : World) (hr : RowB w a len cap xs) (hlen : len ≤ 140737488351232) :
 Calls Tryz.prog 57 #[.agg (kcs k), .slice a len cap] w fun e w' => e = .returned (.bool (endsB k xs)) ∧ Touch w w' (fun _ => False) := by
 obtain ⟨W1, hW1⟩ : ∃ W, w.alloc (.cells (kcs k) 37) = W := ⟨_, rfl⟩
 have t1 : Touch w W1 (fun _ => False) := hW1 ▸ (Touch.refl _ _).alloc _
 have HK : RowKit.Hid (W1.heap[w.heap.size]? = some (.cells (kcs k) 37 (0, 0))) := Lib.hid (hW1 ▸ heap_alloc_new w _)
 have hr1 := hr.touch t1 (fun _ _ => .inr (fun h => h))
 have H := Lib.hid (rtuple_any a len cap xs W1 hr1 hlen)
 have hb := @tcp_body xs
 have HP := Lib.hid (fun W h => rparse_is a len cap xs W h hlen)
 have hE : endsB k xs = true ↔ (whyT xs = 0 ∧ isK (tellT xs) k ∧ k.proto = 6 ∧ bits BinOp.and IntKind.u8 (gb xs (4 * (tellG xs).ihl + 13) : Nat) 5 ≠ 0) := by unfold endsB; rw [decide_eq_true_iff]; exact Iff.rfl
 have HF := Lib.hid (fun (h1 : whyT xs = 0) (h2 : (tellT xs).proto = 6) => (hb h1 h2).2)
 have HB := Lib.hid (fun (h1 : whyT xs = 0) (h2 : (tellT xs).proto = 6) => (hb h1 h2).1)
 clear hb
 generalize tellY xs = ys at *
 generalize tellH xs = h' at *
 generalize whyF xs = y' at *
 generalize gb xs (4 * (tellG xs).ihl + 13) = fb at *
 generalize endsB k xs = E at *
 generalize tellT xs = T at *
 generalize tellG xs = G at *
 generalize hyT : whyT xs = y at *
 have HR1 := Lib.hid hr1
 have HT := Lib.hid t1
 have HW1 := Lib.hid hW1
 have HE := Lib.hid hE
 clear hr hr1 t1 hW1 hE
 by_cases hy : y = 0
 case neg =>
  have hyn : ((y : Int) != 0) = true := bne_iff_ne.2 (by omega)
  have hEf : E = false := by
   cases E with
   | false => rfl
   | true => exact absurd (HE.out.1 rfl).1 hy
  subst hEf
  clear HE HF HB
  simp only [kcs] at HW1 ⊢
  go_enter Tryz.func57, Tryz.ntmps57
  go_upto_region 1 with fail
  rw [HW1.out]
  go_wp2_with fail
  (with_reducible refine H.out.mono ?_)
  rintro e w2 ⟨rfl, t2⟩
  have HT := Lib.hid (HT.out.trans t2 (fun _ _ h => h))
  simp only [tv, tcsP, hv]
  clear H t2
  go_wp2_with fail
  go_ret
  exact ⟨rfl, (HT.out.alloc _).alloc _⟩
 case pos =>
  have hyn : ((y : Int) != 0) = false := by simp [hy]
  have HE2 : RowKit.Hid (E = true ↔ (isK T k ∧ k.proto = 6 ∧ bits BinOp.and IntKind.u8 (fb : Nat) 5 ≠ 0)) := Lib.hid (by rw [HE.out]; exact ⟨fun h => h.2, fun h => ⟨hy, h⟩⟩)
  clear HE
  simp only [kcs] at HW1 ⊢
  go_enter Tryz.func57, Tryz.ntmps57
  go_upto_region 1 with fail
  rw [HW1.out]
  go_wp2_with fail
  (with_reducible refine H.out.mono ?_)
  rintro e w2 ⟨rfl, t2⟩
  have hk2 := t2.keeps HK.out (fun h => h)
  obtain ⟨k0, k1, k2, k3, k4⟩ := kcells_of hk2
  have hlt := heap_lt hk2
  have HT := Lib.hid (HT.out.trans t2 (fun _ _ h => h))
  have HR := Lib.hid (HR1.out.touch t2 (fun _ _ => .inr (fun h => h)))
  simp only [tv, tcsP, hv]
  clear H t2 hk2
  by_cases hT : (T.proto : Int) = 6
  case neg =>
   clear HF HB HP
   go_wp2_with fail
   all_goals (first | (go_ret; refine ⟨?_, (HT.out.alloc _).alloc _⟩; have hE := HE2.out; clear HE2; unfold isK at hE; (first | (simp_all; done) | (simp_all; omega))) | (exfalso; simp_all; done) | (exfalso; simp_all; omega))
  case pos =>
   have HF := Lib.hid (HF.out hy (by omega))
   have hb14 := HB.out hy (by omega)
   clear HB
   go_wp2_with fail
   all_goals (try (first
    | (go_ret; refine ⟨?_, (HT.out.alloc _).alloc _⟩; have hE := HE2.out; clear HE2; unfold isK at hE; (first | (simp_all; done) | (simp_all; omega)))
    | (exfalso; simp_all; done) | (exfalso; simp_all; omega)))
   (with_reducible refine (HP.out _ (HR.out.touch (((Touch.refl w2 (fun _ => False)).alloc _).alloc _) (fun _ _ => .inr (fun h => h)))).mono ?_)
   rintro e w5 ⟨a5, c5, rfl, hr5, t5, hb5⟩
   obtain ⟨b5, o5, rfl⟩ := hr5.some (by omega)
   have c13 := hr5.gb 13 (by omega)
   rw [HF.out] at c13
   have b13 := gb_lt ys hr5.2.2.2.2.1 13
   rw [HF.out] at b13
   have i13 : (13 : Int) < ys.length := by omega
   have T5 := Lib.hid (((HT.out.alloc _).alloc _).trans t5 (fun _ _ h => h))
   have l5 : b5 < w5.heap.size := (hr5.lt _ rfl).resolve_left (by omega)
   simp only [hv]
   clear hr5 t5 hb5
   go_wp2_with fail
   go_ret
   refine ⟨?_, T5.out.alloc _⟩
   have hE := HE2.out
   clear HE2
   unfold isK at hE
   generalize bits BinOp.and IntKind.u8 (fb : Int) 5 = z at *
   have e : (z != (0 : Int)) = E := by
    by_cases hz : z = 0
    ·have : E = false := by
      cases E with
      | false => rfl
      | true => exact absurd hz (hE.1 rfl).2.2
     rw [this, hz]; rfl
    ·have : E = true := hE.2 ⟨⟨by omega, by omega, by omega, by omega, by omega⟩, by omega, hz⟩
     rw [this]; exact bne_iff_ne.2 hz
   rw [← e]; rfl
end Go.Proofs.YtpjdcgjoepjmcaaGreat
end
section
namespace Go.Proofs.YtpjdcgjoepjmcaaGreat
open Go.RowKit
def SomeRow (w w' : World) (m : Nat) (e : Ending) : Prop := ∃ a n c zs, e = .returned (.slice a n c) ∧ RowB w' a n c zs ∧ n ≤ m ∧ Touch w w' (fun _ => False)
def OwnSome (w : World) (v : Value) (n : Nat) (wr : World) : Prop := ∃ zs, OwnB wr (w.heap.size + 1) 5 v zs ∧ zs.length = n ∧ Touch w wr (fun _ => False)
theorem OwnB.rowOf {w : World} {base : Nat} {E : TypeId} {a : Option Addr} {n c : Nat} {zs : List Nat} (h : OwnB w base E (.slice a n c) zs) (hn : zs.length = n) : RowB w a n c zs := by
 obtain ⟨a2, c2, hv, hr, _⟩ := h.row
 rw [hn] at hv hr
 simp only [Value.slice.injEq, true_and] at hv
 obtain ⟨rfl, rfl⟩ := hv
 exact hr
end Go.Proofs.YtpjdcgjoepjmcaaGreat
end
section
namespace Go.Proofs.YtpjdcgjoepjmcaaGreat
open Go.RowKit
theorem or_u16 (x y : Int) (i : Nat) (h0 : 0 ≤ x) (hx : x % 2 ^ i = 0) (h1 : x < 65536) (hy : 0 ≤ y) (hy1 : y < 2 ^ i) (hy2 : y < 65536) : bits BinOp.or IntKind.u16 x y = x + y :=
 bits_join .u16 16 (by decide) (fun n h0 h1 => by simp [IntKind.wrap, IntKind.bits, IntKind.signed]; omega) i x y h0 hx (by omega) hy hy1 (by omega)
set_option maxRecDepth 20000 in
set_option maxHeartbeats 8000000 in
theorem rwrap_any (a : Option Addr) (len cap : Nat) (xs : List Nat) (self dd mtu : Int) (w : World) (hr : RowB w a len cap xs) (hlen : len ≤ 140737488351232) (s1 : 0 ≤ self ∧ self ≤ 4294967295) (s2 : 0 ≤ dd ∧ dd ≤ 4294967295) :
 Calls Tryz.prog 56 #[.slice a len cap, .int .u32 self, .int .u32 dd, .int .i64 mtu] w fun e w' => WrapIs w w' (tellW xs self dd mtu) (whyW xs mtu) e := by
 have H := rparse_is a len cap xs w hr hlen
 by_cases hy : whyF xs = 0
 case neg =>
  have hW : whyW xs mtu = whyF xs := by unfold whyW; rw [if_pos hy]
  have HW := Lib.hid hW
  have hbn : ((whyF xs : Int) != 0) = true := bne_iff_ne.2 (by omega)
  generalize tellH xs = TH at *
  generalize tellY xs = TY at *
  have H := Lib.hid H
  clear hr hW
  go_enter Tryz.func56, Tryz.ntmps56
  go_wp2_with fail
  (with_reducible refine H.out.mono ?_)
  rintro e w2 ⟨a2, c2, rfl, hr2, t2, -⟩
  simp only [hv]
  go_wp2_with fail
  go_ret2
  exact wrapIs_nil HW.out hy (t2.alloc _)
 case pos =>
  have hth : tellH xs = hdr xs := by unfold tellH; rw [if_pos hy]
  rw [hth, hy] at H
  obtain ⟨k1, k2, k3, k4⟩ := why_take xs hy
  have hlt := hdr_lt xs hr.2.2.2.2.1
  have hx := hr.1
  have hxs := hr.2.2.2.2.1
  have HR := Lib.hid hr
  have hW : whyW xs mtu = if (hdr xs).ttl ≤ 1 then 7 else if mtu < ((hdr xs).len : Int) + 20 ∨ 2000 < (hdr xs).len + 20 then 11 else 0 := by unfold whyW; rw [if_neg (by omega)]
  have hF : whyW xs mtu = 0 → tellW xs self dd mtu = builtF (outH (hdr xs) self dd) ++ olderF (xs.take (hdr xs).len) (hdr xs) := fun h => by unfold tellW; rw [if_pos h]; rfl
  have HF := Lib.hid hF
  have HNIL := Lib.hid (fun (w' : World) (y : Nat) (h1 : whyW xs mtu = y) (h2 : y ≠ 0) (t : Touch w w' (fun _ => False)) => wrapIs_nil (self := self) (dd := dd) h1 h2 t)
  have HOK := Lib.hid (fun h1 => outH_ok (hdr xs) h1 self dd s1 s2)
  generalize tellY xs = Y at *
  generalize hdr xs = h at *
  generalize whyW xs mtu = yw at *
  generalize tellW xs self dd mtu = ZZ at *
  obtain ⟨l1, l2, l3, l4, l5, l6, l7, l8⟩ := hlt
  have HK4 := Lib.hid k4
  have H := Lib.hid H
  clear hr k1 k4 hF hth hy
  by_cases ht : h.ttl ≤ 1
  ·have ht' : (h.ttl : Int) ≤ 1 := by omega
   rw [if_pos ht] at hW
   have HW := Lib.hid hW
   clear hW
   go_enter Tryz.func56, Tryz.ntmps56
   go_wp2_with fail
   (with_reducible refine H.out.mono ?_)
   rintro e w2 ⟨a2, c2, rfl, hr2, t2, -⟩
   simp only [hv]
   go_wp2_with fail
   go_ret2
   exact HNIL.out _ 7 HW.out (by omega) (t2.alloc _)
  ·have ht' : ¬ (h.ttl : Int) ≤ 1 := by omega
   rw [if_neg ht] at hW
   by_cases hm1 : mtu < (h.len : Int) + 20
   ·rw [if_pos (Or.inl hm1)] at hW
    have HW := Lib.hid hW
    clear hW
    go_enter Tryz.func56, Tryz.ntmps56
    go_wp2_with fail
    (with_reducible refine H.out.mono ?_)
    rintro e w2 ⟨a2, c2, rfl, hr2, t2, -⟩
    simp only [hv]
    go_wp2_with fail
    go_ret2
    exact HNIL.out _ 11 HW.out (by omega) (t2.alloc _)
   by_cases hm2 : 2000 < h.len + 20
   ·rw [if_pos (Or.inr hm2)] at hW
    have hm2' : (2000 : Int) < (h.len : Int) + 20 := by omega
    have HW := Lib.hid hW
    clear hW
    go_enter Tryz.func56, Tryz.ntmps56
    go_wp2_with fail
    (with_reducible refine H.out.mono ?_)
    rintro e w2 ⟨a2, c2, rfl, hr2, t2, -⟩
    simp only [hv]
    go_wp2_with fail
    go_ret2
    exact HNIL.out _ 11 HW.out (by omega) (t2.alloc _)
   ·rw [if_neg (by omega)] at hW
    have hm2' : ¬ (2000 : Int) < (h.len : Int) + 20 := by omega
    have HW := Lib.hid hW
    have HF := Lib.hid (HF.out hW)
    clear hW HNIL
    have HB := Lib.hid (fun W => rbuild_any (outH h self dd) (HOK.out ⟨l2, l3, l4, l5⟩) W)
    have HBL := Lib.hid (builtF_length (outH h self dd))
    generalize builtF (outH h self dd) = F at *
    have han := andNot1 h.flags l5
    obtain ⟨fl, hfl⟩ : ∃ fl, h.flags - h.flags % 2 = fl := ⟨_, rfl⟩
    rw [hfl] at han
    simp only [acs, outH, hfl] at HB
    have hcap := HR.out.2.1
    obtain ⟨A, C, hsl, hP⟩ := slice_h a len cap (h.len : Int) h.len rfl (by omega)
    have HP : RowKit.Hid (∀ W, RowB W a len cap xs → RowB W A h.len C (xs.take h.len)) := Lib.hid (fun W hw => by
     have := hP.row W xs hw (by omega)
     simpa using this)
    have hLs : ∀ x ∈ xs.take h.len, x < 256 := fun x hx => hxs x (List.mem_of_mem_take hx)
    have hO : olderF (xs.take h.len) h = (((xs.take h.len).set 8 ((gb (xs.take h.len) 8 + 255) % 256)).set 10 (fixS h / 256).toNat).set 11 (fixS h % 256).toNat := rfl
    have hs := fixS_le h
    have HS : RowKit.Hid (fixF h.sum ((h.ttl : Int) * 256 + h.proto) (((h.ttl : Int) - 1) * 256 + h.proto) = fixS h) := Lib.hid rfl
    rw [hO] at HF
    generalize fixS h = s at *
    generalize xs.take h.len = L at *
    clear hfl hP HOK hO
    go_enter Tryz.func56, Tryz.ntmps56
    go_wp2_with fail
    (with_reducible refine H.out.mono ?_)
    rintro e w2 ⟨a2, c2, rfl, hr2, t2, -⟩
    obtain ⟨W3, hW3⟩ : ∃ W, w2.alloc (.cells (hcs h) 76) = W := ⟨_, rfl⟩
    have t3 : Touch w W3 (fun _ => False) := hW3 ▸ t2.alloc _
    have HH : RowKit.Hid (W3.heap[w2.heap.size]? = some (.cells (hcs h) 76 (0, 0))) := Lib.hid (hW3 ▸ heap_alloc_new w2 _)
    have HT := Lib.hid t3
    have HSW := Lib.hid t3.size
    obtain ⟨g0, g1, g2, g3, g4, g5, g6, g7, g8, g9, g10⟩ := hcells_of HH.out
    clear t3 t2 hr2 H
    simp only [hv, hcs] at hW3 ⊢
    go_upto_region 10 with (first
     | (go_at_call 64; (with_reducible refine (HB.out _).mono ?_); rintro e w52 ⟨a52, c52, rfl, hf52⟩; have t52 := hf52.2; have HT := Lib.hid (HT.out.trans t52 (fun _ _ h => h)); have HO := Lib.hid hf52.1; have HH := Lib.hid (t52.keeps HH.out (fun h => h)); have HR := Lib.hid (HP.out _ (HR.out.touch HT.out (fun _ _ => .inr (fun h => h)))); have HL52 := Lib.hid (fun k hk => (hf52.1.own.lt k hk).2); have HS52 := Lib.hid t52.size; obtain ⟨g0, g1, g2, g3, g4, g5, g6, g7, g8, g9, g10⟩ := hcells_of HH.out; clear hf52 t52)
     | (at_builtin; have _u := HL52; refine wpList_appendB rfl _ _ 38 rfl 5 Tryz.underlying38 infoB w52.heap.size (.slice none 0 0) [] rfl (OwnB.nil _ _ _) _ _ _ L rfl HR.out h.len L rfl HK4.out (by omega) (Nat.le_refl _) w52.heap.size w52 (Below.refl _ _) (Nat.le_refl _) ?_; intro a57 d57 w57 hown hrow hg hb hs57 hp57 hpl; have t57 : Touch w52 w57 (fun _ => False) := Touch.ofBelow hb (fun k h1 h2 => by omega); have HT := Lib.hid (HT.out.trans t57 (fun _ _ h => h)); have HO := Lib.hid (HO.out.touch t57 (fun _ _ h => h)); have HH57 := Lib.hid (t57.keeps HH.out (fun h => h)); have HHL := Lib.hid (heap_lt HH.out); have HO57 := Lib.hid hown; clear hrow hg hb hs57 hp57 hpl t57 hown))
    obtain ⟨a3, c3, hv2, hr2, hp2⟩ := HO57.out.row
    rw [HK4.out] at hv2 hr2
    simp only [Value.slice.injEq, true_and] at hv2
    obtain ⟨rfl, rfl⟩ := hv2
    obtain ⟨b, off, rfl⟩ := hr2.some (by omega)
    obtain hp2 | ⟨g, hp2, hg1, hg2⟩ := hp2
    ·cases hp2
    simp only [Option.some.injEq, Addr.mk.injEq] at hp2
    obtain ⟨rfl, rfl, -⟩ := hp2
    have hle := hr2.2.1
    have hkl := HK4.out
    have b8 := gb_lt L hLs 8
    have hsw := HSW.out
    have hs52 := HS52.out
    have hb : b < w.heap.size → False := fun h => by omega
    have hbh : w2.heap.size ≠ b := by have := HHL.out; omega
    have q8 := HO57.out.at hkl 8 (by omega) (by omega)
    rw [← gb_get _ _ (by omega)] at q8
    have fr := HO57.out.free hkl 8
    have e8 : ((gb L 8 : Int) - 1) % 256 = (((gb L 8 + 255) % 256 : Nat) : Int) := by omega
    have ho3 := HO57.out.stored hkl 8 ((gb L 8 + 255) % 256) (by omega)
    have hl3 : (L.set 8 ((gb L 8 + 255) % 256)).length = h.len := by simp [hkl]
    have t3 := (Touch.refl w57 (fun j => j = b)).into 8 (.int .u8 (((gb L 8 + 255) % 256 : Nat) : Int))
    generalize (gb L 8 + 255) % 256 = y8 at *
    generalize L.set 8 y8 = Y8 at *
    obtain ⟨W8, hW8⟩ : ∃ W, w57.setCell ⟨b, 8, none⟩ (.int .u8 (y8 : Int)) = W := ⟨_, rfl⟩
    rw [hW8] at ho3 t3
    have HO8 := Lib.hid (HO.out.touch t3 (fun j hj he => by have h1 := HL52.out j hj; have h2 : j = b := he; omega))
    have hh8 := t3.keeps HH57.out hbh
    have HT8 := Lib.hid (HT.out.trans t3 (fun j hj he => by have h2 : j = b := he; omega))
    obtain ⟨g0, g1, g2, g3, g4, g5, g6, g7, g8, g9, g10⟩ := hcells_of hh8
    have i8 : (8 : Int) < h.len := by omega
    have i10 : (10 : Int) < h.len := by omega
    have i11 : (11 : Int) < h.len := by omega
    have o1 : bits BinOp.or IntKind.u16 ((h.ttl : Int) * 256) (h.proto : Int) = (h.ttl : Int) * 256 + h.proto := or_u16 _ _ 8 (by omega) (by omega) (by omega) (by omega) (by omega) (by omega)
    have o2 : bits BinOp.or IntKind.u16 (((h.ttl : Int) - 1) * 256) (h.proto : Int) = ((h.ttl : Int) - 1) * 256 + h.proto := or_u16 _ _ 8 (by omega) (by omega) (by omega) (by omega) (by omega) (by omega)
    have HY8 := Lib.hid ho3
    have HL8 := Lib.hid hl3
    clear ho3 t3 hl3 hh8 hr2 hW3 HO57
    go_wp2_with fail
    (with_reducible refine (rfix_any _ _ _ _ (by omega) (by omega) (by omega) (by omega) (by omega) (by omega)).mono ?_)
    rintro e w83 ⟨rfl, nq, rfl⟩
    rw [HS.out]
    have ho4 := HY8.out.drewN nq
    have HT4 := Lib.hid (HT8.out.drewN nq)
    have HO4 := Lib.hid (HO8.out.drewN nq)
    clear g0 g1 g2 g3 g4 g5 g6 g7 g8 g9 g10 o1 o2 e8 q8 fr hW8
    generalize W8.drewN nq = W4 at *
    have f10 := ho4.free HL8.out 10
    have f11 := ho4.free HL8.out 11
    have ex1 : s / 256 % 256 = (((s / 256).toNat : Nat) : Int) := by omega
    have ex2 : s % 256 = (((s % 256).toNat : Nat) : Int) := by omega
    have q10 := ho4.at HL8.out 10 (by omega) (by rw [HL8.out]; omega)
    have q11 := ho4.at HL8.out 11 (by omega) (by rw [HL8.out]; omega)
    have ho5 := ho4.stored HL8.out 10 (s / 256).toNat (by omega)
    have ho6 := ho5.stored (by simp [HL8.out]) 11 (s % 256).toNat (by omega)
    rw [← ex2] at ho6
    have es : (((s / 256).toNat : Nat) : Int) = s / 256 := by omega
    rw [es] at ho6
    have t6 := ((Touch.refl W4 (fun j => j = b)).into 10 (.int .u8 (s / 256))).into 11 (.int .u8 (s % 256))
    obtain ⟨W6, hW6⟩ : ∃ W, (W4.setCell ⟨b, 10, none⟩ (.int .u8 (s / 256))).setCell ⟨b, 11, none⟩ (.int .u8 (s % 256)) = W := ⟨_, rfl⟩
    rw [hW6] at ho6 t6
    have hl6 : ((Y8.set 10 (s / 256).toNat).set 11 (s % 256).toNat).length = h.len := by simp [HL8.out]
    have HO6 := Lib.hid (HO4.out.touch t6 (fun j hj he => by have h1 := HL52.out j hj; have h2 : j = b := he; omega))
    have HT6 := Lib.hid (HT4.out.trans t6 (fun j hj he => by have h2 : j = b := he; omega))
    have HRO := Lib.hid (ho6.rowOf hl6)
    have hS6 : W3.heap.size ≤ W6.heap.size := by have := t6.size; have := HS52.out; have := (ho4.where).2; omega
    have HS6 := Lib.hid hS6
    have HL6 := Lib.hid hl6
    have HWW := Lib.hid hW6
    generalize (Y8.set 10 (s / 256).toNat).set 11 (s % 256).toNat = O at *
    clear ho4 ho5 ho6 ex1 ex2 es t6 hl6 hS6 hW6
    go_upto_region 13 with fail
    rw [HWW.out]
    go_wp2_with (at_builtin; refine wpList_appendB rfl _ _ 38 rfl 5 Tryz.underlying38 infoB W3.heap.size (.slice a52 20 c52) F rfl HO6.out _ _ _ O rfl HRO.out (20 + h.len) (F ++ O) rfl (by rw [List.length_append, HBL.out, HL6.out]) (by omega) HS6.out W3.heap.size W6 (Below.refl _ _) (Nat.le_refl _) ?_; intro a95 d95 w95 hown hrow hg hb hs95 hp95 hpl; have HT := Lib.hid (HT6.out.grown hg (fun x hx hlt => by have h1 := (HO6.out.own.lt x hx).1; have h2 := HSW.out; omega)); have HR95 := Lib.hid hrow; clear hown hrow hg hb hs95 hp95 hpl)
    go_ret2
    rw [HF.out, HW.out]
    exact ⟨_, _, _, rfl, HR95.out, HT.out⟩
end Go.Proofs.YtpjdcgjoepjmcaaGreat
end
