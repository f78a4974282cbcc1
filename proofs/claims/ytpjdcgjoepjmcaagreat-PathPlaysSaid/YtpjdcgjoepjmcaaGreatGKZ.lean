import Derived.Test.YtpjdcgjoepjmcaaGreatGJZ
import Derived.Sort.WalkA6
set_option linter.unusedVariables false
set_option linter.unusedSimpArgs false
section
namespace Go.Proofs.YtpjdcgjoepjmcaaGreat
open Go.RowKit
theorem sift_stop (hi first root : Nat) (d : Array FlD) (h : ¬ 2 * root + 1 < hi) : Go.Sort.siftDown ltFl hi first root d = d := by
 rw [Go.Sort.siftDown, dif_pos (by omega)]
def siftCh (hi first root : Nat) (d : Array FlD) : Nat := if (decide (2 * root + 1 + 1 < hi) && ltFl d[first + (2 * root + 1)]! d[first + (2 * root + 1) + 1]!) = true then 2 * root + 2 else 2 * root + 1
theorem sift_go (hi first root : Nat) (d : Array FlD) (h : 2 * root + 1 < hi) : Go.Sort.siftDown ltFl hi first root d = if ltFl d[first + root]! d[first + siftCh hi first root d]! = true then Go.Sort.siftDown ltFl hi first (siftCh hi first root d) (Go.Sort.swp d (first + root) (first + siftCh hi first root d)) else d := by
 conv => lhs; rw [Go.Sort.siftDown, dif_neg (by omega)]
 unfold siftCh
 by_cases h1 : (decide (2 * root + 1 + 1 < hi) && ltFl d[first + (2 * root + 1)]! d[first + (2 * root + 1) + 1]!) = true
 ·rw [if_pos h1, if_pos h1]
  have h2 : 2 * root + 2 < hi := by
   simp only [Bool.and_eq_true, decide_eq_true_iff] at h1
   omega
  by_cases h3 : ltFl d[first + root]! d[first + (2 * root + 2)]! = true
  ·rw [if_pos h3, if_neg (by rw [h3]; decide), dif_pos h2]
  ·rw [if_neg h3, if_pos (by simpa using h3)]
 ·rw [if_neg h1, if_neg h1]
  by_cases h3 : ltFl d[first + root]! d[first + (2 * root + 1)]! = true
  ·rw [if_pos h3, if_neg (by rw [h3]; decide)]
  ·rw [if_neg h3, if_pos (by simpa using h3)]
set_option maxRecDepth 20000 in
set_option maxHeartbeats 8000000 in
theorem sift_any (W0 : World) (base B c n : Nat) (g : Nat) (lb : Array Value) (eg : ∀ args w, (callFunc g args).run Tryz.prog w = .ok (.enter g args) w) (hl : LessC W0 base B c n g lb) (sf : Nat) (sb : Array Value) (hs : SwapC W0 base B c n sf sb)
 (W : World) (d : Array FlD) (hd : d.size = n) (hr : SrtC W0 base B c d W) (lo hi first : Nat) (hf : first + hi ≤ n) (hlo : lo ≤ n) (hn : n ≤ 4000000) :
 Calls Tryz.prog 174 #[.agg #[.func (.func g) #[] lb, .func (.func sf) #[] sb], .int .i64 lo, .int .i64 hi, .int .i64 first] W fun e w' => e = .returned (.tuple #[]) ∧ SrtC W0 base B c (Go.Sort.siftDown ltFl hi first lo d) w' ∧ (Go.Sort.siftDown ltFl hi first lo d).size = n ∧ Touch W w' (fun k => k = B) := by
 obtain ⟨W1, hW1⟩ : ∃ X, W.alloc (.cells #[.func (.func g) #[] lb, .func (.func sf) #[] sb] 193) = X := ⟨_, rfl⟩
 have t1 : Touch W W1 (fun _ => False) := hW1 ▸ (Touch.refl W _).alloc _
 have g1 : W1.heap[W.heap.size]? = some (.cells #[.func (.func g) #[] lb, .func (.func sf) #[] sb] 193 (0, 0)) := hW1 ▸ heap_alloc_new ..
 have hBW : B < W.heap.size := (hr.row.row'.2.2 ⟨B, 0, none⟩ rfl).2
 have HBX : RowKit.Hid (∀ X, Touch W1 X (fun k => k = B) → X.cell? ⟨W.heap.size, 0, none⟩ = some (.func (.func g) #[] lb) ∧ X.cell? ⟨W.heap.size, 1, none⟩ = some (.func (.func sf) #[] sb)) := Lib.hid (fun X x => by
  have h1 := x.keeps g1 (fun e => by have e : W.heap.size = B := e; omega)
  exact ⟨cell_of_cells h1 0, cell_of_cells h1 1⟩)
 have HR1 := Lib.hid (hr.still t1)
 have HSW := Lib.hid hs
 have HLS := Lib.hid hl
 have HW1 := Lib.hid hW1
 have HT1 := Lib.hid t1
 have hi2 : (hi : Int) ≤ 4000000 := by omega
 have fi2 : (first : Int) ≤ 4000000 := by omega
 clear hW1 t1 g1 hr hs hl
 go_enter Tryz.func174, Tryz.ntmps174
 go_upto_region 1 with (fail)
 rw [HW1.out]
 go_wp2_with fail
 go_loopw [8] (fun s8 wr => ∃ (r : Nat) (dk : Array FlD), s8 = .int .i64 r ∧ dk.size = n ∧ SrtC W0 base B c dk wr ∧ Go.Sort.siftDown ltFl hi first r dk = Go.Sort.siftDown ltFl hi first lo d ∧ r ≤ n ∧ Touch W1 wr (fun k => k = B)) (fun s8 _ => n + 1 - (RowKit.intOf s8).toNat)
 case atStart => exact ⟨lo, d, rfl, hd, HR1.out, rfl, hlo, Touch.refl _ _⟩
 case round =>
  obtain ⟨r, dk, rfl, hz, hr, he, hrn, ht⟩ := hrel
  have HE := Lib.hid he
  have HR := Lib.hid hr
  have HT := Lib.hid ht
  have HZ := Lib.hid hz
  have HFIN : RowKit.Hid (∀ w5, SrtC W0 base B c dk w5 → Touch W1 w5 (fun k => k = B) → Go.Sort.siftDown ltFl hi first r dk = dk → SrtC W0 base B c (Go.Sort.siftDown ltFl hi first lo d) w5 ∧ (Go.Sort.siftDown ltFl hi first lo d).size = n ∧ Touch W w5 (fun k => k = B)) := Lib.hid (fun w5 r5 t5 h5 => by
   rw [← HE.out, h5]
   exact ⟨r5, hz, (HT1.out.mono (T := fun k => k = B) (fun _ _ h => h.elim)).trans t5 (fun _ _ h => h)⟩)
  obtain ⟨y0, y1⟩ := HBX.out wr ht
  clear hr he ht hz
  have rI : (r : Int) ≤ 4000000 := by omega
  obtain ⟨ch, hch⟩ : ∃ ch : Nat, ch = 2 * r + 1 := ⟨_, rfl⟩
  have ech : 2 * (r : Int) + 1 = (ch : Int) := by omega
  have HCH := Lib.hid hch
  have HEC := Lib.hid ech
  clear hch ech
  by_cases hlt : ch < hi
  case neg =>
   have hlI : ¬ 2 * (r : Int) + 1 < (hi : Int) := by have := HCH.out; omega
   have HX := Lib.hid (HFIN.out wr HR.out HT.out (sift_stop hi first r dk (by have := HCH.out; omega)))
   go_wp2_with fail
   go_end0
   exact ⟨rfl, HX.out⟩
  case pos =>
   have HGO := Lib.hid (sift_go hi first r dk (by have := HCH.out; omega))
   have hlI : 2 * (r : Int) + 1 < (hi : Int) := by have := HCH.out; omega
   go_upto_region 4 with (fail)
   rw [HEC.out]
   clear hlI
   have hcI : (ch : Int) < (hi : Int) := by omega
   have hrc : r < ch := by have := HCH.out; omega
   by_cases h2 : ch + 1 < hi
   case neg =>
    have h2I : ¬ (ch : Int) + 1 < (hi : Int) := by omega
    have HSC : RowKit.Hid (siftCh hi first r dk = ch) := Lib.hid (by
     unfold siftCh
     rw [← HCH.out, decide_eq_false h2, Bool.false_and, if_neg (by decide)])
    go_upto_region 6 with (fail)
    obtain ⟨y0, y1⟩ := HBX.out wr HT.out
    have hls2 := HLS.out wr dk HZ.out HR.out (first + r) (first + ch) (by omega) (by omega)
    rw [show ((first + r : Nat) : Int) = (first : Int) + r by omega, show ((first + ch : Nat) : Int) = (first : Int) + ch by omega] at hls2
    have hgo := HGO.out
    rw [HSC.out] at hgo
    obtain ⟨m2, hm2⟩ : ∃ m, ltFl dk[first + r]! dk[first + ch]! = m := ⟨_, rfl⟩
    rw [hm2] at hls2 hgo
    have HLL2 := Lib.hid hls2
    have HG2 := Lib.hid hgo
    clear hls2 hgo hm2
    cases m2 with
    | false =>
      go_wp2_with (go_at_fn g; (refine HLL2.out.mono ?_); rintro e w5 ⟨rfl, t5⟩; have HX := Lib.hid (HFIN.out w5 (HR.out.still t5) (HT.out.trans t5 (fun _ _ h => h.elim)) (by rw [HG2.out, if_neg (by decide)])); clear t5)
      (try simp only [Exit.inBlock, Exit.then]); refine bodyPost_ret (results_none rfl _ _ _) rfl ?_
      exact ⟨rfl, HX.out⟩
    | true =>
      go_upto_region 7 with (go_at_fn g; (refine HLL2.out.mono ?_); rintro e w5 ⟨rfl, t5⟩; have HR5 := Lib.hid (HR.out.still t5); have HT5 := Lib.hid (HT.out.trans t5 (fun _ _ h => h.elim)); clear t5)
      obtain ⟨z0, z1⟩ := HBX.out w5 HT5.out
      obtain ⟨w6, hsw, hr6, hz6, ht6⟩ := HSW.out w5 dk HZ.out HR5.out (first + r) (first + ch) (by omega) (by omega)
      rw [show ((first + r : Nat) : Int) = (first : Int) + r by omega, show ((first + ch : Nat) : Int) = (first : Int) + ch by omega] at hsw
      have HR6 := Lib.hid hr6
      have HZ6 := Lib.hid hz6
      have HT6 := Lib.hid (HT5.out.trans ht6 (fun _ _ h => h))
      clear hr6 hz6 ht6
      go_wp2_with fail
      go_roundw
      ·exact ⟨ch, _, rfl, HZ6.out, HR6.out, by rw [← HE.out, HG2.out, if_pos (by trivial)], by omega, HT6.out⟩
      ·simp only [RowKit.intOf]; omega
   case pos =>
    have h2I : (ch : Int) + 1 < (hi : Int) := by omega
    have hls1 := HLS.out wr dk HZ.out HR.out (first + ch) (first + ch + 1) (by omega) (by omega)
    rw [show ((first + ch : Nat) : Int) = (first : Int) + ch by omega, show ((first + ch + 1 : Nat) : Int) = (first : Int) + ch + 1 by omega] at hls1
    obtain ⟨m1, hm1⟩ : ∃ m, ltFl dk[first + ch]! dk[first + ch + 1]! = m := ⟨_, rfl⟩
    rw [hm1] at hls1
    have HLL1 := Lib.hid hls1
    have HM1 := Lib.hid hm1
    clear hls1 hm1
    cases m1 with
    | false =>
      have HSC : RowKit.Hid (siftCh hi first r dk = ch) := Lib.hid (by
       unfold siftCh
       rw [← HCH.out, HM1.out, Bool.and_false, if_neg (by decide)])
      go_upto_region 6 with (go_at_fn g; (refine HLL1.out.mono ?_); rintro e w2 ⟨rfl, t2⟩; have HR2 := Lib.hid (HR.out.still t2); have HT2 := Lib.hid (HT.out.trans t2 (fun _ _ h => h.elim)); clear t2)
      obtain ⟨y0, y1⟩ := HBX.out w2 HT2.out
      have hls2 := HLS.out w2 dk HZ.out HR2.out (first + r) (first + ch) (by omega) (by omega)
      rw [show ((first + r : Nat) : Int) = (first : Int) + r by omega, show ((first + ch : Nat) : Int) = (first : Int) + ch by omega] at hls2
      have hgo := HGO.out
      rw [HSC.out] at hgo
      obtain ⟨m2, hm2⟩ : ∃ m, ltFl dk[first + r]! dk[first + ch]! = m := ⟨_, rfl⟩
      rw [hm2] at hls2 hgo
      have HLL2 := Lib.hid hls2
      have HG2 := Lib.hid hgo
      clear hls2 hgo hm2
      cases m2 with
      | false =>
        go_wp2_with (go_at_fn g; (refine HLL2.out.mono ?_); rintro e w5 ⟨rfl, t5⟩; have HX := Lib.hid (HFIN.out w5 (HR2.out.still t5) (HT2.out.trans t5 (fun _ _ h => h.elim)) (by rw [HG2.out, if_neg (by decide)])); clear t5)
        (try simp only [Exit.inBlock, Exit.then]); refine bodyPost_ret (results_none rfl _ _ _) rfl ?_
        exact ⟨rfl, HX.out⟩
      | true =>
        go_upto_region 7 with (go_at_fn g; (refine HLL2.out.mono ?_); rintro e w5 ⟨rfl, t5⟩; have HR5 := Lib.hid (HR2.out.still t5); have HT5 := Lib.hid (HT2.out.trans t5 (fun _ _ h => h.elim)); clear t5)
        obtain ⟨z0, z1⟩ := HBX.out w5 HT5.out
        obtain ⟨w6, hsw, hr6, hz6, ht6⟩ := HSW.out w5 dk HZ.out HR5.out (first + r) (first + ch) (by omega) (by omega)
        rw [show ((first + r : Nat) : Int) = (first : Int) + r by omega, show ((first + ch : Nat) : Int) = (first : Int) + ch by omega] at hsw
        have HR6 := Lib.hid hr6
        have HZ6 := Lib.hid hz6
        have HT6 := Lib.hid (HT5.out.trans ht6 (fun _ _ h => h))
        clear hr6 hz6 ht6
        go_wp2_with fail
        go_roundw
        ·exact ⟨ch, _, rfl, HZ6.out, HR6.out, by rw [← HE.out, HG2.out, if_pos (by trivial)], by omega, HT6.out⟩
        ·simp only [RowKit.intOf]; omega
    | true =>
      obtain ⟨cg, hcg⟩ : ∃ cg : Nat, cg = ch + 1 := ⟨_, rfl⟩
      have HCG := Lib.hid (show (ch : Int) + 1 = (cg : Int) by omega)
      have HSC : RowKit.Hid (siftCh hi first r dk = cg) := Lib.hid (by
       unfold siftCh
       rw [← HCH.out, HM1.out, decide_eq_true h2, if_pos (by decide), hcg, HCH.out])
      go_upto_region 6 with (go_at_fn g; (refine HLL1.out.mono ?_); rintro e w2 ⟨rfl, t2⟩; have HR2 := Lib.hid (HR.out.still t2); have HT2 := Lib.hid (HT.out.trans t2 (fun _ _ h => h.elim)); clear t2)
      rw [HCG.out]
      have hcgI : (cg : Int) < (hi : Int) := by omega
      have hrc2 : r < cg := by omega
      clear h2I hcg
      obtain ⟨y0, y1⟩ := HBX.out w2 HT2.out
      have hls2 := HLS.out w2 dk HZ.out HR2.out (first + r) (first + cg) (by omega) (by omega)
      rw [show ((first + r : Nat) : Int) = (first : Int) + r by omega, show ((first + cg : Nat) : Int) = (first : Int) + cg by omega] at hls2
      have hgo := HGO.out
      rw [HSC.out] at hgo
      obtain ⟨m2, hm2⟩ : ∃ m, ltFl dk[first + r]! dk[first + cg]! = m := ⟨_, rfl⟩
      rw [hm2] at hls2 hgo
      have HLL2 := Lib.hid hls2
      have HG2 := Lib.hid hgo
      clear hls2 hgo hm2
      cases m2 with
      | false =>
        go_wp2_with (go_at_fn g; (refine HLL2.out.mono ?_); rintro e w5 ⟨rfl, t5⟩; have HX := Lib.hid (HFIN.out w5 (HR2.out.still t5) (HT2.out.trans t5 (fun _ _ h => h.elim)) (by rw [HG2.out, if_neg (by decide)])); clear t5)
        (try simp only [Exit.inBlock, Exit.then]); refine bodyPost_ret (results_none rfl _ _ _) rfl ?_
        exact ⟨rfl, HX.out⟩
      | true =>
        go_upto_region 7 with (go_at_fn g; (refine HLL2.out.mono ?_); rintro e w5 ⟨rfl, t5⟩; have HR5 := Lib.hid (HR2.out.still t5); have HT5 := Lib.hid (HT2.out.trans t5 (fun _ _ h => h.elim)); clear t5)
        obtain ⟨z0, z1⟩ := HBX.out w5 HT5.out
        obtain ⟨w6, hsw, hr6, hz6, ht6⟩ := HSW.out w5 dk HZ.out HR5.out (first + r) (first + cg) (by omega) (by omega)
        rw [show ((first + r : Nat) : Int) = (first : Int) + r by omega, show ((first + cg : Nat) : Int) = (first : Int) + cg by omega] at hsw
        have HR6 := Lib.hid hr6
        have HZ6 := Lib.hid hz6
        have HT6 := Lib.hid (HT5.out.trans ht6 (fun _ _ h => h))
        clear hr6 hz6 ht6
        go_wp2_with fail
        go_roundw
        ·exact ⟨cg, _, rfl, HZ6.out, HR6.out, by rw [← HE.out, HG2.out, if_pos (by trivial)], by omega, HT6.out⟩
        ·simp only [RowKit.intOf]; omega
end Go.Proofs.YtpjdcgjoepjmcaaGreat
end
section
namespace Go.Proofs.YtpjdcgjoepjmcaaGreat
open Go.RowKit
theorem build_go (hi first k : Nat) (d : Array FlD) (h : 1 ≤ k) : Go.Sort.heapBuild ltFl hi first k d = Go.Sort.heapBuild ltFl hi first (k - 1) (Go.Sort.siftDown ltFl hi first (k - 1) d) := by
 obtain ⟨m, rfl⟩ : ∃ m, k = m + 1 := ⟨k - 1, by omega⟩
 rfl
theorem pop_go (first k : Nat) (d : Array FlD) (h : 1 ≤ k) : Go.Sort.heapPop ltFl first k d = Go.Sort.heapPop ltFl first (k - 1) (Go.Sort.siftDown ltFl (k - 1) first 0 (Go.Sort.swp d first (first + (k - 1)))) := by
 obtain ⟨m, rfl⟩ : ∃ m, k = m + 1 := ⟨k - 1, by omega⟩
 rfl
set_option maxRecDepth 20000 in
set_option maxHeartbeats 8000000 in
theorem heap_any (W0 : World) (base B c n : Nat) (g : Nat) (lb : Array Value) (eg : ∀ args w, (callFunc g args).run Tryz.prog w = .ok (.enter g args) w) (hl : LessC W0 base B c n g lb) (sf : Nat) (sb : Array Value) (hs : SwapC W0 base B c n sf sb)
 (W : World) (d : Array FlD) (hd : d.size = n) (hr : SrtC W0 base B c d W) (a b : Nat) (hab : a < b) (hb : b ≤ n) (hn : n ≤ 4000000) :
 Calls Tryz.prog 160 #[.agg #[.func (.func g) #[] lb, .func (.func sf) #[] sb], .int .i64 a, .int .i64 b] W fun e w' => e = .returned (.tuple #[]) ∧ SrtC W0 base B c (Go.Sort.heapSort ltFl d a b) w' ∧ (Go.Sort.heapSort ltFl d a b).size = n ∧ Touch W w' (fun k => k = B) := by
 obtain ⟨W1, hW1⟩ : ∃ X, W.alloc (.cells #[.func (.func g) #[] lb, .func (.func sf) #[] sb] 193) = X := ⟨_, rfl⟩
 have t1 : Touch W W1 (fun _ => False) := hW1 ▸ (Touch.refl W _).alloc _
 have g1 : W1.heap[W.heap.size]? = some (.cells #[.func (.func g) #[] lb, .func (.func sf) #[] sb] 193 (0, 0)) := hW1 ▸ heap_alloc_new ..
 have hBW : B < W.heap.size := (hr.row.row'.2.2 ⟨B, 0, none⟩ rfl).2
 have HBX : RowKit.Hid (∀ X, Touch W1 X (fun k => k = B) → X.cell? ⟨W.heap.size, 0, none⟩ = some (.func (.func g) #[] lb) ∧ X.cell? ⟨W.heap.size, 1, none⟩ = some (.func (.func sf) #[] sb)) := Lib.hid (fun X x => by
  have h1 := x.keeps g1 (fun e => by have e : W.heap.size = B := e; omega)
  exact ⟨cell_of_cells h1 0, cell_of_cells h1 1⟩)
 have HR1 := Lib.hid (hr.still t1)
 have HSW := Lib.hid hs
 have HSI : RowKit.Hid (∀ X dk lo hi, dk.size = n → SrtC W0 base B c dk X → a + hi ≤ n → lo ≤ n → Calls Tryz.prog 174 #[.agg #[.func (.func g) #[] lb, .func (.func sf) #[] sb], .int .i64 (lo : Nat), .int .i64 (hi : Nat), .int .i64 a] X fun e w' => e = .returned (.tuple #[]) ∧ SrtC W0 base B c (Go.Sort.siftDown ltFl hi a lo dk) w' ∧ (Go.Sort.siftDown ltFl hi a lo dk).size = n ∧ Touch X w' (fun k => k = B)) := Lib.hid (fun X dk lo hi h1 h2 h3 h4 => sift_any W0 base B c n g lb eg hl sf sb hs X dk h1 h2 lo hi a h3 h4 hn)
 have HW1 := Lib.hid hW1
 have HT1 := Lib.hid t1
 obtain ⟨H, hH⟩ : ∃ H, b - a = H := ⟨_, rfl⟩
 have HH := Lib.hid hH
 have eH : (b : Int) - (a : Int) = (H : Int) := by omega
 have HEH := Lib.hid eH
 have H1 : 1 ≤ (H : Int) := by omega
 have H2 : (H : Int) ≤ 4000000 := by omega
 have H3 : a + H ≤ n := by omega
 have a2 : (a : Int) ≤ 4000000 := by omega
 have b2 : (b : Int) ≤ 4000000 := by omega
 clear hW1 t1 g1 hr hs hl hH eH
 go_enter Tryz.func160, Tryz.ntmps160
 go_upto_region 1 with (fail)
 rw [HW1.out]
 go_upto_region 4 with (fail)
 rw [HEH.out]
 go_wp2_with fail
 go_loopw [9] (fun s9 wr => ∃ (k : Nat) (dk : Array FlD), s9 = .int .i64 ((k : Int) - 1) ∧ dk.size = n ∧ SrtC W0 base B c dk wr ∧ Go.Sort.heapBuild ltFl H a k dk = Go.Sort.heapBuild ltFl H a ((H - 1) / 2 + 1) d ∧ k ≤ H ∧ Touch W1 wr (fun k => k = B)) (fun s9 _ => (RowKit.intOf s9 + 1).toNat)
 case atStart => exact ⟨(H - 1) / 2 + 1, d, by rw [show (((H - 1) / 2 + 1 : Nat) : Int) - 1 = ((H : Int) - 1) / 2 by omega], hd, HR1.out, rfl, by omega, Touch.refl _ _⟩
 case round =>
  obtain ⟨k, dk, rfl, hz, hr, he, hk, ht⟩ := hrel
  have HE := Lib.hid he
  have HR := Lib.hid hr
  have HT := Lib.hid ht
  have HZ := Lib.hid hz
  obtain ⟨y0, y1⟩ := HBX.out wr ht
  clear hr he ht hz
  have kI : (k : Int) ≤ 4000000 := by omega
  by_cases hlt : 1 ≤ k
  case pos =>
   have hlI : 1 ≤ (k : Int) := by omega
   have hsi := HSI.out wr dk (k - 1) H HZ.out HR.out H3 (by omega)
   rw [show ((k - 1 : Nat) : Int) = (k : Int) - 1 by omega] at hsi
   have HS1 := Lib.hid hsi
   clear hsi
   go_wp2_with (go_at_call 174; (with_reducible refine HS1.out.mono ?_); rintro e w5 ⟨rfl, r5, z5, t5⟩; have HR5 := Lib.hid r5; have HZ5 := Lib.hid z5; have HT5 := Lib.hid (HT.out.trans t5 (fun _ _ h => h)); clear r5 z5 t5)
   go_roundw
   ·refine ⟨k - 1, _, ?_, HZ5.out, HR5.out, ?_, by omega, HT5.out⟩
    ·rw [show ((k - 1 : Nat) : Int) = (k : Int) - 1 by omega]
    ·rw [← HE.out]
     exact (build_go H a k dk hlt).symm
   ·simp only [RowKit.intOf]; omega
  case neg =>
   obtain rfl : k = 0 := by omega
   have hx : dk = Go.Sort.heapBuild ltFl H a ((H - 1) / 2 + 1) d := by rw [← HE.out]; rfl
   have HX := Lib.hid hx
   obtain ⟨Wo, hWo⟩ : ∃ Wo, Wo = wr := ⟨_, rfl⟩
   clear hx
   subst hWo
   go_wp2_with fail
   go_loopw [10] (fun s10 wr => ∃ (k : Nat) (dj : Array FlD), s10 = .int .i64 ((k : Int) - 1) ∧ dj.size = n ∧ SrtC W0 base B c dj wr ∧ Go.Sort.heapPop ltFl a k dj = Go.Sort.heapPop ltFl a H dk ∧ k ≤ H ∧ Touch W1 wr (fun k => k = B)) (fun s10 _ => (RowKit.intOf s10 + 1).toNat)
   case atStart => exact ⟨H, dk, rfl, HZ.out, HR.out, rfl, Nat.le_refl _, HT.out⟩
   case round =>
    obtain ⟨j, dj, rfl, hz2, hr2, he2, hj, ht2⟩ := hrel
    have HE2 := Lib.hid he2
    have HR2 := Lib.hid hr2
    have HT2 := Lib.hid ht2
    have HZ2 := Lib.hid hz2
    obtain ⟨v0, v1⟩ := HBX.out wr ht2
    clear hr2 he2 ht2 hz2
    have jI : (j : Int) ≤ 4000000 := by omega
    by_cases hltj : 1 ≤ j
    case neg =>
     obtain rfl : j = 0 := by omega
     have hx2 : dj = Go.Sort.heapPop ltFl a H dk := by rw [← HE2.out]; rfl
     have HX2 := Lib.hid hx2
     clear hx2
     go_wp2_with fail
     go_end0
     unfold Go.Sort.heapSort
     rw [HH.out, ← HX.out, ← HX2.out]
     exact ⟨rfl, HR2.out, HZ2.out, (HT1.out.mono (T := fun k => k = B) (fun _ _ h => h.elim)).trans HT2.out (fun _ _ h => h)⟩
    case pos =>
     have hjJ : 1 ≤ (j : Int) := by omega
     obtain ⟨w3, hsw, hr4, hz4, ht4⟩ := HSW.out wr dj HZ2.out HR2.out a (a + (j - 1)) (by omega) (by omega)
     rw [show ((a + (j - 1) : Nat) : Int) = (a : Int) + ((j : Int) - 1) by omega] at hsw
     have hsi := HSI.out w3 _ 0 (j - 1) hz4 hr4 (by omega) (by omega)
     rw [show ((0 : Nat) : Int) = 0 from rfl, show ((j - 1 : Nat) : Int) = (j : Int) - 1 by omega] at hsi
     have HS2 := Lib.hid hsi
     have t34 := HT2.out.trans ht4 (fun _ _ h => h)
     obtain ⟨q0, q1⟩ := HBX.out w3 t34
     have HT4 := Lib.hid t34
     clear hr4 hz4 ht4 hsi t34
     go_wp2_with (go_at_call 174; (with_reducible refine HS2.out.mono ?_); rintro e w5 ⟨rfl, r5, z5, t5⟩; have HR5 := Lib.hid r5; have HZ5 := Lib.hid z5; have HT5 := Lib.hid (HT4.out.trans t5 (fun _ _ h => h)); clear r5 z5 t5)
     go_roundw
     ·refine ⟨_, _, _, _, _, _, _, _, _, _, _, _, _, _, _, _, _, ?rel, rfl⟩
      refine ⟨j - 1, _, ?_, HZ5.out, HR5.out, ?_, by omega, HT5.out⟩
      ·rw [show ((j - 1 : Nat) : Int) = (j : Int) - 1 by omega]
      ·rw [← HE2.out]
       exact (pop_go a j dj hltj).symm
     ·simp [RowKit.intOf]
      omega
end Go.Proofs.YtpjdcgjoepjmcaaGreat
end
section
namespace Go.Proofs.YtpjdcgjoepjmcaaGreat
open Go.RowKit
set_option maxRecDepth 20000 in
set_option maxHeartbeats 24000000 in
theorem partins_any (W0 : World) (base B c n : Nat) (g : Nat) (lb : Array Value) (eg : ∀ args w, (callFunc g args).run Tryz.prog w = .ok (.enter g args) w) (hl : LessC W0 base B c n g lb) (sf : Nat) (sb : Array Value) (hs : SwapC W0 base B c n sf sb)
 (W : World) (d : Array FlD) (hd : d.size = n) (hr : SrtC W0 base B c d W) (a b : Nat) (hab : a < b) (hb : b ≤ n) (hn : n ≤ 4000000) :
 Calls Tryz.prog 164 #[.agg #[.func (.func g) #[] lb, .func (.func sf) #[] sb], .int .i64 a, .int .i64 b] W fun e w' => e = .returned (.bool (Go.Sort.partialInsertionSort ltFl d a b).2) ∧ SrtC W0 base B c (Go.Sort.partialInsertionSort ltFl d a b).1 w' ∧ (Go.Sort.partialInsertionSort ltFl d a b).1.size = n ∧ Touch W w' (fun k => k = B) := by
 obtain ⟨W1, hW1⟩ : ∃ X, W.alloc (.cells #[.func (.func g) #[] lb, .func (.func sf) #[] sb] 193) = X := ⟨_, rfl⟩
 have t1 : Touch W W1 (fun _ => False) := hW1 ▸ (Touch.refl W _).alloc _
 have g1 : W1.heap[W.heap.size]? = some (.cells #[.func (.func g) #[] lb, .func (.func sf) #[] sb] 193 (0, 0)) := hW1 ▸ heap_alloc_new ..
 have hBW : B < W.heap.size := (hr.row.row'.2.2 ⟨B, 0, none⟩ rfl).2
 have HBX : RowKit.Hid (∀ X, Touch W1 X (fun k => k = B) → X.cell? ⟨W.heap.size, 0, none⟩ = some (.func (.func g) #[] lb) ∧ X.cell? ⟨W.heap.size, 1, none⟩ = some (.func (.func sf) #[] sb)) := Lib.hid (fun X x => by
  have h1 := x.keeps g1 (fun e => by have e : W.heap.size = B := e; omega)
  exact ⟨cell_of_cells h1 0, cell_of_cells h1 1⟩)
 have HR0 := Lib.hid (hr.still t1)
 -- less at (j, j-1), swap at (j, j-1)
 have HLS : RowKit.Hid (∀ X D, D.size = n → SrtC W0 base B c D X → ∀ (j : Nat) (v : Bool), 1 ≤ j → j < n → ltFl D[j]! D[j - 1]! = v → Calls Tryz.prog g (#[.int .i64 j, .int .i64 ((j : Int) - 1)] ++ lb) X fun e w' => e = .returned (.bool v) ∧ Touch X w' (fun _ => False)) := Lib.hid (fun X D h1 h2 j v h3 h4 h5 => by
  have h := hl X D h1 h2 j (j - 1) h4 (by omega)
  rw [show ((j - 1 : Nat) : Int) = (j : Int) - 1 by omega, h5] at h
  exact h)
 have HSW : RowKit.Hid (∀ X D, D.size = n → SrtC W0 base B c D X → ∀ j : Nat, 1 ≤ j → j < n → ∃ w', (callFunc sf (#[.int .i64 j, .int .i64 ((j : Int) - 1)] ++ sb)).run Tryz.prog X = .ok (.value (.tuple #[])) w' ∧ SrtC W0 base B c (Go.Sort.swp D j (j - 1)) w' ∧ (Go.Sort.swp D j (j - 1)).size = n ∧ Touch X w' (fun k => k = B)) := Lib.hid (fun X D h1 h2 j h3 h4 => by
  have h := hs X D h1 h2 j (j - 1) h4 (by omega)
  rw [show ((j - 1 : Nat) : Int) = (j : Int) - 1 by omega] at h
  exact h)
 have HW1 := Lib.hid hW1
 have HT1 := Lib.hid t1
 have HD := Lib.hid hd
 have a2 : (a : Int) ≤ 4000000 := by omega
 have b2 : (b : Int) ≤ 4000000 := by omega
 clear hW1 t1 g1 hr hs hl hd
 go_enter Tryz.func164, Tryz.ntmps164
 go_upto_region 1 with (fail)
 rw [HW1.out]
 go_wp2_with fail
 go_loopw [7, 8] (fun s7 s8 wr => ∃ (i s : Nat) (dk : Array FlD), s7 = .int .i64 i ∧ s8 = .int .i64 s ∧ s ≤ 5 ∧ a < i ∧ i ≤ b ∧ dk.size = n ∧ SrtC W0 base B c dk wr ∧ Touch W1 wr (fun k => k = B) ∧ Go.Sort.partialIns ltFl a b (5 - s) i dk = Go.Sort.partialIns ltFl a b 5 (a + 1) d) (fun _ s8 _ => 5 - (RowKit.intOf s8).toNat)
 case atStart => exact ⟨a + 1, 0, d, by go_num, rfl, by omega, by omega, by omega, HD.out, HR0.out, Touch.refl _ _, rfl⟩
 case round =>
  obtain ⟨i, s, dk, rfl, rfl, hs5, hai, hib, hz, hr, ht, he⟩ := hrel
  have HO := Lib.hid he
  have HZ := Lib.hid hz
  have HRs := Lib.hid hr
  have HTs := Lib.hid ht
  clear he hz hr ht
  obtain ⟨Wo, hWo⟩ : ∃ Wo, Wo = wr := ⟨_, rfl⟩
  subst hWo
  by_cases hs : s < 5
  case pos =>
   have hsI : (s : Int) < 5 := by omega
   go_wp2_with fail
   go_loopw [7] (fun s7 wr => ∃ k : Nat, s7 = .int .i64 k ∧ i ≤ k ∧ k ≤ b ∧ SrtC W0 base B c dk wr ∧ Touch W1 wr (fun k => k = B) ∧ RowKit.Hid (Go.Sort.scanSorted ltFl dk b k = Go.Sort.scanSorted ltFl dk b i)) (fun s7 _ => b - (RowKit.intOf s7).toNat)
   case atStart => exact ⟨i, rfl, Nat.le_refl _, hib, HRs.out, HTs.out, rfl⟩
   case round =>
    obtain ⟨k, rfl, hik, hkb, hr3, ht3, HSc⟩ := hrel
    have HR3 := Lib.hid hr3
    have HT3 := Lib.hid ht3
    obtain ⟨y0, y1⟩ := HBX.out wr ht3
    clear hr3 ht3
    by_cases hkb1 : k < b
    case pos =>
     have hkz : (k : Int) < (b : Int) := by omega
     cases hlv : ltFl dk[k]! dk[k - 1]! with
     | false =>
       have HL3 := Lib.hid (HLS.out wr dk HZ.out HR3.out k false (by omega) (by omega) hlv)
       have HLV := Lib.hid hlv
       clear hlv
       go_wp2_with (go_at_fn g; (refine HL3.out.mono ?_); rintro e w4 ⟨rfl, t4⟩; have HR4 := Lib.hid (HR3.out.still t4); have HT4 := Lib.hid (HT3.out.trans t4 (fun _ _ h => h.elim)); clear t4)
       go_roundw
       case rel => exact ⟨k + 1, by go_num, by omega, by omega, HR4.out, HT4.out, (Go.Proofs.scanSorted_go ltFl dk b k hkb1 HLV.out).symm.trans HSc.out⟩
       case measure => simp [RowKit.intOf]; omega
     | true =>
       have HK : RowKit.Hid (Go.Sort.scanSorted ltFl dk b i = k) := by
        show _ = _
        rw [← HSc.out, Go.Proofs.scanSorted_stop ltFl dk b k (Or.inr hlv)]
       have hkne : ((k : Int) == (b : Int)) = false := beq_eq_false_iff_ne.2 (by omega)
       have HL3 := Lib.hid (HLS.out wr dk HZ.out HR3.out k true (by omega) (by omega) hlv)
       clear hlv
       by_cases h50 : b - a < 50
       case pos =>
        have h50z : (b : Int) - (a : Int) < 50 := by omega
        go_wp2_with (go_at_fn g; (refine HL3.out.mono ?_); rintro e w4 ⟨rfl, t4⟩; have HR4 := Lib.hid (HR3.out.still t4); have HT4 := Lib.hid (HT3.out.trans t4 (fun _ _ h => h.elim)); clear t4)
        have hv : Go.Sort.partialInsertionSort ltFl d a b = (dk, false) := by
         unfold Go.Sort.partialInsertionSort
         rw [← HO.out, Go.Proofs.pi_short ltFl a b s i dk hs (by rw [HK.out]; omega) h50]
        rw [hv]
        go_ret
        exact ⟨rfl, HR4.out, HZ.out, (HT1.out.mono (T := fun k => k = B) (fun _ _ h => h.elim)).trans HT4.out (fun _ _ h => h)⟩
       case neg =>
        have h50z : ¬ ((b : Int) - (a : Int) < 50) := by omega
        by_cases hka : k - a ≥ 2
        case pos =>
         have hkaz : (2 : Int) ≤ (k : Int) - (a : Int) := by omega
         go_wp2_with (go_at_fn g; (refine HL3.out.mono ?_); rintro e w4 ⟨rfl, t4⟩; have HR4 := Lib.hid (HR3.out.still t4); have HT4 := Lib.hid (HT3.out.trans t4 (fun _ _ h => h.elim)); clear t4; obtain ⟨y2, y3⟩ := HBX.out w4 HT4.out; obtain ⟨w5, hsw5, hr5, hz5, ht5⟩ := HSW.out w4 dk HZ.out HR4.out k (by omega) (by omega); have HR5 := Lib.hid hr5; have HZ5 := Lib.hid hz5; have HT5 := Lib.hid (HT4.out.trans ht5 (fun _ _ h => h)); clear hr5 hz5 ht5)
         clear y0 y1 y2 y3
         go_loopw [9] (fun s9 wr => ∃ (j : Nat) (dj : Array FlD), s9 = .int .i64 j ∧ j ≤ k - 1 ∧ dj.size = n ∧ SrtC W0 base B c dj wr ∧ Touch W1 wr (fun k => k = B) ∧ RowKit.Hid (Go.Sort.shiftDown ltFl j dj = Go.Sort.shiftDown ltFl (k - 1) (Go.Sort.swp dk k (k - 1)))) (fun s9 _ => (RowKit.intOf s9).toNat)
         case atStart => exact ⟨k - 1, _, by congr 1; omega, Nat.le_refl _, HZ5.out, HR5.out, HT5.out, rfl⟩
         case round =>
          clear HR4 HT4 HR5 HZ5 HT5 hsw5
          obtain ⟨j, dj, rfl, hjk, hzj, hrj, htj, HDj⟩ := hrel
          have HZj := Lib.hid hzj
          have HRj := Lib.hid hrj
          have HTj := Lib.hid htj
          obtain ⟨y4, y5⟩ := HBX.out wr htj
          clear hzj hrj htj
          by_cases hj1 : 1 ≤ j
          case pos =>
           have hj1z : (1 : Int) ≤ (j : Int) := by omega
           cases hlv2 : ltFl dj[j]! dj[j - 1]! with
           | true =>
             have HL5 := Lib.hid (HLS.out wr dj HZj.out HRj.out j true hj1 (by omega) hlv2)
             have HLV2 := Lib.hid hlv2
             clear hlv2
             go_wp2_with (go_at_fn g; (refine HL5.out.mono ?_); rintro e w5 ⟨rfl, t5⟩; have HR5 := Lib.hid (HRj.out.still t5); have HT5 := Lib.hid (HTj.out.trans t5 (fun _ _ h => h.elim)); clear t5; obtain ⟨y2, y3⟩ := HBX.out w5 HT5.out; obtain ⟨w6, hsw6, hr6, hz6, ht6⟩ := HSW.out w5 dj HZj.out HR5.out j (by omega) (by omega); have HR6 := Lib.hid hr6; have HZ6 := Lib.hid hz6; have HT6 := Lib.hid (HT5.out.trans ht6 (fun _ _ h => h)); clear hr6 hz6 ht6)
             go_roundw
             case rel =>
              refine ⟨j - 1, _, by congr 1; omega, by omega, HZ6.out, HR6.out, HT6.out, ?_⟩
              exact (Go.Proofs.shiftDown_go ltFl j dj hj1 HLV2.out).symm.trans HDj.out
             case measure => simp [RowKit.intOf]; omega
           | false =>
             have HL5 := Lib.hid (HLS.out wr dj HZj.out HRj.out j false hj1 (by omega) hlv2)
             have HDn : RowKit.Hid (Go.Sort.fixDown ltFl a k (Go.Sort.swp dk k (k - 1)) = dj) := by
              show _ = _
              unfold Go.Sort.fixDown
              rw [if_pos hka, ← HDj.out, Go.Proofs.shiftDown_stop ltFl j dj (Or.inr hlv2)]
             clear hlv2
             by_cases hbk : b - k ≥ 2
             case pos =>
              have hbkz : (2 : Int) ≤ (b : Int) - (k : Int) := by omega
              go_wp2_with (go_at_fn g; (refine HL5.out.mono ?_); rintro e w5 ⟨rfl, t5⟩; have HR5 := Lib.hid (HRj.out.still t5); have HT5 := Lib.hid (HTj.out.trans t5 (fun _ _ h => h.elim)); clear t5)
              (try clear y0 y1)
              (try clear y2 y3)
              (try clear y4 y5)
              go_loopw [10] (fun s10 wr => ∃ (u : Nat) (du : Array FlD), s10 = .int .i64 u ∧ k + 1 ≤ u ∧ u ≤ b ∧ du.size = n ∧ SrtC W0 base B c du wr ∧ Touch W1 wr (fun k => k = B) ∧ RowKit.Hid (Go.Sort.shiftUp ltFl b u du = Go.Sort.shiftUp ltFl b (k + 1) dj)) (fun s10 _ => b - (RowKit.intOf s10).toNat)
              case atStart => exact ⟨k + 1, dj, by go_num, Nat.le_refl _, by omega, HZj.out, HR5.out, HT5.out, rfl⟩
              case round =>
               obtain ⟨u, du, rfl, hku, hub, hz7, hr7, ht7, HU⟩ := hrel
               have HZ7 := Lib.hid hz7
               have HR7 := Lib.hid hr7
               have HT7 := Lib.hid ht7
               obtain ⟨v0, v1⟩ := HBX.out wr ht7
               clear hz7 hr7 ht7
               by_cases hub1 : u < b
               case pos =>
                have huz : (u : Int) < (b : Int) := by omega
                cases hlv : ltFl du[u]! du[u - 1]! with
                | true =>
                  have HL8 := Lib.hid (HLS.out wr du HZ7.out HR7.out u true (by omega) (by omega) hlv)
                  have HLV := Lib.hid hlv
                  clear hlv
                  go_wp2_with (go_at_fn g; (refine HL8.out.mono ?_); rintro e w8 ⟨rfl, t8⟩; have HR8 := Lib.hid (HR7.out.still t8); have HT8 := Lib.hid (HT7.out.trans t8 (fun _ _ h => h.elim)); clear t8; obtain ⟨y2, y3⟩ := HBX.out w8 HT8.out; obtain ⟨w9, hsw9, hr9, hz9, ht9⟩ := HSW.out w8 du HZ7.out HR8.out u (by omega) (by omega); have HR9 := Lib.hid hr9; have HZ9 := Lib.hid hz9; have HT9 := Lib.hid (HT8.out.trans ht9 (fun _ _ h => h)); clear hr9 hz9 ht9)
                  go_roundw
                  case rel =>
                   refine ⟨u + 1, _, by go_num, by omega, by omega, HZ9.out, HR9.out, HT9.out, ?_⟩
                   exact (Go.Proofs.shiftUp_go ltFl b u du hub1 HLV.out).symm.trans HU.out
                  case measure => simp [RowKit.intOf]; omega
                | false =>
                  have HL8 := Lib.hid (HLS.out wr du HZ7.out HR7.out u false (by omega) (by omega) hlv)
                  have HLV := Lib.hid hlv
                  clear hlv
                  go_wp2_with (go_at_fn g; (refine HL8.out.mono ?_); rintro e w8 ⟨rfl, t8⟩; have HR8 := Lib.hid (HR7.out.still t8); have HT8 := Lib.hid (HT7.out.trans t8 (fun _ _ h => h.elim)); clear t8)
                  go_roundw
                  case rel =>
                   refine ⟨k, s + 1, du, rfl, by go_num, by omega, by omega, by omega, HZ7.out, HR8.out, HT8.out, ?_⟩
                   rw [← HO.out, Go.Proofs.pi_go ltFl a b s i k dk hs HK.out (by omega) h50, HDn.out, show Go.Sort.fixUp ltFl b k dj = du from by unfold Go.Sort.fixUp; rw [if_pos hbk, ← HU.out, Go.Proofs.shiftUp_stop ltFl b u du (Or.inr HLV.out)]]
                  case measure => simp [RowKit.intOf]; omega
               case neg =>
                have huz : ¬ (u : Int) < (b : Int) := by omega
                go_wp2_with fail
                go_roundw
                case rel =>
                 refine ⟨k, s + 1, du, rfl, by go_num, by omega, by omega, by omega, HZ7.out, HR7.out, HT7.out, ?_⟩
                 rw [← HO.out, Go.Proofs.pi_go ltFl a b s i k dk hs HK.out (by omega) h50, HDn.out, show Go.Sort.fixUp ltFl b k dj = du from by unfold Go.Sort.fixUp; rw [if_pos hbk, ← HU.out, Go.Proofs.shiftUp_stop ltFl b u du (Or.inl hub1)]]
                case measure => simp [RowKit.intOf]; omega
             case neg =>
              have hbkz : ¬ (2 : Int) ≤ (b : Int) - (k : Int) := by omega
              go_wp2_with (go_at_fn g; (refine HL5.out.mono ?_); rintro e w5 ⟨rfl, t5⟩; have HR5 := Lib.hid (HRj.out.still t5); have HT5 := Lib.hid (HTj.out.trans t5 (fun _ _ h => h.elim)); clear t5)
              go_roundw
              case rel =>
               refine ⟨k, s + 1, dj, rfl, by go_num, by omega, by omega, by omega, HZj.out, HR5.out, HT5.out, ?_⟩
               rw [← HO.out, Go.Proofs.pi_go ltFl a b s i k dk hs HK.out (by omega) h50, HDn.out, show Go.Sort.fixUp ltFl b k dj = dj from by unfold Go.Sort.fixUp; rw [if_neg hbk]]
              case measure => simp [RowKit.intOf]; omega
          case neg =>
           have hj1z : ¬ (1 : Int) ≤ (j : Int) := by omega
           have HDn : RowKit.Hid (Go.Sort.fixDown ltFl a k (Go.Sort.swp dk k (k - 1)) = dj) := by
            show _ = _
            unfold Go.Sort.fixDown
            rw [if_pos hka, ← HDj.out, Go.Proofs.shiftDown_stop ltFl j dj (Or.inl (by omega))]
           by_cases hbk : b - k ≥ 2
           case pos =>
            have hbkz : (2 : Int) ≤ (b : Int) - (k : Int) := by omega
            go_wp2_with fail
            (try clear y0 y1)
            (try clear y2 y3)
            (try clear y4 y5)
            go_loopw [10] (fun s10 wr => ∃ (u : Nat) (du : Array FlD), s10 = .int .i64 u ∧ k + 1 ≤ u ∧ u ≤ b ∧ du.size = n ∧ SrtC W0 base B c du wr ∧ Touch W1 wr (fun k => k = B) ∧ RowKit.Hid (Go.Sort.shiftUp ltFl b u du = Go.Sort.shiftUp ltFl b (k + 1) dj)) (fun s10 _ => b - (RowKit.intOf s10).toNat)
            case atStart => exact ⟨k + 1, dj, by go_num, Nat.le_refl _, by omega, HZj.out, HRj.out, HTj.out, rfl⟩
            case round =>
             obtain ⟨u, du, rfl, hku, hub, hz7, hr7, ht7, HU⟩ := hrel
             have HZ7 := Lib.hid hz7
             have HR7 := Lib.hid hr7
             have HT7 := Lib.hid ht7
             obtain ⟨v0, v1⟩ := HBX.out wr ht7
             clear hz7 hr7 ht7
             by_cases hub1 : u < b
             case pos =>
              have huz : (u : Int) < (b : Int) := by omega
              cases hlv : ltFl du[u]! du[u - 1]! with
              | true =>
                have HL8 := Lib.hid (HLS.out wr du HZ7.out HR7.out u true (by omega) (by omega) hlv)
                have HLV := Lib.hid hlv
                clear hlv
                go_wp2_with (go_at_fn g; (refine HL8.out.mono ?_); rintro e w8 ⟨rfl, t8⟩; have HR8 := Lib.hid (HR7.out.still t8); have HT8 := Lib.hid (HT7.out.trans t8 (fun _ _ h => h.elim)); clear t8; obtain ⟨y2, y3⟩ := HBX.out w8 HT8.out; obtain ⟨w9, hsw9, hr9, hz9, ht9⟩ := HSW.out w8 du HZ7.out HR8.out u (by omega) (by omega); have HR9 := Lib.hid hr9; have HZ9 := Lib.hid hz9; have HT9 := Lib.hid (HT8.out.trans ht9 (fun _ _ h => h)); clear hr9 hz9 ht9)
                go_roundw
                case rel =>
                 refine ⟨u + 1, _, by go_num, by omega, by omega, HZ9.out, HR9.out, HT9.out, ?_⟩
                 exact (Go.Proofs.shiftUp_go ltFl b u du hub1 HLV.out).symm.trans HU.out
                case measure => simp [RowKit.intOf]; omega
              | false =>
                have HL8 := Lib.hid (HLS.out wr du HZ7.out HR7.out u false (by omega) (by omega) hlv)
                have HLV := Lib.hid hlv
                clear hlv
                go_wp2_with (go_at_fn g; (refine HL8.out.mono ?_); rintro e w8 ⟨rfl, t8⟩; have HR8 := Lib.hid (HR7.out.still t8); have HT8 := Lib.hid (HT7.out.trans t8 (fun _ _ h => h.elim)); clear t8)
                go_roundw
                case rel =>
                 refine ⟨k, s + 1, du, rfl, by go_num, by omega, by omega, by omega, HZ7.out, HR8.out, HT8.out, ?_⟩
                 rw [← HO.out, Go.Proofs.pi_go ltFl a b s i k dk hs HK.out (by omega) h50, HDn.out, show Go.Sort.fixUp ltFl b k dj = du from by unfold Go.Sort.fixUp; rw [if_pos hbk, ← HU.out, Go.Proofs.shiftUp_stop ltFl b u du (Or.inr HLV.out)]]
                case measure => simp [RowKit.intOf]; omega
             case neg =>
              have huz : ¬ (u : Int) < (b : Int) := by omega
              go_wp2_with fail
              go_roundw
              case rel =>
               refine ⟨k, s + 1, du, rfl, by go_num, by omega, by omega, by omega, HZ7.out, HR7.out, HT7.out, ?_⟩
               rw [← HO.out, Go.Proofs.pi_go ltFl a b s i k dk hs HK.out (by omega) h50, HDn.out, show Go.Sort.fixUp ltFl b k dj = du from by unfold Go.Sort.fixUp; rw [if_pos hbk, ← HU.out, Go.Proofs.shiftUp_stop ltFl b u du (Or.inl hub1)]]
              case measure => simp [RowKit.intOf]; omega
           case neg =>
            have hbkz : ¬ (2 : Int) ≤ (b : Int) - (k : Int) := by omega
            go_wp2_with fail
            go_roundw
            case rel =>
             refine ⟨k, s + 1, dj, rfl, by go_num, by omega, by omega, by omega, HZj.out, HRj.out, HTj.out, ?_⟩
             rw [← HO.out, Go.Proofs.pi_go ltFl a b s i k dk hs HK.out (by omega) h50, HDn.out, show Go.Sort.fixUp ltFl b k dj = dj from by unfold Go.Sort.fixUp; rw [if_neg hbk]]
            case measure => simp [RowKit.intOf]; omega
        case neg =>
         have hkaz : ¬ (2 : Int) ≤ (k : Int) - (a : Int) := by omega
         have HDn : RowKit.Hid (Go.Sort.fixDown ltFl a k (Go.Sort.swp dk k (k - 1)) = Go.Sort.swp dk k (k - 1)) := by
          show _ = _
          unfold Go.Sort.fixDown
          rw [if_neg hka]
         by_cases hbk : b - k ≥ 2
         case pos =>
          have hbkz : (2 : Int) ≤ (b : Int) - (k : Int) := by omega
          go_wp2_with (go_at_fn g; (refine HL3.out.mono ?_); rintro e w4 ⟨rfl, t4⟩; have HR4 := Lib.hid (HR3.out.still t4); have HT4 := Lib.hid (HT3.out.trans t4 (fun _ _ h => h.elim)); clear t4; obtain ⟨y2, y3⟩ := HBX.out w4 HT4.out; obtain ⟨w5, hsw5, hr5, hz5, ht5⟩ := HSW.out w4 dk HZ.out HR4.out k (by omega) (by omega); have HR5 := Lib.hid hr5; have HZ5 := Lib.hid hz5; have HT5 := Lib.hid (HT4.out.trans ht5 (fun _ _ h => h)); clear hr5 hz5 ht5)
          (try clear y0 y1)
          (try clear y2 y3)
          (try clear y4 y5)
          go_loopw [10] (fun s10 wr => ∃ (u : Nat) (du : Array FlD), s10 = .int .i64 u ∧ k + 1 ≤ u ∧ u ≤ b ∧ du.size = n ∧ SrtC W0 base B c du wr ∧ Touch W1 wr (fun k => k = B) ∧ RowKit.Hid (Go.Sort.shiftUp ltFl b u du = Go.Sort.shiftUp ltFl b (k + 1) (Go.Sort.swp dk k (k - 1)))) (fun s10 _ => b - (RowKit.intOf s10).toNat)
          case atStart => exact ⟨k + 1, (Go.Sort.swp dk k (k - 1)), by go_num, Nat.le_refl _, by omega, HZ5.out, HR5.out, HT5.out, rfl⟩
          case round =>
           obtain ⟨u, du, rfl, hku, hub, hz7, hr7, ht7, HU⟩ := hrel
           have HZ7 := Lib.hid hz7
           have HR7 := Lib.hid hr7
           have HT7 := Lib.hid ht7
           obtain ⟨v0, v1⟩ := HBX.out wr ht7
           clear hz7 hr7 ht7
           by_cases hub1 : u < b
           case pos =>
            have huz : (u : Int) < (b : Int) := by omega
            cases hlv : ltFl du[u]! du[u - 1]! with
            | true =>
              have HL8 := Lib.hid (HLS.out wr du HZ7.out HR7.out u true (by omega) (by omega) hlv)
              have HLV := Lib.hid hlv
              clear hlv
              go_wp2_with (go_at_fn g; (refine HL8.out.mono ?_); rintro e w8 ⟨rfl, t8⟩; have HR8 := Lib.hid (HR7.out.still t8); have HT8 := Lib.hid (HT7.out.trans t8 (fun _ _ h => h.elim)); clear t8; obtain ⟨y2, y3⟩ := HBX.out w8 HT8.out; obtain ⟨w9, hsw9, hr9, hz9, ht9⟩ := HSW.out w8 du HZ7.out HR8.out u (by omega) (by omega); have HR9 := Lib.hid hr9; have HZ9 := Lib.hid hz9; have HT9 := Lib.hid (HT8.out.trans ht9 (fun _ _ h => h)); clear hr9 hz9 ht9)
              go_roundw
              case rel =>
               refine ⟨u + 1, _, by go_num, by omega, by omega, HZ9.out, HR9.out, HT9.out, ?_⟩
               exact (Go.Proofs.shiftUp_go ltFl b u du hub1 HLV.out).symm.trans HU.out
              case measure => simp [RowKit.intOf]; omega
            | false =>
              have HL8 := Lib.hid (HLS.out wr du HZ7.out HR7.out u false (by omega) (by omega) hlv)
              have HLV := Lib.hid hlv
              clear hlv
              go_wp2_with (go_at_fn g; (refine HL8.out.mono ?_); rintro e w8 ⟨rfl, t8⟩; have HR8 := Lib.hid (HR7.out.still t8); have HT8 := Lib.hid (HT7.out.trans t8 (fun _ _ h => h.elim)); clear t8)
              go_roundw
              case rel =>
               refine ⟨k, s + 1, du, rfl, by go_num, by omega, by omega, by omega, HZ7.out, HR8.out, HT8.out, ?_⟩
               rw [← HO.out, Go.Proofs.pi_go ltFl a b s i k dk hs HK.out (by omega) h50, HDn.out, show Go.Sort.fixUp ltFl b k (Go.Sort.swp dk k (k - 1)) = du from by unfold Go.Sort.fixUp; rw [if_pos hbk, ← HU.out, Go.Proofs.shiftUp_stop ltFl b u du (Or.inr HLV.out)]]
              case measure => simp [RowKit.intOf]; omega
           case neg =>
            have huz : ¬ (u : Int) < (b : Int) := by omega
            go_wp2_with fail
            go_roundw
            case rel =>
             refine ⟨k, s + 1, du, rfl, by go_num, by omega, by omega, by omega, HZ7.out, HR7.out, HT7.out, ?_⟩
             rw [← HO.out, Go.Proofs.pi_go ltFl a b s i k dk hs HK.out (by omega) h50, HDn.out, show Go.Sort.fixUp ltFl b k (Go.Sort.swp dk k (k - 1)) = du from by unfold Go.Sort.fixUp; rw [if_pos hbk, ← HU.out, Go.Proofs.shiftUp_stop ltFl b u du (Or.inl hub1)]]
            case measure => simp [RowKit.intOf]; omega
         case neg =>
          exfalso; omega
    case neg =>
     obtain rfl : k = b := by omega
     have hkz : ¬ (k : Int) < (k : Int) := by omega
     go_wp2_with fail
     have hv : Go.Sort.partialInsertionSort ltFl d a k = (dk, true) := by
      unfold Go.Sort.partialInsertionSort
      rw [← HO.out, Go.Proofs.pi_true ltFl a k s i dk hs (by rw [← HSc.out, Go.Proofs.scanSorted_stop ltFl dk k k (Or.inl (by omega))])]
     rw [hv]
     go_ret
     exact ⟨rfl, HR3.out, HZ.out, (HT1.out.mono (T := fun k => k = B) (fun _ _ h => h.elim)).trans HT3.out (fun _ _ h => h)⟩
  case neg =>
   obtain rfl : s = 5 := by omega
   go_wp2_with fail
   have hv : Go.Sort.partialInsertionSort ltFl d a b = (dk, false) := by
    unfold Go.Sort.partialInsertionSort
    rw [← HO.out, Go.Proofs.pi_end]
   rw [hv]
   go_ret
   exact ⟨rfl, HRs.out, HZ.out, (HT1.out.mono (T := fun k => k = B) (fun _ _ h => h.elim)).trans HTs.out (fun _ _ h => h)⟩
end Go.Proofs.YtpjdcgjoepjmcaaGreat
end
