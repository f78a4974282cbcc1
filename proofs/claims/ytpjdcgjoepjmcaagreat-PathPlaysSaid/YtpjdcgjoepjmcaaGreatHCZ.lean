import Derived.Test.YtpjdcgjoepjmcaaGreatHBZ
import Derived.Test.YtpjdcgjoepjmcaaGreatGAZ
import Derived.Maps.OwnOps
import Derived.Maps.OwnSet
import Derived.Maps.Views
import Derived.Test.YtpjdcgjoepjmcaaGreatGCZ
import Derived.Defers
import Derived.Recover
import Derived.Laws.Pointers
import Derived.Test.YtpjdcgjoepjmcaaGreatGBZ
import Derived.StillTailTactics
import Derived.Deep.DeepCutAuto
set_option linter.unusedVariables false
set_option linter.unusedSimpArgs false
section
namespace Go.Proofs.YtpjdcgjoepjmcaaGreat
open Go.RowKit
theorem infoI : (Tryz.prog.info? 3).map (fun i => (i.zero, i.size, i.bytes)) = some (some (.int .i64 0), 1, 8) := by kernel_rfl
theorem infoRw : (Tryz.prog.info? 165).map (fun i => (i.zero, i.size, i.bytes)) = some (some (.agg #[.int .i64 0, .int .i64 0, .int .i64 0, .int .i64 0]), 4, 32) := by kernel_rfl
def rwF (n : Nat) (b : BkD) : Rw := ⟨b.id, b.weight.toNat, offF b.id n, skF b.id n⟩
def rowsF (bs : List BkD) (n : Nat) : List Rw := bs.map (rwF n)
theorem rowsF_length (bs : List BkD) (n : Nat) : (rowsF bs n).length = bs.length := by simp [rowsF]
theorem rowsF_snoc (bs : List BkD) (n k : Nat) (h : k < bs.length) : rowsF (bs.take (k + 1)) n = rowsF (bs.take k) n ++ [rwF n bs[k]] := by
 unfold rowsF; rw [List.take_succ_eq_append_getElem h, List.map_append]; rfl
theorem gmay_at {bs : List BkD} (h : gmay bs = true) (i : Nat) (hi : i < bs.length) : mayKB bs[i] = true := by
 have := ((gmay_iff bs).1 h).2 i hi
 unfold okAt at this
 rw [List.getElem?_eq_getElem hi] at this
 simp only [Bool.and_eq_true] at this
 exact this.1
theorem gmay_up {bs : List BkD} (h : gmay bs = true) : bs.Pairwise (fun a b => a.id < b.id) := by
 have hs : ∀ i (hi : i + 1 < bs.length), bs[i].id < bs[i + 1].id := fun i hi => by
  have := ((gmay_iff bs).1 h).2 (i + 1) hi
  rw [okAt_succ (List.getElem?_eq_getElem hi) (List.getElem?_eq_getElem (by omega))] at this
  simp only [Bool.and_eq_true, decide_eq_true_iff] at this
  exact this.2
 rw [List.pairwise_iff_getElem]
 intro i j hi hj hij
 induction j with
 | zero => omega
 | succ j ih =>
   have h1 := hs j hj
   rcases Nat.lt_or_ge i j with h9 | h9
   ·have := ih (by omega) h9; omega
   ·obtain rfl : i = j := by omega
    exact h1
theorem rows_fine {bs : List BkD} {n : Nat} (hp : Prm n) (h : gmay bs = true) : Rws (rowsF bs n) n := by
 refine ⟨hp, by rw [rowsF_length]; exact ((gmay_iff bs).1 h).1, fun r hr => ?_, ?_⟩
 ·obtain ⟨b, hb, rfl⟩ := List.mem_map.1 hr
  obtain ⟨i, hi, rfl⟩ := List.getElem_of_mem hb
  have hm := (mayKB_iff _).1 (gmay_at h i hi)
  have h1 := hp.lo
  have h2 : offF bs[i].id n < n := Nat.mod_lt _ (by omega)
  have h3 : mixF 2 (id4 bs[i].id) % (n - 1) < n - 1 := Nat.mod_lt _ (by omega)
  refine ⟨hm.1.1, hm.1.2, ?_, ?_, h2, ?_, ?_⟩
  ·show 1 ≤ bs[i].weight.toNat; omega
  ·show bs[i].weight.toNat ≤ 10; omega
  ·show 1 ≤ skF bs[i].id n; unfold skF; omega
  ·show skF bs[i].id n < n; unfold skF; omega
 ·unfold rowsF
  rw [List.pairwise_map]
  exact gmay_up h
set_option maxRecDepth 20000 in
set_option maxHeartbeats 2000000 in
theorem rows_any (a : Option Addr) (len cap n : Nat) (bs : List BkD) (w : World) (hp : Prm n) (hr : RowK w a len cap bs) (hg : gmay bs = true) :
 Calls Tryz.prog 71 #[.slice a len cap, .int .i64 n] w fun e w' => ∃ a' c', e = .returned (.slice a' len c') ∧ OwnW w' w.heap.size (.slice a' len c') (rowsF bs n) ∧ Touch w w' (fun _ => False) := by
 have hl := hr.len
 have hcap := hr.hmax
 have hcap1 := hr.hcap
 have h16 : len ≤ 16 := by have := ((gmay_iff bs).1 hg).1; omega
 have HR := Lib.hid hr
 have HL := Lib.hid hl
 have HG := Lib.hid hg
 have HP := Lib.hid hp
 have HII := Lib.hid infoRw
 clear hr hl hg
 go_enter Tryz.func71, Tryz.ntmps71
 go_wp2_with fail
 go_loopw [5, 12] (fun s i wr => ∃ (k : Nat) (a' : Option Addr) (c' : Nat), k ≤ len ∧ i = .int .i64 k ∧ s = .slice a' k c' ∧ OwnW wr w.heap.size (.slice a' k c') (rowsF (bs.take k) n) ∧ Touch w wr (fun _ => False)) (fun _ i _ => len - (intOf i).toNat)
 case atStart => exact ⟨0, none, 0, Nat.zero_le _, rfl, rfl, by simp [rowsF]; exact OwnS.nil _ _ _ _, Touch.refl _ _⟩
 case round =>
  obtain ⟨k, a', c', hk, rfl, rfl, ho, ht⟩ := hrel
  have HO := Lib.hid ho
  have HT := Lib.hid ht
  clear ho ht
  by_cases hlt : k < len
  case neg =>
   obtain rfl : len = k := by omega
   have hlt' : ¬ (len : Int) < len := by omega
   go_wp2
   go_ret
   exact ⟨a', c', rfl, by have := HO.out; rwa [← HL.out, List.take_length, HL.out] at this, HT.out⟩
  case pos =>
  have hr := HR.out.still HT.out
  obtain ⟨b, off, rfl⟩ := hr.some (by omega)
  have hk1 : k < bs.length := by rw [HL.out]; exact hlt
  obtain ⟨c0, c1, c2⟩ := hr.cells k hk1
  have hmk := (mayKB_iff _).1 (gmay_at HG.out k hk1)
  have HS := Lib.hid (rowsF_snoc bs n k hk1)
  have HLN : RowKit.Hid ((rowsF (bs.take k) n).length = k) := Lib.hid (by rw [rowsF_length, List.length_take]; omega)
  generalize bs[k] = f at *
  obtain ⟨fi, fa, fw⟩ := f
  obtain ⟨wt, rfl⟩ : ∃ wt : Nat, fw = (wt : Int) := ⟨fw.toNat, by have := hmk.2.1; simp only at this; omega⟩
  obtain ⟨hm1, hm2⟩ := hmk
  have HRW : RowKit.Hid ((rwF n ⟨fi, fa, wt⟩).cells = [.int .i64 fi, .int .i64 (wt : Nat), .int .i64 (offF fi n : Nat), .int .i64 (skF fi n : Nat)]) := Lib.hid rfl
  simp only at c0 c1 c2 hm1 hm2
  obtain ⟨W1, hW1⟩ : ∃ W, wr.alloc (.cells #[.int .i64 fi, .int .u32 fa, .int .i64 (wt : Nat)] 70) = W := ⟨_, rfl⟩
  have t1 : Touch wr W1 (fun _ => False) := hW1 ▸ (Touch.refl wr _).alloc _
  have g1 : W1.heap[wr.heap.size]? = some (.cells #[.int .i64 fi, .int .u32 fa, .int .i64 (wt : Nat)] 70 (0, 0)) := hW1 ▸ heap_alloc_new ..
  have hz1 : wr.heap.size < W1.heap.size := by rw [← hW1]; simp
  have HG1 := Lib.hid g1
  have HT1 := Lib.hid (HT.out.trans t1 (fun _ _ h => h))
  have HO1 := Lib.hid (OwnS.still HO.out t1)
  have HW1 := Lib.hid hW1
  have HZ1 := Lib.hid hz1
  have HI : RowKit.Hid (∀ W, Calls Tryz.prog 101 #[.int .i64 fi, .int .i64 n] W fun e w' => e = .returned (.tuple #[.int .i64 (offF fi n : Nat), .int .i64 (skF fi n : Nat)]) ∧ Touch W w' (fun _ => False)) := Lib.hid (fun W => row_any fi n W HP.out ⟨by omega, by omega⟩)
  have hlI : (k : Int) < len := by omega
  generalize offF fi n = o1 at *
  generalize skF fi n = s1 at *
  clear hr t1 g1 hz1 hW1
  go_wp2_with fail
  rw [HW1.out]
  refine (HI.out W1).mono ?_
  rintro e w4 ⟨rfl, t4⟩
  have g4 := t4.keeps HG1.out (fun h => h)
  have x0 : w4.cell? ⟨wr.heap.size, 0, none⟩ = some (.int .i64 fi) := cell_of_cells g4 0
  have x2 : w4.cell? ⟨wr.heap.size, 2, none⟩ = some (.int .i64 (wt : Nat)) := cell_of_cells g4 2
  have t5 := (Touch.refl w4 (fun _ => False)).alloc (.cells #[.int .i64 fi, .int .i64 (wt : Nat), .int .i64 (o1 : Nat), .int .i64 (s1 : Nat)] 165)
  have HT5 := Lib.hid ((HT1.out.trans t4 (fun _ _ h => h)).trans t5 (fun _ _ h => h))
  have HO5 := Lib.hid (OwnS.still (OwnS.still HO1.out t4) t5)
  have hown : (w4.alloc (.cells #[.int .i64 fi, .int .i64 (wt : Nat), .int .i64 (o1 : Nat), .int .i64 (s1 : Nat)] 165)).ownsRow w.heap.size 165 4 (.slice a' k c') k ((rowsF (bs.take k) n).map Rw.cells).flatten := by
   have := HO5.out.own
   rwa [List.length_map, HLN.out] at this
  have HOWN := Lib.hid hown
  have HQ := Lib.hid (news_of (heap_alloc_new w4 (.cells #[.int .i64 fi, .int .i64 (wt : Nat), .int .i64 (o1 : Nat), .int .i64 (s1 : Nat)] 165)))
  clear hown t4 t5 g4
  go_wp2_with (at_builtin; (with_reducible refine wp_appR HOWN.out 140 Tryz.underlying140 _ 32 HII.out rfl (by decide) ⟨w4.heap.size, 0, none⟩ 1 1 _ rfl HQ.out (by simp [Value.oneCell']) (by simp only [maxLen]; omega) (by omega) (HT5.out.under (Nat.le_refl _)) (Nat.le_refl _) HT5.out.size rfl _ _ rfl rfl rfl ?_); intro a4 c4 w6 ho4 hg4 hb4 hp4; have HO4 := Lib.hid ho4; have HT4 := Lib.hid (Touch.ofBelow (S := fun _ => False) hb4 (fun k h1 h2 => by omega)); clear ho4 hg4 hb4 hp4)
  have HO6 : RowKit.Hid (OwnW w6 w.heap.size (.slice a4 (k + 1) c4) (rowsF (bs.take (k + 1)) n)) := Lib.hid (by
   rw [HS.out]
   unfold OwnW
   rw [List.map_append, List.map_cons, List.map_nil, HRW.out]
   refine HO5.out.add (L2 := [[.int .i64 fi, .int .i64 (wt : Nat), .int .i64 (o1 : Nat), .int .i64 (s1 : Nat)]]) (by simp) ?_
   have := HO4.out
   rw [List.length_map, HLN.out]
   simpa using this)
  exact ⟨⟨k + 1, a4, c4, hlt, by go_num, rfl, HO6.out, HT4.out⟩, by simp [intOf]; omega⟩
def tabF (bs : List BkD) (n : Nat) : List Int := if bs.length = 0 ∨ gmay bs = false then List.replicate n (-1) else (stM (rowsF bs n) n n).1
theorem zI_list (n : Nat) : (madeCells (Value.int .i64 0).cells (n * 1)).toList = ((List.replicate n (0 : Int)).map cI).flatten := by
 rw [Nat.mul_one]; show (madeCells #[Value.int .i64 0] n).toList = _
 rw [toList_madeCells_one, List.map_replicate]
 induction n with
 | zero => rfl
 | succ n ih => rw [List.replicate_succ, List.replicate_succ, List.flatten_cons, ← ih]; rfl
theorem OwnT.made {w : World} {B n g : Nat} (h : w.ownsRow B 3 1 (.slice (some ⟨g, 0, none⟩) n n) n (madeCells (Value.int .i64 0).cells (n * 1)).toList) : OwnT w B (.slice (some ⟨g, 0, none⟩) n n) (List.replicate n 0) := by
 rw [zI_list] at h
 exact ⟨by simpa using h, by intro l hl; obtain ⟨x, _, rfl⟩ := List.mem_map.1 hl; rfl⟩
theorem set_fill (n k : Nat) (h : k < n) : (List.replicate k (-1 : Int) ++ List.replicate (n - k) 0).set k (-1) = List.replicate (k + 1) (-1) ++ List.replicate (n - (k + 1)) 0 := by
 rw [List.set_append_right _ _ (by simp), List.length_replicate, Nat.sub_self, show n - k = (n - (k + 1)) + 1 from by omega, List.replicate_succ, List.set_cons_zero, List.replicate_succ', List.append_assoc]; rfl
set_option maxRecDepth 20000 in
set_option maxHeartbeats 2000000 in
theorem table_any (a : Option Addr) (len cap n : Nat) (bs : List BkD) (w : World) (hp : Prm n) (hr : RowK w a len cap bs) :
 Calls Tryz.prog 37 #[.slice a len cap, .int .i64 n] w fun e w' => ∃ G, e = .returned (.slice (some ⟨G, 0, none⟩) n n) ∧ OwnT w' w.heap.size (.slice (some ⟨G, 0, none⟩) n n) (tabF bs n) ∧ Touch w w' (fun _ => False) := by
 obtain ⟨i0, hi, hz0, hz1, hz2⟩ := info_parts infoI
 have hl := hr.len
 have hcap := hr.hmax
 have hcap1 := hr.hcap
 have hn3 := hp.lo
 have hn251 := hp.hi
 have HR := Lib.hid hr
 have HL := Lib.hid hl
 have HP := Lib.hid hp
 have HM := Lib.hid (mayS_any n w hn3 hn251)
 rw [prm_may hp] at HM
 clear hr hl hp
 go_enter Tryz.func37, Tryz.ntmps37
 go_wp2_with (first
  | (go_at_call 36; (with_reducible refine HM.out.mono ?_); rintro e w9 ⟨rfl, rfl⟩)
  | (at_make; refine wpList_make_full _ rfl _ _ 40 rfl w.heap.size 3 i0 (.int .i64 0) 1 Tryz.underlying40 hi hz0 hz1 .i64 .i64 _ _ n rfl rfl rfl rfl (by rw [hz2]; omega) (by simp only [maxLen]; omega) (Nat.le_refl _) ?_; intro w1 own1 grown1))
 have HO0 := Lib.hid (OwnT.made own1)
 have HT0 := Lib.hid ((Touch.refl w (fun _ => False)).grown grown1 (by intro k hk; cases hk))
 clear own1 grown1
 obtain ⟨G, hG⟩ : ∃ G, w.heap.size = G := ⟨_, rfl⟩
 rw [hG] at HO0 ⊢
 have HGG := Lib.hid hG
 clear hG
 go_loopw [14] (fun i wr => ∃ k : Nat, k ≤ n ∧ i = .int .i64 k ∧ OwnT wr G (.slice (some ⟨G, 0, none⟩) n n) (List.replicate k (-1) ++ List.replicate (n - k) 0) ∧ Touch w wr (fun _ => False)) (fun i _ => n - (intOf i).toNat)
 case atStart => exact ⟨0, Nat.zero_le _, rfl, by simpa using HO0.out, HT0.out⟩
 case round =>
  obtain ⟨k, hk, rfl, ho, ht⟩ := hrel
  have HT := Lib.hid ht
  have HO := Lib.hid ho
  by_cases hlt : k < n
  case pos =>
   have hkI : (k : Int) < n := by omega
   have hkl : k < (List.replicate k (-1 : Int) ++ List.replicate (n - k) 0).length := by simp; omega
   have hc := ho.at_ k hkl
   have hf := ho.free k
   have hst := ho.stored k hkl (-1)
   rw [set_fill n k hlt] at hst
   have HS := Lib.hid hst
   have HT2 : RowKit.Hid (Touch w (wr.setCell ⟨G, k, none⟩ (.int .i64 (-1))) (fun _ => False)) := Lib.hid (ht.setCell _ _ (fun h => absurd h (by rw [HGG.out]; exact Nat.lt_irrefl _)))
   obtain ⟨y, hy⟩ : ∃ y, (List.replicate k (-1 : Int) ++ List.replicate (n - k) 0)[k] = y := ⟨_, rfl⟩
   rw [hy] at hc
   clear ho ht hst hy
   go_wp2
   exact ⟨⟨k + 1, hlt, by go_num, HS.out, HT2.out⟩, by simp [intOf]; omega⟩
  case neg =>
   obtain rfl : n = k := by omega
   have hlt' : ¬ (n : Int) < n := by omega
   have HO : RowKit.Hid (OwnT wr G (.slice (some ⟨G, 0, none⟩) n n) (List.replicate n (-1))) := Lib.hid (by simpa using HO.out)
   clear ho ht
   by_cases h0 : len = 0
   ·subst h0
    have HF : RowKit.Hid (tabF bs n = List.replicate n (-1)) := Lib.hid (by unfold tabF; rw [if_pos (.inl HL.out)])
    go_wp2
    go_ret
    exact ⟨G, rfl, by rw [HF.out, HGG.out]; exact HO.out, HT.out⟩
   ·have h0I : ¬ (len : Int) = 0 := by omega
    have h0B : ((len : Int) == 0) = false := beq_eq_false_iff_ne.2 h0I
    have HMM := Lib.hid (gmay_any a len cap bs wr (HR.out.still HT.out))
    by_cases hg : gmay bs = true
    ·rw [hg] at HMM
     have HF : RowKit.Hid (tabF bs n = (stM (rowsF bs n) n n).1) := Lib.hid (by unfold tabF; rw [if_neg (by rw [HL.out, hg]; simp [h0])])
     have HG := Lib.hid hg
     clear hg
     go_wp2_with (go_at_call 39; (with_reducible refine HMM.out.mono ?_); rintro e w9 ⟨rfl, t9⟩; have HT9 := Lib.hid (HT.out.trans t9 (fun _ _ h => h)); have HO9 := Lib.hid (HO.out.touch t9 (fun _ _ h => h)); clear t9)
     refine (rows_any a len cap n bs w9 HP.out (HR.out.still HT9.out) HG.out).mono ?_
     rintro e w8 ⟨a8, c8, rfl, hro, t8⟩
     obtain ⟨R, rfl⟩ : ∃ R, a8 = some ⟨R, 0, none⟩ := by
      rcases hro.own.2 with ⟨hv, _⟩ | ⟨g, cap', cur, hv, _⟩
      ·simp only [Value.slice.injEq] at hv; omega
      ·simp only [Value.slice.injEq] at hv; exact ⟨g, hv.1⟩
     have hGl := HO9.out.lt.2
     have hRl := hro.lt.1
     have HFL := Lib.hid (fill_any G w9.heap.size G R n n len c8 (rowsF bs n) w8 (rows_fine HP.out HG.out) (by rw [rowsF_length, HL.out]; omega) (HO9.out.touch t8 (fun _ _ h => h)) hro (by omega) (Nat.le_refl _))
     have HT8 := Lib.hid (HT9.out.trans t8 (fun _ _ h => h))
     have HNE : RowKit.Hid (∀ k, k < w.heap.size → (k = G ∨ k = R) → False) := Lib.hid (fun k hk h => by
      have := HGG.out
      have := HT9.out.size
      omega)
     clear hro t8 hGl hRl
     go_wp2_with (go_at_call 70; (with_reducible refine HFL.out.mono ?_); rintro e w7 ⟨rfl, h7, t7⟩; have HO7 := Lib.hid h7; have HT7 := Lib.hid (HT8.out.trans t7 (fun k hk h => HNE.out k hk h)); clear h7 t7)
     go_ret
     exact ⟨G, rfl, by rw [HF.out, HGG.out]; exact HO7.out, HT7.out⟩
    ·have hg : gmay bs = false := by simpa using hg
     rw [hg] at HMM
     have HF : RowKit.Hid (tabF bs n = List.replicate n (-1)) := Lib.hid (by unfold tabF; rw [if_pos (.inr hg)])
     clear hg
     go_wp2_with (go_at_call 39; (with_reducible refine HMM.out.mono ?_); rintro e w9 ⟨rfl, t9⟩; have HT9 := Lib.hid (HT.out.trans t9 (fun _ _ h => h)); have HO9 := Lib.hid (HO.out.touch t9 (fun _ _ h => h)); clear t9)
     go_ret
     exact ⟨G, rfl, by rw [HF.out, HGG.out]; exact HO9.out, HT9.out⟩
end Go.Proofs.YtpjdcgjoepjmcaaGreat
end
section
namespace Go.Proofs.YtpjdcgjoepjmcaaGreat
open Go.RowKit Go.Maps
theorem RowI.still {w w' : World} {a : Option Addr} {len cap : Nat} {zs : List Int} (h : RowI w a len cap zs) (t : Touch w w' (fun _ => False)) : RowI w' a len cap zs := by
 obtain ⟨h1, h2, h3, h4, h5⟩ := h
 refine ⟨h1, h2, h3, h4, ?_⟩
 rcases h5 with h5 | ⟨b, off, ha, hlt, hc⟩
 ·exact .inl h5
 ·exact .inr ⟨b, off, ha, Nat.lt_of_lt_of_le hlt t.size, fun i hi => (t.cell (p := ⟨b, off + i, none⟩) hlt (fun h => h)).trans (hc i hi)⟩
theorem OwnT.rowI {w : World} {B G n c : Nat} {T : List Int} (h : OwnT w B (.slice (some ⟨G, 0, none⟩) n c) T) (hT : ∀ z ∈ T, -9223372036854775808 ≤ z ∧ z ≤ 9223372036854775807) : RowI w (some ⟨G, 0, none⟩) n c T :=
 ⟨h.len, (OwnS.row' h).2.1.hcap, (OwnS.row' h).2.1.hmax, hT, .inr ⟨G, 0, rfl, h.lt.2, fun i hi => by rw [Nat.zero_add]; exact h.at_ i hi⟩⟩
theorem RowI.some {w : World} {a : Option Addr} {len cap : Nat} {zs : List Int} (h : RowI w a len cap zs) (h0 : 0 < len) : ∃ b off, a = .some ⟨b, off, none⟩ ∧ ∀ i, (h : i < zs.length) → w.cell? ⟨b, off + i, none⟩ = Option.some (.int .i64 zs[i]) := by
 rcases h.2.2.2.2 with h5 | ⟨b, off, ha, _, hc⟩
 ·omega
 ·exact ⟨b, off, ha, hc⟩
def key (x : Int) : Lit := .int .i64 x
def num (x : Int) : DataW Unit := .lit (.int .i64 x)
def shD (T : List Int) : Nat → DataW Unit
 | 0 => .map []
 | k + 1 => match T[k]? with
   | none => shD T k
   | some x => if 0 ≤ x then (shD T k).put (key x) (num ((T.take k).count x + 1 : Nat)) else shD T k
def Shr (w : World) (b : Nat) (T : List Int) (k : Nat) : Prop := w.ownsMap Tryz.prog 3 (plainElem (H := Unit) Tryz.prog 3) b k (shD T k)
def diffN : List Int → List Int → Nat
 | [], ys => ys.length
 | xs, [] => xs.length
 | x :: xs, y :: ys => (if x = y then 0 else 1) + diffN xs ys
end Go.Proofs.YtpjdcgjoepjmcaaGreat
end
section
namespace Go.Proofs.YtpjdcgjoepjmcaaGreat
open Go.RowKit Go.Maps
def bsA : List BkD := [⟨1, 0, 1⟩, ⟨2, 0, 1⟩]
theorem tab_small {bs : List BkD} {n : Nat} (hp : Prm n) : ∀ x ∈ tabF bs n, -1 ≤ x ∧ x ≤ 65535 := by
 intro x hx
 unfold tabF at hx
 split at hx
 ·simp at hx; omega
 ·rename_i hc
  have hg : gmay bs = true := by
   cases h : gmay bs with
   | true => rfl
   | false => exact absurd (.inr h) hc
  have hR := rows_fine hp hg
  have hI := inv_all hR (by rw [rowsF_length]; omega) n (Nat.le_refl _)
  rcases hI.mem x hx with h | ⟨r, hr, h⟩
  ·omega
  ·have := hR.each r hr; omega
theorem tab_len {bs : List BkD} {n : Nat} (hp : Prm n) : (tabF bs n).length = n := by
 unfold tabF
 split
 ·simp
 ·rename_i hc
  have hg : gmay bs = true := by
   cases h : gmay bs with
   | true => rfl
   | false => exact absurd (.inr h) hc
  exact (inv_all (rows_fine hp hg) (by rw [rowsF_length]; omega) n (Nat.le_refl _)).tl
theorem tab_i64 {bs : List BkD} {n : Nat} (hp : Prm n) : ∀ x ∈ tabF bs n, -9223372036854775808 ≤ x ∧ x ≤ 9223372036854775807 := fun x hx => by have := tab_small hp x hx; omega
end Go.Proofs.YtpjdcgjoepjmcaaGreat
end
section
namespace Go.Proofs.YtpjdcgjoepjmcaaGreat
open Go.RowKit
theorem has_nil (id : Int) (w : World) :
 Calls Tryz.prog 41 #[.nilFunc, .int .i64 id] w fun e w' => e = .returned (.bool false) ∧ w = w' := by
 have hnn : ∀ W : World, (binOp BinOp.neq 105 Value.nilFunc Value.nilFunc).run Tryz.prog W = .ok (.bool false) W := fun W => by kernel_rfl
 go_enter Tryz.func41, Tryz.ntmps41
 go_wp2_with fail
 go_ret
 exact ⟨rfl, rfl⟩
theorem catch_idle (p : Addr) (w : World) :
 CallsD Tryz.prog 103 #[.pointer (some p)] .returning w fun e u' w' => e = .returned (.tuple #[]) ∧ u' = .returning ∧ w' = w := by
 refine callsD_of_wpS Tryz.func103 rfl fun c₀ cs hu => ?_
 apply wpS_seq
 apply wpS_region
 simp [wpOpsS, go_sem, recoverD, hu, Tryz.ntmps103, Exit.thenS]
 refine wpS_cond (t := false) (by simp [Act.eval, Array.replicate]) ?_
 simp only [Bool.false_eq_true, if_false]
 refine wpS_of_wp (wp_skip ?_)
 cases c₀
 simp_all [bodyPostS, results, Tryz.results103]
theorem says_nil (id : Int) (w : World) :
 Calls Tryz.prog 75 #[.func (.func 41) #[.nilFunc] #[], .int .i64 id] w fun e w' => e = .returned (.bool false) ∧ Touch w w' (fun _ => False) := by
 have hmf : ∀ (fn : Fn) (first cap : Array Value) (w : World), (Instr.makeFunc fn first cap).run Tryz.prog w = .ok (.func fn first cap) w := fun _ _ _ _ => rfl
 have t1 := (Touch.refl w (fun _ => False)).alloc (.cells #[.bool false] 4)
 have hnf : ∀ W : World, (binOp BinOp.neq 45 (.func (.func 41) #[.nilFunc] #[]) Value.nilFunc).run Tryz.prog W = .ok (.bool true) W := fun W => by kernel_rfl
 go_enter_defers Tryz.func75, Tryz.ntmps75
 go_wp2_with (go_at_call 41; (with_reducible refine (has_nil _ _).mono ?_); rintro e w9 ⟨rfl, rfl⟩)
 refine leaves_cons (f := 103) (args := #[.pointer (some ⟨w.heap.size, 0, none⟩)]) (by simp) (by simp [go_sem]) ?_
 refine (catch_idle ⟨w.heap.size, 0, none⟩ _).mono ?_
 rintro e u' w'' ⟨rfl, rfl, rfl⟩
 simp [Leaves, settle, results, Tryz.results75, go_sem]
 exact t1
set_option maxRecDepth 20000 in
set_option maxHeartbeats 2000000 in
theorem without_nil (a : Option Addr) (len cap : Nat) (bs : List BkD) (w : World) (hr : RowK w a len cap bs) (hlen : len ≤ 1000) :
 Calls Tryz.prog 40 #[.slice a len cap, .func (.func 41) #[.nilFunc] #[]] w fun e w' => ∃ a' c', e = .returned (.slice a' len c') ∧ OwnK w' w.heap.size (.slice a' len c') bs ∧ Touch w w' (fun _ => False) := by
 have hl := hr.len
 have hcap := hr.hmax
 have hcap1 := hr.hcap
 have HR := Lib.hid hr
 have HL := Lib.hid hl
 have HII := Lib.hid infoBk
 clear hr hl
 go_enter Tryz.func40, Tryz.ntmps40
 go_wp2_with fail
 go_loopw [5, 10] (fun s i wr => ∃ (k : Nat) (a' : Option Addr) (c' : Nat), k ≤ len ∧ i = .int .i64 k ∧ s = .slice a' k c' ∧ OwnK wr w.heap.size (.slice a' k c') (bs.take k) ∧ Touch w wr (fun _ => False)) (fun _ i _ => len - (intOf i).toNat)
 case atStart => exact ⟨0, none, 0, Nat.zero_le _, rfl, rfl, OwnS.nil _ _ _ _, Touch.refl _ _⟩
 case round =>
  obtain ⟨k, a', c', hk, rfl, rfl, ho, ht⟩ := hrel
  have HO := Lib.hid ho
  have HT := Lib.hid ht
  clear ho ht
  by_cases hlt : k < len
  case neg =>
   obtain rfl : len = k := by omega
   have hlt' : ¬ (len : Int) < len := by omega
   go_wp2
   go_ret
   exact ⟨a', c', rfl, by have := HO.out; rwa [← HL.out, List.take_length, HL.out] at this, HT.out⟩
  case pos =>
  have hr := HR.out.still HT.out
  obtain ⟨b, off, rfl⟩ := hr.some (by omega)
  have hk1 : k < bs.length := by rw [HL.out]; exact hlt
  obtain ⟨c0, c1, c2⟩ := hr.cells k hk1
  have HS : RowKit.Hid (bs.take (k + 1) = bs.take k ++ [bs[k]]) := Lib.hid (List.take_succ_eq_append_getElem hk1)
  have HLN : RowKit.Hid ((bs.take k).length = k) := Lib.hid (by rw [List.length_take]; omega)
  generalize bs[k] = f at *
  obtain ⟨W2, hW2⟩ : ∃ W, wr.alloc (.cells #[.int .i64 f.id, .int .u32 f.addr, .int .i64 f.weight] 70) = W := ⟨_, rfl⟩
  have t1 : Touch wr W2 (fun _ => False) := hW2 ▸ (Touch.refl wr _).alloc _
  have g2 : W2.heap[wr.heap.size]? = some (.cells #[.int .i64 f.id, .int .u32 f.addr, .int .i64 f.weight] 70 (0, 0)) := hW2 ▸ heap_alloc_new ..
  have HG2 := Lib.hid g2
  have HT2 := Lib.hid (HT.out.trans t1 (fun _ _ h => h))
  have HO2 := Lib.hid (OwnS.still HO.out.toS t1)
  have HW2 := Lib.hid hW2
  have hlI : (k : Int) < len := by omega
  clear hr t1 g2 hW2
  go_wp2_with fail
  rw [HW2.out]
  refine (says_nil f.id W2).mono ?_
  rintro e w4 ⟨rfl, t4⟩
  have g4 := t4.keeps HG2.out (fun h => h)
  have x0 : w4.cell? ⟨wr.heap.size, 0, none⟩ = some (.int .i64 f.id) := cell_of_cells g4 0
  have x1 : w4.cell? ⟨wr.heap.size, 1, none⟩ = some (.int .u32 f.addr) := cell_of_cells g4 1
  have x2 : w4.cell? ⟨wr.heap.size, 2, none⟩ = some (.int .i64 f.weight) := cell_of_cells g4 2
  have t5 := (Touch.refl w4 (fun _ => False)).alloc (.cells #[.int .i64 f.id, .int .u32 f.addr, .int .i64 f.weight] 70)
  have HT5 := Lib.hid ((HT2.out.trans t4 (fun _ _ h => h)).trans t5 (fun _ _ h => h))
  have HO5 := Lib.hid (OwnS.still (OwnS.still HO2.out t4) t5)
  have hown : (w4.alloc (.cells #[.int .i64 f.id, .int .u32 f.addr, .int .i64 f.weight] 70)).ownsRow w.heap.size 70 3 (.slice a' k c') k ((bs.take k).map BkD.cells).flatten := by
   have := HO5.out.own
   rwa [List.length_map, HLN.out] at this
  have HOWN := Lib.hid hown
  have HQ := Lib.hid (news_of (heap_alloc_new w4 (.cells #[.int .i64 f.id, .int .u32 f.addr, .int .i64 f.weight] 70)))
  clear hown t4 t5 g4
  go_wp2_with (at_builtin; (with_reducible refine wp_appR HOWN.out 39 Tryz.underlying39 _ 24 HII.out rfl (by decide) ⟨w4.heap.size, 0, none⟩ 1 1 _ rfl HQ.out (by simp [Value.oneCell']) (by simp only [maxLen]; omega) (by omega) (HT5.out.under (Nat.le_refl _)) (Nat.le_refl _) HT5.out.size rfl _ _ rfl rfl rfl ?_); intro a4 c4 w6 ho4 hg4 hb4 hp4; have HO4 := Lib.hid ho4; have HT4 := Lib.hid (Touch.ofBelow (S := fun _ => False) hb4 (fun k h1 h2 => by omega)); clear ho4 hg4 hb4 hp4)
  have HO6 : RowKit.Hid (OwnK w6 w.heap.size (.slice a4 (k + 1) c4) (bs.take (k + 1))) := Lib.hid (by
   rw [HS.out]
   unfold OwnK
   rw [List.map_append, List.map_cons, List.map_nil]
   refine HO5.out.add (L2 := [f.cells]) (by simp [BkD.cells]) ?_
   have := HO4.out
   rw [List.length_map, HLN.out]
   simpa [BkD.cells] using this)
  exact ⟨⟨k + 1, a4, c4, hlt, by go_num, rfl, HO6.out, HT4.out⟩, by simp [intOf]; omega⟩
end Go.Proofs.YtpjdcgjoepjmcaaGreat
end
section
namespace Go.Proofs.YtpjdcgjoepjmcaaGreat
open Go.RowKit
set_option maxRecDepth 20000 in
set_option maxHeartbeats 4000000 in
theorem rplain_one (r : RecD) (a : Option Addr) (cap : Nat) (w : World) (hk : r.kind = 1) :
 Calls Tryz.prog 68 #[.agg (rcs r a cap)] w fun e w' => RecIs w w' (plainD r) e := by
 have hp : plainD r = ⟨1, r.t, r.fb, r.fg, r.fs, 0, [], 0, 0, 0⟩ := by unfold plainD; rw [if_pos hk]
 rw [hp]
 clear hp
 obtain ⟨kind, ⟨src, dst, proto, sport, dport⟩, fb, fg, fs, gen, bs, be, un, ct⟩ := r
 simp only at hk
 subst hk
 simp only [rcs, noT]
 go_enter Tryz.func68, Tryz.ntmps68
 go_wp2
 all_goals exact recEnd w _ _ ⟨1, ⟨src, dst, proto, sport, dport⟩, fb, fg, fs, 0, [], 0, 0, 0⟩ rfl rfl rfl rfl
set_option maxRecDepth 20000 in
set_option maxHeartbeats 4000000 in
theorem rplain_two (r : RecD) (a : Option Addr) (cap : Nat) (w : World) (hk : r.kind = 2) :
 Calls Tryz.prog 68 #[.agg (rcs r a cap)] w fun e w' => RecIs w w' (plainD r) e := by
 have hp : plainD r = ⟨2, r.t, 0, 0, 0, 0, [], 0, 0, 0⟩ := by unfold plainD; rw [if_neg (by omega), if_pos hk]
 rw [hp]
 clear hp
 obtain ⟨kind, ⟨src, dst, proto, sport, dport⟩, fb, fg, fs, gen, bs, be, un, ct⟩ := r
 simp only at hk
 subst hk
 simp only [rcs, noT]
 go_enter Tryz.func68, Tryz.ntmps68
 go_wp2
 all_goals exact recEnd w _ _ ⟨2, ⟨src, dst, proto, sport, dport⟩, 0, 0, 0, 0, [], 0, 0, 0⟩ rfl rfl rfl rfl
set_option maxRecDepth 20000 in
set_option maxHeartbeats 4000000 in
theorem rplain_four (r : RecD) (a : Option Addr) (cap : Nat) (w : World) (hk : r.kind = 4) :
 Calls Tryz.prog 68 #[.agg (rcs r a cap)] w fun e w' => RecIs w w' (plainD r) e := by
 have hp : plainD r = ⟨4, noT, 0, 0, 0, 0, [], r.be, r.un, 0⟩ := by unfold plainD; rw [if_neg (by omega), if_neg (by omega), if_neg (by omega), if_pos hk]
 rw [hp]
 clear hp
 obtain ⟨kind, ⟨src, dst, proto, sport, dport⟩, fb, fg, fs, gen, bs, be, un, ct⟩ := r
 simp only at hk
 subst hk
 simp only [rcs, noT]
 go_enter Tryz.func68, Tryz.ntmps68
 go_wp2
 go_region
 all_goals go_wp2
 all_goals exact recEndD w _ _ ⟨4, noT, 0, 0, 0, 0, [], be, un, 0⟩ rfl rfl rfl rfl
set_option maxRecDepth 20000 in
set_option maxHeartbeats 4000000 in
theorem rplain_five (r : RecD) (a : Option Addr) (cap : Nat) (w : World) (hk : r.kind = 5) :
 Calls Tryz.prog 68 #[.agg (rcs r a cap)] w fun e w' => RecIs w w' (plainD r) e := by
 have hp : plainD r = ⟨5, noT, 0, 0, 0, 0, [], r.be, 0, 0⟩ := by unfold plainD; rw [if_neg (by omega), if_neg (by omega), if_neg (by omega), if_neg (by omega), if_pos hk]
 rw [hp]
 clear hp
 obtain ⟨kind, ⟨src, dst, proto, sport, dport⟩, fb, fg, fs, gen, bs, be, un, ct⟩ := r
 simp only at hk
 subst hk
 simp only [rcs, noT]
 go_enter Tryz.func68, Tryz.ntmps68
 go_wp2
 all_goals exact recEnd w _ _ ⟨5, noT, 0, 0, 0, 0, [], be, 0, 0⟩ rfl rfl rfl rfl
set_option maxRecDepth 20000 in
set_option maxHeartbeats 4000000 in
theorem rplain_six (r : RecD) (a : Option Addr) (cap : Nat) (w : World) (hk : r.kind = 6) :
 Calls Tryz.prog 68 #[.agg (rcs r a cap)] w fun e w' => RecIs w w' (plainD r) e := by
 have hp : plainD r = ⟨6, noT, 0, 0, 0, 0, [], 0, 0, r.ct⟩ := by unfold plainD; rw [if_neg (by omega), if_neg (by omega), if_neg (by omega), if_neg (by omega), if_neg (by omega), if_pos hk]
 rw [hp]
 clear hp
 obtain ⟨kind, ⟨src, dst, proto, sport, dport⟩, fb, fg, fs, gen, bs, be, un, ct⟩ := r
 simp only at hk
 subst hk
 simp only [rcs, noT]
 go_enter Tryz.func68, Tryz.ntmps68
 go_wp2
 all_goals exact recEnd w _ _ ⟨6, noT, 0, 0, 0, 0, [], 0, 0, ct⟩ rfl rfl rfl rfl
set_option maxRecDepth 20000 in
set_option maxHeartbeats 4000000 in
theorem rplain_else (r : RecD) (a : Option Addr) (cap : Nat) (w : World) (h1 : r.kind ≠ 1) (h2 : r.kind ≠ 2) (h3 : r.kind ≠ 3) (h4 : r.kind ≠ 4) (h5 : r.kind ≠ 5) (h6 : r.kind ≠ 6) :
 Calls Tryz.prog 68 #[.agg (rcs r a cap)] w fun e w' => RecIs w w' (plainD r) e := by
 have hp : plainD r = ⟨r.kind, noT, 0, 0, 0, 0, [], 0, 0, 0⟩ := by unfold plainD; rw [if_neg h1, if_neg h2, if_neg h3, if_neg h4, if_neg h5, if_neg h6]
 rw [hp]
 clear hp
 obtain ⟨kind, ⟨src, dst, proto, sport, dport⟩, fb, fg, fs, gen, bs, be, un, ct⟩ := r
 simp only at h1 h2 h3 h4 h5 h6
 have b1 : (kind == 1) = false := beq_eq_false_iff_ne.2 h1
 have b2 : (kind == 2) = false := beq_eq_false_iff_ne.2 h2
 have b3 : (kind == 3) = false := beq_eq_false_iff_ne.2 h3
 have b4 : (kind == 4) = false := beq_eq_false_iff_ne.2 h4
 have b5 : (kind == 5) = false := beq_eq_false_iff_ne.2 h5
 have b6 : (kind == 6) = false := beq_eq_false_iff_ne.2 h6
 simp only [rcs, noT]
 go_enter Tryz.func68, Tryz.ntmps68
 go_wp2
 all_goals exact recEnd w _ _ ⟨kind, noT, 0, 0, 0, 0, [], 0, 0, 0⟩ rfl rfl rfl rfl
set_option maxRecDepth 20000 in
set_option maxHeartbeats 4000000 in
theorem rplain_three (r : RecD) (a : Option Addr) (cap : Nat) (w : World) (hk : r.kind = 3) (hr : RowK w a r.bs.length cap r.bs) (hlen : r.bs.length ≤ 100000) :
 Calls Tryz.prog 68 #[.agg (rcs r a cap)] w fun e w' => RecIs w w' (plainD r) e := by
 have hp : plainD r = ⟨3, noT, 0, 0, 0, r.gen, r.bs, 0, 0, 0⟩ := by unfold plainD; rw [if_neg (by omega), if_neg (by omega), if_pos hk]
 rw [hp]
 clear hp
 obtain ⟨kind, ⟨src, dst, proto, sport, dport⟩, fb, fg, fs, gen, bs, be, un, ct⟩ := r
 simp only at hk hr hlen
 subst hk
 simp only [rcs]
 have t3 := still3 w (.cells #[.int .i64 3, .int .u32 src, .int .u32 dst, .int .i64 proto, .int .i64 sport, .int .i64 dport, .int .i64 fb, .int .i64 fg, .int .i64 fs, .int .i64 gen, .slice a bs.length cap, .int .i64 be, .int .i64 un, .int .i64 ct] 85) (.cells #[.int .i64 0, .int .u32 0, .int .u32 0, .int .i64 0, .int .i64 0, .int .i64 0, .int .i64 0, .int .i64 0, .int .i64 0, .int .i64 0, .slice none 0 0, .int .i64 0, .int .i64 0, .int .i64 0] 85) (.cells #[.int .i64 3, .int .u32 0, .int .u32 0, .int .i64 0, .int .i64 0, .int .i64 0, .int .i64 0, .int .i64 0, .int .i64 0, .int .i64 gen, .slice none 0 0, .int .i64 0, .int .i64 0, .int .i64 0] 85)
 have HR := Lib.hid (hr.still t3)
 have HT := Lib.hid t3
 have HB := Lib.hid (t3.under (Nat.le_refl w.heap.size))
 have HB3 := Lib.hid (Below.refl (((w.alloc (.cells #[.int .i64 3, .int .u32 src, .int .u32 dst, .int .i64 proto, .int .i64 sport, .int .i64 dport, .int .i64 fb, .int .i64 fg, .int .i64 fs, .int .i64 gen, .slice a bs.length cap, .int .i64 be, .int .i64 un, .int .i64 ct] 85)).alloc (.cells #[.int .i64 0, .int .u32 0, .int .u32 0, .int .i64 0, .int .i64 0, .int .i64 0, .int .i64 0, .int .i64 0, .int .i64 0, .int .i64 0, .slice none 0 0, .int .i64 0, .int .i64 0, .int .i64 0] 85)).alloc (.cells #[.int .i64 3, .int .u32 0, .int .u32 0, .int .i64 0, .int .i64 0, .int .i64 0, .int .i64 0, .int .i64 0, .int .i64 0, .int .i64 gen, .slice none 0 0, .int .i64 0, .int .i64 0, .int .i64 0] 85)).heap.size (((w.alloc (.cells #[.int .i64 3, .int .u32 src, .int .u32 dst, .int .i64 proto, .int .i64 sport, .int .i64 dport, .int .i64 fb, .int .i64 fg, .int .i64 fs, .int .i64 gen, .slice a bs.length cap, .int .i64 be, .int .i64 un, .int .i64 ct] 85)).alloc (.cells #[.int .i64 0, .int .u32 0, .int .u32 0, .int .i64 0, .int .i64 0, .int .i64 0, .int .i64 0, .int .i64 0, .int .i64 0, .int .i64 0, .slice none 0 0, .int .i64 0, .int .i64 0, .int .i64 0] 85)).alloc (.cells #[.int .i64 3, .int .u32 0, .int .u32 0, .int .i64 0, .int .i64 0, .int .i64 0, .int .i64 0, .int .i64 0, .int .i64 0, .int .i64 gen, .slice none 0 0, .int .i64 0, .int .i64 0, .int .i64 0] 85)))
 have HM : RowKit.Hid ((((w.alloc (.cells #[.int .i64 3, .int .u32 src, .int .u32 dst, .int .i64 proto, .int .i64 sport, .int .i64 dport, .int .i64 fb, .int .i64 fg, .int .i64 fs, .int .i64 gen, .slice a bs.length cap, .int .i64 be, .int .i64 un, .int .i64 ct] 85)).alloc (.cells #[.int .i64 0, .int .u32 0, .int .u32 0, .int .i64 0, .int .i64 0, .int .i64 0, .int .i64 0, .int .i64 0, .int .i64 0, .int .i64 0, .slice none 0 0, .int .i64 0, .int .i64 0, .int .i64 0] 85)).alloc (.cells #[.int .i64 3, .int .u32 0, .int .u32 0, .int .i64 0, .int .i64 0, .int .i64 0, .int .i64 0, .int .i64 0, .int .i64 0, .int .i64 gen, .slice none 0 0, .int .i64 0, .int .i64 0, .int .i64 0] 85)).heap[w.heap.size + 1]? = some (.cells (rcs ⟨0, noT, 0, 0, 0, 0, [], 0, 0, 0⟩ none 0) 85 (0, 0))) := Lib.hid (heap_mid w _ _ _)
 have HP : RowKit.Hid ((((w.alloc (.cells #[.int .i64 3, .int .u32 src, .int .u32 dst, .int .i64 proto, .int .i64 sport, .int .i64 dport, .int .i64 fb, .int .i64 fg, .int .i64 fs, .int .i64 gen, .slice a bs.length cap, .int .i64 be, .int .i64 un, .int .i64 ct] 85)).alloc (.cells #[.int .i64 0, .int .u32 0, .int .u32 0, .int .i64 0, .int .i64 0, .int .i64 0, .int .i64 0, .int .i64 0, .int .i64 0, .int .i64 0, .slice none 0 0, .int .i64 0, .int .i64 0, .int .i64 0] 85)).alloc (.cells #[.int .i64 3, .int .u32 0, .int .u32 0, .int .i64 0, .int .i64 0, .int .i64 0, .int .i64 0, .int .i64 0, .int .i64 0, .int .i64 gen, .slice none 0 0, .int .i64 0, .int .i64 0, .int .i64 0] 85)).heap[w.heap.size + 2]? = some (.cells (rcs ⟨3, noT, 0, 0, 0, gen, [], 0, 0, 0⟩ none 0) 85 (0, 0))) := Lib.hid (heap_top w _ _ _)
 have HSZ : RowKit.Hid ((((w.alloc (.cells #[.int .i64 3, .int .u32 src, .int .u32 dst, .int .i64 proto, .int .i64 sport, .int .i64 dport, .int .i64 fb, .int .i64 fg, .int .i64 fs, .int .i64 gen, .slice a bs.length cap, .int .i64 be, .int .i64 un, .int .i64 ct] 85)).alloc (.cells #[.int .i64 0, .int .u32 0, .int .u32 0, .int .i64 0, .int .i64 0, .int .i64 0, .int .i64 0, .int .i64 0, .int .i64 0, .int .i64 0, .slice none 0 0, .int .i64 0, .int .i64 0, .int .i64 0] 85)).alloc (.cells #[.int .i64 3, .int .u32 0, .int .u32 0, .int .i64 0, .int .i64 0, .int .i64 0, .int .i64 0, .int .i64 0, .int .i64 0, .int .i64 gen, .slice none 0 0, .int .i64 0, .int .i64 0, .int .i64 0] 85)).heap.size = w.heap.size + 3) := Lib.hid (by simp)
 have HIF := Lib.hid infoBk
 have HIR := Lib.hid infoRec
 have HL := Lib.hid hr.len
 clear hr t3
 go_enter Tryz.func68, Tryz.ntmps68
 go_wp2_with (first
  | (at_builtin; (with_reducible refine wp_appS (OwnS.nil _ (((w.alloc (.cells #[.int .i64 3, .int .u32 src, .int .u32 dst, .int .i64 proto, .int .i64 sport, .int .i64 dport, .int .i64 fb, .int .i64 fg, .int .i64 fs, .int .i64 gen, .slice a bs.length cap, .int .i64 be, .int .i64 un, .int .i64 ct] 85)).alloc (.cells #[.int .i64 0, .int .u32 0, .int .u32 0, .int .i64 0, .int .i64 0, .int .i64 0, .int .i64 0, .int .i64 0, .int .i64 0, .int .i64 0, .slice none 0 0, .int .i64 0, .int .i64 0, .int .i64 0] 85)).alloc (.cells #[.int .i64 3, .int .u32 0, .int .u32 0, .int .i64 0, .int .i64 0, .int .i64 0, .int .i64 0, .int .i64 0, .int .i64 0, .int .i64 gen, .slice none 0 0, .int .i64 0, .int .i64 0, .int .i64 0] 85)).heap.size _ _) HR.out.toS (bk_one bs) 39 Tryz.underlying39 _ 24 HIF.out rfl (by decide) (by simp only [maxLen, List.length_nil]; omega) (by simp only [List.length_nil]; omega) HB3.out (Nat.le_refl _) (Nat.le_refl _) rfl _ _ rfl rfl rfl bs.length _ (Nat.zero_add _) (List.nil_append _) ?_); intro a4 c4 w4 ho4 hg4 hb4 hp4
     have t4 := Touch.ofBelow (S := fun _ => False) hb4 (fun k h1 h2 => (by omega))
     have hp0 := t4.keeps HP.out (fun h => h)
     have hm0 := t4.keeps HM.out (fun h => h)
     have p10 := cell_of_cells hp0 10
     have pf := free_of_cells hp0
     have hset := heap_setCell_same w4 (w.heap.size + 1 + 1) 10 _ _ (.slice a4 bs.length c4) hp0
     have tp : Touch w4 (w4.setCell ⟨w.heap.size + 1 + 1, 10, none⟩ (.slice a4 bs.length c4)) (fun k => k = w.heap.size + 1 + 1) := (Touch.refl w4 (fun k => k = w.heap.size + 1 + 1)).into 10 _
     have HPX : RowKit.Hid ((w4.setCell ⟨w.heap.size + 1 + 1, 10, none⟩ (.slice a4 bs.length c4)).heap[w.heap.size + 1 + 1]? = some (.cells (rcs ⟨3, noT, 0, 0, 0, gen, bs, 0, 0, 0⟩ a4 c4) 85 (0, 0))) := Lib.hid hset
     have HMX := Lib.hid (tp.keeps hm0 (fun h => (by omega)))
     have HTX := Lib.hid ((HT.out.trans t4 (fun _ _ h => h)).trans tp (fun k h1 h2 => (by omega)))
     have HO4 := Lib.hid ho4
     have TP := Lib.hid tp
     simp [rcs] at p10
     clear ho4 hg4 hb4 hp4 t4 hp0 hm0 hset tp)
  | (refine wpList_load_row rfl 85 (.tmp 3) rfl (w.heap.size + 1 + 1) rfl _ _ _ _ HPX.out Tryz.underlying85 rfl HIR.out ?_)
  | (refine store_row rfl 85 (.tmp 2) (.tmp 48) rfl (w.heap.size + 1) _ rfl rfl _ _ HMX.out HIR.out rfl rfl ?_))
 refine recRet ⟨3, noT, 0, 0, 0, gen, bs, 0, 0, 0⟩ (w.heap.size + 1) a4 c4 rfl rfl rfl (setRow_heap _ _ _ _ _ _ HMX.out) ?_ (HTX.out.setRow _ _ (fun h => absurd h (by omega)))
 have hlow : ∀ x, (Value.slice a4 bs.length c4).ownBlock = some x → w.heap.size + 3 ≤ x := fun x hx => by
  have h1 := (HO4.out.own.lt x hx).1
  have h2 := HSZ.out
  omega
 have ho5 : OwnK w4 _ (.slice a4 bs.length c4) bs := HO4.out
 exact ((ho5.touch TP.out (fun x hx h => by have := hlow x hx; omega)).rebase (base' := w.heap.size) (fun x hx => by have := hlow x hx; omega)).touch ((Touch.refl _ (fun k => k = w.heap.size + 1)).setRow _ _ (fun _ => rfl)) (fun x hx h => by have := hlow x hx; omega)
theorem rplain_any (r : RecD) (a : Option Addr) (cap : Nat) (w : World) (hr : RowK w a r.bs.length cap r.bs) (hlen : r.bs.length ≤ 100000) :
 Calls Tryz.prog 68 #[.agg (rcs r a cap)] w fun e w' => RecIs w w' (plainD r) e := by
 by_cases h1 : r.kind = 1
 ·exact rplain_one r a cap w h1
 by_cases h2 : r.kind = 2
 ·exact rplain_two r a cap w h2
 by_cases h3 : r.kind = 3
 ·exact rplain_three r a cap w h3 hr hlen
 by_cases h4 : r.kind = 4
 ·exact rplain_four r a cap w h4
 by_cases h5 : r.kind = 5
 ·exact rplain_five r a cap w h5
 by_cases h6 : r.kind = 6
 ·exact rplain_six r a cap w h6
 exact rplain_else r a cap w h1 h2 h3 h4 h5 h6
end Go.Proofs.YtpjdcgjoepjmcaaGreat
end
section
namespace Go.Proofs.YtpjdcgjoepjmcaaGreat
open Go.RowKit
def mayRB (r : RecD) : Bool :=
 if r.kind = 1 then mayTB r.t && idB r.fb && cntB r.fg && timB r.fs
 else if r.kind = 2 then mayTB r.t
 else if r.kind = 3 then cntB r.gen && decide (r.bs.length ≤ 16) && r.bs.all mayKB
 else if r.kind = 4 then idB r.be && timB r.un
 else if r.kind = 5 then idB r.be
 else if r.kind = 6 then cntB r.ct
 else false
end Go.Proofs.YtpjdcgjoepjmcaaGreat
end
section
namespace Go.Proofs.YtpjdcgjoepjmcaaGreat
open Go.RowKit
structure WrD (w : World) (base G : Nat) (D : Nat → Prop) (xs : List Nat) : Prop where
 hb : base ≤ w.heap.size
 dl : ∀ k, D k → k < w.heap.size
 dg : ¬ D G
 ex : ∃ v, WrB w base G v xs ∧ ∀ k, v.ownBlock = some k → ¬ D k
section
variable {w w' : World} {base G : Nat} {D : Nat → Prop} {xs zs : List Nat}
theorem WrD.put (h : WrD w base G D xs) : ∃ v, WrB w base G v xs ∧ ∀ w' zs, PutB base G v w zs w' → WrD w' base G D zs ∧ Touch w w' (fun k => base ≤ k ∧ ¬ D k) := by
 obtain ⟨hb, dl, dg, v, hw, hv⟩ := h
 refine ⟨v, hw, fun w' zs p => ?_⟩
 obtain ⟨v', h', ht, hn⟩ := p
 refine ⟨⟨Nat.le_trans hb ht.size, fun k hk => Nat.lt_of_lt_of_le (dl k hk) ht.size, dg, v', h', fun k hk hd => ?_⟩, ht.mono (fun k hk hs => ?_)⟩
 ·rcases hn k hk with h1 | h1
  ·exact hv k h1 hd
  ·have := dl k hd; omega
 ·rcases hs with rfl | hs
  ·exact ⟨hw.low, dg⟩
  ·exact ⟨(hw.foot.2 k hs).1, hv k hs⟩
theorem WrD.mono {D' : Nat → Prop} (h : WrD w base G D xs) (hd : ∀ k, D' k → D k) : WrD w base G D' xs :=
 ⟨h.hb, fun k hk => h.dl k (hd k hk), fun hk => h.dg (hd _ hk), h.ex.imp fun v hv => ⟨hv.1, fun k hk hk2 => hv.2 k hk (hd k hk2)⟩⟩
theorem WrD.more (h : WrD w base G D xs) (o : Obj) : WrD (w.alloc o) base G (fun k => D k ∨ k = w.heap.size) xs := by
 have t := (Touch.refl w (fun _ => False)).alloc o
 obtain ⟨v, hw, hv⟩ := h.ex
 have hG := hw.foot.1
 refine ⟨Nat.le_trans h.hb t.size, fun k hk => ?_, fun hk => ?_, v, hw.touch t (fun h => h) (fun _ _ h => h), fun k hk hk2 => ?_⟩
 ·rcases hk with hk | rfl
  ·exact Nat.lt_of_lt_of_le (h.dl k hk) t.size
  ·simp
 ·rcases hk with hk | hk
  ·exact h.dg hk
  ·omega
 ·rcases hk2 with hk2 | hk2
  ·exact hv k hk hk2
  ·have := (hw.foot.2 k hk).2; omega
theorem WrE.toD (h : WrE w base G xs) : WrD w base G (fun _ => False) xs := by
 obtain ⟨hb, v, hw⟩ := h
 exact ⟨hb, fun _ h => h.elim, fun h => h, v, hw, fun _ _ h => h⟩
theorem WrD.toE (h : WrD w base G D xs) : WrE w base G xs := by
 obtain ⟨hb, _, _, v, hw, _⟩ := h
 exact ⟨hb, v, hw⟩
end
def isI (n : Int) : Prop := -9223372036854775808 ≤ n ∧ n ≤ 9223372036854775807
theorem d_wU8 (base G : Nat) (D : Nat → Prop) (xs : List Nat) (n : Int) (w : World) (h : WrD w base G D xs) (hn : -9223372036854775808 ≤ n ∧ n ≤ 9223372036854775807) (hlen : xs.length ≤ 1000000) :
 Calls Tryz.prog 115 #[.pointer (some ⟨G, 0, none⟩), .int .i64 n] w fun e w' => e = .returned (.tuple #[]) ∧ WrD w' base G D (xs ++ beB 1 (u64N n)) ∧ Touch w w' (fun k => base ≤ k ∧ ¬ D k) := by
 obtain ⟨v, hw, hp⟩ := h.put
 refine (wU8_any G v xs base n w hw hn (by omega) h.hb).mono ?_
 rintro e w' ⟨rfl, p⟩
 exact ⟨rfl, hp _ _ p⟩
theorem d_wU16 (base G : Nat) (D : Nat → Prop) (xs : List Nat) (n : Int) (w : World) (h : WrD w base G D xs) (hn : -9223372036854775808 ≤ n ∧ n ≤ 9223372036854775807) (hlen : xs.length ≤ 1000000) :
 Calls Tryz.prog 116 #[.pointer (some ⟨G, 0, none⟩), .int .i64 n] w fun e w' => e = .returned (.tuple #[]) ∧ WrD w' base G D (xs ++ beB 2 (u64N n)) ∧ Touch w w' (fun k => base ≤ k ∧ ¬ D k) := by
 obtain ⟨v, hw, hp⟩ := h.put
 refine (wU16_any G v xs base n w hw hn (by omega) h.hb).mono ?_
 rintro e w' ⟨rfl, p⟩
 exact ⟨rfl, hp _ _ p⟩
theorem d_wU32 (base G : Nat) (D : Nat → Prop) (xs : List Nat) (n : Int) (w : World) (h : WrD w base G D xs) (hn : 0 ≤ n ∧ n ≤ 4294967295) (hlen : xs.length ≤ 1000000) :
 Calls Tryz.prog 117 #[.pointer (some ⟨G, 0, none⟩), .int .u32 n] w fun e w' => e = .returned (.tuple #[]) ∧ WrD w' base G D (xs ++ beB 4 (u64N n)) ∧ Touch w w' (fun k => base ≤ k ∧ ¬ D k) := by
 obtain ⟨v, hw, hp⟩ := h.put
 refine (wU32_any G v xs base n w hw hn (by omega) h.hb).mono ?_
 rintro e w' ⟨rfl, p⟩
 exact ⟨rfl, hp _ _ p⟩
def PutD (w : World) (base G : Nat) (D : Nat → Prop) (xs ys : List Nat) (e : Ending) (w' : World) : Prop :=
 e = .returned (.tuple #[]) ∧ WrD w' base G D (xs ++ ys) ∧ Touch w w' (fun k => base ≤ k ∧ ¬ D k)
def tbF (t : TupD) : List Nat := beB 4 (u64N t.src) ++ beB 4 (u64N t.dst) ++ beB 1 (u64N t.proto) ++ beB 2 (u64N t.sport) ++ beB 2 (u64N t.dport)
theorem tbF_length (t : TupD) : (tbF t).length = 13 := by simp [tbF, beB_length]
theorem tcells_of {w : World} {B : Nat} {t : TupD} {T : TypeId} (hb : w.heap[B]? = some (.cells (tcs t) T (0, 0))) :
 w.cell? ⟨B, 0, none⟩ = some (.int .u32 t.src) ∧ w.cell? ⟨B, 1, none⟩ = some (.int .u32 t.dst) ∧ w.cell? ⟨B, 2, none⟩ = some (.int .i64 t.proto) ∧ w.cell? ⟨B, 3, none⟩ = some (.int .i64 t.sport) ∧ w.cell? ⟨B, 4, none⟩ = some (.int .i64 t.dport) :=
 ⟨cell_of_cells hb 0, cell_of_cells hb 1, cell_of_cells hb 2, cell_of_cells hb 3, cell_of_cells hb 4⟩
set_option maxRecDepth 20000 in
set_option maxHeartbeats 4000000 in
theorem tWrite_any (base G : Nat) (D : Nat → Prop) (xs : List Nat) (t : TupD) (w : World) (h : WrD w base G D xs) (ok : TupOk t) (hlen : xs.length ≤ 900000) :
 Calls Tryz.prog 138 #[.pointer (some ⟨G, 0, none⟩), .agg (tcs t)] w (PutD w base G D xs (tbF t)) := by
 obtain ⟨src, dst, proto, sport, dport⟩ := t
 obtain ⟨o1, o2, o3, o4, o5⟩ := ok
 simp only [u32, i64] at o1 o2 o3 o4 o5
 obtain ⟨W1, hW1⟩ : ∃ W, w.alloc (.cells (tcs ⟨src, dst, proto, sport, dport⟩) 37) = W := ⟨_, rfl⟩
 have hw1 : WrD W1 base G (fun k => D k ∨ k = w.heap.size) xs := hW1 ▸ h.more _
 have hb1 : W1.heap[w.heap.size]? = some (.cells (tcs ⟨src, dst, proto, sport, dport⟩) 37 (0, 0)) := hW1 ▸ heap_alloc_new w _
 have HW := Lib.hid hw1
 have HB := Lib.hid hb1
 have HT : RowKit.Hid (Touch w W1 (fun k => base ≤ k ∧ ¬ D k)) := Lib.hid (hW1 ▸ (Touch.refl _ _).alloc _)
 have HL := Lib.hid hlen
 obtain ⟨c0, c1, c2, c3, c4⟩ := tcells_of hb1
 simp only at c0 c1 c2 c3 c4
 clear h hw1 hb1 hlen
 simp only [tcs] at hW1
 simp only [tcs]
 go_enter Tryz.func138, Tryz.ntmps138
 go_wp2_with (first
  | (go_at_call 117; (with_reducible refine (d_wU32 _ _ _ _ _ _ HW.out (by omega) (by have := HL.out; (try simp only [List.length_append, beB_length]); omega)).mono ?_); rintro e w2 ⟨rfl, h1, h2⟩; have HW := Lib.hid h1; have HB := Lib.hid (h2.keeps HB.out (fun h => h.2 (.inr rfl))); have HT := Lib.hid (HT.out.trans h2 (fun k hk h => ⟨h.1, fun hd => h.2 (.inl hd)⟩)); clear h1 h2 c0 c1 c2 c3 c4; obtain ⟨c0, c1, c2, c3, c4⟩ := tcells_of HB.out; simp only at c0 c1 c2 c3 c4)
  | (go_at_call 115; (with_reducible refine (d_wU8 _ _ _ _ _ _ HW.out (by omega) (by have := HL.out; (try simp only [List.length_append, beB_length]); omega)).mono ?_); rintro e w2 ⟨rfl, h1, h2⟩; have HW := Lib.hid h1; have HB := Lib.hid (h2.keeps HB.out (fun h => h.2 (.inr rfl))); have HT := Lib.hid (HT.out.trans h2 (fun k hk h => ⟨h.1, fun hd => h.2 (.inl hd)⟩)); clear h1 h2 c0 c1 c2 c3 c4; obtain ⟨c0, c1, c2, c3, c4⟩ := tcells_of HB.out; simp only at c0 c1 c2 c3 c4)
  | (go_at_call 116; (with_reducible refine (d_wU16 _ _ _ _ _ _ HW.out (by omega) (by have := HL.out; (try simp only [List.length_append, beB_length]); omega)).mono ?_); rintro e w2 ⟨rfl, h1, h2⟩; have HW := Lib.hid h1; have HB := Lib.hid (h2.keeps HB.out (fun h => h.2 (.inr rfl))); have HT := Lib.hid (HT.out.trans h2 (fun k hk h => ⟨h.1, fun hd => h.2 (.inl hd)⟩)); clear h1 h2 c0 c1 c2 c3 c4; obtain ⟨c0, c1, c2, c3, c4⟩ := tcells_of HB.out; simp only at c0 c1 c2 c3 c4))
 go_end0
 refine ⟨rfl, ?_, HT.out⟩
 have hw := HW.out.mono (D' := D) (fun k hk => .inl hk)
 simp only [List.append_assoc] at hw
 simpa only [tbF, List.append_assoc] using hw
end Go.Proofs.YtpjdcgjoepjmcaaGreat
end
section
namespace Go.Proofs.YtpjdcgjoepjmcaaGreat
open Go.RowKit
theorem infoBk3 : (Tryz.prog.info? 70).map (·.size) = some 3 := by kernel_rfl
def bkZ : BkD := ⟨0, 0, 0⟩
def bkV' (b : BkD) : Value := .agg #[.int .i64 b.id, .int .u32 b.addr, .int .i64 b.weight]
def hashF (t : TupD) : Nat := mixF 0 (tbF t)
set_option maxRecDepth 20000 in
set_option maxHeartbeats 2000000 in
theorem hash_any (t : TupD) (ok : TupOk t) (w : World) :
 Calls Tryz.prog 114 #[.agg (tcs t)] w fun e w' => e = .returned (.int .u32 (hashF t : Nat)) ∧ Touch w w' (fun _ => False) := by
 obtain ⟨W1, hW1⟩ : ∃ W, w.alloc (.cells (tcs t) 37) = W := ⟨_, rfl⟩
 have t1 : Touch w W1 (fun _ => False) := hW1 ▸ (Touch.refl w _).alloc _
 have HWE := Lib.hid (WrE.fresh W1).toD
 have t2 := t1.alloc (.cells #[.slice none 0 0] 176)
 have HT := Lib.hid t2
 have hs : W1.heap.size = w.heap.size + 1 := by rw [← hW1]; simp
 have HS := Lib.hid hs
 have g1 : W1.heap[w.heap.size]? = some (.cells (tcs t) 37 (0, 0)) := hW1 ▸ heap_alloc_new ..
 have HW1 := Lib.hid hW1
 have HOK := Lib.hid ok
 obtain ⟨t1', t2', t3', t4', t5'⟩ := t
 simp only [tcs] at g1 HW1 ⊢
 clear hW1 t1 t2 hs g1 ok
 go_enter Tryz.func114, Tryz.ntmps114
 go_wp2_with fail
 rw [HW1.out]
 rw [HS.out] at HWE
 refine (tWrite_any (w.heap.size + 1) (w.heap.size + 1) _ [] ⟨t1', t2', t3', t4', t5'⟩ _ HWE.out HOK.out (by simp)).mono ?_
 rintro e w3 ⟨rfl, hw3, t3⟩
 obtain ⟨xs, hxs⟩ : ∃ xs, [] ++ tbF ⟨t1', t2', t3', t4', t5'⟩ = xs := ⟨_, rfl⟩
 have hxl : xs.length ≤ 100 := by rw [← hxs]; simp [tbF, beB_length]
 rw [hxs] at hw3
 have HHF : RowKit.Hid (hashF ⟨t1', t2', t3', t4', t5'⟩ = mixF 0 xs) := Lib.hid (by rw [← hxs]; rfl)
 obtain ⟨n, hn⟩ : ∃ n, xs.length = n := ⟨_, rfl⟩
 have HT3 := Lib.hid (HT.out.trans t3 (fun k hk h => by omega))
 have HBY := Lib.hid (e_wBytes (w.heap.size + 1) (w.heap.size + 1) xs w3 hw3.toE (by omega) n hn)
 have HMX : RowKit.Hid (∀ (a : Option Addr) (c : Nat) (W : World), RowB W a n c xs → Calls Tryz.prog 135 #[.int .u32 0, .slice a n c] W fun e w' => e = .returned (.int .u32 (mixF 0 xs : Nat)) ∧ ∃ m, w' = W.drewN m) := Lib.hid (fun a c W h => mix_any 0 a n c xs W (by omega) h)
 clear hw3 t3 hxs hn HWE
 go_wp2_with (first
  | (go_at_call 118; (with_reducible refine HBY.out.mono ?_); rintro e w4 ⟨a4, c4, rfl, hf4⟩; have HR4 := Lib.hid hf4.row'; have HT4 := Lib.hid (HT3.out.trans hf4.2 (fun _ _ h => h)); clear hf4)
  | (go_at_call 135; have _u := HR4; (with_reducible refine (HMX.out _ _ _ HR4.out.2).mono ?_); rintro e w5 ⟨rfl, m5, rfl⟩))
 go_ret
 exact ⟨by rw [HHF.out]; rfl, HT4.out.drewN _⟩
theorem hashF_lt (t : TupD) : hashF t < 4294967296 := mixF_lt _ _
def findF (bs : List BkD) (id : Int) : Option BkD := bs.find? (fun b => b.id == id)
def findV (bs : List BkD) (id : Int) : Value := match findF bs id with
 | some b => .tuple #[bkV' b, .bool true]
 | none => .tuple #[bkV' bkZ, .bool false]
set_option maxRecDepth 20000 in
set_option maxHeartbeats 2000000 in
theorem find_any (a : Option Addr) (len cap : Nat) (bs : List BkD) (id : Int) (w : World) (hr : RowK w a len cap bs) :
 Calls Tryz.prog 65 #[.slice a len cap, .int .i64 id] w fun e w' => e = .returned (findV bs id) ∧ Touch w w' (fun _ => False) := by
 have hl := hr.len
 have hcap := hr.hmax
 have hcap1 := hr.hcap
 obtain ⟨W0, hW0⟩ : ∃ W, w.alloc (.cells #[.int .i64 0, .int .u32 0, .int .i64 0] 70) = W := ⟨_, rfl⟩
 have t0 : Touch w W0 (fun _ => False) := hW0 ▸ (Touch.refl w _).alloc _
 have g0 : W0.heap[w.heap.size]? = some (.cells #[.int .i64 0, .int .u32 0, .int .i64 0] 70 (0, 0)) := hW0 ▸ heap_alloc_new ..
 have HR := Lib.hid (hr.still t0)
 have HL := Lib.hid hl
 have HT0 := Lib.hid t0
 have HG0 := Lib.hid g0
 have HII := Lib.hid infoBk3
 have HW0 := Lib.hid hW0
 clear hr hl t0 g0 hW0
 go_enter Tryz.func65, Tryz.ntmps65
 go_upto_region 1 with (fail)
 rw [HW0.out]
 go_wp2_with fail
 go_loopw [10] (fun i wr => ∃ k : Nat, k ≤ len ∧ i = .int .i64 k ∧ findF (bs.take k) id = none ∧ Touch W0 wr (fun _ => False)) (fun i _ => len - (intOf i).toNat)
 case atStart => exact ⟨0, Nat.zero_le _, rfl, rfl, Touch.refl _ _⟩
 case round =>
  obtain ⟨k, hk, rfl, hf, ht⟩ := hrel
  have HT := Lib.hid ht
  have HF := Lib.hid hf
  have HG := Lib.hid (ht.keeps HG0.out (fun h => h))
  clear ht hf
  by_cases hlt : k < len
  case neg =>
   obtain rfl : len = k := by omega
   have hlt' : ¬ (len : Int) < len := by omega
   go_wp2_with (refine store_row rfl 70 (.tmp 4) (.tmp 20) rfl w.heap.size _ rfl rfl _ _ HG.out HII.out rfl rfl ?_)
   refine ret_row1 rfl rfl w.heap.size ?t ?cs ?fr _ rfl ?hg Tryz.underlying70 rfl ?hi _ rfl ?hR
   case hg => exact setRow_heap _ _ _ _ _ _ HG.out
   case hi => exact HII.out
   case hR =>
    refine ⟨?_, (HT0.out.trans HT.out (fun _ _ h => h)).setRow _ _ (fun h => absurd h (Nat.lt_irrefl _))⟩
    have e := HF.out
    rw [← HL.out, List.take_length] at e
    unfold findV
    rw [e]; rfl
  case pos =>
  have hr := HR.out.still HT.out
  obtain ⟨b, off, rfl⟩ := hr.some (by omega)
  have hk1 : k < bs.length := by rw [HL.out]; exact hlt
  obtain ⟨c0, c1, c2⟩ := hr.cells k hk1
  have HS1 : RowKit.Hid (findF (bs.take (k + 1)) id = if bs[k].id == id then some bs[k] else none) := Lib.hid (by
   rw [List.take_succ_eq_append_getElem hk1]
   unfold findF
   rw [List.find?_append]
   have := HF.out
   unfold findF at this
   rw [this]
   simp only [Option.none_or, List.find?_cons, List.find?_nil]
   split <;> simp_all)
  have HS2 : RowKit.Hid (bs[k].id = id → findF bs id = some bs[k]) := Lib.hid (fun h => by
   have key : bs.find? (fun b => b.id == id) = (bs.take (k + 1) ++ bs.drop (k + 1)).find? (fun b => b.id == id) := by rw [List.take_append_drop]
   have h2 := HS1.out
   unfold findF at h2 ⊢
   rw [key, List.find?_append, h2, if_pos (beq_iff_eq.2 h)]
   rfl)
  generalize bs[k] = f at *
  obtain ⟨W2, hW2⟩ : ∃ W, wr.alloc (.cells #[.int .i64 f.id, .int .u32 f.addr, .int .i64 f.weight] 70) = W := ⟨_, rfl⟩
  have t2 : Touch wr W2 (fun _ => False) := hW2 ▸ (Touch.refl wr _).alloc _
  have g2 : W2.heap[wr.heap.size]? = some (.cells #[.int .i64 f.id, .int .u32 f.addr, .int .i64 f.weight] 70 (0, 0)) := hW2 ▸ heap_alloc_new ..
  have HX0 : RowKit.Hid (W2.cell? ⟨wr.heap.size, 0, none⟩ = some (.int .i64 f.id)) := Lib.hid (cell_of_cells g2 0)
  have HX1 : RowKit.Hid (W2.cell? ⟨wr.heap.size, 1, none⟩ = some (.int .u32 f.addr)) := Lib.hid (cell_of_cells g2 1)
  have HX2 : RowKit.Hid (W2.cell? ⟨wr.heap.size, 2, none⟩ = some (.int .i64 f.weight)) := Lib.hid (cell_of_cells g2 2)
  have HT2 := Lib.hid (HT.out.trans t2 (fun _ _ h => h))
  have HG2 := Lib.hid (t2.keeps HG.out (fun h => h))
  have HW2 := Lib.hid hW2
  have hkI : (k : Int) < len := by omega
  clear hr t2 g2 hW2
  by_cases hid : f.id = id
  ·have HV := Lib.hid (HS2.out hid)
   subst hid
   clear HS1 HS2
   go_upto_region 4 with (fail)
   rw [HW2.out]
   have x0 := HX0.out
   have x1 := HX1.out
   have x2 := HX2.out
   go_wp2_with (refine store_row rfl 70 (.tmp 4) (.tmp 18) rfl w.heap.size _ rfl rfl _ _ HG2.out HII.out rfl rfl ?_)
   refine ret_row1 rfl rfl w.heap.size _ #[.int .i64 f.id, .int .u32 f.addr, .int .i64 f.weight] _ _ rfl (setRow_heap _ _ _ _ _ _ HG2.out) Tryz.underlying70 rfl HII.out (.bool true) rfl ?_
   refine ⟨?_, (HT0.out.trans HT2.out (fun _ _ h => h)).setRow _ _ (fun h => absurd h (Nat.lt_irrefl _))⟩
   unfold findV
   rw [HV.out]
   rfl
  ·have hb : (f.id == id) = false := beq_eq_false_iff_ne.2 hid
   go_upto_region 4 with (fail)
   rw [HW2.out]
   have x0 := HX0.out
   go_wp2_with fail
   exact ⟨⟨k + 1, hlt, by go_num, by rw [HS1.out]; simp [hid], HT2.out⟩, by simp [intOf]; omega⟩
end Go.Proofs.YtpjdcgjoepjmcaaGreat
end
