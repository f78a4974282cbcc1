/- The rows of a set of backends; the table. -/
import Derived.Test.YtfjnhaoiecndpaaMagR
set_option linter.unusedVariables false
namespace Go.Proofs.Ytfjnhaoiecndpaa
open Go.RowKit

theorem infoI : (Try.prog.info? 3).map (fun i => (i.zero, i.size, i.bytes)) = some (some (.int .i64 0), 1, 8) := by kernel_rfl
theorem infoRw : (Try.prog.info? 73).map (fun i => (i.zero, i.size, i.bytes)) = some (some (.agg #[.int .i64 0, .int .i64 0, .int .i64 0, .int .i64 0]), 4, 32) := by kernel_rfl
def rwF (n : Nat) (b : BkD) : Rw := ⟨b.id, b.weight.toNat, offF b.id n, skF b.id n⟩
def rowsF (bs : List BkD) (n : Nat) : List Rw := bs.map (rwF n)
theorem rowsF_length (bs : List BkD) (n : Nat) : (rowsF bs n).length = bs.length := by simp [rowsF]
theorem rowsF_snoc (bs : List BkD) (n k : Nat) (h : k < bs.length) : rowsF (bs.take (k + 1)) n = rowsF (bs.take k) n ++ [rwF n bs[k]] := by
  unfold rowsF; rw [List.take_succ_eq_append_getElem h, List.map_append]; rfl
theorem gmay_at {bs : List BkD} (h : gmay bs = true) (i : Nat) (hi : i < bs.length) : mayKB bs[i] = true := by
  have := ((gmay_iff bs).1 h).2 i hi
  unfold okAt at this
  rw [List.getElem?_eq_getElem hi] at this
  simp only [Bool.and_eq_true] at this
  exact this.1
theorem gmay_up {bs : List BkD} (h : gmay bs = true) : bs.Pairwise (fun a b => a.id < b.id) := by
  have hs : ∀ i (hi : i + 1 < bs.length), bs[i].id < bs[i + 1].id := fun i hi => by
    have := ((gmay_iff bs).1 h).2 (i + 1) hi
    rw [okAt_succ (List.getElem?_eq_getElem hi) (List.getElem?_eq_getElem (by omega))] at this
    simp only [Bool.and_eq_true, decide_eq_true_iff] at this
    exact this.2
  rw [List.pairwise_iff_getElem]
  intro i j hi hj hij
  induction j with
  | zero => omega
  | succ j ih =>
    have h1 := hs j hj
    rcases Nat.lt_or_ge i j with h9 | h9
    · have := ih (by omega) h9; omega
    · obtain rfl : i = j := by omega
      exact h1
theorem rows_fine {bs : List BkD} {n : Nat} (hp : Prm n) (h : gmay bs = true) : Rws (rowsF bs n) n := by
  refine ⟨hp, by rw [rowsF_length]; exact ((gmay_iff bs).1 h).1, fun r hr => ?_, ?_⟩
  · obtain ⟨b, hb, rfl⟩ := List.mem_map.1 hr
    obtain ⟨i, hi, rfl⟩ := List.getElem_of_mem hb
    have hm := (mayKB_iff _).1 (gmay_at h i hi)
    have h1 := hp.lo
    have h2 : offF bs[i].id n < n := Nat.mod_lt _ (by omega)
    have h3 : mixF 2 (id4 bs[i].id) % (n - 1) < n - 1 := Nat.mod_lt _ (by omega)
    refine ⟨hm.1.1, hm.1.2, ?_, ?_, h2, ?_, ?_⟩
    · show 1 ≤ bs[i].weight.toNat; omega
    · show bs[i].weight.toNat ≤ 10; omega
    · show 1 ≤ skF bs[i].id n; unfold skF; omega
    · show skF bs[i].id n < n; unfold skF; omega
  · unfold rowsF
    rw [List.pairwise_map]
    exact gmay_up h

set_option maxRecDepth 20000 in
set_option maxHeartbeats 2000000 in
theorem rows_any (a : Option Addr) (len cap n : Nat) (bs : List BkD) (w : World) (hp : Prm n) (hr : RowK w a len cap bs) (hg : gmay bs = true) :
    Calls Try.prog 35 #[.slice a len cap, .int .i64 n] w fun e w' => ∃ a' c', e = .returned (.slice a' len c') ∧ OwnW w' w.heap.size (.slice a' len c') (rowsF bs n) ∧ Touch w w' (fun _ => False) := by
  have hl := hr.len
  have hcap := hr.hmax
  have hcap1 := hr.hcap
  have h16 : len ≤ 16 := by have := ((gmay_iff bs).1 hg).1; omega
  have HR := Lib.hid hr
  have HL := Lib.hid hl
  have HG := Lib.hid hg
  have HP := Lib.hid hp
  have HII := Lib.hid infoRw
  clear hr hl hg
  go_enter Try.func35, Try.ntmps35
  go_wp2_with fail
  go_loopw [5, 12] (fun s i wr => ∃ (k : Nat) (a' : Option Addr) (c' : Nat), k ≤ len ∧ i = .int .i64 k ∧ s = .slice a' k c' ∧ OwnW wr w.heap.size (.slice a' k c') (rowsF (bs.take k) n) ∧ Touch w wr (fun _ => False)) (fun _ i _ => len - (intOf i).toNat)
  case atStart => exact ⟨0, none, 0, Nat.zero_le _, rfl, rfl, by simp [rowsF]; exact OwnS.nil _ _ _ _, Touch.refl _ _⟩
  case round =>
    obtain ⟨k, a', c', hk, rfl, rfl, ho, ht⟩ := hrel
    have HO := Lib.hid ho
    have HT := Lib.hid ht
    clear ho ht
    by_cases hlt : k < len
    case neg =>
      obtain rfl : len = k := by omega
      have hlt' : ¬ (len : Int) < len := by omega
      go_wp2
      go_ret
      exact ⟨a', c', rfl, by have := HO.out; rwa [← HL.out, List.take_length, HL.out] at this, HT.out⟩
    case pos =>
    have hr := HR.out.still HT.out
    obtain ⟨b, off, rfl⟩ := hr.some (by omega)
    have hk1 : k < bs.length := by rw [HL.out]; exact hlt
    obtain ⟨c0, c1, c2⟩ := hr.cells k hk1
    have hmk := (mayKB_iff _).1 (gmay_at HG.out k hk1)
    have HS := Lib.hid (rowsF_snoc bs n k hk1)
    have HLN : RowKit.Hid ((rowsF (bs.take k) n).length = k) := Lib.hid (by rw [rowsF_length, List.length_take]; omega)
    generalize bs[k] = f at *
    obtain ⟨fi, fa, fw⟩ := f
    obtain ⟨wt, rfl⟩ : ∃ wt : Nat, fw = (wt : Int) := ⟨fw.toNat, by have := hmk.2.1; simp only at this; omega⟩
    obtain ⟨hm1, hm2⟩ := hmk
    have HRW : RowKit.Hid ((rwF n ⟨fi, fa, wt⟩).cells = [.int .i64 fi, .int .i64 (wt : Nat), .int .i64 (offF fi n : Nat), .int .i64 (skF fi n : Nat)]) := Lib.hid rfl
    simp only at c0 c1 c2 hm1 hm2
    obtain ⟨W1, hW1⟩ : ∃ W, wr.alloc (.cells #[.int .i64 fi, .int .u32 fa, .int .i64 (wt : Nat)] 28) = W := ⟨_, rfl⟩
    have t1 : Touch wr W1 (fun _ => False) := hW1 ▸ (Touch.refl wr _).alloc _
    have g1 : W1.heap[wr.heap.size]? = some (.cells #[.int .i64 fi, .int .u32 fa, .int .i64 (wt : Nat)] 28 (0, 0)) := hW1 ▸ heap_alloc_new ..
    have hz1 : wr.heap.size < W1.heap.size := by rw [← hW1]; simp
    have HG1 := Lib.hid g1
    have HT1 := Lib.hid (HT.out.trans t1 (fun _ _ h => h))
    have HO1 := Lib.hid (OwnS.still HO.out t1)
    have HW1 := Lib.hid hW1
    have HZ1 := Lib.hid hz1
    have HI : RowKit.Hid (∀ W, Calls Try.prog 43 #[.int .i64 fi, .int .i64 n] W fun e w' => e = .returned (.tuple #[.int .i64 (offF fi n : Nat), .int .i64 (skF fi n : Nat)]) ∧ Touch W w' (fun _ => False)) := Lib.hid (fun W => row_any fi n W HP.out ⟨by omega, by omega⟩)
    have hlI : (k : Int) < len := by omega
    generalize offF fi n = o1 at *
    generalize skF fi n = s1 at *
    clear hr t1 g1 hz1 hW1
    go_wp2_with fail
    rw [HW1.out]
    refine (HI.out W1).mono ?_
    rintro e w4 ⟨rfl, t4⟩
    have g4 := t4.keeps HG1.out (fun h => h)
    have x0 : w4.cell? ⟨wr.heap.size, 0, none⟩ = some (.int .i64 fi) := cell_of_cells g4 0
    have x2 : w4.cell? ⟨wr.heap.size, 2, none⟩ = some (.int .i64 (wt : Nat)) := cell_of_cells g4 2
    have t5 := (Touch.refl w4 (fun _ => False)).alloc (.cells #[.int .i64 fi, .int .i64 (wt : Nat), .int .i64 (o1 : Nat), .int .i64 (s1 : Nat)] 73)
    have HT5 := Lib.hid ((HT1.out.trans t4 (fun _ _ h => h)).trans t5 (fun _ _ h => h))
    have HO5 := Lib.hid (OwnS.still (OwnS.still HO1.out t4) t5)
    have hown : (w4.alloc (.cells #[.int .i64 fi, .int .i64 (wt : Nat), .int .i64 (o1 : Nat), .int .i64 (s1 : Nat)] 73)).ownsRow w.heap.size 73 4 (.slice a' k c') k ((rowsF (bs.take k) n).map Rw.cells).flatten := by
      have := HO5.out.own
      rwa [List.length_map, HLN.out] at this
    have HOWN := Lib.hid hown
    have HQ := Lib.hid (news_of (heap_alloc_new w4 (.cells #[.int .i64 fi, .int .i64 (wt : Nat), .int .i64 (o1 : Nat), .int .i64 (s1 : Nat)] 73)))
    clear hown t4 t5 g4
    go_wp2_with (at_builtin; (with_reducible refine wp_appR HOWN.out 65 Try.underlying65 _ 32 HII.out rfl (by decide) ⟨w4.heap.size, 0, none⟩ 1 1 _ rfl HQ.out (by simp [Value.oneCell']) (by simp only [maxLen]; omega) (by omega) (HT5.out.under (Nat.le_refl _)) (Nat.le_refl _) HT5.out.size rfl _ _ rfl rfl rfl ?_); intro a4 c4 w6 ho4 hg4 hb4 hp4; have HO4 := Lib.hid ho4; have HT4 := Lib.hid (Touch.ofBelow (S := fun _ => False) hb4 (fun k h1 h2 => by omega)); clear ho4 hg4 hb4 hp4)
    have HO6 : RowKit.Hid (OwnW w6 w.heap.size (.slice a4 (k + 1) c4) (rowsF (bs.take (k + 1)) n)) := Lib.hid (by
      rw [HS.out]
      unfold OwnW
      rw [List.map_append, List.map_cons, List.map_nil, HRW.out]
      refine HO5.out.add (L2 := [[.int .i64 fi, .int .i64 (wt : Nat), .int .i64 (o1 : Nat), .int .i64 (s1 : Nat)]]) (by simp) ?_
      have := HO4.out
      rw [List.length_map, HLN.out]
      simpa using this)
    exact ⟨⟨k + 1, a4, c4, hlt, by go_num, rfl, HO6.out, HT4.out⟩, by simp [intOf]; omega⟩

/-- The table's slots. -/
def tabF (bs : List BkD) (n : Nat) : List Int := if bs.length = 0 ∨ gmay bs = false then List.replicate n (-1) else (stM (rowsF bs n) n n).1
theorem zI_list (n : Nat) : (madeCells (Value.int .i64 0).cells (n * 1)).toList = ((List.replicate n (0 : Int)).map cI).flatten := by
  rw [Nat.mul_one]; show (madeCells #[Value.int .i64 0] n).toList = _
  rw [toList_madeCells_one, List.map_replicate]
  induction n with
  | zero => rfl
  | succ n ih => rw [List.replicate_succ, List.replicate_succ, List.flatten_cons, ← ih]; rfl
theorem OwnT.made {w : World} {B n g : Nat} (h : w.ownsRow B 3 1 (.slice (some ⟨g, 0, none⟩) n n) n (madeCells (Value.int .i64 0).cells (n * 1)).toList) : OwnT w B (.slice (some ⟨g, 0, none⟩) n n) (List.replicate n 0) := by
  rw [zI_list] at h
  exact ⟨by simpa using h, by intro l hl; obtain ⟨x, _, rfl⟩ := List.mem_map.1 hl; rfl⟩
theorem set_fill (n k : Nat) (h : k < n) : (List.replicate k (-1 : Int) ++ List.replicate (n - k) 0).set k (-1) = List.replicate (k + 1) (-1) ++ List.replicate (n - (k + 1)) 0 := by
  rw [List.set_append_right _ _ (by simp), List.length_replicate, Nat.sub_self, show n - k = (n - (k + 1)) + 1 from by omega, List.replicate_succ, List.set_cons_zero, List.replicate_succ', List.append_assoc]; rfl

set_option maxRecDepth 20000 in
set_option maxHeartbeats 2000000 in
theorem table_any (a : Option Addr) (len cap n : Nat) (bs : List BkD) (w : World) (hp : Prm n) (hr : RowK w a len cap bs) :
    Calls Try.prog 22 #[.slice a len cap, .int .i64 n] w fun e w' => ∃ G, e = .returned (.slice (some ⟨G, 0, none⟩) n n) ∧ OwnT w' w.heap.size (.slice (some ⟨G, 0, none⟩) n n) (tabF bs n) ∧ Touch w w' (fun _ => False) := by
  obtain ⟨i0, hi, hz0, hz1, hz2⟩ := info_parts infoI
  have hl := hr.len
  have hcap := hr.hmax
  have hcap1 := hr.hcap
  have hn3 := hp.lo
  have hn251 := hp.hi
  have HR := Lib.hid hr
  have HL := Lib.hid hl
  have HP := Lib.hid hp
  have HM := Lib.hid (mayS_any n w hn3 hn251)
  rw [prm_may hp] at HM
  clear hr hl hp
  go_enter Try.func22, Try.ntmps22
  go_wp2_with (first
    | (go_at_call 20; (with_reducible refine HM.out.mono ?_); rintro e w9 ⟨rfl, rfl⟩)
    | (at_make; refine wpList_make_full _ rfl _ _ 34 rfl w.heap.size 3 i0 (.int .i64 0) 1 Try.underlying34 hi hz0 hz1 .i64 .i64 _ _ n rfl rfl rfl rfl (by rw [hz2]; omega) (by simp only [maxLen]; omega) (Nat.le_refl _) ?_; intro w1 own1 grown1))
  have HO0 := Lib.hid (OwnT.made own1)
  have HT0 := Lib.hid ((Touch.refl w (fun _ => False)).grown grown1 (by intro k hk; cases hk))
  clear own1 grown1
  obtain ⟨G, hG⟩ : ∃ G, w.heap.size = G := ⟨_, rfl⟩
  rw [hG] at HO0 ⊢
  have HGG := Lib.hid hG
  clear hG
  go_loopw [14] (fun i wr => ∃ k : Nat, k ≤ n ∧ i = .int .i64 k ∧ OwnT wr G (.slice (some ⟨G, 0, none⟩) n n) (List.replicate k (-1) ++ List.replicate (n - k) 0) ∧ Touch w wr (fun _ => False)) (fun i _ => n - (intOf i).toNat)
  case atStart => exact ⟨0, Nat.zero_le _, rfl, by simpa using HO0.out, HT0.out⟩
  case round =>
    obtain ⟨k, hk, rfl, ho, ht⟩ := hrel
    have HT := Lib.hid ht
    have HO := Lib.hid ho
    by_cases hlt : k < n
    case pos =>
      have hkI : (k : Int) < n := by omega
      have hkl : k < (List.replicate k (-1 : Int) ++ List.replicate (n - k) 0).length := by simp; omega
      have hc := ho.at_ k hkl
      have hf := ho.free k
      have hst := ho.stored k hkl (-1)
      rw [set_fill n k hlt] at hst
      have HS := Lib.hid hst
      have HT2 : RowKit.Hid (Touch w (wr.setCell ⟨G, k, none⟩ (.int .i64 (-1))) (fun _ => False)) := Lib.hid (ht.setCell _ _ (fun h => absurd h (by rw [HGG.out]; exact Nat.lt_irrefl _)))
      obtain ⟨y, hy⟩ : ∃ y, (List.replicate k (-1 : Int) ++ List.replicate (n - k) 0)[k] = y := ⟨_, rfl⟩
      rw [hy] at hc
      clear ho ht hst hy
      go_wp2
      exact ⟨⟨k + 1, hlt, by go_num, HS.out, HT2.out⟩, by simp [intOf]; omega⟩
    case neg =>
      obtain rfl : n = k := by omega
      have hlt' : ¬ (n : Int) < n := by omega
      have HO : RowKit.Hid (OwnT wr G (.slice (some ⟨G, 0, none⟩) n n) (List.replicate n (-1))) := Lib.hid (by simpa using HO.out)
      clear ho ht
      by_cases h0 : len = 0
      · subst h0
        have HF : RowKit.Hid (tabF bs n = List.replicate n (-1)) := Lib.hid (by unfold tabF; rw [if_pos (.inl HL.out)])
        go_wp2
        go_ret
        exact ⟨G, rfl, by rw [HF.out, HGG.out]; exact HO.out, HT.out⟩
      · have h0I : ¬ (len : Int) = 0 := by omega
        have h0B : ((len : Int) == 0) = false := beq_eq_false_iff_ne.2 h0I
        have HMM := Lib.hid (gmay_any a len cap bs wr (HR.out.still HT.out))
        by_cases hg : gmay bs = true
        · rw [hg] at HMM
          have HF : RowKit.Hid (tabF bs n = (stM (rowsF bs n) n n).1) := Lib.hid (by unfold tabF; rw [if_neg (by rw [HL.out, hg]; simp [h0])])
          have HG := Lib.hid hg
          clear hg
          go_wp2_with (go_at_call 21; (with_reducible refine HMM.out.mono ?_); rintro e w9 ⟨rfl, t9⟩; have HT9 := Lib.hid (HT.out.trans t9 (fun _ _ h => h)); have HO9 := Lib.hid (HO.out.touch t9 (fun _ _ h => h)); clear t9)
          refine (rows_any a len cap n bs w9 HP.out (HR.out.still HT9.out) HG.out).mono ?_
          rintro e w8 ⟨a8, c8, rfl, hro, t8⟩
          obtain ⟨R, rfl⟩ : ∃ R, a8 = some ⟨R, 0, none⟩ := by
            rcases hro.own.2 with ⟨hv, _⟩ | ⟨g, cap', cur, hv, _⟩
            · simp only [Value.slice.injEq] at hv; omega
            · simp only [Value.slice.injEq] at hv; exact ⟨g, hv.1⟩
          have hGl := HO9.out.lt.2
          have hRl := hro.lt.1
          have HFL := Lib.hid (fill_any G w9.heap.size G R n n len c8 (rowsF bs n) w8 (rows_fine HP.out HG.out) (by rw [rowsF_length, HL.out]; omega) (HO9.out.touch t8 (fun _ _ h => h)) hro (by omega) (Nat.le_refl _))
          have HT8 := Lib.hid (HT9.out.trans t8 (fun _ _ h => h))
          have HNE : RowKit.Hid (∀ k, k < w.heap.size → (k = G ∨ k = R) → False) := Lib.hid (fun k hk h => by
            have := HGG.out
            have := HT9.out.size
            omega)
          clear hro t8 hGl hRl
          go_wp2_with (go_at_call 34; (with_reducible refine HFL.out.mono ?_); rintro e w7 ⟨rfl, h7, t7⟩; have HO7 := Lib.hid h7; have HT7 := Lib.hid (HT8.out.trans t7 (fun k hk h => HNE.out k hk h)); clear h7 t7)
          go_ret
          exact ⟨G, rfl, by rw [HF.out, HGG.out]; exact HO7.out, HT7.out⟩
        · have hg : gmay bs = false := by simpa using hg
          rw [hg] at HMM
          have HF : RowKit.Hid (tabF bs n = List.replicate n (-1)) := Lib.hid (by unfold tabF; rw [if_pos (.inr hg)])
          clear hg
          go_wp2_with (go_at_call 21; (with_reducible refine HMM.out.mono ?_); rintro e w9 ⟨rfl, t9⟩; have HT9 := Lib.hid (HT.out.trans t9 (fun _ _ h => h)); have HO9 := Lib.hid (HO.out.touch t9 (fun _ _ h => h)); clear t9)
          go_ret
          exact ⟨G, rfl, by rw [HF.out, HGG.out]; exact HO9.out, HT9.out⟩
end Go.Proofs.Ytfjnhaoiecndpaa
