/- Sort: by number, of each number the last. -/
import Derived.Test.YtgpchkobjgglhaaGreatDoorGnMetZ
import Derived.Test.YtgpchkobjgglhaaGreatDoorGCZ
import Derived.Test.YtgpchkobjgglhaaGreatDoorIterK
import Derived.Shelf.SlSortCmp.NoneTotal
import Derived.Carry
set_option linter.unusedVariables false
set_option linter.unusedSimpArgs false
namespace Go.Proofs.YtgpchkobjgglhaaGreatDoor
open Go.RowKit Go.Sort

instance : Inhabited BkD := ⟨⟨0, 0, 0⟩⟩
def cmpZ (a b : Int) : Int := if a < b then -1 else if b < a then 1 else 0
def cmpK (a b : BkD) : Int := cmpZ a.id b.id
theorem ltK (a b : BkD) : ltOf cmpK a b = decide (a.id < b.id) := by
  unfold ltOf cmpK cmpZ
  rw [Bool.eq_iff_iff, decide_eq_true_iff, decide_eq_true_iff]
  by_cases h : a.id < b.id
  · simp [h]
  · by_cases h2 : b.id < a.id
    · simp [h, h2]
    · simp [h, h2]
theorem swoK : SWO (ltOf cmpK) :=
  ⟨fun x => by rw [ltK]; simp, fun x y z h1 h2 => by rw [ltK, decide_eq_true_iff] at *; omega, fun x y z h1 h2 => by rw [ltK, decide_eq_false_iff_not] at *; omega⟩
set_option maxRecDepth 20000 in
theorem isNaN_any (a : Int) (w : World) : Calls Tryz.prog 49 #[.int .i64 a] w fun e w' => e = .returned (.bool false) ∧ w = w' := by
  go_enter Tryz.func49, Tryz.ntmps49
  go_wp2
  go_ret
  exact ⟨by simp, rfl⟩
set_option maxRecDepth 20000 in
theorem compare_any (a b : Int) (w : World) : Calls Tryz.prog 34 #[.int .i64 a, .int .i64 b] w fun e w' => e = .returned (.int .i64 (cmpZ a b)) ∧ w = w' := by
  have HN := Lib.hid (fun (x : Int) (W : World) => isNaN_any x W)
  unfold cmpZ
  by_cases h : a < b
  · rw [if_pos h]
    go_enter Tryz.func34, Tryz.ntmps34
    go_wp2_with (go_at_call 49; (with_reducible refine (HN.out _ _).mono ?_); rintro e w9 ⟨rfl, rfl⟩)
    go_ret
    exact ⟨rfl, rfl⟩
  · rw [if_neg h]
    by_cases h2 : b < a
    · rw [if_pos h2]
      go_enter Tryz.func34, Tryz.ntmps34
      go_wp2_with (go_at_call 49; (with_reducible refine (HN.out _ _).mono ?_); rintro e w9 ⟨rfl, rfl⟩)
      go_ret
      exact ⟨rfl, rfl⟩
    · rw [if_neg h2]
      go_enter Tryz.func34, Tryz.ntmps34
      go_wp2_with (go_at_call 49; (with_reducible refine (HN.out _ _).mono ?_); rintro e w9 ⟨rfl, rfl⟩)
      go_ret
      exact ⟨rfl, rfl⟩
theorem heapK_two (h : Array Obj) (A B : Obj) : (h.push A).push B = h ++ #[A, B] := by apply Array.ext'; simp
set_option maxRecDepth 20000 in
theorem sortclo_any (x y : BkD) (w : World) : Calls Tryz.prog 33 #[.agg x.cells.toArray, .agg y.cells.toArray] w fun e w' => e = .returned (.int .i64 (cmpK x y)) ∧ ∃ q os, w' = grow (w.drewN q) os := by
  have HC := Lib.hid (fun (W : World) => compare_any x.id y.id W)
  simp only [BkD.cells]
  go_enter Tryz.func33, Tryz.ntmps33
  go_wp2_with (go_at_call 34; (with_reducible refine (HC.out _).mono ?_); rintro e w9 ⟨rfl, rfl⟩)
  go_ret
  exact ⟨rfl, 0, #[.cells #[.int .i64 x.id, .int .u32 x.addr, .int .i64 x.weight] 27, .cells #[.int .i64 y.id, .int .u32 y.addr, .int .i64 y.weight] 27], congrArg (fun h => ({ w with heap := h } : World)) (heapK_two w.heap _ _)⟩
theorem len_bkc (x : BkD) : x.cells.length = 3 := rfl
theorem one_bkc (x : BkD) : ∀ v ∈ x.cells, v.oneCell' = true := by
  intro v hv
  simp only [BkD.cells, List.mem_cons, List.not_mem_nil, or_false] at hv
  rcases hv with rfl | rfl | rfl <;> rfl
theorem flat_bk (d : Array BkD) (j : Nat) (h : j < d.size * 3) : (d.toList.map BkD.cells).flatten[j]? = some ((d[j / 3]!).cells[j % 3]!) := by
  have hi : j / 3 < d.size := by omega
  have hr : j % 3 < 3 := Nat.mod_lt _ (by decide)
  have h1 := flatten_get (k := 3) (d.toList.map BkD.cells) (fun l hl => by obtain ⟨b, _, rfl⟩ := List.mem_map.1 hl; rfl) (j / 3) (by simpa using hi) (j % 3) ((d[j / 3]!).cells[j % 3]!) (by
    rw [List.getElem_map, Array.getElem_toList, getElem!_pos d (j / 3) hi]
    rw [List.getElem?_eq_getElem (show j % 3 < (d[j / 3]).cells.length from hr), getElem!_pos (d[j / 3]).cells (j % 3) hr]; rfl)
  rw [show j / 3 * 3 + j % 3 = j by omega] at h1
  exact h1
theorem holds_bk {W : World} {base B c : Nat} {d : Array BkD} (h : OwnK W base (.slice (some ⟨B, 0, none⟩) d.size c) d.toList) : HoldsK BkD.cells 3 W B 0 d := by
  intro t ht
  rw [size_flatK] at ht
  refine ⟨?_, OwnS.free h _⟩
  rw [get_flatK _ _ _ _ ht]
  have h9 : OwnS W base 27 3 (.slice (some ⟨B, 0, none⟩) d.size c) (d.toList.map BkD.cells) := h
  have h8 := h9.own
  rw [List.length_map, Array.length_toList] at h8
  have h0 := World.ownsRow.cellAt h8 t ht
  rw [Nat.zero_add, h0]
  exact flat_bk d t ht
theorem own_putK {w : World} {base B c m : Nat} {d d' : Array BkD} (h : OwnK w base (.slice (some ⟨B, 0, none⟩) d.size c) d.toList) (hs : d'.size = d.size) : OwnK (putRowK BkD.cells 3 (Sort.ahead w m) B 0 d') base (.slice (some ⟨B, 0, none⟩) d'.size c) d'.toList := by
  have ho := OwnS.own h
  refine ⟨?_, fun l hl => by obtain ⟨b, _, rfl⟩ := List.mem_map.1 hl; rfl⟩
  rcases ho.2 with ⟨e0, _⟩ | ⟨g', cap', cur, e0, hb, hg, hn, hm, hz, ht⟩
  · cases e0
  · injection e0 with e1 _ e3
    injection e1 with e1
    injection e1 with e1
    subst e1; subst e3
    have hfl : (d'.toList.map BkD.cells).flatten.length = d'.size * 3 := by
      rw [flatten_length (k := 3) _ (fun l hl => by obtain ⟨b, _, rfl⟩ := List.mem_map.1 hl; rfl)]; simp
    simp only [List.length_map, Array.length_toList] at hn ⊢
    refine ⟨hfl, .inr ⟨B, c, putCells id 0 (flatK BkD.cells 3 d') cur, rfl, hb, ?_, by omega, hm, by simpa [putCells] using hz, ?_⟩⟩
    · simp [putRowK, putRow, mapBlock, Sort.ahead, Array.getElem?_modify, hg, onCells]
    · apply List.ext_getElem?
      intro j
      rw [List.getElem?_take, Array.getElem?_toList]
      by_cases hj : j < d'.size * 3
      · have hjc : j < cur.size := by omega
        rw [if_pos hj, flat_bk d' j hj]
        simp only [putCells, Array.getElem?_mapIdx, Array.getElem?_eq_getElem hjc, Option.map_some]
        rw [if_pos (by rw [size_flatK]; omega), Nat.sub_zero, get_flatK _ _ _ _ hj]
        rfl
      · rw [if_neg hj, List.getElem?_eq_none (by rw [hfl]; omega)]
theorem touch_putK (w : World) (B m : Nat) (d : Array BkD) : Touch w (putRowK BkD.cells 3 (Sort.ahead w m) B 0 d) (fun k => k = B) :=
  ⟨rfl, rfl, rfl, by simp [putRowK, putRow, mapBlock, Sort.ahead], fun k _ hn => by
    have : B ≠ k := fun e => hn e.symm
    simp [putRowK, putRow, mapBlock, Sort.ahead, Array.getElem?_modify, this]⟩
theorem touch_grow (w : World) (os : Array Obj) : Touch w (grow w os) (fun _ => False) :=
  ⟨rfl, rfl, rfl, by simp [grow], fun b hb _ => by simp [grow]; exact Array.getElem?_append_left hb⟩
theorem own_split {w : World} {base n c : Nat} {a : Option Addr} {bs : List BkD} (h : OwnK w base (.slice a n c) bs) : (bs = [] ∧ n = 0 ∧ a = none) ∨ ∃ B, a = some ⟨B, 0, none⟩ ∧ base ≤ B ∧ B < w.heap.size := by
  have hl : bs.length = n := (OwnK.row h).1
  rcases (OwnS.own h).2 with ⟨e0, e1⟩ | ⟨g', cap', cur, e0, hb, hg, _⟩
  · simp only [List.length_map] at e1
    simp only [Value.slice.injEq] at e0
    exact .inl ⟨List.eq_nil_of_length_eq_zero (by omega), by omega, e0.1⟩
  · simp only [Value.slice.injEq] at e0
    exact .inr ⟨g', e0.1, hb, heap_lt hg⟩
theorem reverse_any (w : World) (base n c : Nat) (a : Option Addr) (bs : List BkD) (h : OwnK w base (.slice a n c) bs) :
    Calls Tryz.prog 30 #[.slice a n c] w fun e w' => e = .returned (.tuple #[]) ∧ OwnK w' base (.slice a n c) bs.reverse ∧ Touch w w' (fun k => (Value.slice a n c).ownBlock = some k) := by
  have hl : bs.length = n := (OwnK.row h).1
  rcases own_split h with ⟨rfl, rfl, rfl⟩ | ⟨B, rfl, hb, hlt⟩
  · refine (AnyQ.slices_Reverse_empty Tryz.reverseK none c w).mono ?_
    rintro e w' ⟨rfl, rfl⟩
    exact ⟨rfl, h, Touch.refl _ _⟩
  · have h' : OwnK w base (.slice (some ⟨B, 0, none⟩) bs.toArray.size c) bs.toArray.toList := by simpa [hl] using h
    have hz : bs.toArray.size = n := by simpa using hl
    have hm := RowS.hmax (OwnK.row h).2.1
    have hc := RowS.hcap (OwnK.row h).2.1
    have hcall := AnyQ.slices_Reverse Tryz.reverseK 3 (fun w => by kernel_rfl) (fun w => by kernel_rfl) BkD.cells len_bkc one_bkc B 0 c bs.toArray w (holds_bk h') (by omega)
    rw [hz] at hcall
    refine hcall.mono ?_
    rintro e w' ⟨rfl, m, rfl⟩
    have ho := own_putK (m := m) h' (d' := bs.toArray.reverse) (by simp)
    refine ⟨rfl, ?_, (touch_putK w B m _).mono (fun k _ e => by subst e; rfl)⟩
    simpa [hl] using ho
theorem sortf_any (w : World) (base n c : Nat) (a : Option Addr) (bs : List BkD) (h : OwnK w base (.slice a n c) bs) (hsm : n ≤ 1000) :
    Calls Tryz.prog 32 #[.slice a n c, .func (.func 33) #[] #[]] w fun e w' => e = .returned (.tuple #[]) ∧ ∃ cs : List BkD, cs.Perm bs ∧ cs.Pairwise (fun a b => a.id ≤ b.id) ∧ OwnK w' base (.slice a n c) cs ∧ Touch w w' (fun k => (Value.slice a n c).ownBlock = some k) := by
  have hl : bs.length = n := (OwnK.row h).1
  rcases own_split h with ⟨rfl, rfl, rfl⟩ | ⟨B, rfl, hb, hlt⟩
  · refine (AnyF.slices_SortFunc_none Tryz.sortfK none c _ w).mono ?_
    rintro e w' ⟨rfl, rfl⟩
    exact ⟨rfl, [], .refl _, List.Pairwise.nil, h, Touch.refl _ _⟩
  · have h' : OwnK w base (.slice (some ⟨B, 0, none⟩) bs.toArray.size c) bs.toArray.toList := by simpa [hl] using h
    have hz : bs.toArray.size = n := by simpa using hl
    have hm := RowS.hmax (OwnK.row h).2.1
    have hc := RowS.hcap (OwnK.row h).2.1
    have hcall := AnyQ.slices_SortFunc Tryz.sortfK 3 (fun w => by kernel_rfl) (fun w => by kernel_rfl) BkD.cells len_bkc one_bkc cmpK swoK 33 #[] B 0 c bs.toArray w (fun args w => by kernel_rfl) (fun m os dk _ x y => sortclo_any x y _) (holds_bk h') hlt (by omega)
    rw [hz] at hcall
    refine hcall.mono ?_
    rintro e w' ⟨rfl, d', m, os, hp, hso, rfl⟩
    obtain ⟨p1, -, p3⟩ := hp
    have ho := own_putK (m := m) h' (d' := d') p1
    have hd' : d'.size = n := by rw [p1, hz]
    refine ⟨rfl, d'.toList, ?_, ?_, ?_, ?_⟩
    · have e1 : (d'.extract 0 n) = d' := by rw [← hd']; simp
      have e2 : (bs.toArray.extract 0 n) = bs.toArray := by rw [← hz]; simp
      rw [e1, e2] at p3
      simpa using p3
    · rw [List.pairwise_iff_getElem]
      intro i j hi hj hij
      simp only [Array.length_toList] at hi hj
      have := hso i j (Nat.zero_le _) hij (by omega)
      rw [ltK, decide_eq_false_iff_not, getElem!_pos d' i hi, getElem!_pos d' j hj] at this
      simp only [Array.getElem_toList]
      omega
    · have := OwnK.still ho (touch_grow (putRowK BkD.cells 3 (Sort.ahead w m) B 0 d') os)
      rw [hd'] at this
      exact this
    · exact ((touch_putK w B m d').trans (touch_grow _ os) (fun _ _ h => h.elim)).mono (fun k _ e => by subst e; rfl)
theorem min16_run (a : Int) (W : World) : (Builtin.min_ #[3, 3] 3 #[.int .i64 a, .int .i64 16]).run Tryz.prog W = .ok (.int .i64 (min a 16)) W := by
  by_cases h : (16 : Int) < a
  · have e : min a 16 = 16 := by omega
    rw [e]
    go_simp
  · have e : min a 16 = a := by omega
    rw [e]
    go_simp
set_option maxRecDepth 20000 in
set_option maxHeartbeats 2000000 in
theorem gsort_any (a : Option Addr) (len cap : Nat) (bs : List BkD) (w : World) (hr : RowK w a len cap bs) (hbk : ∀ b ∈ bs, i64D b.id) :
    Calls Tryz.prog 13 #[.slice a len cap] w fun e w' => ∃ a' c', e = .returned (.slice a' (gsortF bs).length c') ∧ OwnK w' w.heap.size (.slice a' (gsortF bs).length c') (gsortF bs) ∧ Touch w w' (fun _ => False) := by
  obtain ⟨n, hn⟩ : ∃ n, n = min len 16 := ⟨_, rfl⟩
  have hmn := fun W => min16_run (len : Int) W
  rw [show min (len : Int) 16 = (n : Int) by omega] at hmn
  have hcap := hr.hmax
  have hcap1 := hr.hcap
  have hnl : n ≤ len := by omega
  have hn16 : n ≤ 16 := by omega
  have HL : RowKit.Hid (bs.take n = bs.take 16) := Lib.hid (by
    have h1 := hr.len
    rcases Nat.le_total len 16 with h | h
    · rw [List.take_of_length_le (by omega), List.take_of_length_le (by omega)]
    · rw [show n = 16 by omega])
  have hrn : RowK w a n cap (bs.take n) := by
    have := RowS.take hr n hnl
    unfold RowK
    rwa [← List.map_take] at this
  have HCL := Lib.hid (cloneK_any a n cap (bs.take n) w hrn (by omega))
  have HBK : RowKit.Hid (∀ b ∈ (bs.take n).reverse, i64D b.id) := Lib.hid (fun b hb => hbk b (List.mem_of_mem_take (List.mem_reverse.1 hb)))
  clear hr hrn hn hbk
  go_enter Tryz.func13, Tryz.ntmps13
  go_wp2_with fail
  (with_reducible refine HCL.out.mono ?_)
  rintro e w1 ⟨a1, c1, rfl, o1, t1⟩
  have HR1 := Lib.hid (reverse_any w1 w.heap.size n c1 a1 _ o1)
  have HO1 := Lib.hid o1
  clear o1
  go_wp2_with fail
  (with_reducible refine HR1.out.mono ?_)
  rintro e w2 ⟨rfl, o2, t2⟩
  have hown : ∀ x, (Value.slice a1 n c1).ownBlock = some x → w.heap.size ≤ x := fun x hx => ((OwnS.own HO1.out).lt x hx).1
  have HT2 : RowKit.Hid (Touch w w2 (fun _ => False)) := Lib.hid (t1.trans t2 (fun k hk e => by have := hown k e; omega))
  have HO2 := Lib.hid o2
  clear o2 t2 t1 hown
  have hmk := run_makeMap (P := Tryz.prog) 53 w2
  obtain ⟨W3, hW3⟩ : ∃ W, w2.alloc (.map #[] 0) = W := ⟨_, rfl⟩
  obtain ⟨mb, hmb⟩ : ∃ b, w2.heap.size = b := ⟨_, rfl⟩
  rw [hW3, hmb] at hmk
  have t3 : Touch w2 W3 (fun _ => False) := hW3 ▸ (Touch.refl w2 _).alloc _
  have hM : MetM W3 mb 0 [] := ⟨hmb ▸ hW3 ▸ OwnZ.made w2 3 3, Nat.le_refl _, fun d hd => by cases hd⟩
  have hrow := (OwnK.row (OwnK.still HO2.out t3)).2
  have HW := Lib.hid (without_met mb a1 n c1 (bs.take n).reverse W3 hrow.1 (by omega) HBK.out hM (fun x hx => .inr (fun e => by
    have h1 := (OwnK.row HO2.out).2.2 x hx
    omega)))
  have HT3 := Lib.hid (HT2.out.trans t3 (fun _ _ h => h))
  have hz3 : W3.heap.size = mb + 1 := by rw [← hW3, ← hmb]; simp
  have hzz := HT2.out.size
  have HMB := Lib.hid hmb
  clear t3 hM hrow hW3 hmb
  go_wp2_with fail
  (with_reducible refine HW.out.mono ?_)
  rintro e w4 ⟨a4, c4, rfl, o4, t4⟩
  have hml : (metF [] (bs.take n).reverse).length ≤ 1000 := by
    have h1 := metF_len (bs.take n).reverse []
    simp only [List.length_reverse, List.length_take] at h1
    omega
  have HS := Lib.hid (sortf_any w4 W3.heap.size _ c4 a4 _ o4 hml)
  have HT4 : RowKit.Hid (Touch w w4 (fun _ => False)) := Lib.hid (HT3.out.trans t4 (fun k hk e => by have e : k = mb := e; have := HMB.out; omega))
  have HO4 := Lib.hid o4
  clear o4 t4
  go_wp2_with fail
  (with_reducible refine HS.out.mono ?_)
  rintro e w5 ⟨rfl, cs, p5, s5, o5, t5⟩
  have hown : ∀ x, (Value.slice a4 (metF [] (bs.take n).reverse).length c4).ownBlock = some x → W3.heap.size ≤ x := fun x hx => ((OwnS.own HO4.out).lt x hx).1
  have HT5 : RowKit.Hid (Touch w w5 (fun _ => False)) := Lib.hid (HT4.out.trans t5 (fun k hk e => by have := hown k e; have := HMB.out; omega))
  have he : cs = gsortF bs := by
    rw [HL.out] at p5
    refine gsort_is p5 ?_
    have hnd : (cs.map BkD.id).Nodup := ((p5.map _).nodup_iff).2 (metF_nd _ _)
    rw [List.Nodup, List.pairwise_map] at hnd
    exact (s5.and hnd).imp (fun h => by have h1 := h.1; have h2 := h.2; omega)
  have HO5 : RowKit.Hid (OwnK w5 W3.heap.size (.slice a4 (gsortF bs).length c4) (gsortF bs)) := Lib.hid (by
    rw [← he, p5.length_eq]
    exact o5)
  have HLL : RowKit.Hid ((metF [] (bs.take n).reverse).length = (gsortF bs).length) := Lib.hid (by rw [← he, p5.length_eq])
  clear p5 s5 o5 t5 hown
  go_wp2_with fail
  go_ret
  refine ⟨a4, c4, by rw [HLL.out]; rfl, HO5.out.rebase (fun x hx => ?_), HT5.out⟩
  have := ((OwnS.own HO5.out).lt x hx).1
  have := HMB.out
  omega
end Go.Proofs.YtgpchkobjgglhaaGreatDoor
