/- The reference's drains: Until, Clear. -/
import Derived.Test.YtdhimlkndpiacaaGreatDrAllZ
import Derived.Test.YtdhimlkndpiacaaGreatAppNilZ
set_option linter.unusedVariables false
set_option linter.unusedSimpArgs false
namespace Go.Proofs.YtdhimlkndpiacaaGreat
open Go.RowKit

/-- The reference's queue in block b holds the rows L. -/
structure RD (w : World) (b : Nat) (a : Option Addr) (c : Nat) (L : List DR) : Prop where
  head : w.heap[b]? = some (.cells #[.slice a L.length c] 78 (0, 0))
  row : RowS w a L.length c 2 (L.map dcl)
  ne : ∀ x, a = some x → L.length = 0 ∨ x.block ≠ b
  pl : a = none ∨ ∃ g off, a = some ⟨g, off, none⟩
  lt : ∀ x, a = some x → L.length = 0 ∨ x.block < w.heap.size
theorem RD.still {w w' : World} {b : Nat} {a : Option Addr} {c : Nat} {L : List DR} (q : RD w b a c L) (t : Touch w w' (fun _ => False)) : RD w' b a c L := ⟨t.keeps q.head (fun h => h), q.row.still t, q.ne, q.pl, fun x hx => (q.lt x hx).imp (fun h => h) (fun h => Nat.lt_of_lt_of_le h t.size)⟩
theorem RD.cell2 {w : World} {b g off c : Nat} {L : List DR} (q : RD w b (some ⟨g, off, none⟩) c L) (i : Nat) (hi : i < L.length) : w.cell? ⟨g, off + i * 2, none⟩ = some (.int .i64 (gd L i).b) ∧ w.cell? ⟨g, off + i * 2 + 1, none⟩ = some (.int .i64 (gd L i).u) := by
  have hi' : i < (L.map dcl).length := by simpa using hi
  have e : (L.map dcl)[i] = dcl (gd L i) := by rw [List.getElem_map, gd_get L i hi]
  have h0 := q.row.cell i hi' 0 (.int .i64 (gd L i).b) (by rw [e]; rfl)
  have h1 := q.row.cell i hi' 1 (.int .i64 (gd L i).u) (by rw [e]; rfl)
  exact ⟨h0, h1⟩
theorem hasD_take {L : List DR} {k : Int} {i : Nat} (hi : i < L.length) (h : hasD (L.take i) k = false) (hne : ¬ (gd L i).b = k) : hasD (L.take (i + 1)) k = false := by
  rw [List.take_succ_eq_append_getElem hi]
  unfold hasD at h ⊢
  rw [List.any_append, h, ← gd_get L i hi]
  simp [hne]
theorem timeD_take {L : List DR} {k : Int} {i : Nat} (hi : i < L.length) (h : hasD (L.take i) k = false) (he : (gd L i).b = k) : timeD L k = (gd L i).u ∧ hasD L k = true := by
  refine ⟨?_, ?_⟩
  · induction L generalizing i with
    | nil => simp at hi
    | cons x L ih =>
      cases i with
      | zero => unfold timeD; rw [if_pos (show x.b = k from he)]; rfl
      | succ i =>
        rw [List.take_succ_cons] at h
        unfold hasD at h
        rw [List.any_cons, Bool.or_eq_false_iff] at h
        have hx : ¬ x.b = k := by simpa using h.1
        unfold timeD
        rw [if_neg hx]
        exact ih (by simpa using hi) h.2 he
  · unfold hasD; rw [List.any_eq_true]; exact ⟨gd L i, gd_mem L i hi, by simpa using he⟩
set_option maxRecDepth 20000 in
set_option maxHeartbeats 4000000 in
theorem runtil_any (w : World) (b : Nat) (a : Option Addr) (c : Nat) (L : List DR) (q : RD w b a c L) (hl : L.length ≤ 1024) (k : Int) :
    Calls Tryz.prog 31 #[.pointer (some ⟨b, 0, none⟩), .int .i64 k] w fun e w' => e = .returned (.tuple #[.int .i64 (timeD L k), .bool (hasD L k)]) ∧ Touch w w' (fun _ => False) := by
  obtain ⟨n, hn⟩ : ∃ n, L.length = n := ⟨_, rfl⟩
  have c0 : w.cell? ⟨b, 0, none⟩ = some (.slice a L.length c) := cell_of_cells q.head 0
  have hcap := q.row.hcap
  have hmax := q.row.hmax
  have HQ := Lib.hid q
  have HN := Lib.hid hn
  rw [hn] at c0 hl hcap
  clear q hn
  go_enter Tryz.func31, Tryz.ntmps31
  go_wp2_with fail
  go_loopw [13] (fun s13 wr => ∃ i : Nat, i ≤ n ∧ s13 = .int .i64 i ∧ hasD (L.take i) k = false ∧ Touch w wr (fun _ => False)) (fun s13 _ => n - (RowKit.intOf s13).toNat)
  case atStart => exact ⟨0, Nat.zero_le _, rfl, rfl, Touch.refl _ _⟩
  case round =>
    obtain ⟨i, hi, rfl, hh, ht⟩ := hrel
    have HH := Lib.hid hh
    have HT := Lib.hid ht
    clear hh ht
    by_cases hlt : i < n
    case neg =>
      obtain rfl : n = i := by omega
      have hz : hasD L k = false := by
        have := HH.out
        rwa [List.take_of_length_le (by rw [HN.out]; exact Nat.le_refl _)] at this
      have ht := timeD_none hz
      have HZ := Lib.hid hz
      have HTI := Lib.hid ht
      clear hz ht
      go_wp2_with fail
      go_ret2
      exact ⟨by rw [HZ.out, HTI.out]; rfl, HT.out⟩
    case pos =>
      have hq := HQ.out.still HT.out
      obtain ⟨g, off, ea⟩ := hq.row.some (by rw [HN.out]; omega)
      subst ea
      obtain ⟨d0, d1⟩ := hq.cell2 i (by rw [HN.out]; exact hlt)
      obtain ⟨W2, hW2⟩ : ∃ W, wr.alloc (.cells #[.int .i64 (gd L i).b, .int .i64 (gd L i).u] 93) = W := ⟨_, rfl⟩
      have t2 : Touch wr W2 (fun _ => False) := hW2 ▸ (Touch.refl wr _).alloc _
      have g2 : W2.heap[wr.heap.size]? = some (.cells #[.int .i64 (gd L i).b, .int .i64 (gd L i).u] 93 (0, 0)) := hW2 ▸ heap_alloc_new ..
      have x0 : W2.cell? ⟨wr.heap.size, 0, none⟩ = some (.int .i64 (gd L i).b) := cell_of_cells g2 0
      have x1 : W2.cell? ⟨wr.heap.size, 1, none⟩ = some (.int .i64 (gd L i).u) := cell_of_cells g2 1
      have HT2 := Lib.hid (HT.out.trans t2 (fun _ _ h => h))
      have HW2 := Lib.hid hW2
      have hlI : (i : Int) < n := by omega
      clear hq t2 g2 hW2
      by_cases he : (gd L i).b = k
      · have htt := timeD_take (by rw [HN.out]; exact hlt) HH.out he
        have HTT := Lib.hid htt
        rw [he] at x0 d0
        rw [he] at HW2
        clear htt he
        go_upto_region 4 with (fail)
        rw [HW2.out]
        clear d0 d1
        go_wp2_with fail
        go_ret2
        exact ⟨by rw [HTT.out.1, HTT.out.2]; rfl, HT2.out⟩
      · have HX : RowKit.Hid (∃ i' : Nat, i' ≤ n ∧ Value.int .i64 ((i : Int) + 1) = .int .i64 i' ∧ hasD (L.take i') k = false ∧ Touch w W2 (fun _ => False)) := Lib.hid ⟨i + 1, by omega, by go_num, hasD_take (by rw [HN.out]; exact hlt) HH.out he, HT2.out⟩
        have hne := he
        clear he
        generalize (gd L i).b = kk at *
        generalize (gd L i).u = tt at *
        go_upto_region 4 with (fail)
        rw [HW2.out]
        clear d0 d1
        go_wp2_with fail
        go_roundw
        · exact HX.out
        · simp only [RowKit.intOf]; omega
/-- What a step of the reference's queue leaves. -/
def RDStep (w w' : World) (b : Nat) (a0 : Option Addr) (L' : List DR) : Prop := ∃ a c, RD w' b a c L' ∧ Touch w w' (fun k => k = b) ∧ ∀ y, a = some y → (w.heap.size ≤ y.block ∧ y.block < w'.heap.size) ∨ ∃ z, a0 = some z ∧ y.block = z.block
theorem delD_take {L : List DR} {k : Int} {i : Nat} (hi : i < L.length) : delD (L.take (i + 1)) k = if (gd L i).b = k then delD (L.take i) k else delD (L.take i) k ++ [gd L i] := by
  rw [List.take_succ_eq_append_getElem hi]
  unfold delD
  rw [List.filter_append, ← gd_get L i hi]
  by_cases h : (gd L i).b = k
  · rw [if_pos h]; simp [h]
  · rw [if_neg h]; simp [h]
theorem delD_lt {L : List DR} (hnd : (L.map DR.b).Nodup) (k : Int) : (delD L k).length < L.length ↔ hasD L k = true := by
  have := delD_len hnd k
  cases hh : hasD L k <;> rw [hh] at this <;> simp at this ⊢ <;> omega
theorem own_plD {w : World} {base k n c : Nat} {E : TypeId} {a : Option Addr} {L : List (List Value)} (h : OwnS w base E k (.slice a n c) L) : a = none ∨ ∃ g off, a = some ⟨g, off, none⟩ := by
  rcases h.own.2 with ⟨h, _⟩ | ⟨g, cap, cur, h, _⟩
  · simp only [Value.slice.injEq] at h
    exact .inl h.1
  · simp only [Value.slice.injEq] at h
    exact .inr ⟨g, 0, h.1⟩
theorem dcl_app (l : List DR) (r : DR) : (l.map dcl).flatten ++ (dcl r) = ((l ++ [r]).map dcl).flatten := by simp
set_option maxRecDepth 20000 in
set_option maxHeartbeats 4000000 in
theorem rclear_any (w : World) (b : Nat) (a : Option Addr) (c : Nat) (L : List DR) (q : RD w b a c L) (hl : L.length ≤ 1024) (hnd : (L.map DR.b).Nodup) (k : Int) :
    Calls Tryz.prog 33 #[.pointer (some ⟨b, 0, none⟩), .int .i64 k] w fun e w' => e = .returned (.bool (hasD L k)) ∧ RDStep w w' b a (delD L k) := by
  obtain ⟨n, hn⟩ : ∃ n, L.length = n := ⟨_, rfl⟩
  have c0 : w.cell? ⟨b, 0, none⟩ = some (.slice a L.length c) := cell_of_cells q.head 0
  have hbl : b < w.heap.size := heap_lt q.head
  have hcap := q.row.hcap
  have hmax := q.row.hmax
  have HQ := Lib.hid q
  have HN := Lib.hid hn
  have HII := Lib.hid infoDrain
  rw [hn] at c0 hl hcap
  clear q hn
  go_enter Tryz.func33, Tryz.ntmps33
  go_wp2_with fail
  go_loopw [5, 14] (fun s5 s14 wr => ∃ (i : Nat) (a' : Option Addr) (c' N' : Nat), i ≤ n ∧ s14 = .int .i64 i ∧ s5 = .slice a' N' c' ∧ (delD (L.take i) k).length = N' ∧ OwnS wr w.heap.size 93 2 (.slice a' N' c') ((delD (L.take i) k).map dcl) ∧ Touch w wr (fun _ => False)) (fun _ s14 _ => n - (RowKit.intOf s14).toNat)
  case atStart => exact ⟨0, none, 0, 0, Nat.zero_le _, rfl, rfl, rfl, OwnS.nil _ _ _ _, Touch.refl _ _⟩
  case round =>
    obtain ⟨i, a', c', N', hi, rfl, rfl, hN', ho, ht⟩ := hrel
    have HO := Lib.hid ho
    have HT := Lib.hid ht
    have HL' := Lib.hid hN'
    clear ho ht hN'
    by_cases hlt : i < n
    case neg =>
      obtain rfl : n = i := by omega
      have htk : L.take n = L := List.take_of_length_le (by rw [HN.out]; exact Nat.le_refl _)
      have hN2 := HL'.out
      have ho2 := HO.out
      rw [htk] at hN2 ho2
      have hdl := delD_lt hnd k
      rw [hN2, HN.out] at hdl
      have hh := HT.out.keeps HQ.out.head (fun h => h)
      rw [HN.out] at hh
      have c1 : wr.cell? ⟨b, 0, none⟩ = some (.slice a n c) := cell_of_cells hh 0
      have f1 := free_of_cells hh 0
      obtain ⟨W9, hW9⟩ : ∃ W, wr.setCell ⟨b, 0, none⟩ (.slice a' N' c') = W := ⟨_, rfl⟩
      have t9 : Touch wr W9 (fun k => k = b) := hW9 ▸ ((Touch.refl wr (fun k => k = b)).setCell _ _ (fun _ => rfl))
      have HRS : RowKit.Hid (RDStep w W9 b a (delD L k)) := Lib.hid (by
        obtain ⟨h1, h2, h3⟩ := ho2.row'
        refine ⟨a', c', ⟨?_, ?_, fun x hx => ?_, own_plD ho2, fun x hx => .inr (Nat.lt_of_lt_of_le (h3 x hx).2 t9.size)⟩, (HT.out.mono (fun _ _ h => h.elim)).trans t9 (fun _ _ h => h), fun x hx => .inl ⟨(h3 x hx).1, Nat.lt_of_lt_of_le (h3 x hx).2 t9.size⟩⟩
        · rw [hN2, ← hW9]; exact heap_setCell_same wr b 0 _ _ _ hh
        · rw [hN2]
          exact h2.touch t9 (fun x hx => .inr (fun e => by have := (h3 x hx).1; have e : x.block = b := e; omega))
        · exact .inr (by have := (h3 x hx).1; omega))
      have HW9 := Lib.hid hW9
      clear hW9 t9 hh ho2 htk hN2
      cases hhq : hasD L k with
      | true =>
        have hlI : (N' : Int) < n := by have := hdl.2 hhq; omega
        have HH := Lib.hid hhq
        clear hhq hdl
        go_wp2_with fail
        rw [HW9.out]
        go_ret
        exact ⟨by first | rfl | (rw [HH.out]; rfl), HRS.out⟩
      | false =>
        have hlI : ¬ (N' : Int) < n := fun h => by
          have := hdl.1 (by omega)
          rw [hhq] at this; cases this
        have HH := Lib.hid hhq
        clear hhq hdl
        go_wp2_with fail
        rw [HW9.out]
        go_ret
        exact ⟨by first | rfl | (rw [HH.out]; rfl), HRS.out⟩
    case pos =>
      have hq := HQ.out.still HT.out
      obtain ⟨g, off, ea⟩ := hq.row.some (by rw [HN.out]; omega)
      subst ea
      obtain ⟨d0, d1⟩ := hq.cell2 i (by rw [HN.out]; exact hlt)
      have HDT := Lib.hid (delD_take (L := L) (k := k) (i := i) (by rw [HN.out]; exact hlt))
      obtain ⟨W2, hW2⟩ : ∃ W, wr.alloc (.cells #[.int .i64 (gd L i).b, .int .i64 (gd L i).u] 93) = W := ⟨_, rfl⟩
      have t2 : Touch wr W2 (fun _ => False) := hW2 ▸ (Touch.refl wr _).alloc _
      have g2 : W2.heap[wr.heap.size]? = some (.cells #[.int .i64 (gd L i).b, .int .i64 (gd L i).u] 93 (0, 0)) := hW2 ▸ heap_alloc_new ..
      have x0 : W2.cell? ⟨wr.heap.size, 0, none⟩ = some (.int .i64 (gd L i).b) := cell_of_cells g2 0
      have x1 : W2.cell? ⟨wr.heap.size, 1, none⟩ = some (.int .i64 (gd L i).u) := cell_of_cells g2 1
      have HT2 := Lib.hid (HT.out.trans t2 (fun _ _ h => h))
      have HO2 := Lib.hid (HO.out.still t2)
      have HW2 := Lib.hid hW2
      have hlI : (i : Int) < n := by omega
      have hNi : N' ≤ i := by
        have h1 : (delD (L.take i) k).length ≤ (L.take i).length := List.length_filter_le _ _
        have h2 : (L.take i).length ≤ i := by rw [List.length_take]; omega
        have h3 := HL'.out
        omega
      clear hq t2 g2 hW2
      by_cases he : (gd L i).b = k
      · have HX : RowKit.Hid (∃ (i' : Nat) (a'' : Option Addr) (c'' N'' : Nat), i' ≤ n ∧ Value.int .i64 ((i : Int) + 1) = .int .i64 i' ∧ Value.slice a' N' c' = .slice a'' N'' c'' ∧ (delD (L.take i') k).length = N'' ∧ OwnS W2 w.heap.size 93 2 (.slice a'' N'' c'') ((delD (L.take i') k).map dcl) ∧ Touch w W2 (fun _ => False)) := Lib.hid ⟨i + 1, a', c', N', by omega, by go_num, rfl, by rw [HDT.out, if_pos he]; exact HL'.out, by rw [HDT.out, if_pos he]; exact HO2.out, HT2.out⟩
        rw [he] at x0 d0
        rw [he] at HW2
        clear he
        go_upto_region 5 with (fail)
        rw [HW2.out]
        clear d0 d1
        go_wp2_with fail
        go_roundw
        · exact HX.out
        · simp only [RowKit.intOf]; omega
      · have hne := he
        have HE := Lib.hid he
        have t5 := (Touch.refl W2 (fun _ => False)).alloc (.cells #[.int .i64 (gd L i).b, .int .i64 (gd L i).u] 93)
        have HT5 := Lib.hid (HT2.out.trans t5 (fun _ _ h => h))
        have HO5 := Lib.hid (HO2.out.still t5)
        have hown : (W2.alloc (.cells #[.int .i64 (gd L i).b, .int .i64 (gd L i).u] 93)).ownsRow w.heap.size 93 2 (.slice a' N' c') N' ((delD (L.take i) k).map dcl).flatten := by
          have := HO5.out.own
          rwa [List.length_map, HL'.out] at this
        have HOWN := Lib.hid hown
        have HN5 := Lib.hid (news_of (heap_alloc_new W2 (.cells #[.int .i64 (gd L i).b, .int .i64 (gd L i).u] 93)))
        have HB5 : RowKit.Hid (Below w.heap.size (W2.alloc (.cells #[.int .i64 (gd L i).b, .int .i64 (gd L i).u] 93)) (W2.alloc (.cells #[.int .i64 (gd L i).b, .int .i64 (gd L i).u] 93))) := Lib.hid ((Touch.refl _ (fun _ => False)).below (fun _ _ h => h.elim) HT5.out.size)
        clear he t5 hown
        obtain ⟨kk, hkk⟩ : ∃ kk, (gd L i).b = kk := ⟨_, rfl⟩
        obtain ⟨tt, htt⟩ : ∃ tt, (gd L i).u = tt := ⟨_, rfl⟩
        rw [hkk] at hne x0 d0
        rw [htt] at x1 d1
        have HKK := Lib.hid hkk
        have HTTT := Lib.hid htt
        clear hkk htt
        rw [HKK.out, HTTT.out] at HOWN HN5 HB5 HT5 HO5 HW2
        go_upto_region 5 with (fail)
        rw [HW2.out]
        clear d0 d1
        go_wp2_with (at_builtin; (with_reducible refine wp_appR HOWN.out 32 Tryz.underlying32 _ 16 HII.out rfl (by decide) ⟨W2.heap.size, 0, none⟩ 1 1 _ rfl HN5.out (by simp [Value.oneCell']) (by simp only [maxLen]; omega) (by omega) HB5.out (Nat.le_refl _) HT5.out.size rfl _ _ rfl rfl rfl ?_); intro a4 c4 w6 ho4 hg4 hb4 hp4; have HO6 := Lib.hid ho4; have HG6 := Lib.hid hg4; clear ho4 hg4 hb4 hp4)
        have HX : RowKit.Hid (∃ (i' : Nat) (a'' : Option Addr) (c'' N'' : Nat), i' ≤ n ∧ Value.int .i64 ((i : Int) + 1) = .int .i64 i' ∧ Value.slice a4 (N' + 1) c4 = .slice a'' N'' c'' ∧ (delD (L.take i') k).length = N'' ∧ OwnS w6 w.heap.size 93 2 (.slice a'' N'' c'') ((delD (L.take i') k).map dcl) ∧ Touch w w6 (fun _ => False)) := Lib.hid (by
          refine ⟨i + 1, a4, c4, N' + 1, by omega, by go_num, rfl, ?_, ?_, HT5.out.grown HG6.out (fun x hx hlt => by have := HOWN.out.lt x hx; omega)⟩
          · rw [HDT.out, if_neg HE.out, List.length_append, HL'.out]; rfl
          · rw [HDT.out, if_neg HE.out, List.map_append]
            refine HO5.out.add (L2 := [dcl (gd L i)]) (by simp [dcl]) ?_
            have := HO6.out
            rw [List.length_map, HL'.out]
            simpa [dcl, HKK.out, HTTT.out] using this)
        · exact ⟨HX.out, by simp only [RowKit.intOf]; omega⟩
end Go.Proofs.YtdhimlkndpiacaaGreat
