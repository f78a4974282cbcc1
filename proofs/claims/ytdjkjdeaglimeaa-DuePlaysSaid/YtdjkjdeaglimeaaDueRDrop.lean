/- The reference's Drop. -/
import Derived.Test.YtdjkjdeaglimeaaDueRef
set_option linter.unusedVariables false
set_option linter.unusedSimpArgs false
namespace Go.Proofs.Ytdjkjdeaglimeaa
open Go.RowKit

theorem infoEnt : (Try.prog.info? 41).map (fun i => (i.zero, i.size, i.bytes)) = some (some (.agg #[.string ByteArray.empty, .int .i64 0]), 2, 24) := by kernel_rfl
/-- What a step of the reference's queue leaves. -/
def RStep (w w' : World) (b : Nat) (a0 : Option Addr) (L' : List QR) : Prop := ∃ a c, RQ w' b a c L' ∧ Touch w w' (fun k => k = b) ∧ ∀ y, a = some y → (w.heap.size ≤ y.block ∧ y.block < w'.heap.size) ∨ ∃ z, a0 = some z ∧ y.block = z.block
theorem del_take {L : List QR} {k : ByteArray} {i : Nat} (hi : i < L.length) : delQ (L.take (i + 1)) k = if (gq L i).key = k then delQ (L.take i) k else delQ (L.take i) k ++ [gq L i] := by
  rw [List.take_succ_eq_append_getElem hi]
  unfold delQ
  rw [List.filter_append, ← gq_get L i hi]
  by_cases h : (gq L i).key = k
  · rw [if_pos h]; simp [h]
  · rw [if_neg h]; simp [h]
theorem del_len {L : List QR} (hnd : (L.map QR.key).Nodup) (k : ByteArray) : (delQ L k).length < L.length ↔ hasQ L k = true := by
  constructor
  · intro h
    cases hh : hasQ L k with
    | true => rfl
    | false =>
      rw [del_none (by rw [← has_iff, hh]; simp)] at h
      omega
  · intro hh
    obtain ⟨x, hx, ek⟩ := List.mem_map.1 ((has_iff _ _).1 hh)
    obtain ⟨l1, l2, rfl⟩ := List.append_of_mem hx
    have h1 := del_perm (List.perm_middle (a := x) (l₁ := l1) (l₂ := l2)).symm hnd ek
    rw [← h1.length_eq]; simp
theorem own_pl {w : World} {base k n c : Nat} {E : TypeId} {a : Option Addr} {L : List (List Value)} (h : OwnS w base E k (.slice a n c) L) : a = none ∨ ∃ g off, a = some ⟨g, off, none⟩ := by
  rcases h.own.2 with ⟨h, _⟩ | ⟨g, cap, cur, h, _⟩
  · simp only [Value.slice.injEq] at h
    exact .inl h.1
  · simp only [Value.slice.injEq] at h
    exact .inr ⟨g, 0, h.1⟩
theorem qcl_app (l : List QR) (r : QR) : (l.map qcl).flatten ++ (qcl r) = ((l ++ [r]).map qcl).flatten := by simp
set_option maxRecDepth 20000 in
set_option maxHeartbeats 4000000 in
theorem rdrop_any (w : World) (b : Nat) (a : Option Addr) (c : Nat) (L : List QR) (q : RQ w b a c L) (hl : L.length ≤ 1024) (hs : SortQ L) (hnd : (L.map QR.key).Nodup) (k : ByteArray) :
    Calls Try.prog 16 #[.pointer (some ⟨b, 0, none⟩), .string k] w fun e w' => e = .returned (.bool (hasQ L k)) ∧ RStep w w' b a (delQ L k) := by
  obtain ⟨n, hn⟩ : ∃ n, L.length = n := ⟨_, rfl⟩
  have c0 : w.cell? ⟨b, 0, none⟩ = some (.slice a L.length c) := cell_of_cells q.head 0
  have hbl : b < w.heap.size := heap_lt q.head
  have hcap := q.row.hcap
  have hmax := q.row.hmax
  have HQ := Lib.hid q
  have HN := Lib.hid hn
  have HII := Lib.hid infoEnt
  rw [hn] at c0 hl hcap
  clear q hn
  go_enter Try.func16, Try.ntmps16
  go_wp2_with fail
  go_loopw [5, 14] (fun s5 s14 wr => ∃ (i : Nat) (a' : Option Addr) (c' N' : Nat), i ≤ n ∧ s14 = .int .i64 i ∧ s5 = .slice a' N' c' ∧ (delQ (L.take i) k).length = N' ∧ OwnS wr w.heap.size 41 2 (.slice a' N' c') ((delQ (L.take i) k).map qcl) ∧ Touch w wr (fun _ => False)) (fun _ s14 _ => n - (intOf s14).toNat)
  case atStart => exact ⟨0, none, 0, 0, Nat.zero_le _, rfl, rfl, rfl, OwnS.nil _ _ _ _, Touch.refl _ _⟩
  case round =>
    obtain ⟨i, a', c', N', hi, rfl, rfl, hN', ho, ht⟩ := hrel
    have HO := Lib.hid ho
    have HT := Lib.hid ht
    have HL' := Lib.hid hN'
    clear ho ht hN'
    by_cases hlt : i < n
    case neg =>
      obtain rfl : n = i := by omega
      have htk : L.take n = L := List.take_of_length_le (by rw [HN.out]; exact Nat.le_refl _)
      have hN2 := HL'.out
      have ho2 := HO.out
      rw [htk] at hN2 ho2
      have hdl := del_len hnd k
      rw [hN2, HN.out] at hdl
      have hh := HT.out.keeps HQ.out.head (fun h => h)
      rw [HN.out] at hh
      have c1 : wr.cell? ⟨b, 0, none⟩ = some (.slice a n c) := cell_of_cells hh 0
      have f1 := free_of_cells hh 0
      obtain ⟨W9, hW9⟩ : ∃ W, wr.setCell ⟨b, 0, none⟩ (.slice a' N' c') = W := ⟨_, rfl⟩
      have t9 : Touch wr W9 (fun k => k = b) := hW9 ▸ ((Touch.refl wr (fun k => k = b)).setCell _ _ (fun _ => rfl))
      have HRS : RowKit.Hid (RStep w W9 b a (delQ L k)) := Lib.hid (by
        obtain ⟨h1, h2, h3⟩ := ho2.row'
        refine ⟨a', c', ⟨?_, ?_, fun x hx => ?_, own_pl ho2, fun x hx => .inr (Nat.lt_of_lt_of_le (h3 x hx).2 t9.size)⟩, (HT.out.mono (fun _ _ h => h.elim)).trans t9 (fun _ _ h => h), fun x hx => .inl ⟨(h3 x hx).1, Nat.lt_of_lt_of_le (h3 x hx).2 t9.size⟩⟩
        · rw [hN2, ← hW9]; exact heap_setCell_same wr b 0 _ _ _ hh
        · rw [hN2]
          exact h2.touch t9 (fun x hx => .inr (fun e => by have := (h3 x hx).1; have e : x.block = b := e; omega))
        · exact .inr (by have := (h3 x hx).1; omega))
      have HW9 := Lib.hid hW9
      clear hW9 t9 hh ho2 htk hN2
      cases hhq : hasQ L k with
      | true =>
        have hlI : (N' : Int) < n := by have := hdl.2 hhq; omega
        have HH := Lib.hid hhq
        clear hhq hdl
        go_wp2_with fail
        rw [HW9.out]
        go_ret
        exact ⟨by first | rfl | (rw [HH.out]; rfl), HRS.out⟩
      | false =>
        have hlI : ¬ (N' : Int) < n := fun h => by
          have := hdl.1 (by omega)
          rw [hhq] at this; cases this
        have HH := Lib.hid hhq
        clear hhq hdl
        go_wp2_with fail
        rw [HW9.out]
        go_ret
        exact ⟨by first | rfl | (rw [HH.out]; rfl), HRS.out⟩
    case pos =>
      have hq := HQ.out.still HT.out
      obtain ⟨g, off, ea⟩ := hq.row.some (by rw [HN.out]; omega)
      subst ea
      obtain ⟨d0, d1⟩ := hq.cell2 i (by rw [HN.out]; exact hlt)
      have HDT := Lib.hid (del_take (L := L) (k := k) (i := i) (by rw [HN.out]; exact hlt))
      obtain ⟨W2, hW2⟩ : ∃ W, wr.alloc (.cells #[.string (gq L i).key, .int .i64 (gq L i).time] 41) = W := ⟨_, rfl⟩
      have t2 : Touch wr W2 (fun _ => False) := hW2 ▸ (Touch.refl wr _).alloc _
      have g2 : W2.heap[wr.heap.size]? = some (.cells #[.string (gq L i).key, .int .i64 (gq L i).time] 41 (0, 0)) := hW2 ▸ heap_alloc_new ..
      have x0 : W2.cell? ⟨wr.heap.size, 0, none⟩ = some (.string (gq L i).key) := cell_of_cells g2 0
      have x1 : W2.cell? ⟨wr.heap.size, 1, none⟩ = some (.int .i64 (gq L i).time) := cell_of_cells g2 1
      have HT2 := Lib.hid (HT.out.trans t2 (fun _ _ h => h))
      have HO2 := Lib.hid (HO.out.still t2)
      have HW2 := Lib.hid hW2
      have hlI : (i : Int) < n := by omega
      have hNi : N' ≤ i := by
        have h1 : (delQ (L.take i) k).length ≤ (L.take i).length := List.length_filter_le _ _
        have h2 : (L.take i).length ≤ i := by rw [List.length_take]; omega
        have h3 := HL'.out
        omega
      clear hq t2 g2 hW2
      by_cases he : (gq L i).key = k
      · have HX : RowKit.Hid (∃ (i' : Nat) (a'' : Option Addr) (c'' N'' : Nat), i' ≤ n ∧ Value.int .i64 ((i : Int) + 1) = .int .i64 i' ∧ Value.slice a' N' c' = .slice a'' N'' c'' ∧ (delQ (L.take i') k).length = N'' ∧ OwnS W2 w.heap.size 41 2 (.slice a'' N'' c'') ((delQ (L.take i') k).map qcl) ∧ Touch w W2 (fun _ => False)) := Lib.hid ⟨i + 1, a', c', N', by omega, by go_num, rfl, by rw [HDT.out, if_pos he]; exact HL'.out, by rw [HDT.out, if_pos he]; exact HO2.out, HT2.out⟩
        rw [he] at x0 d0
        rw [he] at HW2
        clear he
        go_upto_region 5 with (fail)
        rw [HW2.out]
        clear d0 d1
        go_wp2_with fail
        go_roundw
        · exact HX.out
        · simp only [intOf]; omega
      · have hne : ((gq L i).key.toList == k.toList) = false := by rw [beq_eq_false_iff_ne]; intro e; exact he (toList_inj e)
        have HE := Lib.hid he
        have t5 := (Touch.refl W2 (fun _ => False)).alloc (.cells #[.string (gq L i).key, .int .i64 (gq L i).time] 41)
        have HT5 := Lib.hid (HT2.out.trans t5 (fun _ _ h => h))
        have HO5 := Lib.hid (HO2.out.still t5)
        have hown : (W2.alloc (.cells #[.string (gq L i).key, .int .i64 (gq L i).time] 41)).ownsRow w.heap.size 41 2 (.slice a' N' c') N' ((delQ (L.take i) k).map qcl).flatten := by
          have := HO5.out.own
          rwa [List.length_map, HL'.out] at this
        have HOWN := Lib.hid hown
        have HN5 := Lib.hid (news_of (heap_alloc_new W2 (.cells #[.string (gq L i).key, .int .i64 (gq L i).time] 41)))
        have HB5 : RowKit.Hid (Below w.heap.size (W2.alloc (.cells #[.string (gq L i).key, .int .i64 (gq L i).time] 41)) (W2.alloc (.cells #[.string (gq L i).key, .int .i64 (gq L i).time] 41))) := Lib.hid ((Touch.refl _ (fun _ => False)).below (fun _ _ h => h.elim) HT5.out.size)
        clear he t5 hown
        obtain ⟨kk, hkk⟩ : ∃ kk, (gq L i).key = kk := ⟨_, rfl⟩
        obtain ⟨tt, htt⟩ : ∃ tt, (gq L i).time = tt := ⟨_, rfl⟩
        rw [hkk] at hne x0 d0
        rw [htt] at x1 d1
        have HKK := Lib.hid hkk
        have HTTT := Lib.hid htt
        clear hkk htt
        rw [HKK.out, HTTT.out] at HOWN HN5 HB5 HT5 HO5 HW2
        go_upto_region 5 with (fail)
        rw [HW2.out]
        clear d0 d1
        go_wp2_with (at_builtin; (with_reducible refine wp_appR HOWN.out 26 Try.underlying26 _ 24 HII.out rfl (by decide) ⟨W2.heap.size, 0, none⟩ 1 1 _ rfl HN5.out (by simp [Value.oneCell']) (by simp only [maxLen]; omega) (by omega) HB5.out (Nat.le_refl _) HT5.out.size rfl _ _ rfl rfl rfl ?_); intro a4 c4 w6 ho4 hg4 hb4 hp4; have HO6 := Lib.hid ho4; have HG6 := Lib.hid hg4; clear ho4 hg4 hb4 hp4)
        have HX : RowKit.Hid (∃ (i' : Nat) (a'' : Option Addr) (c'' N'' : Nat), i' ≤ n ∧ Value.int .i64 ((i : Int) + 1) = .int .i64 i' ∧ Value.slice a4 (N' + 1) c4 = .slice a'' N'' c'' ∧ (delQ (L.take i') k).length = N'' ∧ OwnS w6 w.heap.size 41 2 (.slice a'' N'' c'') ((delQ (L.take i') k).map qcl) ∧ Touch w w6 (fun _ => False)) := Lib.hid (by
          refine ⟨i + 1, a4, c4, N' + 1, by omega, by go_num, rfl, ?_, ?_, HT5.out.grown HG6.out (fun x hx hlt => by have := HOWN.out.lt x hx; omega)⟩
          · rw [HDT.out, if_neg HE.out, List.length_append, HL'.out]; rfl
          · rw [HDT.out, if_neg HE.out, List.map_append]
            refine HO5.out.add (L2 := [qcl (gq L i)]) (by simp [qcl]) ?_
            have := HO6.out
            rw [List.length_map, HL'.out]
            simpa [qcl, HKK.out, HTTT.out] using this)
        · exact ⟨HX.out, by simp only [intOf]; omega⟩
end Go.Proofs.Ytdjkjdeaglimeaa
