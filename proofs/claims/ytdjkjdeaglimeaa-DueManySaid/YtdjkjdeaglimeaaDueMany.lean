/- DueMany answers true for any number. -/
import Derived.Test.YtdjkjdeaglimeaaDueTwo
import Derived.Test.YtdjkjdeaglimeaaFrDueMany
set_option linter.unusedVariables false
set_option linter.unusedSimpArgs false
namespace Go.Proofs.Ytdjkjdeaglimeaa
open Go.RowKit

/-- The key of a number. -/
def kN (i : Nat) : ByteArray := strB [i / 256, i % 256]
def rowsN (N m : Nat) : List QR := (List.range m).map (fun j => ⟨kN j, (N : Int) - j⟩)
theorem kN_inj {i j : Nat} (hi : i < 65536) (hj : j < 65536) (h : kN i = kN j) : i = j := by
  have := strB_inj [i / 256, i % 256] [j / 256, j % 256] (by simp; omega) (by simp; omega) h
  simp at this; omega
theorem modN (x : Int) : ∃ N : Nat, wrap64 (1021 + wrap64 ((IntKind.u64.wrap x).tmod 6)) = (N : Int) ∧ 1021 ≤ N ∧ N ≤ 1026 := by
  have hu : 0 ≤ IntKind.u64.wrap x := by simp only [IntKind.wrap_u64]; omega
  have h2 : (IntKind.u64.wrap x).tmod 6 = (IntKind.u64.wrap x) % 6 := Int.tmod_eq_emod_of_nonneg hu
  have h3 := Int.emod_nonneg (IntKind.u64.wrap x) (show (6 : Int) ≠ 0 by omega)
  have h4 := Int.emod_lt_of_pos (IntKind.u64.wrap x) (show (0 : Int) < 6 by omega)
  rw [h2]
  generalize (IntKind.u64.wrap x) % 6 = y at *
  have e1 : wrap64 y = y := by unfold wrap64; omega
  have e2 : wrap64 (1021 + y) = 1021 + y := by unfold wrap64; omega
  rw [e1, e2]
  exact ⟨(1021 + y).toNat, by omega, by omega, by omega⟩
/-- A literal of two bytes as a text. -/
theorem two_str (w : World) (p q : Nat) (hp : p < 256) (hq : q < 256) :
    Sem.run Try.prog (convert 48 9 (.slice (some ⟨w.heap.size, 0, none⟩) 2 2)) (w.alloc (.cells #[.int .u8 (p : Int), .int .u8 (q : Int)] 5)) = .ok (.string (strB [p, q])) (w.alloc (.cells #[.int .u8 (p : Int), .int .u8 (q : Int)] 5)) := by
  refine run_string_of (P := Try.prog) ?_ 48 9 5 Try.underlying48 Try.underlying5 Try.underlying9
  have hc := heap_alloc_new w (.cells #[.int .u8 (p : Int), .int .u8 (q : Int)] 5)
  refine ⟨rfl, Nat.le_refl _, by decide, by decide, fun x hx => ?_, .inr ⟨_, 0, rfl, fun j hj => ?_⟩⟩
  · simp only [List.mem_cons, List.not_mem_nil, or_false] at hx
    rcases hx with rfl | rfl <;> omega
  · have hj' : j < 2 := hj
    rcases (by omega : j = 0 ∨ j = 1) with rfl | rfl
    · exact cell_of_cells hc 0
    · exact cell_of_cells hc 1
theorem rows_key (N m : Nat) (k : Nat) (hk : k < 65536) (hm : m ≤ 1026) : kN k ∈ (rowsN N m).map QR.key ↔ k < m := by
  unfold rowsN
  rw [List.map_map, List.mem_map]
  constructor
  · rintro ⟨j, hj, e⟩
    rw [List.mem_range] at hj
    have := kN_inj (by omega) hk e
    omega
  · intro h
    exact ⟨k, List.mem_range.2 h, rfl⟩
theorem rows_succ (N m : Nat) : rowsN N (m + 1) = rowsN N m ++ [⟨kN m, (N : Int) - m⟩] := by
  unfold rowsN; rw [List.range_succ, List.map_append]; rfl
/-- One more, or no more. -/
theorem many_set {N k : Nat} {L : List QR} (hp : L.Perm (rowsN N (min k 1024))) (hk : k < N) (hN : N ≤ 1026) :
    setE L (kN k) ((N : Int) - k) = (if k < 1024 then 0 else 9) ∧ (setQ L (kN k) ((N : Int) - k)).Perm (rowsN N (min (k + 1) 1024)) := by
  have hlen : L.length = min k 1024 := by rw [hp.length_eq]; simp [rowsN]
  have hh : hasQ L (kN k) = false := by
    rw [has_perm hp, Bool.eq_false_iff]
    intro h
    have := (rows_key N (min k 1024) k (by omega) (by omega)).1 ((has_iff _ _).1 h)
    omega
  have hn : kN k ∉ L.map QR.key := by rw [← has_iff, hh]; simp
  have e : setE L (kN k) ((N : Int) - k) = (if k < 1024 then 0 else 9) := by
    unfold setE
    rw [if_neg (by omega), hh, hlen]
    by_cases h : k < 1024
    · rw [if_pos h]; simp; omega
    · rw [if_neg h]; simp; omega
  refine ⟨e, ?_⟩
  unfold setQ
  rw [e]
  by_cases h : k < 1024
  · rw [if_pos h, if_pos rfl, del_none hn, show min (k + 1) 1024 = min k 1024 + 1 by omega, rows_succ]
    have h2 := (ins_perm ⟨kN k, (N : Int) - k⟩ L).trans ((hp.cons _).trans (List.perm_append_comm (l₁ := [(⟨kN k, (N : Int) - k⟩ : QR)])))
    rwa [show min k 1024 = k by omega] at h2 ⊢
  · rw [if_neg h, if_neg (by omega), show min (k + 1) 1024 = min k 1024 by omega]
    exact hp
/-- The first of all. -/
theorem many_end {N m : Nat} {L : List QR} (hp : L.Perm (rowsN N m)) (hs : SortQ L) (h0 : 0 < m) (hm : m ≤ N) (hN : N ≤ 1026) (hm4 : m ≤ 1024) (hnd : (L.map QR.key).Nodup) :
    setE L (kN 0) 0 = 0 ∧ (setQ L (kN 0) 0).length = m ∧ (dueQ (setQ L (kN 0) 0) 0).length = 1 := by
  have hh : hasQ L (kN 0) = true := by
    rw [has_perm hp]; exact (has_iff _ _).2 ((rows_key N m 0 (by omega) (by omega)).2 h0)
  have e : setE L (kN 0) 0 = 0 := by unfold setE; rw [if_neg (by omega), if_pos hh]
  have hD : (delQ L (kN 0)).Perm (rowsN N m |>.filter (fun r => !decide (r.key = kN 0))) := hp.filter _
  have hpos : ∀ r ∈ delQ L (kN 0), 0 < r.time := fun r hr => by
    have := (List.mem_filter.1 (hD.mem_iff.1 hr)).1
    unfold rowsN at this
    obtain ⟨j, hj, rfl⟩ := List.mem_map.1 this
    rw [List.mem_range] at hj
    dsimp only; omega
  have hins : insQ ⟨kN 0, 0⟩ (delQ L (kN 0)) = ⟨kN 0, 0⟩ :: delQ L (kN 0) := by
    cases hd : delQ L (kN 0) with
    | nil => rfl
    | cons x D =>
      have hx := hpos x (by rw [hd]; exact List.mem_cons_self)
      have : ltQ x ⟨kN 0, 0⟩ = false := by
        rw [Bool.eq_false_iff]; intro h
        rcases (ltQ_iff _ _).1 h with h | ⟨h, _⟩ <;> dsimp only at h <;> omega
      unfold insQ
      rw [this]; rfl
  have hset : setQ L (kN 0) 0 = ⟨kN 0, 0⟩ :: delQ L (kN 0) := by unfold setQ; rw [if_pos e, hins]
  refine ⟨e, ?_, ?_⟩
  · obtain ⟨x, hx, ek⟩ := List.mem_map.1 ((has_iff _ _).1 hh)
    obtain ⟨l1, l2, rfl⟩ := List.append_of_mem hx
    have h1 := del_perm (List.perm_middle (a := x) (l₁ := l1) (l₂ := l2)).symm hnd ek
    rw [hset, List.length_cons, ← h1.length_eq]
    have h2 := hp.length_eq
    simp [rowsN] at h2 ⊢
    omega
  · rw [hset]
    have := due_split (now := 0) (R := delQ L (kN 0)) (fun x R' e => hpos x (by rw [e]; exact List.mem_cons_self)) [⟨kN 0, 0⟩] (by simp)
    rw [List.singleton_append] at this
    rw [this.1]; rfl
set_option maxRecDepth 20000 in
set_option maxHeartbeats 16000000 in
theorem many_walk (w : World) (x : Int) :
    Calls Try.prog 4 #[.int .i64 x] w fun e w' => e = .returned (.bool true) ∧ Below w.heap.size w w' := by
  obtain ⟨N, hN, hN0, hN1⟩ := modN x
  have HN := Lib.hid hN
  clear hN
  go_enter Try.func4, Try.ntmps4
  go_wp2_with fail
  refine (qnew_any w).mono ?_
  rintro e w0 ⟨rfl, q0, t0, f0⟩
  have N0 := Lib.hid (QN.new (Touch.refl w _) q0 t0 f0)
  clear q0 t0 f0
  obtain ⟨b1, hb1⟩ : ∃ b1, w.heap.size = b1 := ⟨_, rfl⟩
  rw [hb1] at N0 ⊢
  have HB1 := Lib.hid hb1
  clear hb1
  go_upto_region 4 with (fail)
  rw [HN.out]
  clear HN
  go_loopw [13] (fun s13 wr => ∃ (k : Nat) (L : List QR) (h : QH), k ≤ N ∧ s13 = .int .i64 k ∧ QN w wr b1 h L ∧ L.Perm (rowsN N (min k 1024))) (fun s13 _ => N - (intOf s13).toNat)
  case atStart => exact ⟨0, [], _, Nat.zero_le _, rfl, N0.out, .refl _⟩
  case round =>
    obtain ⟨k, L, h, hk, rfl, hq, hp⟩ := hrel
    have HQ := Lib.hid hq
    have HP := Lib.hid hp
    clear hq hp N0
    by_cases hlt : k < N
    case neg =>
      obtain rfl : N = k := by omega
      have hs0 := two_str wr 0 0 (by omega) (by omega)
      have hkz : strB [0, 0] = kN 0 := rfl
      rw [hkz] at hs0
      have e0 : ((0 : Nat) : Int) = 0 := rfl
      rw [e0] at hs0
      clear hkz e0
      obtain ⟨WS, hWS⟩ : ∃ W, wr.alloc (.cells #[.int .u8 0, .int .u8 0] 5) = W := ⟨_, rfl⟩
      have tS : Touch wr WS (fun _ => False) := hWS ▸ (Touch.refl wr _).alloc _
      rw [hWS] at hs0
      have HQS := Lib.hid (HQ.out.still tS)
      obtain ⟨m1, m2, m3⟩ := many_end HP.out HQS.out.q.1 (by omega) (by omega) hN1 (by omega) HQS.out.q.nd
      have HS := Lib.hid (qset_any WS b1 _ _ HQS.out.q (kN 0) (by decide) 0)
      rw [m1] at HS
      have HM2 := Lib.hid m2
      have HM3 := Lib.hid m3
      clear tS m1 m2 m3
      go_wp2_with fail
      (with_reducible refine HS.out.mono ?_)
      rintro e x1 ⟨rfl, s1⟩
      obtain ⟨h1, n1, -⟩ := HQS.out.step s1
      have HL := Lib.hid (qlen_any x1 b1 _ _ n1.q)
      have HU := Lib.hid (qdue_any x1 b1 _ _ n1.q 0)
      rw [HM2.out] at HL
      have N1 := Lib.hid n1
      have hmin : (min (N : Int) 1024) = ((min N 1024 : Nat) : Int) := by omega
      clear s1 n1
      go_wp2_with fail
      (with_reducible refine HL.out.mono ?_)
      rintro e w' ⟨rfl, rfl⟩
      go_wp2_with fail
      all_goals
        (with_reducible refine HU.out.mono ?_)
        rintro e x2 ⟨v2, rfl, s2⟩
        obtain ⟨a2, c2, h2, rfl, -, -, n2, -, -⟩ := N1.out.due s2
        have HT2 := Lib.hid n2.t
        clear s2 n2
        rw [HM3.out]
        go_wp2_with fail
        refine (awake10 x2).mono ?_
        rintro e x7 ⟨rfl, t7⟩
        have HT7 := Lib.hid (HT2.out.trans t7 (fun _ _ h => h))
        clear t7
        go_wp2_with fail
        go_ret
        exact ⟨rfl, HT7.out.below (fun _ _ h => h.elim) (Nat.le_refl _)⟩
    case pos =>
      have hlI : (k : Int) < N := by omega
      have hs0 := two_str wr (k / 256) (k % 256) (by omega) (by omega)
      have hkz : strB [k / 256, k % 256] = kN k := rfl
      have e1 : (k : Int) / 256 = ((k / 256 : Nat) : Int) := by omega
      have e2 : (k : Int) % 256 = ((k % 256 : Nat) : Int) := by omega
      rw [hkz, ← e1, ← e2] at hs0
      obtain ⟨WS, hWS⟩ : ∃ W, wr.alloc (.cells #[.int .u8 ((k : Int) / 256), .int .u8 ((k : Int) % 256)] 5) = W := ⟨_, rfl⟩
      have tS : Touch wr WS (fun _ => False) := hWS ▸ (Touch.refl wr _).alloc _
      rw [hWS] at hs0
      have HQS := Lib.hid (HQ.out.still tS)
      have hms := many_set HP.out hlt hN1
      have HS := Lib.hid (qset_any WS b1 _ _ HQS.out.q (kN k) (by have : (kN k).size = 2 := rfl; omega) ((N : Int) - k))
      rw [hms.1] at HS
      have HMS := Lib.hid hms.2
      clear tS hms hkz e1 e2
      go_wp2_with fail
      (with_reducible refine HS.out.mono ?_)
      rintro e x1 ⟨rfl, s1⟩
      obtain ⟨h1, n1, -⟩ := HQS.out.step s1
      have HX : RowKit.Hid (∃ (k' : Nat) (L' : List QR) (h' : QH), k' ≤ N ∧ Value.int .i64 ((k : Int) + 1) = .int .i64 k' ∧ QN w x1 b1 h' L' ∧ L'.Perm (rowsN N (min k' 1024))) := Lib.hid ⟨k + 1, _, h1, by omega, by go_num, n1, HMS.out⟩
      clear s1 n1 hs0 hWS
      by_cases hk4 : k < 1024
      · have hkI : (k : Int) < 1024 := by omega
        rw [if_pos hk4]
        go_wp2_with fail
        go_roundw
        · exact HX.out
        · simp only [intOf]; omega
      · have hkI : ¬ (k : Int) < 1024 := by omega
        rw [if_neg hk4]
        go_wp2_with fail
        go_roundw
        · exact HX.out
        · simp only [intOf]; omega
theorem dueMany_holds : Rows.DueManySaid := by
  refine dueMany.said fun H enc W base v0 d0 p0 h0 => ?_
  obtain ⟨x, rfl, _⟩ := h0.i64 Try.underlying3
  exact many_walk W x
end Go.Proofs.Ytdjkjdeaglimeaa
