/- The reference's queue: At, Drop. -/
import Derived.Test.YtdjkjdeaglimeaaDueTwo
import Derived.Test.YtdjkjdeaglimeaaAppNil
set_option linter.unusedVariables false
set_option linter.unusedSimpArgs false
namespace Go.Proofs.Ytdjkjdeaglimeaa
open Go.RowKit

/-- The reference's queue in block b holds the rows L. -/
structure RQ (w : World) (b : Nat) (a : Option Addr) (c : Nat) (L : List QR) : Prop where
  head : w.heap[b]? = some (.cells #[.slice a L.length c] 28 (0, 0))
  row : RowS w a L.length c 2 (L.map qcl)
  ne : ∀ x, a = some x → L.length = 0 ∨ x.block ≠ b
  pl : a = none ∨ ∃ g off, a = some ⟨g, off, none⟩
  lt : ∀ x, a = some x → L.length = 0 ∨ x.block < w.heap.size
theorem RQ.still {w w' : World} {b : Nat} {a : Option Addr} {c : Nat} {L : List QR} (q : RQ w b a c L) (t : Touch w w' (fun _ => False)) : RQ w' b a c L := ⟨t.keeps q.head (fun h => h), q.row.still t, q.ne, q.pl, fun x hx => (q.lt x hx).imp (fun h => h) (fun h => Nat.lt_of_lt_of_le h t.size)⟩
theorem RQ.cell2 {w : World} {b g off c : Nat} {L : List QR} (q : RQ w b (some ⟨g, off, none⟩) c L) (i : Nat) (hi : i < L.length) : w.cell? ⟨g, off + i * 2, none⟩ = some (.string (gq L i).key) ∧ w.cell? ⟨g, off + i * 2 + 1, none⟩ = some (.int .i64 (gq L i).time) := by
  have hi' : i < (L.map qcl).length := by simpa using hi
  have e : (L.map qcl)[i] = qcl (gq L i) := by rw [List.getElem_map, gq_get L i hi]
  have h0 := q.row.cell i hi' 0 (.string (gq L i).key) (by rw [e]; rfl)
  have h1 := q.row.cell i hi' 1 (.int .i64 (gq L i).time) (by rw [e]; rfl)
  exact ⟨h0, h1⟩
theorem has_take {L : List QR} {k : ByteArray} {i : Nat} (hi : i < L.length) (h : hasQ (L.take i) k = false) (hne : ¬ (gq L i).key = k) : hasQ (L.take (i + 1)) k = false := by
  rw [List.take_succ_eq_append_getElem hi]
  unfold hasQ at h ⊢
  rw [List.any_append, h, ← gq_get L i hi]
  simp [hne]
theorem time_take {L : List QR} {k : ByteArray} {i : Nat} (hi : i < L.length) (h : hasQ (L.take i) k = false) (he : (gq L i).key = k) : timeQ L k = (gq L i).time ∧ hasQ L k = true := by
  refine ⟨?_, ?_⟩
  · induction L generalizing i with
    | nil => simp at hi
    | cons x L ih =>
      cases i with
      | zero => unfold timeQ; rw [if_pos (show x.key = k from he)]; rfl
      | succ i =>
        rw [List.take_succ_cons] at h
        unfold hasQ at h
        rw [List.any_cons, Bool.or_eq_false_iff] at h
        have hx : ¬ x.key = k := by simpa using h.1
        unfold timeQ
        rw [if_neg hx]
        exact ih (by simpa using hi) h.2 he
  · unfold hasQ; rw [List.any_eq_true]; exact ⟨gq L i, gq_mem L i hi, by simpa using he⟩
set_option maxRecDepth 20000 in
set_option maxHeartbeats 4000000 in
theorem rat_any (w : World) (b : Nat) (a : Option Addr) (c : Nat) (L : List QR) (q : RQ w b a c L) (hl : L.length ≤ 1024) (k : ByteArray) :
    Calls Try.prog 23 #[.pointer (some ⟨b, 0, none⟩), .string k] w fun e w' => e = .returned (.tuple #[.int .i64 (timeQ L k), .bool (hasQ L k)]) ∧ Touch w w' (fun _ => False) := by
  obtain ⟨n, hn⟩ : ∃ n, L.length = n := ⟨_, rfl⟩
  have c0 : w.cell? ⟨b, 0, none⟩ = some (.slice a L.length c) := cell_of_cells q.head 0
  have hcap := q.row.hcap
  have hmax := q.row.hmax
  have HQ := Lib.hid q
  have HN := Lib.hid hn
  rw [hn] at c0 hl hcap
  clear q hn
  go_enter Try.func23, Try.ntmps23
  go_wp2_with fail
  go_loopw [13] (fun s13 wr => ∃ i : Nat, i ≤ n ∧ s13 = .int .i64 i ∧ hasQ (L.take i) k = false ∧ Touch w wr (fun _ => False)) (fun s13 _ => n - (intOf s13).toNat)
  case atStart => exact ⟨0, Nat.zero_le _, rfl, rfl, Touch.refl _ _⟩
  case round =>
    obtain ⟨i, hi, rfl, hh, ht⟩ := hrel
    have HH := Lib.hid hh
    have HT := Lib.hid ht
    clear hh ht
    by_cases hlt : i < n
    case neg =>
      obtain rfl : n = i := by omega
      have hz : hasQ L k = false := by
        have := HH.out
        rwa [List.take_of_length_le (by rw [HN.out]; exact Nat.le_refl _)] at this
      have ht := time_none hz
      have HZ := Lib.hid hz
      have HTI := Lib.hid ht
      clear hz ht
      go_wp2_with fail
      go_ret2
      exact ⟨by rw [HZ.out, HTI.out]; rfl, HT.out⟩
    case pos =>
      have hq := HQ.out.still HT.out
      obtain ⟨g, off, ea⟩ := hq.row.some (by rw [HN.out]; omega)
      subst ea
      obtain ⟨d0, d1⟩ := hq.cell2 i (by rw [HN.out]; exact hlt)
      obtain ⟨W2, hW2⟩ : ∃ W, wr.alloc (.cells #[.string (gq L i).key, .int .i64 (gq L i).time] 41) = W := ⟨_, rfl⟩
      have t2 : Touch wr W2 (fun _ => False) := hW2 ▸ (Touch.refl wr _).alloc _
      have g2 : W2.heap[wr.heap.size]? = some (.cells #[.string (gq L i).key, .int .i64 (gq L i).time] 41 (0, 0)) := hW2 ▸ heap_alloc_new ..
      have x0 : W2.cell? ⟨wr.heap.size, 0, none⟩ = some (.string (gq L i).key) := cell_of_cells g2 0
      have x1 : W2.cell? ⟨wr.heap.size, 1, none⟩ = some (.int .i64 (gq L i).time) := cell_of_cells g2 1
      have HT2 := Lib.hid (HT.out.trans t2 (fun _ _ h => h))
      have HW2 := Lib.hid hW2
      have hlI : (i : Int) < n := by omega
      clear hq t2 g2 hW2
      by_cases he : (gq L i).key = k
      · have htt := time_take (by rw [HN.out]; exact hlt) HH.out he
        have HTT := Lib.hid htt
        rw [he] at x0 d0
        rw [he] at HW2
        clear htt he
        go_upto_region 4 with (fail)
        rw [HW2.out]
        clear d0 d1
        go_wp2_with fail
        go_ret2
        exact ⟨by rw [HTT.out.1, HTT.out.2]; rfl, HT2.out⟩
      · have HX : RowKit.Hid (∃ i' : Nat, i' ≤ n ∧ Value.int .i64 ((i : Int) + 1) = .int .i64 i' ∧ hasQ (L.take i') k = false ∧ Touch w W2 (fun _ => False)) := Lib.hid ⟨i + 1, by omega, by go_num, has_take (by rw [HN.out]; exact hlt) HH.out he, HT2.out⟩
        have hne : ((gq L i).key.toList == k.toList) = false := by rw [beq_eq_false_iff_ne]; intro e; exact he (toList_inj e)
        clear he
        generalize (gq L i).key = kk at *
        generalize (gq L i).time = tt at *
        go_upto_region 4 with (fail)
        rw [HW2.out]
        clear d0 d1
        go_wp2_with fail
        go_roundw
        · exact HX.out
        · simp only [intOf]; omega
end Go.Proofs.Ytdjkjdeaglimeaa
