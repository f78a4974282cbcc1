/- A chooser that there isn't; the known choice: awake answers true. -/
import Derived.Test.YtfjnhaoiecndpaaCho4
set_option linter.unusedVariables false
namespace Go.Proofs.Ytfjnhaoiecndpaa
open Go.RowKit

theorem tab_mem {bs : List BkD} {n : Nat} (hp : Prm n) (hg : gmay bs = true) (h0 : 0 < bs.length) : ∀ x ∈ tabF bs n, ∃ b ∈ bs, x = b.id := by
  intro x hx
  unfold tabF at hx
  rw [if_neg (by simp only [hg, not_or]; exact ⟨by omega, by simp⟩)] at hx
  have hI := inv_all (rows_fine hp hg) (by rw [rowsF_length]; exact h0) n (Nat.le_refl _)
  rcases hI.mem x hx with h1 | ⟨r, hr, h1⟩
  · have h2 := hI.free
    have h3 : 0 < (stM (rowsF bs n) n n).1.count (-1) := List.count_pos_iff.2 (h1 ▸ hx)
    omega
  · obtain ⟨b, hb, rfl⟩ := List.mem_map.1 hr
    exact ⟨b, hb, h1⟩

set_option maxRecDepth 20000 in
set_option maxHeartbeats 2000000 in
theorem find_nil (id : Int) (w : World) : Calls Try.prog 6 #[.pointer none, .int .i64 id] w fun e w' => e = .returned (.tuple #[bkV' bkZ, .bool false]) ∧ Touch w w' (fun _ => False) := by
  obtain ⟨W0, hW0⟩ : ∃ W, w.alloc (.cells #[.int .i64 0, .int .u32 0, .int .i64 0] 28) = W := ⟨_, rfl⟩
  have t0 : Touch w W0 (fun _ => False) := hW0 ▸ (Touch.refl w _).alloc _
  have g0 : W0.heap[w.heap.size]? = some (.cells #[.int .i64 0, .int .u32 0, .int .i64 0] 28 (0, 0)) := hW0 ▸ heap_alloc_new ..
  have HT0 := Lib.hid t0
  have HG0 := Lib.hid g0
  have HII := Lib.hid infoBk3
  have HW0 := Lib.hid hW0
  clear t0 g0 hW0
  go_enter Try.func6, Try.ntmps6
  go_upto_region 1 with (fail)
  rw [HW0.out]
  go_wp2_with (refine store_row rfl 28 (.tmp 4) (.tmp 8) rfl w.heap.size _ rfl rfl _ _ HG0.out HII.out rfl rfl ?_)
  refine ret_row1 rfl rfl w.heap.size _ #[.int .i64 0, .int .u32 0, .int .i64 0] _ _ rfl (setRow_heap _ _ _ _ _ _ HG0.out) Try.underlying28 rfl HII.out (.bool false) rfl ?_
  exact ⟨rfl, HT0.out.setRow _ _ (fun h => absurd h (by omega))⟩

set_option maxRecDepth 20000 in
set_option maxHeartbeats 2000000 in
theorem pick_nil (t : TupD) (w : World) : Calls Try.prog 5 #[.pointer none, .agg (tcs t)] w fun e w' => e = .returned (.tuple #[bkV' bkZ, .bool false]) ∧ Touch w w' (fun _ => False) := by
  obtain ⟨W0, hW0⟩ : ∃ W, (w.alloc (.cells (tcs t) 25)).alloc (.cells #[.int .i64 0, .int .u32 0, .int .i64 0] 28) = W := ⟨_, rfl⟩
  have t0 : Touch w W0 (fun _ => False) := hW0 ▸ ((Touch.refl w _).alloc _).alloc _
  have g0 : W0.heap[w.heap.size + 1]? = some (.cells #[.int .i64 0, .int .u32 0, .int .i64 0] 28 (0, 0)) := by
    have := heap_alloc_new (w.alloc (.cells (tcs t) 25)) (.cells #[.int .i64 0, .int .u32 0, .int .i64 0] 28)
    rw [hW0] at this
    simpa using this
  have HT0 := Lib.hid t0
  have HG0 := Lib.hid g0
  have HII := Lib.hid infoBk3
  have HW0 := Lib.hid hW0
  simp only [tcs] at HW0 ⊢
  clear t0 g0 hW0
  go_enter Try.func5, Try.ntmps5
  go_upto_region 1 with (fail)
  rw [HW0.out]
  go_wp2_with (refine store_row rfl 28 (.tmp 4) (.tmp 22) rfl (w.heap.size + 1) _ rfl rfl _ _ HG0.out HII.out rfl rfl ?_)
  refine ret_row1 rfl rfl (w.heap.size + 1) _ #[.int .i64 0, .int .u32 0, .int .i64 0] _ _ rfl (setRow_heap _ _ _ _ _ _ HG0.out) Try.underlying28 rfl HII.out (.bool false) rfl ?_
  exact ⟨rfl, HT0.out.setRow _ _ (fun h => absurd h (by omega))⟩

set_option maxRecDepth 20000 in
theorem set_nil (a : Option Addr) (len cap : Nat) (f : Value) (w : World) : Calls Try.prog 7 #[.pointer none, .slice a len cap, f] w fun e w' => e = .returned (.int .i64 1) ∧ w = w' := by
  go_enter Try.func7, Try.ntmps7
  go_wp2_with fail
  go_ret
  exact ⟨rfl, rfl⟩
theorem table_nil (w : World) : Calls Try.prog 8 #[.pointer none] w fun e w' => e = .returned (.slice none 0 0) ∧ w = w' := by
  go_enter Try.func8, Try.ntmps8
  go_wp2_with fail
  go_ret
  exact ⟨rfl, rfl⟩
theorem made_nil (w : World) : Calls Try.prog 9 #[.pointer none] w fun e w' => e = .returned (.int .i64 0) ∧ w = w' := by
  go_enter Try.func9, Try.ntmps9
  go_wp2_with fail
  go_ret
  exact ⟨rfl, rfl⟩

def bkA : BkD := ⟨5, 0, 1⟩
theorem gmayA : gmay [bkA] = true := by decide +kernel
def tupA : TupD := ⟨0, 0, 6, 0, 0⟩
theorem mayTA : mayTB tupA = true := by decide +kernel
theorem tupOkA : TupOk tupA := ⟨by unfold u32; decide, by unfold u32; decide, by unfold i64; decide, by unfold i64; decide, by unfold i64; decide⟩

theorem pickA (C : Nat) (ab : Option Addr) (lb cb G m : Nat) (w : World)
    (hc : w.heap[C]? = some (.cells (chC 7 ab lb cb (some ⟨G, 0, none⟩) 7 7 m) 49 (0, 0))) (hr : RowK w ab lb cb [bkA]) (hi : RowI w (some ⟨G, 0, none⟩) 7 7 (tabF [bkA] 7)) :
    Calls Try.prog 5 #[.pointer (some ⟨C, 0, none⟩), .agg (tcs tupA)] w fun e w' => e = .returned (.tuple #[.agg #[.int .i64 5, .int .u32 0, .int .i64 1], .bool true]) ∧ Touch w w' (fun _ => False) := by
  refine (pick_any 7 C ab lb cb G m [bkA] (tabF [bkA] 7) tupA w (by omega) (by omega) tupOkA mayTA hc hr hi).mono ?_
  rintro e w' ⟨⟨hlt, rfl⟩, t⟩
  refine ⟨?_, t⟩
  have hid : (tabF [bkA] 7)[hashF tupA % 7] = 5 := by
    obtain ⟨b, hb, he⟩ := tab_mem prm7 gmayA (by decide) _ (List.getElem_mem hlt)
    simp at hb
    rw [he, hb]; rfl
  rw [hid]; rfl

set_option maxRecDepth 20000 in
set_option maxHeartbeats 4000000 in
theorem awake19 (w : World) : Calls Try.prog 10 #[] w fun e w' => e = .returned (.bool true) ∧ Touch w w' (fun _ => False) := by
  have HN := Lib.hid (new_any 7 w prm7)
  have HN8 := Lib.hid (fun W => new8 W)
  have HP := Lib.hid (fun (C : Nat) ab lb cb (G m : Nat) (W : World) hc hr hi => pickA C ab lb cb G m W hc hr hi)
  have HII := Lib.hid infoBk3
  simp only [tupA, tcs] at HP
  go_enter Try.func10, Try.ntmps10
  go_wp2_with fail
  refine HN.out.mono ?_
  rintro e w1 ⟨C, G, rfl, hc, hC, hi, t1⟩
  have HC := Lib.hid hc
  have HT1 := Lib.hid t1
  have HCw := Lib.hid hC
  have HK : RowKit.Hid (RowK (w1.alloc (.cells #[.int .i64 5, .int .u32 0, .int .i64 1] 28)) (some ⟨w1.heap.size, 0, none⟩) 1 1 [bkA]) := Lib.hid
    ((OwnS.lit w1 w1.heap.size (Nat.le_refl _) 28 3 1 ([bkA].map BkD.cells) _ rfl rfl (by simp [bkA, BkD.cells]) (by omega)).row').2.1
  clear hi t1 hc hC
  go_wp2_with fail
  have t2 := (Touch.refl w1 (fun _ => False)).alloc (.cells #[.int .i64 5, .int .u32 0, .int .i64 1] 28)
  have hCl : C < w1.heap.size := heap_lt HC.out
  refine (set_any 7 C _ _ _ _ _ _ 0 _ 1 1 [bkA] _ prm7 (by omega) (t2.keeps HC.out (fun h => h)) HK.out gmayA (fun x hx => .inr (fun h => by cases hx; simp at h; omega))).mono ?_
  rintro e w3 ⟨rfl, a3, c3, G3, hc3, hk3, hi3, t3⟩
  have HT3 : RowKit.Hid (Touch w w3 (fun _ => False)) := Lib.hid ((HT1.out.trans t2 (fun _ _ h => h)).trans t3 (fun k hk h => by have := HCw.out; omega))
  have HPK := Lib.hid (HP.out C a3 1 c3 G3 1 w3 hc3 hk3 hi3)
  clear t2 t3 hc3 hk3 hi3 HP HK
  go_wp2_with fail
  refine HPK.out.mono ?_
  rintro e w4 ⟨rfl, t4⟩
  obtain ⟨W5, hW5⟩ : ∃ W, w4.alloc (.cells #[.int .i64 0, .int .u32 0, .int .i64 0] 28) = W := ⟨_, rfl⟩
  have g5 : W5.heap[w4.heap.size]? = some (.cells #[.int .i64 0, .int .u32 0, .int .i64 0] 28 (0, 0)) := hW5 ▸ heap_alloc_new ..
  have t5 : Touch w4 W5 (fun _ => False) := hW5 ▸ (Touch.refl w4 _).alloc _
  have HT5 := Lib.hid ((HT3.out.trans t4 (fun _ _ h => h)).trans t5 (fun _ _ h => h))
  have HG5 := Lib.hid g5
  have hw4 : w.heap.size ≤ w4.heap.size := Nat.le_trans HT3.out.size t4.size
  have HT6 : RowKit.Hid (Touch w (W5.setRow w4.heap.size #[.int .i64 5, .int .u32 0, .int .i64 1]) (fun _ => False)) := Lib.hid (HT5.out.setRow _ _ (fun h => by omega))
  have HX : RowKit.Hid ((W5.setRow w4.heap.size #[.int .i64 5, .int .u32 0, .int .i64 1]).cell? ⟨w4.heap.size, 0, none⟩ = some (.int .i64 5)) := Lib.hid (cell_of_cells (setRow_heap _ _ _ _ _ _ HG5.out) 0)
  have HW5 := Lib.hid hW5
  clear t4 g5 t5 hW5
  have hx := HX.out
  go_wp2_with (first
    | (rw [HW5.out]; refine store_row rfl 28 (.tmp 3) (.tmp 14) rfl w4.heap.size _ rfl rfl _ _ HG5.out HII.out rfl rfl ?_)
    | (go_at_call 12; (with_reducible refine (HN8.out _).mono ?_); rintro e w9 ⟨rfl, rfl⟩))
  go_ret
  exact ⟨rfl, HT6.out⟩
end Go.Proofs.Ytfjnhaoiecndpaa
