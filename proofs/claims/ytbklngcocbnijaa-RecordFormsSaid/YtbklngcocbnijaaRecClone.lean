/- Records: a row of backends is copied; Plain of package record. -/
import Derived.Test.YtbklngcocbnijaaRecPlain
set_option linter.unusedVariables false
set_option linter.unusedSimpArgs false
namespace Go.Proofs.Ytbklngcocbnijaa
open Go.RowKit

theorem bk_one (bs : List BkD) : ∀ l ∈ bs.map BkD.cells, ∀ u ∈ l, u.oneCell' = true := by
  intro l hl u hu
  obtain ⟨b, _, rfl⟩ := List.mem_map.1 hl
  simp only [BkD.cells, List.mem_cons, List.not_mem_nil, or_false] at hu
  rcases hu with rfl | rfl | rfl <;> rfl
theorem bk_three (bs : List BkD) : ∀ l ∈ bs.map BkD.cells, l.length = 3 := by
  intro l hl
  obtain ⟨b, _, rfl⟩ := List.mem_map.1 hl
  rfl
theorem setk2 {w : World} {n j : Nat} {v : Value} {o : Option Obj} (h : w.heap[n]? = o) : (w.setCell ⟨n + 1 + 1, j, none⟩ v).heap[n]? = o := by
  rw [heap_setCell_other _ _ _ _ (by simp; omega)]; exact h
set_option maxRecDepth 20000 in
set_option maxHeartbeats 1000000 in
theorem cloneK_any (a : Option Addr) (len cap : Nat) (bs : List BkD) (w : World) (hr : RowK w a len cap bs) (hlen : len ≤ 100000) :
    Calls Try.prog 37 #[.slice a len cap] w fun e w' => ∃ (a' : Option Addr) (cap' : Nat), e = .returned (.slice a' len cap') ∧ OwnK w' w.heap.size (.slice a' len cap') bs ∧ Touch w w' (fun _ => False) := by
  have hq := fun (w : World) (a : Option Addr) (n c : Nat) => Lib.run_eql_slice_nil (P := Try.prog) w 27 61 a n c 0 0 Try.underlying27
  have hbl : bs.length = len := by have := hr.hlen; simpa using this
  cases a with
  | none =>
    have h0 : len = 0 := by
      rcases hr.at_ with h0 | ⟨b, off, ha, _⟩
      · exact h0
      · cases ha
    subst h0
    have hb : bs = [] := List.length_eq_zero_iff.1 hbl
    subst hb
    go_enter Try.func37, Try.ntmps37
    go_wp2
    go_ret
    exact ⟨none, 0, rfl, OwnK.none _ _, Touch.refl _ _⟩
  | some ad =>
    have t1 := (Touch.refl w (fun _ => False)).alloc (.cells #[] 61)
    have HR := Lib.hid (hr.still t1)
    have HB := Lib.hid (t1.under (Nat.le_refl w.heap.size))
    have HO : RowKit.Hid (OwnS (w.alloc (.cells #[] 61)) w.heap.size 61 3 (.slice (some ⟨w.heap.size, 0, none⟩) 0 0) []) := Lib.hid (OwnS.lit w _ (Nat.le_refl _) _ 3 0 [] #[] rfl rfl (by simp) (by decide))
    have HIF := Lib.hid infoBk
    have HL := Lib.hid hbl
    clear hr t1 hbl
    go_enter Try.func37, Try.ntmps37
    go_wp2_with (at_builtin; (with_reducible refine wp_appS HO.out HR.out.toS (bk_one bs) 27 Try.underlying27 _ 24 HIF.out rfl (by decide) (by simp only [maxLen, List.length_nil]; omega) (by simp only [List.length_nil]; omega) HB.out (Nat.le_refl _) HB.out.size rfl _ _ rfl rfl rfl len _ (Nat.zero_add _) (List.nil_append _) ?_); intro a3 c3 w3 ho3 hg3 hb3 hp3)
    go_ret
    exact ⟨a3, c3, rfl, ho3, Touch.ofBelow hb3 (fun k h1 h2 => by omega)⟩

set_option maxRecDepth 20000 in
set_option maxHeartbeats 4000000 in
theorem plain_three (r : RecD) (a : Option Addr) (cap : Nat) (w : World) (hk : r.kind = 3) (hr : RowK w a r.bs.length cap r.bs) (hlen : r.bs.length ≤ 100000) :
    Calls Try.prog 15 #[.agg (rcs r a cap)] w fun e w' => RecIs w w' (plainD r) e := by
  have hp : plainD r = ⟨3, noT, 0, 0, 0, r.gen, r.bs, 0, 0, 0⟩ := by unfold plainD; rw [if_neg (by omega), if_neg (by omega), if_pos hk]
  rw [hp]
  clear hp
  obtain ⟨kind, ⟨src, dst, proto, sport, dport⟩, fb, fg, fs, gen, bs, be, un, ct⟩ := r
  simp only at hk hr hlen
  subst hk
  simp only [rcs]
  have HR := Lib.hid hr
  clear hr
  go_enter Try.func15, Try.ntmps15
  go_wp2_with fail
  obtain ⟨W3, hW3⟩ : ∃ W, ((w.alloc (.cells #[.int .i64 3, .int .u32 src, .int .u32 dst, .int .i64 proto, .int .i64 sport, .int .i64 dport, .int .i64 fb, .int .i64 fg, .int .i64 fs, .int .i64 gen, .slice a bs.length cap, .int .i64 be, .int .i64 un, .int .i64 ct] 29)).alloc (.cells #[.int .i64 0, .int .u32 0, .int .u32 0, .int .i64 0, .int .i64 0, .int .i64 0, .int .i64 0, .int .i64 0, .int .i64 0, .int .i64 0, .slice none 0 0, .int .i64 0, .int .i64 0, .int .i64 0] 29)).alloc (.cells #[.int .i64 3, .int .u32 0, .int .u32 0, .int .i64 0, .int .i64 0, .int .i64 0, .int .i64 0, .int .i64 0, .int .i64 0, .int .i64 0, .slice none 0 0, .int .i64 0, .int .i64 0, .int .i64 0] 29) = W := ⟨_, rfl⟩
  have t3 : Touch w W3.drew (fun _ => False) := hW3 ▸ (still3 _ _ _ _).drew
  have HA : RowKit.Hid (W3.drew.heap[w.heap.size]? = some (.cells (rcs ⟨3, ⟨src, dst, proto, sport, dport⟩, fb, fg, fs, gen, bs, be, un, ct⟩ a cap) 29 (0, 0))) := Lib.hid (hW3 ▸ heap_low w _ _ _)
  have HM : RowKit.Hid (W3.drew.heap[w.heap.size + 1]? = some (.cells (rcs ⟨0, noT, 0, 0, 0, 0, [], 0, 0, 0⟩ none 0) 29 (0, 0))) := Lib.hid (hW3 ▸ heap_mid w _ _ _)
  have HP : RowKit.Hid (W3.drew.heap[w.heap.size + 2]? = some (.cells (rcs ⟨3, noT, 0, 0, 0, 0, [], 0, 0, 0⟩ none 0) 29 (0, 0))) := Lib.hid (hW3 ▸ heap_top w _ _ _)
  have hsz : W3.heap.size = w.heap.size + 3 := by rw [← hW3]; simp
  have HSZ := Lib.hid hsz
  have HR := Lib.hid (HR.out.still t3)
  have HT := Lib.hid t3
  rw [hW3]
  clear hW3 t3 hsz
  go_region_held3 (fun w' => w'.cell? ⟨w.heap.size, 9, none⟩ = some (.int .i64 gen) ∧ w'.cell? ⟨w.heap.size, 10, none⟩ = some (.slice a bs.length cap))
    (first | (with_reducible exact rgen_of HA.out) | (with_reducible exact rgen_of (setk2 HA.out)) | (with_reducible exact rgen_of (setk2 (setk2 HA.out))) | go_keep)
    (((go_at_call 37; (with_reducible refine (cloneK_any _ _ _ _ _ HR.out hlen).mono ?_); rintro e w4 ⟨a4, c4, rfl, ho4, t4⟩; have HA := Lib.hid (t4.keeps HA.out (fun h => h)); have HP := Lib.hid (t4.keeps HP.out (fun h => h)); have HM := Lib.hid (t4.keeps HM.out (fun h => h)); have p9 := cell_of_cells HP.out 9; have p10 := cell_of_cells HP.out 10; have pf := free_of_cells HP.out; have HO4 := Lib.hid ho4; have HT4 := Lib.hid t4; simp [rcs] at p9 p10; clear ho4 t4)))
  all_goals (
    have hp0 := HP.out
    have hset := heap_setCell_same _ (w.heap.size + 1 + 1) 10 _ _ (.slice a4 bs.length c4) (heap_setCell_same w4 (w.heap.size + 1 + 1) 9 _ _ (.int .i64 gen) hp0)
    have HPX : RowKit.Hid (((w4.setCell ⟨w.heap.size + 1 + 1, 9, none⟩ (.int .i64 gen)).setCell ⟨w.heap.size + 1 + 1, 10, none⟩ (.slice a4 bs.length c4)).heap[w.heap.size + 1 + 1]? = some (.cells (rcs ⟨3, noT, 0, 0, 0, gen, bs, 0, 0, 0⟩ a4 c4) 29 (0, 0))) := Lib.hid hset
    have tp : Touch w4 ((w4.setCell ⟨w.heap.size + 1 + 1, 9, none⟩ (.int .i64 gen)).setCell ⟨w.heap.size + 1 + 1, 10, none⟩ (.slice a4 bs.length c4)) (fun k => k = w.heap.size + 1 + 1) := ((Touch.refl w4 (fun k => k = w.heap.size + 1 + 1)).into 9 _).into 10 _
    have HMX := Lib.hid (tp.keeps HM.out (fun h => (by omega)))
    have HIR := Lib.hid infoRec
    have HTX := Lib.hid ((HT.out.trans HT4.out (fun _ _ h => h)).trans tp (fun k h1 h2 => (by omega)))
    have HOX := Lib.hid ((HO4.out.touch tp (fun x hx h => (by have h1 : W3.heap.size ≤ x := ((OwnS.own HO4.out).lt x hx).1; have h2 := HSZ.out; omega))).rebase (base' := w.heap.size) (fun x hx => (by have h1 : W3.heap.size ≤ x := ((OwnS.own HO4.out).lt x hx).1; have h2 := HSZ.out; omega)))
    clear hp0 hset tp p9 p10 pf
    go_wp2_with (first
      | (refine wpList_load_row rfl 29 (.tmp 3) rfl (w.heap.size + 1 + 1) rfl _ _ _ _ HPX.out Try.underlying29 rfl HIR.out ?_)
      | (refine store_row rfl 29 (.tmp 2) (.tmp 48) rfl (w.heap.size + 1) _ rfl rfl _ _ HMX.out HIR.out rfl rfl ?_))
    refine recRet ⟨3, noT, 0, 0, 0, gen, bs, 0, 0, 0⟩ (w.heap.size + 1) a4 c4 rfl rfl rfl (setRow_heap _ _ _ _ _ _ HMX.out) ?_ (HTX.out.setRow _ _ (fun h => absurd h (by omega)))
    exact HOX.out.touch ((Touch.refl _ (fun k => k = w.heap.size + 1)).setRow _ _ (fun _ => rfl)) (fun x hx h => (by have h1 : W3.heap.size ≤ x := ((OwnS.own HO4.out).lt x hx).1; have h2 := HSZ.out; omega)))
theorem plain_any (r : RecD) (a : Option Addr) (cap : Nat) (w : World) (hr : RowK w a r.bs.length cap r.bs) (hlen : r.bs.length ≤ 100000) :
    Calls Try.prog 15 #[.agg (rcs r a cap)] w fun e w' => RecIs w w' (plainD r) e := by
  by_cases h1 : r.kind = 1
  · exact plain_one r a cap w h1
  by_cases h2 : r.kind = 2
  · exact plain_two r a cap w h2
  by_cases h3 : r.kind = 3
  · exact plain_three r a cap w h3 hr hlen
  by_cases h4 : r.kind = 4
  · exact plain_four r a cap w h4
  by_cases h5 : r.kind = 5
  · exact plain_five r a cap w h5
  by_cases h6 : r.kind = 6
  · exact plain_six r a cap w h6
  exact plain_else r a cap w h1 h2 h3 h4 h5 h6
end Go.Proofs.Ytbklngcocbnijaa
