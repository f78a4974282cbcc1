/- Records: what the reference's PlainRecord answers. -/
import Derived.Test.YtbklngcocbnijaaGCZ
set_option linter.unusedVariables false
set_option linter.unusedSimpArgs false
namespace Go.Proofs.Ytbklngcocbnijaa
open Go.RowKit

set_option maxRecDepth 20000 in
set_option maxHeartbeats 4000000 in
theorem rplain_one (r : RecD) (a : Option Addr) (cap : Nat) (w : World) (hk : r.kind = 1) :
    Calls Try.prog 16 #[.agg (rcs r a cap)] w fun e w' => RecIs w w' (plainD r) e := by
  have hp : plainD r = ⟨1, r.t, r.fb, r.fg, r.fs, 0, [], 0, 0, 0⟩ := by unfold plainD; rw [if_pos hk]
  rw [hp]
  clear hp
  obtain ⟨kind, ⟨src, dst, proto, sport, dport⟩, fb, fg, fs, gen, bs, be, un, ct⟩ := r
  simp only at hk
  subst hk
  simp only [rcs, noT]
  go_enter Try.func16, Try.ntmps16
  go_wp2
  all_goals exact recEnd w _ _ ⟨1, ⟨src, dst, proto, sport, dport⟩, fb, fg, fs, 0, [], 0, 0, 0⟩ rfl rfl rfl rfl

set_option maxRecDepth 20000 in
set_option maxHeartbeats 4000000 in
theorem rplain_two (r : RecD) (a : Option Addr) (cap : Nat) (w : World) (hk : r.kind = 2) :
    Calls Try.prog 16 #[.agg (rcs r a cap)] w fun e w' => RecIs w w' (plainD r) e := by
  have hp : plainD r = ⟨2, r.t, 0, 0, 0, 0, [], 0, 0, 0⟩ := by unfold plainD; rw [if_neg (by omega), if_pos hk]
  rw [hp]
  clear hp
  obtain ⟨kind, ⟨src, dst, proto, sport, dport⟩, fb, fg, fs, gen, bs, be, un, ct⟩ := r
  simp only at hk
  subst hk
  simp only [rcs, noT]
  go_enter Try.func16, Try.ntmps16
  go_wp2
  all_goals exact recEnd w _ _ ⟨2, ⟨src, dst, proto, sport, dport⟩, 0, 0, 0, 0, [], 0, 0, 0⟩ rfl rfl rfl rfl

set_option maxRecDepth 20000 in
set_option maxHeartbeats 4000000 in
theorem rplain_four (r : RecD) (a : Option Addr) (cap : Nat) (w : World) (hk : r.kind = 4) :
    Calls Try.prog 16 #[.agg (rcs r a cap)] w fun e w' => RecIs w w' (plainD r) e := by
  have hp : plainD r = ⟨4, noT, 0, 0, 0, 0, [], r.be, r.un, 0⟩ := by unfold plainD; rw [if_neg (by omega), if_neg (by omega), if_neg (by omega), if_pos hk]
  rw [hp]
  clear hp
  obtain ⟨kind, ⟨src, dst, proto, sport, dport⟩, fb, fg, fs, gen, bs, be, un, ct⟩ := r
  simp only at hk
  subst hk
  simp only [rcs, noT]
  go_enter Try.func16, Try.ntmps16
  go_wp2
  go_region
  all_goals go_wp2
  all_goals exact recEndD w _ _ ⟨4, noT, 0, 0, 0, 0, [], be, un, 0⟩ rfl rfl rfl rfl

set_option maxRecDepth 20000 in
set_option maxHeartbeats 4000000 in
theorem rplain_five (r : RecD) (a : Option Addr) (cap : Nat) (w : World) (hk : r.kind = 5) :
    Calls Try.prog 16 #[.agg (rcs r a cap)] w fun e w' => RecIs w w' (plainD r) e := by
  have hp : plainD r = ⟨5, noT, 0, 0, 0, 0, [], r.be, 0, 0⟩ := by unfold plainD; rw [if_neg (by omega), if_neg (by omega), if_neg (by omega), if_neg (by omega), if_pos hk]
  rw [hp]
  clear hp
  obtain ⟨kind, ⟨src, dst, proto, sport, dport⟩, fb, fg, fs, gen, bs, be, un, ct⟩ := r
  simp only at hk
  subst hk
  simp only [rcs, noT]
  go_enter Try.func16, Try.ntmps16
  go_wp2
  all_goals exact recEnd w _ _ ⟨5, noT, 0, 0, 0, 0, [], be, 0, 0⟩ rfl rfl rfl rfl

set_option maxRecDepth 20000 in
set_option maxHeartbeats 4000000 in
theorem rplain_six (r : RecD) (a : Option Addr) (cap : Nat) (w : World) (hk : r.kind = 6) :
    Calls Try.prog 16 #[.agg (rcs r a cap)] w fun e w' => RecIs w w' (plainD r) e := by
  have hp : plainD r = ⟨6, noT, 0, 0, 0, 0, [], 0, 0, r.ct⟩ := by unfold plainD; rw [if_neg (by omega), if_neg (by omega), if_neg (by omega), if_neg (by omega), if_neg (by omega), if_pos hk]
  rw [hp]
  clear hp
  obtain ⟨kind, ⟨src, dst, proto, sport, dport⟩, fb, fg, fs, gen, bs, be, un, ct⟩ := r
  simp only at hk
  subst hk
  simp only [rcs, noT]
  go_enter Try.func16, Try.ntmps16
  go_wp2
  all_goals exact recEnd w _ _ ⟨6, noT, 0, 0, 0, 0, [], 0, 0, ct⟩ rfl rfl rfl rfl

set_option maxRecDepth 20000 in
set_option maxHeartbeats 4000000 in
theorem rplain_else (r : RecD) (a : Option Addr) (cap : Nat) (w : World) (h1 : r.kind ≠ 1) (h2 : r.kind ≠ 2) (h3 : r.kind ≠ 3) (h4 : r.kind ≠ 4) (h5 : r.kind ≠ 5) (h6 : r.kind ≠ 6) :
    Calls Try.prog 16 #[.agg (rcs r a cap)] w fun e w' => RecIs w w' (plainD r) e := by
  have hp : plainD r = ⟨r.kind, noT, 0, 0, 0, 0, [], 0, 0, 0⟩ := by unfold plainD; rw [if_neg h1, if_neg h2, if_neg h3, if_neg h4, if_neg h5, if_neg h6]
  rw [hp]
  clear hp
  obtain ⟨kind, ⟨src, dst, proto, sport, dport⟩, fb, fg, fs, gen, bs, be, un, ct⟩ := r
  simp only at h1 h2 h3 h4 h5 h6
  have b1 : (kind == 1) = false := beq_eq_false_iff_ne.2 h1
  have b2 : (kind == 2) = false := beq_eq_false_iff_ne.2 h2
  have b3 : (kind == 3) = false := beq_eq_false_iff_ne.2 h3
  have b4 : (kind == 4) = false := beq_eq_false_iff_ne.2 h4
  have b5 : (kind == 5) = false := beq_eq_false_iff_ne.2 h5
  have b6 : (kind == 6) = false := beq_eq_false_iff_ne.2 h6
  simp only [rcs, noT]
  go_enter Try.func16, Try.ntmps16
  go_wp2
  all_goals exact recEnd w _ _ ⟨kind, noT, 0, 0, 0, 0, [], 0, 0, 0⟩ rfl rfl rfl rfl

set_option maxRecDepth 20000 in
set_option maxHeartbeats 4000000 in
theorem rplain_three (r : RecD) (a : Option Addr) (cap : Nat) (w : World) (hk : r.kind = 3) (hr : RowK w a r.bs.length cap r.bs) (hlen : r.bs.length ≤ 100000) :
    Calls Try.prog 16 #[.agg (rcs r a cap)] w fun e w' => RecIs w w' (plainD r) e := by
  have hp : plainD r = ⟨3, noT, 0, 0, 0, r.gen, r.bs, 0, 0, 0⟩ := by unfold plainD; rw [if_neg (by omega), if_neg (by omega), if_pos hk]
  rw [hp]
  clear hp
  obtain ⟨kind, ⟨src, dst, proto, sport, dport⟩, fb, fg, fs, gen, bs, be, un, ct⟩ := r
  simp only at hk hr hlen
  subst hk
  simp only [rcs]
  have t3 := still3 w (.cells #[.int .i64 3, .int .u32 src, .int .u32 dst, .int .i64 proto, .int .i64 sport, .int .i64 dport, .int .i64 fb, .int .i64 fg, .int .i64 fs, .int .i64 gen, .slice a bs.length cap, .int .i64 be, .int .i64 un, .int .i64 ct] 29) (.cells #[.int .i64 0, .int .u32 0, .int .u32 0, .int .i64 0, .int .i64 0, .int .i64 0, .int .i64 0, .int .i64 0, .int .i64 0, .int .i64 0, .slice none 0 0, .int .i64 0, .int .i64 0, .int .i64 0] 29) (.cells #[.int .i64 3, .int .u32 0, .int .u32 0, .int .i64 0, .int .i64 0, .int .i64 0, .int .i64 0, .int .i64 0, .int .i64 0, .int .i64 gen, .slice none 0 0, .int .i64 0, .int .i64 0, .int .i64 0] 29)
  have HR := Lib.hid (hr.still t3)
  have HT := Lib.hid t3
  have HB := Lib.hid (t3.under (Nat.le_refl w.heap.size))
  have HB3 := Lib.hid (Below.refl (((w.alloc (.cells #[.int .i64 3, .int .u32 src, .int .u32 dst, .int .i64 proto, .int .i64 sport, .int .i64 dport, .int .i64 fb, .int .i64 fg, .int .i64 fs, .int .i64 gen, .slice a bs.length cap, .int .i64 be, .int .i64 un, .int .i64 ct] 29)).alloc (.cells #[.int .i64 0, .int .u32 0, .int .u32 0, .int .i64 0, .int .i64 0, .int .i64 0, .int .i64 0, .int .i64 0, .int .i64 0, .int .i64 0, .slice none 0 0, .int .i64 0, .int .i64 0, .int .i64 0] 29)).alloc (.cells #[.int .i64 3, .int .u32 0, .int .u32 0, .int .i64 0, .int .i64 0, .int .i64 0, .int .i64 0, .int .i64 0, .int .i64 0, .int .i64 gen, .slice none 0 0, .int .i64 0, .int .i64 0, .int .i64 0] 29)).heap.size (((w.alloc (.cells #[.int .i64 3, .int .u32 src, .int .u32 dst, .int .i64 proto, .int .i64 sport, .int .i64 dport, .int .i64 fb, .int .i64 fg, .int .i64 fs, .int .i64 gen, .slice a bs.length cap, .int .i64 be, .int .i64 un, .int .i64 ct] 29)).alloc (.cells #[.int .i64 0, .int .u32 0, .int .u32 0, .int .i64 0, .int .i64 0, .int .i64 0, .int .i64 0, .int .i64 0, .int .i64 0, .int .i64 0, .slice none 0 0, .int .i64 0, .int .i64 0, .int .i64 0] 29)).alloc (.cells #[.int .i64 3, .int .u32 0, .int .u32 0, .int .i64 0, .int .i64 0, .int .i64 0, .int .i64 0, .int .i64 0, .int .i64 0, .int .i64 gen, .slice none 0 0, .int .i64 0, .int .i64 0, .int .i64 0] 29)))
  have HM : RowKit.Hid ((((w.alloc (.cells #[.int .i64 3, .int .u32 src, .int .u32 dst, .int .i64 proto, .int .i64 sport, .int .i64 dport, .int .i64 fb, .int .i64 fg, .int .i64 fs, .int .i64 gen, .slice a bs.length cap, .int .i64 be, .int .i64 un, .int .i64 ct] 29)).alloc (.cells #[.int .i64 0, .int .u32 0, .int .u32 0, .int .i64 0, .int .i64 0, .int .i64 0, .int .i64 0, .int .i64 0, .int .i64 0, .int .i64 0, .slice none 0 0, .int .i64 0, .int .i64 0, .int .i64 0] 29)).alloc (.cells #[.int .i64 3, .int .u32 0, .int .u32 0, .int .i64 0, .int .i64 0, .int .i64 0, .int .i64 0, .int .i64 0, .int .i64 0, .int .i64 gen, .slice none 0 0, .int .i64 0, .int .i64 0, .int .i64 0] 29)).heap[w.heap.size + 1]? = some (.cells (rcs ⟨0, noT, 0, 0, 0, 0, [], 0, 0, 0⟩ none 0) 29 (0, 0))) := Lib.hid (heap_mid w _ _ _)
  have HP : RowKit.Hid ((((w.alloc (.cells #[.int .i64 3, .int .u32 src, .int .u32 dst, .int .i64 proto, .int .i64 sport, .int .i64 dport, .int .i64 fb, .int .i64 fg, .int .i64 fs, .int .i64 gen, .slice a bs.length cap, .int .i64 be, .int .i64 un, .int .i64 ct] 29)).alloc (.cells #[.int .i64 0, .int .u32 0, .int .u32 0, .int .i64 0, .int .i64 0, .int .i64 0, .int .i64 0, .int .i64 0, .int .i64 0, .int .i64 0, .slice none 0 0, .int .i64 0, .int .i64 0, .int .i64 0] 29)).alloc (.cells #[.int .i64 3, .int .u32 0, .int .u32 0, .int .i64 0, .int .i64 0, .int .i64 0, .int .i64 0, .int .i64 0, .int .i64 0, .int .i64 gen, .slice none 0 0, .int .i64 0, .int .i64 0, .int .i64 0] 29)).heap[w.heap.size + 2]? = some (.cells (rcs ⟨3, noT, 0, 0, 0, gen, [], 0, 0, 0⟩ none 0) 29 (0, 0))) := Lib.hid (heap_top w _ _ _)
  have HSZ : RowKit.Hid ((((w.alloc (.cells #[.int .i64 3, .int .u32 src, .int .u32 dst, .int .i64 proto, .int .i64 sport, .int .i64 dport, .int .i64 fb, .int .i64 fg, .int .i64 fs, .int .i64 gen, .slice a bs.length cap, .int .i64 be, .int .i64 un, .int .i64 ct] 29)).alloc (.cells #[.int .i64 0, .int .u32 0, .int .u32 0, .int .i64 0, .int .i64 0, .int .i64 0, .int .i64 0, .int .i64 0, .int .i64 0, .int .i64 0, .slice none 0 0, .int .i64 0, .int .i64 0, .int .i64 0] 29)).alloc (.cells #[.int .i64 3, .int .u32 0, .int .u32 0, .int .i64 0, .int .i64 0, .int .i64 0, .int .i64 0, .int .i64 0, .int .i64 0, .int .i64 gen, .slice none 0 0, .int .i64 0, .int .i64 0, .int .i64 0] 29)).heap.size = w.heap.size + 3) := Lib.hid (by simp)
  have HIF := Lib.hid infoBk
  have HIR := Lib.hid infoRec
  have HL := Lib.hid hr.len
  clear hr t3
  go_enter Try.func16, Try.ntmps16
  go_wp2_with (first
    | (at_builtin; (with_reducible refine wp_appS (OwnS.nil _ (((w.alloc (.cells #[.int .i64 3, .int .u32 src, .int .u32 dst, .int .i64 proto, .int .i64 sport, .int .i64 dport, .int .i64 fb, .int .i64 fg, .int .i64 fs, .int .i64 gen, .slice a bs.length cap, .int .i64 be, .int .i64 un, .int .i64 ct] 29)).alloc (.cells #[.int .i64 0, .int .u32 0, .int .u32 0, .int .i64 0, .int .i64 0, .int .i64 0, .int .i64 0, .int .i64 0, .int .i64 0, .int .i64 0, .slice none 0 0, .int .i64 0, .int .i64 0, .int .i64 0] 29)).alloc (.cells #[.int .i64 3, .int .u32 0, .int .u32 0, .int .i64 0, .int .i64 0, .int .i64 0, .int .i64 0, .int .i64 0, .int .i64 0, .int .i64 gen, .slice none 0 0, .int .i64 0, .int .i64 0, .int .i64 0] 29)).heap.size _ _) HR.out.toS (bk_one bs) 27 Try.underlying27 _ 24 HIF.out rfl (by decide) (by simp only [maxLen, List.length_nil]; omega) (by simp only [List.length_nil]; omega) HB3.out (Nat.le_refl _) (Nat.le_refl _) rfl _ _ rfl rfl rfl bs.length _ (Nat.zero_add _) (List.nil_append _) ?_); intro a4 c4 w4 ho4 hg4 hb4 hp4
       have t4 := Touch.ofBelow (S := fun _ => False) hb4 (fun k h1 h2 => (by omega))
       have hp0 := t4.keeps HP.out (fun h => h)
       have hm0 := t4.keeps HM.out (fun h => h)
       have p10 := cell_of_cells hp0 10
       have pf := free_of_cells hp0
       have hset := heap_setCell_same w4 (w.heap.size + 1 + 1) 10 _ _ (.slice a4 bs.length c4) hp0
       have tp : Touch w4 (w4.setCell ⟨w.heap.size + 1 + 1, 10, none⟩ (.slice a4 bs.length c4)) (fun k => k = w.heap.size + 1 + 1) := (Touch.refl w4 (fun k => k = w.heap.size + 1 + 1)).into 10 _
       have HPX : RowKit.Hid ((w4.setCell ⟨w.heap.size + 1 + 1, 10, none⟩ (.slice a4 bs.length c4)).heap[w.heap.size + 1 + 1]? = some (.cells (rcs ⟨3, noT, 0, 0, 0, gen, bs, 0, 0, 0⟩ a4 c4) 29 (0, 0))) := Lib.hid hset
       have HMX := Lib.hid (tp.keeps hm0 (fun h => (by omega)))
       have HTX := Lib.hid ((HT.out.trans t4 (fun _ _ h => h)).trans tp (fun k h1 h2 => (by omega)))
       have HO4 := Lib.hid ho4
       have TP := Lib.hid tp
       simp [rcs] at p10
       clear ho4 hg4 hb4 hp4 t4 hp0 hm0 hset tp)
    | (refine wpList_load_row rfl 29 (.tmp 3) rfl (w.heap.size + 1 + 1) rfl _ _ _ _ HPX.out Try.underlying29 rfl HIR.out ?_)
    | (refine store_row rfl 29 (.tmp 2) (.tmp 48) rfl (w.heap.size + 1) _ rfl rfl _ _ HMX.out HIR.out rfl rfl ?_))
  refine recRet ⟨3, noT, 0, 0, 0, gen, bs, 0, 0, 0⟩ (w.heap.size + 1) a4 c4 rfl rfl rfl (setRow_heap _ _ _ _ _ _ HMX.out) ?_ (HTX.out.setRow _ _ (fun h => absurd h (by omega)))
  have hlow : ∀ x, (Value.slice a4 bs.length c4).ownBlock = some x → w.heap.size + 3 ≤ x := fun x hx => by
    have h1 := (HO4.out.own.lt x hx).1
    have h2 := HSZ.out
    omega
  have ho5 : OwnK w4 _ (.slice a4 bs.length c4) bs := HO4.out
  exact ((ho5.touch TP.out (fun x hx h => by have := hlow x hx; omega)).rebase (base' := w.heap.size) (fun x hx => by have := hlow x hx; omega)).touch ((Touch.refl _ (fun k => k = w.heap.size + 1)).setRow _ _ (fun _ => rfl)) (fun x hx h => by have := hlow x hx; omega)
theorem rplain_any (r : RecD) (a : Option Addr) (cap : Nat) (w : World) (hr : RowK w a r.bs.length cap r.bs) (hlen : r.bs.length ≤ 100000) :
    Calls Try.prog 16 #[.agg (rcs r a cap)] w fun e w' => RecIs w w' (plainD r) e := by
  by_cases h1 : r.kind = 1
  · exact rplain_one r a cap w h1
  by_cases h2 : r.kind = 2
  · exact rplain_two r a cap w h2
  by_cases h3 : r.kind = 3
  · exact rplain_three r a cap w h3 hr hlen
  by_cases h4 : r.kind = 4
  · exact rplain_four r a cap w h4
  by_cases h5 : r.kind = 5
  · exact rplain_five r a cap w h5
  by_cases h6 : r.kind = 6
  · exact rplain_six r a cap w h6
  exact rplain_else r a cap w h1 h2 h3 h4 h5 h6
end Go.Proofs.Ytbklngcocbnijaa
