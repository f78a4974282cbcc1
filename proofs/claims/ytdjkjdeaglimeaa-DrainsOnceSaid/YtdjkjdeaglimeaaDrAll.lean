/- Backends that drain: All, by number. -/
import Derived.Test.YtdjkjdeaglimeaaDrAwake
import Derived.Test.YtdjkjdeaglimeaaIter
import Derived.CallsIn
set_option linter.unusedVariables false
set_option linter.unusedSimpArgs false
namespace Go.Proofs.Ytdjkjdeaglimeaa
open Go.RowKit Go.Maps Go.Sort Go.Shelf

theorem sortsD (m : Nat) : AnyZI.SortsIn Try.prog Try.sortedA_ren Fence.wide m :=
  ⟨fun blk off cap ss W hH hblk hsz => callsIn_wide.2 (AnyM.slices_Sort_int Try.sortA blk off cap ss W hH hblk hsz),
   fun p cap W => callsIn_wide.2 (AnyM.slices_Sort_int_none Try.sortA p cap W)⟩
theorem keysD_any (w : World) (mb : Nat) :
    Calls Try.prog 49 #[.map (some mb)] w fun e w' => e = .returned (.func (.func 54) #[] #[.pointer (some ⟨w.heap.size, 0, none⟩)]) ∧ w' = w.alloc (.cells #[.map (some mb)] 74) :=
  (callsIn_wide (n := 6)).1 (AnyZI.keys_in Try.keysA Fence.wide 6 trivial rfl (some mb) w)
theorem sortedD_any (w : World) (mb n : Nat) (D : DataW Unit) (hown : w.ownsMap Try.prog 3 (plainElem Try.prog 2) mb n D) (hmax : Maps.size D ≤ 1000000) :
    Calls Try.prog 48 #[.func (.func 54) #[] #[.pointer (some ⟨w.heap.size, 0, none⟩)]] (w.alloc (.cells #[.map (some mb)] 74)) fun e w' => ∃ (v : Value) (ss : List Int), e = .returned v ∧ ss.Perm (intKeys D) ∧
      w'.ownsRow (w.heap.size + 1) 3 1 v ss.length ((ss.mergeSort (fun x y => decide (x ≤ y))).map encZ) ∧ Below (w.heap.size + 1) (w.alloc (.cells #[.map (some mb)] 74)) w' := by
  refine (callsIn_wide (n := 5)).1 ?_
  have hbl := hown.lt
  have hseq : SeqGives Fence.wide 2 Try.prog 54 #[.pointer (some ⟨w.heap.size, 0, none⟩)] encZ (fun ss => ss.Perm (intKeys D)) (Maps.size D) (w.alloc (.cells #[.map (some mb)] 74)) :=
    AnyZI.keys_gives (ρ := Try.keysA_ren) { Try.keysA with } Fence.wide _ trivial rfl (by omega) w.heap.size mb n D _ (by simp) (by simp) (by
      obtain ⟨es, clock, hb, Ft, hs, hD⟩ := hown
      exact ⟨es, clock, (Below.heap_alloc _ _ mb hbl).trans hb, Ft, hs, hD⟩)
  have cS := AnyZI.sorted_in Try.sortedA Fence.wide 5 trivial trivial trivial trivial rfl (by omega) (sortsD _) (enters_of Try.func53 (by kernel_rfl) rfl) 54 #[.pointer (some ⟨w.heap.size, 0, none⟩)] trivial (enters_of Try.func54 (by kernel_rfl) rfl) _ _ (by simp only [maxLen]; omega) (by omega) _ hseq
  change CallsIn _ _ Try.prog 48 _ _ _ at cS
  refine cS.mono ?_
  rintro e w' ⟨v, ss, rfl, hS, hrow, _, hb⟩
  have e1 : (w.alloc (.cells #[.map (some mb)] 74)).heap.size = w.heap.size + 1 := by simp
  rw [e1] at hrow hb
  exact ⟨v, ss, rfl, hS, hrow, hb⟩
/-- By number. -/
def SortD (G : List DR) : Prop := G.Pairwise (fun a b => a.b < b.b)
theorem merge_is {ss : List Int} {G : List DR} (hp : ss.Perm (G.map DR.b)) (hs : SortD G) : ss.mergeSort (fun x y => decide (x ≤ y)) = G.map DR.b := by
  have h1 := mergeSort_of_perm_i hp
  refine h1.trans ?_
  refine List.mergeSort_of_pairwise ?_
  exact List.pairwise_map.2 (hs.imp fun {a b} h => decide_eq_true (Int.le_of_lt h))
def dcl (d : DR) : List Value := [.int .i64 d.b, .int .i64 d.u]
theorem infoDrain : (Try.prog.info? 76).map (fun i => (i.zero, i.size, i.bytes)) = some (some (.agg #[.int .i64 0, .int .i64 0]), 2, 16) := by kernel_rfl
theorem icells_of (G : List DR) : (icells G).flatten = (G.map DR.b).map encZ := by
  unfold icells
  induction G with
  | nil => rfl
  | cons d G ih =>
    simp only [List.map_cons, List.flatten_cons, List.cons_append, List.nil_append]
    rw [ih]
set_option maxRecDepth 20000 in
set_option maxHeartbeats 8000000 in
theorem dall_any (w : World) (s : Nat) (h : DH) (M G : List DR) (d : DS w s h M) (hG : G.Perm M) (hs : SortD G) :
    Calls Try.prog 37 #[.pointer (some ⟨s, 0, none⟩)] w fun e w' => ∃ a c, e = .returned (.slice a G.length c) ∧ OwnS w' w.heap.size 76 2 (.slice a G.length c) (G.map dcl) ∧ Touch w w' (fun _ => False) := by
  obtain ⟨c0, c1⟩ := d.cells
  have HD := Lib.hid d
  obtain ⟨_, D, hown, hP⟩ := d.map
  have hlen := d.len
  have hGl := hG.length_eq
  have HK := Lib.hid (keysD_any w h.mb)
  have HST := Lib.hid (sortedD_any w h.mb M.length D hown (by rw [hP.size]; omega))
  have HPI := Lib.hid ((hP.ints d.nd).symm.trans (hG.symm.map _))
  have HG := Lib.hid hG
  have HSD := Lib.hid hs
  have HIN := Lib.hid infoDrain
  obtain ⟨N, hN⟩ : ∃ N, G.length = N := ⟨_, rfl⟩
  have HN := Lib.hid hN
  have hN4 : N ≤ 1024 := by omega
  clear d hown hP hG hs
  rw [hN]
  clear hGl hlen hN
  go_enter Try.func37, Try.ntmps37
  go_wp2_with fail
  refine HK.out.mono ?_
  rintro e w' ⟨rfl, rfl⟩
  go_wp2_with fail
  refine HST.out.mono ?_
  rintro e w2 ⟨v, ss, rfl, hS, hrow, hb⟩
  have hpG := hS.trans HPI.out
  have hms := merge_is hpG HSD.out
  have hsl : ss.length = N := by rw [hpG.length_eq]; simp [HN.out]
  have hil : (icells G).length = ss.length := by rw [hsl]; simp [icells, HN.out]
  have hOI : OwnS w2 (w.heap.size + 1) 3 1 v (icells G) := ⟨by rw [icells_of, ← hms, hil]; exact hrow, by simp [icells]⟩
  obtain ⟨a2, c2, hv, hr2, hb2⟩ := hOI.row
  have e1 : (icells G).length = N := by simp [icells, HN.out]
  rw [e1] at hv hr2
  subst hv
  have HT2 := Lib.hid (((Touch.refl w (fun _ => False)).alloc (.cells #[.map (some h.mb)] 74)).trans (Touch.ofBelow (S := fun k => w.heap.size < k) hb (fun k hk _ => by omega)) (fun k hk h => by omega))
  have HR2 := Lib.hid hr2
  clear hS hrow hb hpG hms hsl hil hOI hb2 e1 hr2 c0 c1
  go_wp2_with fail
  go_loopw [3, 15] (fun s3 s15 wr => ∃ (j : Nat) (a : Option Addr) (c : Nat), j ≤ N ∧ s15 = .int .i64 j ∧ s3 = .slice a j c ∧ OwnS wr w2.heap.size 76 2 (.slice a j c) ((G.take j).map dcl) ∧ Touch w2 wr (fun _ => False)) (fun _ s15 _ => N - (RowKit.intOf s15).toNat)
  case atStart => exact ⟨0, none, 0, Nat.zero_le _, rfl, rfl, OwnS.nil _ _ _ _, Touch.refl _ _⟩
  case round =>
    obtain ⟨j, a, c, hj, rfl, rfl, ho, ht⟩ := hrel
    have HO := Lib.hid ho
    have HT := Lib.hid ht
    clear ho ht
    by_cases hlt : j < N
    case neg =>
      obtain rfl : N = j := by omega
      go_wp2_with fail
      go_ret
      have hA : G.take N = G := List.take_of_length_le (by rw [HN.out]; exact Nat.le_refl _)
      have ho := HO.out
      rw [hA] at ho
      exact ⟨a, c, rfl, ho.rebase (fun x hx => Nat.le_trans HT2.out.size (ho.own.lt x hx).1), HT2.out.trans HT.out (fun _ _ h => h)⟩
    case pos =>
      have hrow := HR2.out.still HT.out
      obtain ⟨g, off, rfl⟩ := hrow.some (by omega)
      have d0 := icell_one hrow j (by rw [HN.out]; exact hlt)
      have hcap := hrow.hcap
      have hmax := hrow.hmax
      obtain ⟨x, hx⟩ : ∃ x, gd G j = x := ⟨_, rfl⟩
      rw [hx] at d0
      have hxG : x ∈ G := by rw [← hx]; exact gd_mem G j (by rw [HN.out]; exact hlt)
      have hxM := HG.out.mem_iff.1 hxG
      have hin := HD.out.ok x hxM
      have hds := HD.out.still (HT2.out.trans HT.out (fun _ _ h => h))
      have hget := hds.map.get Try.underlying3 Try.underlying2 mapIT (zero64 wr) (b := x.b) (by unfold inN at hin; constructor <;> omega)
      rw [timeD_of hds.nd hxM] at hget
      obtain ⟨c0, c1⟩ := hds.cells
      have htk : (G.take j).map dcl ++ [[.int .i64 x.b, .int .i64 x.u]] = (G.take (j + 1)).map dcl := by
        rw [List.take_succ_eq_append_getElem (by rw [HN.out]; exact hlt), List.map_append, ← gd_get G j (by rw [HN.out]; exact hlt), hx]
        rfl
      have t4 : Touch wr (wr.alloc (.cells #[.int .i64 x.b, .int .i64 x.u] 76)) (fun _ => False) := (Touch.refl wr _).alloc _
      have HO4 := Lib.hid (HO.out.still t4)
      have HTK := Lib.hid htk
      have hlI : (j : Int) < N := by omega
      have hsz : w2.heap.size ≤ wr.heap.size := HT.out.size
      clear hrow hx hxG hxM hin hds htk t4 c1
      go_upto_region 8 with (at_builtin; (with_reducible refine wp_add1 (w := wr) HO4.out rfl rfl rfl (by simp [Value.oneCell']) (by omega) 61 Try.underlying61 _ 16 HIN.out rfl (by decide) (by decide) hsz rfl _ _ rfl rfl rfl ?_); intro a5 c5 w5 ho5 t5 p5; have HO5 := Lib.hid ho5; have HT5 := Lib.hid t5; clear ho5 t5 p5)
      have HX : RowKit.Hid (∃ (j' : Nat) (a : Option Addr) (c : Nat), j' ≤ N ∧ Value.int .i64 ((j : Int) + 1) = .int .i64 j' ∧ Value.slice a5 (j + 1) c5 = .slice a j' c ∧ OwnS w5 w2.heap.size 76 2 (.slice a j' c) ((G.take j').map dcl) ∧ Touch w2 w5 (fun _ => False)) := Lib.hid ⟨j + 1, a5, c5, by omega, by go_num, rfl, by rw [← HTK.out]; exact HO5.out, HT.out.trans HT5.out (fun k hk e => by have h1 := (HO.out.own.lt _ e).1; omega)⟩
      clear hget c0 d0
      go_wp2_with fail
      go_roundw
      · exact HX.out
      · simp only [RowKit.intOf]; omega
end Go.Proofs.Ytdjkjdeaglimeaa
