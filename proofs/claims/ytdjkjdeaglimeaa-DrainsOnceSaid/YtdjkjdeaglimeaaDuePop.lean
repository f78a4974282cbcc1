/- The queue's Pop of its last row. -/
import Derived.Test.YtdjkjdeaglimeaaDueS
import Derived.Deep.DeepCutAuto
set_option linter.unusedVariables false
set_option linter.unusedSimpArgs false
namespace Go.Proofs.Ytdjkjdeaglimeaa
open Go.RowKit

theorem own_block2 {a : Option Addr} {n c k : Nat} (h : a.map (·.block) = some k) : (Value.slice a n c).ownBlock = some k := by
  cases a with
  | none => simp at h
  | some x => simpa [Value.ownBlock] using h
set_option maxRecDepth 20000 in
set_option maxHeartbeats 8000000 in
theorem kpop_any (w : World) (b : Nat) (h : QH) (l : List QR) (r : QR) (q : QB w b h (l ++ [r])) :
    Calls Try.prog 94 #[.pointer (some ⟨b, 0, none⟩)] w fun e w' => e = .returned (.iface 88 (.agg #[.string r.key, .int .i64 r.time])) ∧ QStep w w' b h l := by
  have hlen : (l ++ [r]).length = l.length + 1 := by simp
  obtain ⟨g, hga, hg0, hg1⟩ := q.at' (by omega)
  obtain ⟨ha, hc, hmo⟩ := h
  simp only at hga
  subst hga
  have hmp := q.map
  obtain ⟨mb, rfl⟩ : ∃ mb, hmo = some mb := by
    cases hmo with
    | none => unfold MapQ at hmp; simp at hmp
    | some mb => exact ⟨mb, rfl⟩
  unfold MapQ at hmp
  simp only at hmp
  obtain ⟨hm1, hm2, D, hD, hP⟩ := hmp
  have hgm : g ≠ mb := hm2 g rfl
  have hcap := q.row.hcap
  have hmax := q.row.hmax
  have hq1024 := q.len
  rw [hlen] at hcap hq1024
  have hhd := q.head
  rw [hlen] at hhd
  have how := q.own
  rw [hlen] at how
  have hfl := q.footlt
  have hbl : b < w.heap.size := hfl b (.inl rfl)
  have hml : mb < w.heap.size := hfl mb (.inr (.inr rfl))
  have hc2 := own_cell2 how l.length (by omega)
  rw [gq_last] at hc2
  obtain ⟨d0, d1⟩ := hc2
  have c0 := cell_of_cells hhd 0
  simp at c0
  obtain ⟨W1, hW1⟩ : ∃ W, w.alloc (.cells #[.string r.key, .int .i64 r.time] 88) = W := ⟨_, rfl⟩
  have t1 : Touch w W1 (fun _ => False) := hW1 ▸ (Touch.refl _ _).alloc _
  have h1d := t1.keeps hhd (fun h => h)
  have e0 := cell_of_cells h1d 0
  have f0 := free_of_cells h1d 0
  simp at e0
  obtain ⟨W2, hW2⟩ : ∃ W, W1.setCell ⟨b, 0, none⟩ (.slice (some ⟨g, 0, none⟩) l.length hc) = W := ⟨_, rfl⟩
  have t2 : Touch W1 W2 (fun k => k = b) := hW2 ▸ (Touch.refl W1 (fun k => k = b)).setCell _ _ (fun _ => rfl)
  have HHD : RowKit.Hid (W2.heap[b]? = some (.cells #[.slice (some ⟨g, 0, none⟩) l.length hc, .map (some mb)] 85 (0, 0))) := Lib.hid (by
    have h4 := heap_setCell_same W1 b 0 _ _ (.slice (some ⟨g, 0, none⟩) l.length hc) h1d
    rw [hW2] at h4
    rw [h4]; rfl)
  have HV : RowKit.Hid (W2.heap[w.heap.size]? = some (.cells #[.string r.key, .int .i64 r.time] 88 (0, 0))) := Lib.hid (t2.keeps (hW1 ▸ heap_alloc_new w _) (fun e => by have e : w.heap.size = b := e; omega))
  have HOW := Lib.hid ((how.still t1).touch t2 (fun x hx e => by have hx : some g = some x := hx; simp only [Option.some.injEq] at hx; have e : x = b := e; omega))
  have hD2 := ownsMap_touch (ownsMap_touch hD t1 (fun h => h)) t2 (fun e => by have e : mb = b := e; omega)
  obtain ⟨w3, hrun3, ho3, hg3⟩ := World.ownsMap.drop (w := W2.drew) (b := mb) hD2 strKeyed Try.underlying81 (keyQ (q.ok r (by simp)).1) 0
  have HUP := Lib.hid hrun3
  have HUT : RowKit.Hid (Touch W2 w3 (fun k => k = mb)) := Lib.hid (((Touch.refl W2 (fun k => k = mb)).drew).grown hg3.grown (fun k hk _ => by simp only [Option.some.injEq] at hk; exact hk.symm))
  have HO3 := Lib.hid ho3
  have HPP := Lib.hid hP
  have HQ := Lib.hid q
  have HT := Lib.hid ((t1.mono (T := fun k => k = b) (fun _ _ h => h.elim)).trans t2 (fun _ _ h => h))
  have HSZ : RowKit.Hid (b < g ∧ g < w.heap.size ∧ b < mb ∧ mb < w.heap.size ∧ g ≠ mb ∧ b < w.heap.size) := Lib.hid ⟨hg0, hg1, hm1, hml, hgm, hbl⟩
  have HC2 : RowKit.Hid (∀ W, Touch W2 W (fun k => k = mb) → W.cell? ⟨b, 0, none⟩ = some (.slice (some ⟨g, 0, none⟩) l.length hc) ∧ W.cell? ⟨b, 1, none⟩ = some (.map (some mb)) ∧ W.cell? ⟨w.heap.size, 0, none⟩ = some (.string r.key)) := Lib.hid (fun W t => by
    have h1 := t.keeps HHD.out (fun e => by have := HSZ.out; have e : b = mb := e; omega)
    have h2 := t.keeps HV.out (fun e => by have := HSZ.out; have e : w.heap.size = mb := e; omega)
    exact ⟨cell_of_cells h1 0, cell_of_cells h1 1, cell_of_cells h2 0⟩)
  have hnI : (l.length : Int) < (l.length + 1 : Nat) := by omega
  have hn1 : ((l.length + 1 : Nat) : Int) - 1 = l.length := by omega
  have hncap : (l.length : Int) ≤ hc := by
    have hcap' : l.length + 1 ≤ hc := hcap
    omega
  have HW1 := Lib.hid hW1
  have HW2 := Lib.hid hW2
  clear q hm2 hD hP hhd how hfl t1 t2 h1d hD2 hrun3 ho3 hg3 hW1 hW2
  go_enter Try.func94, Try.ntmps94
  go_upto_region 3 with (fail)
  rw [HW1.out]
  go_wp2_with fail
  rw [HW2.out]
  clear c0 d0 d1 e0 f0
  go_cut [] (fun wx => wx = w3)
  case first =>
    go_wp2_with fail
    have hS := (Touch.refl W2 (fun k => k = mb)).drew
    refine wp_region_tree (fun w' => Touch W2 w' (fun k => k = mb)) (.take 0 (.take 1 (.take 2 (.take 3 (.take 4 (.take 5 (.one 6 .fin))))))) (by kernel_rfl) (by kernel_rfl) (by kernel_rfl) (by kernel_rfl) hS ?_
    refine walkT_take ?_
    (refine takeN_take (v := ?_) (some 27) rfl rfl (fun _ _ _ h => h) (by rfl) ?_ ?_; rotate_left; (focus (intro w' hw'; obtain ⟨c0, c1, c2⟩ := HC2.out w' hw'; go_simp; (try with_reducible rfl))); (try simp only [Act.put, List.setIfInBounds_toArray, List.set_cons_zero, List.set_cons_succ]))
    refine walkT_take ?_
    (refine takeN_take (v := ?_) (some 28) rfl rfl (fun _ _ _ h => h) (by rfl) ?_ ?_; rotate_left; (focus (intro w' hw'; obtain ⟨c0, c1, c2⟩ := HC2.out w' hw'; go_simp; (try with_reducible rfl))); (try simp only [Act.put, List.setIfInBounds_toArray, List.set_cons_zero, List.set_cons_succ]))
    refine walkT_take ?_
    (refine takeN_take (v := ?_) (some 29) rfl rfl (fun _ _ _ h => h) (by rfl) ?_ ?_; rotate_left; (focus (intro w' hw'; obtain ⟨c0, c1, c2⟩ := HC2.out w' hw'; go_simp; (try with_reducible rfl))); (try simp only [Act.put, List.setIfInBounds_toArray, List.set_cons_zero, List.set_cons_succ]))
    refine walkT_take ?_
    (refine takeN_take (v := ?_) (some 30) rfl rfl (fun _ _ _ h => h) (by rfl) ?_ ?_; rotate_left; (focus (intro w' hw'; obtain ⟨c0, c1, c2⟩ := HC2.out w' hw'; go_simp; (try with_reducible rfl))); (try simp only [Act.put, List.setIfInBounds_toArray, List.set_cons_zero, List.set_cons_succ]))
    refine walkT_take ?_
    (refine takeN_take (v := ?_) (some 31) rfl rfl (fun _ _ _ h => h) (by rfl) ?_ ?_; rotate_left; (focus (intro w' hw'; obtain ⟨c0, c1, c2⟩ := HC2.out w' hw'; go_simp; (try with_reducible rfl))); (try simp only [Act.put, List.setIfInBounds_toArray, List.set_cons_zero, List.set_cons_succ]))
    refine walkT_take ?_
    (refine takeN_take (v := ?_) (some 32) rfl rfl (fun _ _ _ h => h) (by rfl) ?_ ?_; rotate_left; (focus (intro w' hw'; obtain ⟨c0, c1, c2⟩ := HC2.out w' hw'; go_simp; (try with_reducible rfl))); (try simp only [Act.put, List.setIfInBounds_toArray, List.set_cons_zero, List.set_cons_succ]))
    refine walkT_one ?_
    (refine runN_do (v := .tuple #[]) (w' := w3) none rfl rfl (by rfl) (by have q := HUP.out; go_simp; (try with_reducible rfl)) HUT.out (fun hS => ?_); (try simp only [Act.put, List.setIfInBounds_toArray, List.set_cons_zero, List.set_cons_succ]))
    refine walkT_fin ?_

    go_wp2_with fail
    go_meet
    rfl
  case rest =>
    obtain rfl := hcut
    have HV3 := Lib.hid (HUT.out.keeps HV.out (fun e => by have := HSZ.out; have e : w.heap.size = mb := e; omega))
    go_wp2_with (refine wpList_load_row rfl 88 (.tmp 4) rfl w.heap.size rfl _ _ _ _ HV3.out Try.underlying88 rfl infoRow ?_)
    go_ret
    refine ⟨rfl, ⟨some ⟨g, 0, none⟩, hc, some mb⟩, ?_, ?_, fun k hk => .inl hk⟩
    · have hp9 := plQ_pop HPP.out HQ.out.nd
      have htg := ownsMap_tight HO3.out
      change World.ownsMap _ _ _ _ _ (Maps.size (D.del (klQ r))) _ at htg
      rw [hp9.size] at htg
      have hfr := OwnS.front HOW.out l.length (by omega)
      have hnd := HQ.out.nd
      rw [List.map_append, List.nodup_append] at hnd
      rw [List.map_append, List.take_append_of_le_length (by simp), List.take_of_length_le (by simp)] at hfr
      refine ⟨HUT.out.keeps HHD.out (fun e => by have := HSZ.out; have e : b = mb := e; omega), ?_, fun x hx => HQ.out.ok x (List.mem_append_left _ hx), hnd.1, by omega, ?_⟩
      · exact hfr.touch HUT.out (fun x hx e => by have := HSZ.out; have hx : some g = some x := hx; simp only [Option.some.injEq] at hx; have e : x = mb := e; omega)
      · exact ⟨HSZ.out.2.2.1, fun k hk => by have hk : some g = some k := hk; simp only [Option.some.injEq] at hk; have := HSZ.out; omega, _, htg, hp9⟩
    · exact (HT.out.mono (fun k _ e => by have e : k = b := e; subst e; exact .inl rfl)).trans HUT.out (fun k _ e => by have e : k = mb := e; subst e; exact .inr (.inr rfl))
end Go.Proofs.Ytdjkjdeaglimeaa
