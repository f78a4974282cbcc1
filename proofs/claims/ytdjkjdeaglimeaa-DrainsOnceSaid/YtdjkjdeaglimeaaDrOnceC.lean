/- The closure of DrainsOnce. -/
import Derived.Test.YtdjkjdeaglimeaaDrAll
set_option linter.unusedVariables false
set_option linter.unusedSimpArgs false
namespace Go.Proofs.Ytdjkjdeaglimeaa
open Go.RowKit

theorem mapII : Try.prog.underlying 77 = some (.map 3 3) := Try.underlying77
theorem zeroI12 (w : World) : (zeroValue 3).run Try.prog w = .ok (.int .i64 0) w := by kernel_rfl
/-- Where the variables of DrainsOnce lie. -/
structure OV where
  bs : Nat
  bl : Nat
  bt : Nat
  bn : Nat
  ml : Nat
  mt : Nat
def one1 (d : DR) : DR := ⟨d.b, 1⟩
/-- A set, its last times, those that were told, the time. -/
structure OS (w0 w : World) (v : OV) (s : Nat) (h : DH) (M LL Gn : List DR) (now : Int) : Prop where
  n : DN w0 w s h M
  cs : w.heap[v.bs]? = some (.cells #[.pointer (some ⟨s, 0, none⟩)] 58 (0, 0))
  cl : w.heap[v.bl]? = some (.cells #[.map (some v.ml)] 74 (0, 0))
  ct : w.heap[v.bt]? = some (.cells #[.map (some v.mt)] 77 (0, 0))
  cn : w.heap[v.bn]? = some (.cells #[.int .i64 now] 2 (0, 0))
  last : OwnZ w 3 2 v.ml LL
  told : OwnZ w 3 3 v.mt (Gn.map one1)
  ns : ¬ footD s h v.bs
  nl : ¬ footD s h v.bl
  nt : ¬ footD s h v.bt
  nn : ¬ footD s h v.bn
  nml : ¬ footD s h v.ml
  nmt : ¬ footD s h v.mt
  ap : v.mt ≠ v.bs ∧ v.mt ≠ v.bl ∧ v.mt ≠ v.bt ∧ v.mt ≠ v.bn ∧ v.mt ≠ v.ml ∧ v.bn ≠ v.bs ∧ v.bn ≠ v.bl ∧ v.bn ≠ v.bt ∧ v.bn ≠ v.ml
  lb : w0.heap.size ≤ v.bn ∧ w0.heap.size ≤ v.mt
section
variable {w0 w w' : World} {v : OV} {s : Nat} {h : DH} {M LL Gn A R : List DR} {now : Int} {r : Value}
theorem OS.still (o : OS w0 w v s h M LL Gn now) (t : Touch w w' (fun _ => False)) : OS w0 w' v s h M LL Gn now :=
  ⟨o.n.still t, t.keeps o.cs (fun h => h), t.keeps o.cl (fun h => h), t.keeps o.ct (fun h => h), t.keeps o.cn (fun h => h), o.last.still t, o.told.still t, o.ns, o.nl, o.nt, o.nn, o.nml, o.nmt, o.ap, o.lb⟩
theorem OS.time (o : OS w0 w v s h M LL Gn now) (x : Int) : OS w0 (w.setCell ⟨v.bn, 0, none⟩ (.int .i64 x)) v s h M LL Gn x := by
  have t : Touch w (w.setCell ⟨v.bn, 0, none⟩ (.int .i64 x)) (fun k => k = v.bn) := (Touch.refl w (fun k => k = v.bn)).setCell _ _ (fun _ => rfl)
  obtain ⟨a1, a2, a3, a4, a5, a6, a7, a8, a9⟩ := o.ap
  exact ⟨o.n.touch t (fun k hk e => o.nn (e ▸ hk)) (fun k hk e => by have := o.lb.1; omega), t.keeps o.cs (fun e => a6 e.symm), t.keeps o.cl (fun e => a7 e.symm), t.keeps o.ct (fun e => a8 e.symm), heap_setCell_same w v.bn 0 _ _ _ o.cn, o.last.touch t (fun e => a9 e.symm), o.told.touch t a4, o.ns, o.nl, o.nt, o.nn, o.nml, o.nmt, o.ap, o.lb⟩
theorem OS.due (o : OS w0 w v s h M LL Gn now) (x : DDue w w' s h A R r) :
    ∃ a c h', r = .slice a A.length c ∧ OwnS w' w.heap.size 3 1 (.slice a A.length c) (icells A) ∧ OS w0 w' v s h' R LL Gn now := by
  obtain ⟨a, c, h', rfl, ho, d, n, f, t⟩ := o.n.due x
  have hk : ∀ k, k < w.heap.size → ¬ footD s h k → ¬ footD s h' k := fun k hk hn hf => by
    rcases f k hf with h1 | h1
    · exact hn h1
    · omega
  exact ⟨a, c, h', rfl, ho, ⟨n, t.keeps o.cs o.ns, t.keeps o.cl o.nl, t.keeps o.ct o.nt, t.keeps o.cn o.nn, o.last.touch t o.nml, o.told.touch t o.nmt, hk _ (heap_lt o.cs) o.ns, hk _ (heap_lt o.cl) o.nl, hk _ (heap_lt o.ct) o.nt, hk _ (heap_lt o.cn) o.nn, hk _ o.last.lt o.nml, hk _ o.told.lt o.nmt, o.ap, o.lb⟩⟩
theorem OS.tell (o : OS w0 w v s h M LL Gn now) {Gn' : List DR} (t : Touch w w' (fun k => k = v.mt)) (z : OwnZ w' 3 3 v.mt (Gn'.map one1)) : OS w0 w' v s h M LL Gn' now := by
  obtain ⟨a1, a2, a3, a4, a5, a6, a7, a8, a9⟩ := o.ap
  exact ⟨o.n.touch t (fun k hk e => o.nmt (e ▸ hk)) (fun k hk e => by have := o.lb.2; omega), t.keeps o.cs (fun e => a1 e.symm), t.keeps o.cl (fun e => a2 e.symm), t.keeps o.ct (fun e => a3 e.symm), t.keeps o.cn (fun e => a4 e.symm), o.last.touch t (fun e => a5 e.symm), z, o.ns, o.nl, o.nt, o.nn, o.nml, o.nmt, o.ap, o.lb⟩
end
theorem one1_b (L : List DR) : (L.map one1).map DR.b = L.map DR.b := by rw [List.map_map]; rfl
theorem has_one1 (L : List DR) (b : Int) : hasD (L.map one1) b = hasD L b := by rw [Bool.eq_iff_iff, hasD_iff, hasD_iff, one1_b]
/-- By number, each once: there is such a row. -/
def sortB : List DR → List DR
  | [] => []
  | x :: l => insB x (sortB l)
where insB (r : DR) : List DR → List DR
  | [] => [r]
  | x :: l => if x.b < r.b then x :: insB r l else r :: x :: l
theorem insB_perm (r : DR) : ∀ l, (sortB.insB r l).Perm (r :: l)
  | [] => .refl _
  | x :: l => by
    unfold sortB.insB
    split
    · exact ((insB_perm r l).cons x).trans (.swap r x l)
    · exact .refl _
theorem insB_sort (r : DR) : ∀ l, SortD l → r.b ∉ l.map DR.b → SortD (sortB.insB r l)
  | [], _, _ => by simp [sortB.insB, SortD]
  | x :: l, h, hn => by
    obtain ⟨h1, h2⟩ := List.pairwise_cons.1 h
    have hn2 : r.b ∉ l.map DR.b := fun h => hn (by simp only [List.map_cons, List.mem_cons]; exact .inr h)
    have hxr : r.b ≠ x.b := fun h => hn (by simp [h])
    unfold sortB.insB
    split
    · rename_i hlt
      refine List.pairwise_cons.2 ⟨fun y hy => ?_, insB_sort r l h2 hn2⟩
      rcases List.mem_cons.1 ((insB_perm r l).mem_iff.1 hy) with rfl | hy
      · exact hlt
      · exact h1 y hy
    · rename_i hlt
      exact List.pairwise_cons.2 ⟨fun y hy => by
        rcases List.mem_cons.1 hy with rfl | hy
        · omega
        · have := h1 y hy; omega, h⟩
theorem sortB_ok : ∀ l : List DR, (l.map DR.b).Nodup → (sortB l).Perm l ∧ SortD (sortB l)
  | [], _ => ⟨.refl _, List.Pairwise.nil⟩
  | x :: l, h => by
    rw [List.map_cons, List.nodup_cons] at h
    obtain ⟨h1, h2⟩ := sortB_ok l h.2
    refine ⟨(insB_perm x (sortB l)).trans (h1.cons x), insB_sort x _ h2 (fun hm => h.1 ((h1.map _).mem_iff.1 hm))⟩
set_option maxRecDepth 20000 in
set_option maxHeartbeats 16000000 in
theorem ask_any (w0 w : World) (v : OV) (s : Nat) (h : DH) (M LL Gn : List DR) (now : Int) (o : OS w0 w v s h M LL Gn now) (hp : LL.Perm (M ++ Gn)) (hl : LL.length ≤ 2000) (at_ : Int) :
    Calls Try.prog 40 #[.int .i64 at_, .pointer (some ⟨v.bn, 0, none⟩), .pointer (some ⟨v.bs, 0, none⟩), .pointer (some ⟨v.bl, 0, none⟩), .pointer (some ⟨v.bt, 0, none⟩)] w fun e w' => e = .returned (.bool true) ∧
      ∃ h', OS w0 w' v s h' (restD M (max now at_)) LL (dueD M (max now at_) ++ Gn) (max now at_) := by
  have c0 : w.cell? ⟨v.bn, 0, none⟩ = some (.int .i64 now) := cell_of_cells o.cn 0
  have f0 := free_of_cells o.cn 0
  have HP := Lib.hid hp
  have HO := Lib.hid o
  clear o hp
  obtain ⟨nw, hnw⟩ : ∃ nw, max now at_ = nw := ⟨_, rfl⟩
  rw [hnw]
  obtain ⟨W1, hW1⟩ : ∃ W, w.setCell ⟨v.bn, 0, none⟩ (.int .i64 nw) = W := ⟨_, rfl⟩
  have o1 : OS w0 W1 v s h M LL Gn nw := hW1 ▸ HO.out.time nw
  have hdu := ddue_any W1 s h M o1.n.q nw
  have HAR := Lib.hid (due_rest M nw)
  obtain ⟨f1, f2⟩ := due_filter o1.n.q.q.1 nw
  have hgt : ∀ d ∈ restD M nw, nw < d.u := fun d hd => by
    rw [f2] at hd
    have := (List.mem_filter.1 hd).2
    simp at this; omega
  have hle : ∀ d ∈ dueD M nw, d.u ≤ nw ∧ 0 ≤ d.u := fun d hd => by
    rw [f1] at hd
    have h1 := List.mem_filter.1 hd
    exact ⟨of_decide_eq_true h1.2, (o1.n.q.tm d h1.1).1⟩
  have hso : ∀ i j, i ≤ j → j < (dueD M nw).length → (gd (dueD M nw) i).u ≤ (gd (dueD M nw) j).u := fun i j hij hj => by
    have h1 : SortQ ((dueD M nw).map qd) := by
      have h2 := o1.n.q.q.1
      rw [← due_rest M nw, List.map_append] at h2
      exact (List.pairwise_append.1 h2).1
    by_cases e : i = j
    · rw [e]; exact Int.le_refl _
    · have h3 := List.pairwise_iff_getElem.1 h1 i j (by simp; omega) (by simp; omega) (by omega)
      rw [List.getElem_map, List.getElem_map] at h3
      rw [gd_get _ i (by omega), gd_get _ j hj]
      rcases (ltQ_iff _ _).1 h3 with h4 | ⟨h4, _⟩
      · exact Int.le_of_lt h4
      · exact Int.le_of_eq h4
  obtain ⟨A, hA⟩ : ∃ A, dueD M nw = A := ⟨_, rfl⟩
  obtain ⟨R, hR⟩ : ∃ R, restD M nw = R := ⟨_, rfl⟩
  rw [hA, hR] at hdu HAR
  rw [hR] at hgt
  rw [hA] at hle hso
  rw [hA, hR]
  have HNW := Lib.hid hnw
  have HWW := Lib.hid hW1
  have HDU := Lib.hid hdu
  have HGT := Lib.hid hgt
  have HLE := Lib.hid hle
  have HSO := Lib.hid hso
  have HO1 := Lib.hid o1
  have c1 : W1.cell? ⟨v.bn, 0, none⟩ = some (.int .i64 nw) := cell_of_cells o1.cn 0
  have c2 : W1.cell? ⟨v.bs, 0, none⟩ = some (.pointer (some ⟨s, 0, none⟩)) := cell_of_cells o1.cs 0
  have hpa : LL.Perm (R ++ (A ++ Gn)) := by
    have h1 := HP.out
    rw [← HAR.out, List.append_assoc] at h1
    refine h1.trans ?_
    rw [← List.append_assoc, ← List.append_assoc]
    exact (List.perm_append_comm (l₁ := A) (l₂ := R)).append_right Gn
  have HPA := Lib.hid hpa
  have hAl : A.length ≤ 2000 := by have := hpa.length_eq; simp at this; omega
  clear f1 f2 hgt hle hso hdu hA hR o1 hnw hW1 hpa
  go_enter Try.func40, Try.ntmps40
  go_upto_region 3 with (fail)
  rw [HNW.out, HWW.out]
  clear c0 f0
  go_wp2_with fail
  (with_reducible refine HDU.out.mono ?_)
  rintro e w2 ⟨r, rfl, s2⟩
  obtain ⟨a2, c3, h2, rfl, ho2, o2⟩ := HO1.out.due s2
  have HO2 := Lib.hid o2
  obtain ⟨N, hN⟩ : ∃ N, A.length = N := ⟨_, rfl⟩
  have HN := Lib.hid hN
  have hrow := ho2.row'.2.1
  have hcap := hrow.hcap
  have hmax := hrow.hmax
  have HROW := Lib.hid ho2.row'
  rw [hN] at hcap HROW hAl ⊢
  clear s2 ho2 o2 hN hrow c1 c2
  go_wp2_with fail
  obtain ⟨W2, hW2⟩ : ∃ W2, W2 = w2 := ⟨_, rfl⟩
  subst hW2
  go_loopw [7, 21] (fun s7 s21 wx => ∃ (j : Nat) (z : Int), j ≤ N ∧ s21 = .int .i64 j ∧ s7 = .int .i64 z ∧ (∀ i, j ≤ i → i < N → z ≤ (gd A i).u) ∧ OS w0 wx v s h2 R LL (A.take j ++ Gn) nw ∧ Touch W2 wx (fun k => k = v.mt)) (fun _ s21 _ => N - (RowKit.intOf s21).toNat)
  case atStart => exact ⟨0, -1, Nat.zero_le _, rfl, rfl, fun i _ hi => by have := (HLE.out _ (gd_mem A i (by rw [HN.out]; exact hi))).2; omega, by rw [List.take_zero]; exact HO2.out, Touch.refl _ _⟩
  case round =>
    obtain ⟨j, z, hj, rfl, rfl, hz, ho, ht⟩ := hrel
    have HZ := Lib.hid hz
    have HOJ := Lib.hid ho
    have HT := Lib.hid ht
    clear hz ho ht
    by_cases hlt : j < N
    case neg =>
      obtain rfl : N = j := by omega
      have hAA : A.take N = A := List.take_of_length_le (by rw [HN.out]; exact Nat.le_refl _)
      have o3 := HOJ.out
      rw [hAA] at o3
      have c2 : wr.cell? ⟨v.bs, 0, none⟩ = some (.pointer (some ⟨s, 0, none⟩)) := cell_of_cells o3.cs 0
      obtain ⟨hg1, hg2⟩ := sortB_ok R o3.n.q.nd
      have HAL := Lib.hid (dall_any wr s h2 R (sortB R) o3.n.q hg1 hg2)
      have HG1 := Lib.hid hg1
      have HO3 := Lib.hid o3
      generalize sortB R = G at *
      obtain ⟨m, hm⟩ : ∃ m, G.length = m := ⟨_, rfl⟩
      have HM := Lib.hid hm
      rw [hm] at HAL
      have hm4 : m ≤ 2000 := by have h1 := hg1.length_eq; have h2 := HPA.out.length_eq; simp at h2; omega
      clear hAA o3 hg1 hg2 hm
      go_wp2_with fail
      (with_reducible refine HAL.out.mono ?_)
      rintro e w4 ⟨a4, c4, rfl, ho4, t4⟩
      have HR4 := Lib.hid ho4.row'.2.1
      have HO4 := Lib.hid (HO3.out.still t4)
      have hcap4 := ho4.row'.2.1.hcap
      have hmax4 := ho4.row'.2.1.hmax
      clear ho4 t4 c2
      go_wp2_with fail
      obtain ⟨W4, hW4⟩ : ∃ W4, W4 = w4 := ⟨_, rfl⟩
      subst hW4
      go_loopw [58] (fun s58 wx => ∃ j : Nat, j ≤ m ∧ s58 = .int .i64 j ∧ Touch W4 wx (fun _ => False)) (fun s58 _ => m - (RowKit.intOf s58).toNat)
      case atStart => exact ⟨0, Nat.zero_le _, rfl, Touch.refl _ _⟩
      case round =>
        obtain ⟨i, hi, rfl, ht4⟩ := hrel
        have HT4 := Lib.hid ht4
        clear ht4
        by_cases hlt4 : i < m
        case neg =>
          obtain rfl : m = i := by omega
          go_wp2_with fail
          go_ret
          exact ⟨rfl, h2, HO4.out.still HT4.out⟩
        case pos =>
          have hrow := HR4.out.still HT4.out
          obtain ⟨g, off, rfl⟩ := hrow.some (by omega)
          have hi' : i < (G.map dcl).length := by simp [HM.out]; exact hlt4
          have e : (G.map dcl)[i] = dcl (gd G i) := by rw [List.getElem_map, gd_get G i (by rw [HM.out]; exact hlt4)]
          have d0 := hrow.cell i hi' 0 (.int .i64 (gd G i).b) (by rw [e]; rfl)
          have d1 := hrow.cell i hi' 1 (.int .i64 (gd G i).u) (by rw [e]; rfl)
          rw [Nat.add_zero] at d0
          have hxR := HG1.out.mem_iff.1 (gd_mem G i (by rw [HM.out]; exact hlt4))
          obtain ⟨x, hx⟩ : ∃ x, gd G i = x := ⟨_, rfl⟩
          rw [hx] at d0 d1 hxR
          have hxu := HGT.out x hxR
          have hxn : ¬ x.u ≤ nw := by omega
          have hxg : hasD (A ++ Gn) x.b = false := by
            rw [Bool.eq_false_iff]
            intro hh
            have h1 := (hasD_iff _ _).1 hh
            have h2 := HO4.out.last.nd
            have h3 := ndD_perm HPA.out h2
            rw [List.map_append, List.nodup_append] at h3
            exact h3.2.2 _ (List.mem_map.2 ⟨x, hxR, rfl⟩) _ h1 rfl
          have hin := HO4.out.n.q.ok x hxR
          have hxi : i64D x.b := by unfold inN at hin; constructor <;> omega
          obtain ⟨W5, hW5⟩ : ∃ W, wr.alloc (.cells #[.int .i64 x.b, .int .i64 x.u] 76) = W := ⟨_, rfl⟩
          have t5 : Touch wr W5 (fun _ => False) := hW5 ▸ (Touch.refl wr _).alloc _
          have g5 : W5.heap[wr.heap.size]? = some (.cells #[.int .i64 x.b, .int .i64 x.u] 76 (0, 0)) := hW5 ▸ heap_alloc_new ..
          have x0 : W5.cell? ⟨wr.heap.size, 0, none⟩ = some (.int .i64 x.b) := cell_of_cells g5 0
          have x1 : W5.cell? ⟨wr.heap.size, 1, none⟩ = some (.int .i64 x.u) := cell_of_cells g5 1
          have o5 := HO4.out.still (HT4.out.trans t5 (fun _ _ h => h))
          have c5 : W5.cell? ⟨v.bn, 0, none⟩ = some (.int .i64 nw) := cell_of_cells o5.cn 0
          have c6 : W5.cell? ⟨v.bt, 0, none⟩ = some (.map (some v.mt)) := cell_of_cells o5.ct 0
          have hget := o5.told.get Try.underlying3 Try.underlying3 mapII (zeroI12 W5) hxi
          rw [timeD_none (by rw [has_one1]; exact hxg)] at hget
          have HW5 := Lib.hid hW5
          have HT5 := Lib.hid (HT4.out.trans t5 (fun _ _ h => h))
          have hlI : (i : Int) < m := by omega
          clear hrow e hx hxR hxu hxg hin t5 g5 o5 hW5
          go_upto_region 15 with (fail)
          rw [HW5.out]
          clear d0 d1
          go_wp2_with fail
          go_roundw
          · exact ⟨i + 1, by omega, by go_num, HT5.out⟩
          · simp only [RowKit.intOf]; omega
    case pos =>
      have hrow := HROW.out.2.1.touch HT.out (fun y hy => .inr (fun e => by have h1 := (HROW.out.2.2 y hy).1; have h2 := HO1.out.told.lt; omega))
      obtain ⟨g, off, rfl⟩ := hrow.some (by omega)
      have d0 := icell_one hrow j (by rw [HN.out]; exact hlt)
      have hxA := gd_mem A j (by rw [HN.out]; exact hlt)
      obtain ⟨x, hx⟩ : ∃ x, gd A j = x := ⟨_, rfl⟩
      rw [hx] at d0 hxA
      have hzx := HZ.out j (Nat.le_refl _) hlt
      rw [hx] at hzx
      have hzn : ¬ x.u < z := by omega
      have hun : ¬ nw < x.u := by have := (HLE.out x hxA).1; omega
      have hxL : x ∈ LL := HPA.out.mem_iff.2 (List.mem_append_right _ (List.mem_append_left _ hxA))
      have hxi : i64D x.b := by
        have h1 := HO1.out.n.q.ok x (by rw [← HAR.out]; exact List.mem_append_left _ hxA)
        unfold inN at h1; constructor <;> omega
      have oj := HOJ.out
      have hlast := oj.last.ok Try.underlying3 Try.underlying2 mapIT (zero64 wr) hxi
      rw [timeD_of oj.last.nd hxL, (hasD_iff _ _).2 (List.mem_map.2 ⟨x, hxL, rfl⟩)] at hlast
      have hxg : hasD (A.take j ++ Gn) x.b = false := by
        rw [Bool.eq_false_iff]
        intro hh
        have h1 := (hasD_iff _ _).1 hh
        have h3 := ndD_perm HPA.out oj.last.nd
        rw [List.map_append, List.nodup_append] at h3
        have h4 := h3.2.1
        have e4 : A ++ Gn = A.take j ++ (x :: A.drop (j + 1)) ++ Gn := by
          rw [← hx, gd_get A j (by rw [HN.out]; exact hlt), ← List.drop_eq_getElem_cons, List.take_append_drop]
        have h5 : (x :: (A.take j ++ Gn) ++ A.drop (j + 1)).Perm (A ++ Gn) := by
          rw [e4]
          have p1 : (A.take j ++ x :: A.drop (j + 1)).Perm (x :: (A.take j ++ A.drop (j + 1))) := List.perm_middle
          refine (List.Perm.symm ((p1.append_right Gn).trans ?_))
          simp only [List.cons_append, List.append_assoc]
          exact ((List.perm_append_comm (l₁ := A.drop (j + 1)) (l₂ := Gn)).append_left _).cons x
        have h6 := ndD_perm h5.symm h4
        simp only [List.cons_append, List.map_cons, List.nodup_cons] at h6
        apply h6.1
        rw [List.map_append]
        exact List.mem_append_left _ h1
      have hget := oj.told.get Try.underlying3 Try.underlying3 mapII (zeroI12 wr) hxi
      rw [timeD_none (by rw [has_one1]; exact hxg)] at hget
      have hGl : ((A.take j ++ Gn).map one1).length ≤ 1000000 := by
        have h1 := HPA.out.length_eq
        have h2 : (A.take j).length ≤ A.length := by rw [List.length_take]; omega
        simp at h1 ⊢; omega
      obtain ⟨wz, hz1, hz2, hz3⟩ := oj.told.store Try.underlying3 Try.underlying3 mapII hGl ⟨x.b, 1⟩ hxi (by constructor <;> (dsimp only; omega))
      have hz4 : OwnZ wz 3 3 v.mt ((A.take (j + 1) ++ Gn).map one1) := by
        refine hz2.perm ?_
        rw [delD_none (fun hm => by rw [one1_b] at hm; rw [(hasD_iff _ _).2 hm] at hxg; cases hxg)]
        rw [List.take_succ_eq_append_getElem (by rw [HN.out]; exact hlt), ← gd_get A j (by rw [HN.out]; exact hlt), hx]
        simp only [List.map_append, List.map_cons, List.map_nil, List.append_assoc, List.cons_append, List.nil_append]
        exact List.perm_middle.symm
      have oz := oj.tell hz3 hz4
      have hget2 := oz.told.get Try.underlying3 Try.underlying3 mapII (zeroI12 wz) hxi
      have hone : timeD ((A.take (j + 1) ++ Gn).map one1) x.b = 1 := by
        have hm : (⟨x.b, 1⟩ : DR) ∈ (A.take (j + 1) ++ Gn).map one1 := by
          rw [List.take_succ_eq_append_getElem (by rw [HN.out]; exact hlt), ← gd_get A j (by rw [HN.out]; exact hlt), hx]
          simp [one1]
        exact timeD_of oz.told.nd hm
      rw [hone] at hget2
      have c1 : wr.cell? ⟨v.bl, 0, none⟩ = some (.map (some v.ml)) := cell_of_cells oj.cl 0
      have c2 : wr.cell? ⟨v.bt, 0, none⟩ = some (.map (some v.mt)) := cell_of_cells oj.ct 0
      have c3 : wz.cell? ⟨v.bt, 0, none⟩ = some (.map (some v.mt)) := cell_of_cells oz.ct 0
      have c4 : wz.cell? ⟨v.bn, 0, none⟩ = some (.int .i64 nw) := cell_of_cells oz.cn 0
      have HX : RowKit.Hid (∃ (j' : Nat) (z : Int), j' ≤ N ∧ Value.int .i64 ((j : Int) + 1) = .int .i64 j' ∧ Value.int .i64 x.u = .int .i64 z ∧ (∀ i, j' ≤ i → i < N → z ≤ (gd A i).u) ∧ OS w0 wz v s h2 R LL (A.take j' ++ Gn) nw ∧ Touch W2 wz (fun k => k = v.mt)) := Lib.hid ⟨j + 1, x.u, by omega, by go_num, rfl, fun i h1 h2 => by
        rw [← hx]; exact HSO.out j i (by omega) (by rw [HN.out]; exact h2), oz, HT.out.trans hz3 (fun _ _ h => h)⟩
      have hlI : (j : Int) < N := by omega
      have hcp := hrow.hcap
      have hmx := hrow.hmax
      clear hrow hx hxA hzx hxL hxi oj hxg hGl hz2 hz3 hz4 oz hone
      go_wp2_with fail
      go_roundw
      · exact HX.out
      · simp only [RowKit.intOf]; omega
end Go.Proofs.Ytdjkjdeaglimeaa
