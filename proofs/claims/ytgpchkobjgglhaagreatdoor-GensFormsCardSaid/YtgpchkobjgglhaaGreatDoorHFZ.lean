/- HF: Cho3, Cho4, Cho5, ChoG, MagB, ChoR, MagF. -/
import Derived.Test.YtgpchkobjgglhaaGreatDoorHCZ
import Derived.Deep.RegionHeld3
import Derived.Lib.QuietBelow
import Derived.BigQuiet
import Derived.Deep.DeepCutAuto
section
/- A chooser: made, set. -/
set_option linter.unusedVariables false
namespace Go.Proofs.YtgpchkobjgglhaaGreatDoor
open Go.RowKit

theorem RowI.touch {w w' : World} {a : Option Addr} {len cap : Nat} {zs : List Int} {S : Nat → Prop} (h : RowI w a len cap zs) (t : Touch w w' S) (hn : ∀ x, a = Option.some x → len = 0 ∨ ¬ S x.block) : RowI w' a len cap zs := by
  obtain ⟨h1, h2, h3, h4, h5⟩ := h
  refine ⟨h1, h2, h3, h4, ?_⟩
  rcases h5 with h5 | ⟨b, off, ha, hlt, hc⟩
  · exact .inl h5
  · rcases hn _ ha with h9 | h9
    · exact .inl h9
    · exact .inr ⟨b, off, ha, Nat.lt_of_lt_of_le hlt t.size, fun i hi => (t.cell (p := ⟨b, off + i, none⟩) hlt h9).trans (hc i hi)⟩

/-- A chooser's cells. -/
def chC (n : Nat) (ab : Option Addr) (lb cb : Nat) (at_ : Option Addr) (lt ct : Nat) (m : Nat) : Array Value := #[.int .i64 (n : Nat), .slice ab lb cb, .slice at_ lt ct, .int .i64 (m : Nat)]
theorem may8 : mayS 8 = false := by decide +kernel

end Go.Proofs.YtgpchkobjgglhaaGreatDoor

end

section
/- A chooser asked: by number, by tuple; one that there isn't; the known choice. -/
set_option linter.unusedVariables false
namespace Go.Proofs.YtgpchkobjgglhaaGreatDoor
open Go.RowKit

theorem findV_form (bs : List BkD) (id : Int) : ∃ (b : BkD) (x : Bool), findV bs id = .tuple #[bkV' b, .bool x] := by
  unfold findV
  cases findF bs id with
  | none => exact ⟨bkZ, false, rfl⟩
  | some b => exact ⟨b, true, rfl⟩

end Go.Proofs.YtgpchkobjgglhaaGreatDoor

end

section
/- A chooser that there isn't; the known choice: awake answers true. -/
set_option linter.unusedVariables false
namespace Go.Proofs.YtgpchkobjgglhaaGreatDoor
open Go.RowKit

theorem tab_mem {bs : List BkD} {n : Nat} (hp : Prm n) (hg : gmay bs = true) (h0 : 0 < bs.length) : ∀ x ∈ tabF bs n, ∃ b ∈ bs, x = b.id := by
  intro x hx
  unfold tabF at hx
  rw [if_neg (by simp only [hg, not_or]; exact ⟨by omega, by simp⟩)] at hx
  have hI := inv_all (rows_fine hp hg) (by rw [rowsF_length]; exact h0) n (Nat.le_refl _)
  rcases hI.mem x hx with h1 | ⟨r, hr, h1⟩
  · have h2 := hI.free
    have h3 : 0 < (stM (rowsF bs n) n n).1.count (-1) := List.count_pos_iff.2 (h1 ▸ hx)
    omega
  · obtain ⟨b, hb, rfl⟩ := List.mem_map.1 hr
    exact ⟨b, hb, h1⟩

def bkA : BkD := ⟨5, 0, 1⟩
theorem gmayA : gmay [bkA] = true := by decide +kernel
def tupA : TupD := ⟨0, 0, 6, 0, 0⟩
theorem mayTA : mayTB tupA = true := by decide +kernel
theorem tupOkA : TupOk tupA := ⟨by unfold u32; decide, by unfold u32; decide, by unfold i64; decide, by unfold i64; decide, by unfold i64; decide⟩

end Go.Proofs.YtgpchkobjgglhaaGreatDoor

end

section
/- Who is out: gone, says, Without; a chooser set. -/
set_option linter.unusedVariables false
namespace Go.Proofs.YtgpchkobjgglhaaGreatDoor
open Go.RowKit

/-- Is it out? -/
def outB (xs : List Int) (id : Int) : Bool := decide (id ∈ xs)
theorem outB_nil (id : Int) : outB [] id = false := by simp [outB]
theorem outB_snoc (xs : List Int) (x id : Int) : outB (xs ++ [x]) id = (outB xs id || (x == id)) := by
  unfold outB
  rw [Bool.eq_iff_iff]
  simp only [List.mem_append, List.mem_singleton, decide_eq_true_eq, Bool.or_eq_true, beq_iff_eq]
  exact or_congr Iff.rfl eq_comm
theorem outB_mem {xs : List Int} {id : Int} (h : id ∈ xs) : outB xs id = true := decide_eq_true h
def keepF (out : Int → Bool) (bs : List BkD) : List BkD := bs.filter (fun b => !out b.id)
theorem keepF_snoc (out : Int → Bool) (bs : List BkD) (b : BkD) : keepF out (bs ++ [b]) = keepF out bs ++ (if out b.id then [] else [b]) := by
  unfold keepF
  rw [List.filter_append]
  congr 1
  cases h : out b.id <;> simp [h]
theorem keepF_len (out : Int → Bool) (bs : List BkD) : (keepF out bs).length ≤ bs.length := List.length_filter_le _ _

set_option maxRecDepth 20000 in
set_option maxHeartbeats 2000000 in
/-- Those stay of whom says says no. -/
theorem without_says (fn : FuncId) (f1 f2 : Array Value) (out : Int → Bool) (a : Option Addr) (len cap : Nat) (bs : List BkD) (w : World) (hr : RowK w a len cap bs) (hlen : len ≤ 1000)
    (hsy : ∀ (W : World) (id : Int), Touch w W (fun _ => False) → Calls Tryz.prog 35 #[.func (.func fn) f1 f2, .int .i64 id] W fun e w' => e = .returned (.bool (out id)) ∧ Touch W w' (fun _ => False)) :
    Calls Tryz.prog 15 #[.slice a len cap, .func (.func fn) f1 f2] w fun e w' => ∃ a' c', e = .returned (.slice a' (keepF out bs).length c') ∧ OwnK w' w.heap.size (.slice a' (keepF out bs).length c') (keepF out bs) ∧ Touch w w' (fun _ => False) := by
  have hl := hr.len
  have hcap := hr.hmax
  have hcap1 := hr.hcap
  have HR := Lib.hid hr
  have HL := Lib.hid hl
  have HII := Lib.hid infoBk
  have HSY := Lib.hid hsy
  clear hr hl hsy
  go_enter Tryz.func15, Tryz.ntmps15
  go_wp2_with fail
  go_loopw [5, 10] (fun s i wr => ∃ (k n : Nat) (a' : Option Addr) (c' : Nat), k ≤ len ∧ n ≤ k ∧ i = .int .i64 k ∧ s = .slice a' n c' ∧ n = (keepF out (bs.take k)).length ∧ OwnK wr w.heap.size (.slice a' n c') (keepF out (bs.take k)) ∧ Touch w wr (fun _ => False)) (fun _ i _ => len - (intOf i).toNat)
  case atStart => exact ⟨0, 0, none, 0, Nat.zero_le _, Nat.le_refl _, rfl, rfl, rfl, OwnS.nil _ _ _ _, Touch.refl _ _⟩
  case round =>
    obtain ⟨k, n, a', c', hk, hnk, rfl, rfl, hn, ho, ht⟩ := hrel
    have HN := Lib.hid hn
    have HO := Lib.hid ho
    have HT := Lib.hid ht
    clear ho ht hn
    by_cases hlt : k < len
    case neg =>
      obtain rfl : len = k := by omega
      have hlt' : ¬ (len : Int) < len := by omega
      go_wp2
      go_ret
      have e : bs.take len = bs := by rw [← HL.out, List.take_length]
      have h1 := HO.out
      have h2 := HN.out
      rw [e] at h1 h2
      exact ⟨a', c', by rw [← h2]; rfl, by rw [← h2]; exact h1, HT.out⟩
    case pos =>
    have hr := HR.out.still HT.out
    obtain ⟨b, off, rfl⟩ := hr.some (by omega)
    have hk1 : k < bs.length := by rw [HL.out]; exact hlt
    obtain ⟨c0, c1, c2⟩ := hr.cells k hk1
    have HS : RowKit.Hid (keepF out (bs.take (k + 1)) = keepF out (bs.take k) ++ (if out bs[k].id then [] else [bs[k]])) := Lib.hid (by rw [List.take_succ_eq_append_getElem hk1, keepF_snoc])
    generalize bs[k] = f at *
    obtain ⟨W2, hW2⟩ : ∃ W, wr.alloc (.cells #[.int .i64 f.id, .int .u32 f.addr, .int .i64 f.weight] 27) = W := ⟨_, rfl⟩
    have t1 : Touch wr W2 (fun _ => False) := hW2 ▸ (Touch.refl wr _).alloc _
    have g2 : W2.heap[wr.heap.size]? = some (.cells #[.int .i64 f.id, .int .u32 f.addr, .int .i64 f.weight] 27 (0, 0)) := hW2 ▸ heap_alloc_new ..
    have HG2 := Lib.hid g2
    have HT2 := Lib.hid (HT.out.trans t1 (fun _ _ h => h))
    have HO2 := Lib.hid (OwnS.still HO.out.toS t1)
    have HSF := Lib.hid (HSY.out W2 f.id (HT.out.trans t1 (fun _ _ h => h)))
    have HW2 := Lib.hid hW2
    have hlI : (k : Int) < len := by omega
    clear hr t1 g2 hW2
    obtain ⟨x, hx⟩ : ∃ x, out f.id = x := ⟨_, rfl⟩
    rw [hx] at HSF HS
    clear hx
    go_wp2_with fail
    rw [HW2.out]
    refine HSF.out.mono ?_
    rintro e w4 ⟨rfl, t4⟩
    have g4 := t4.keeps HG2.out (fun h => h)
    have x0 : w4.cell? ⟨wr.heap.size, 0, none⟩ = some (.int .i64 f.id) := cell_of_cells g4 0
    have x1 : w4.cell? ⟨wr.heap.size, 1, none⟩ = some (.int .u32 f.addr) := cell_of_cells g4 1
    have x2 : w4.cell? ⟨wr.heap.size, 2, none⟩ = some (.int .i64 f.weight) := cell_of_cells g4 2
    cases x with
    | true =>
      have HT4 := Lib.hid (HT2.out.trans t4 (fun _ _ h => h))
      have HO4 := Lib.hid (OwnS.still HO2.out t4)
      have HS' : RowKit.Hid (keepF out (bs.take (k + 1)) = keepF out (bs.take k)) := Lib.hid (by rw [HS.out]; simp)
      clear t4 g4 HS
      go_wp2_with fail
      exact ⟨⟨k + 1, n, a', c', hlt, by omega, by go_num, rfl, by rw [HS'.out]; exact HN.out, by rw [HS'.out]; exact HO4.out, HT4.out⟩, by simp [intOf]; omega⟩
    | false =>
    have HS' : RowKit.Hid (keepF out (bs.take (k + 1)) = keepF out (bs.take k) ++ [f]) := Lib.hid (by rw [HS.out]; simp)
    clear HS
    have t5 := (Touch.refl w4 (fun _ => False)).alloc (.cells #[.int .i64 f.id, .int .u32 f.addr, .int .i64 f.weight] 27)
    have HT5 := Lib.hid ((HT2.out.trans t4 (fun _ _ h => h)).trans t5 (fun _ _ h => h))
    have HO5 := Lib.hid (OwnS.still (OwnS.still HO2.out t4) t5)
    have hown : (w4.alloc (.cells #[.int .i64 f.id, .int .u32 f.addr, .int .i64 f.weight] 27)).ownsRow w.heap.size 27 3 (.slice a' n c') n ((keepF out (bs.take k)).map BkD.cells).flatten := by
      have := HO5.out.own
      rwa [List.length_map, ← HN.out] at this
    have HOWN := Lib.hid hown
    have HQ := Lib.hid (news_of (heap_alloc_new w4 (.cells #[.int .i64 f.id, .int .u32 f.addr, .int .i64 f.weight] 27)))
    clear hown t4 t5 g4
    go_wp2_with (at_builtin; (with_reducible refine wp_appR HOWN.out 22 Tryz.underlying22 _ 24 HII.out rfl (by decide) ⟨w4.heap.size, 0, none⟩ 1 1 _ rfl HQ.out (by simp [Value.oneCell']) (by simp only [maxLen]; omega) (by omega) (HT5.out.under (Nat.le_refl _)) (Nat.le_refl _) HT5.out.size rfl _ _ rfl rfl rfl ?_); intro a4 c4 w6 ho4 hg4 hb4 hp4; have HO4 := Lib.hid ho4; have HT4 := Lib.hid (Touch.ofBelow (S := fun _ => False) hb4 (fun k h1 h2 => by omega)); clear ho4 hg4 hb4 hp4)
    have HO6 : RowKit.Hid (OwnK w6 w.heap.size (.slice a4 (n + 1) c4) (keepF out (bs.take (k + 1)))) := Lib.hid (by
      rw [HS'.out]
      unfold OwnK
      rw [List.map_append, List.map_cons, List.map_nil]
      refine HO5.out.add (L2 := [f.cells]) (by simp [BkD.cells]) ?_
      have := HO4.out
      rw [List.length_map, ← HN.out]
      simpa [BkD.cells] using this)
    exact ⟨⟨k + 1, n + 1, a4, c4, hlt, by omega, by go_num, rfl, by rw [HS'.out, List.length_append, ← HN.out]; rfl, HO6.out, HT4.out⟩, by simp [intOf]; omega⟩

end Go.Proofs.YtgpchkobjgglhaaGreatDoor

end

section
/- May a set of backends be, as the reference has it. -/
set_option linter.unusedVariables false
namespace Go.Proofs.YtgpchkobjgglhaaGreatDoor
open Go.RowKit

set_option maxRecDepth 20000 in
set_option maxHeartbeats 2000000 in
theorem rgmay_any (a : Option Addr) (len cap : Nat) (bs : List BkD) (w : World) (hr : RowK w a len cap bs) :
    Calls Tryz.prog 12 #[.slice a len cap] w fun e w' => e = .returned (.bool (gmay bs)) ∧ Touch w w' (fun _ => False) := by
  have hl := hr.len
  have hcap := hr.hmax
  have hcap1 := hr.hcap
  have HG := Lib.hid (gmay_iff bs)
  have HR := Lib.hid hr
  have HL := Lib.hid hl
  by_cases h16 : len ≤ 16
  case neg =>
    have HF : RowKit.Hid (gmay bs = false) := Lib.hid (by
      cases hh : gmay bs with
      | false => rfl
      | true => have := (HG.out.1 hh).1; omega)
    have h16I : (len : Int) > 16 := by omega
    clear hr hl
    go_enter Tryz.func12, Tryz.ntmps12
    go_wp2
    go_ret
    exact ⟨by rw [HF.out]; rfl, Touch.refl _ _⟩
  case pos =>
  have h16I : ¬ (len : Int) > 16 := by omega
  clear hr hl
  go_enter Tryz.func12, Tryz.ntmps12
  go_wp2_with fail
  go_loopw [10] (fun i wr => ∃ k : Nat, k ≤ len ∧ i = .int .i64 k ∧ Touch w wr (fun _ => False) ∧ ∀ j, j < k → okAt bs j = true) (fun i _ => len - (intOf i).toNat)
  case atStart => exact ⟨0, Nat.zero_le _, rfl, Touch.refl _ _, fun j hj => by omega⟩
  case round =>
    obtain ⟨k, hk, rfl, ht, he⟩ := hrel
    have HT := Lib.hid ht
    have HE := Lib.hid he
    clear he ht
    by_cases hlt : k < len
    case neg =>
      obtain rfl : len = k := by omega
      have hlt' : ¬ (len : Int) < len := by omega
      have HF : RowKit.Hid (gmay bs = true) := Lib.hid (HG.out.2 ⟨by rw [HL.out]; exact h16, fun i hi => HE.out i (by rw [← HL.out]; exact hi)⟩)
      go_wp2
      go_ret
      exact ⟨by rw [HF.out]; rfl, HT.out⟩
    case pos =>
    have hr := HR.out.still HT.out
    obtain ⟨b, off, rfl⟩ := hr.some (by omega)
    have hk1 : k < bs.length := by rw [HL.out]; exact hlt
    obtain ⟨c0, c1, c2⟩ := hr.cells k hk1
    have HK : RowKit.Hid (bs[k]? = some bs[k]) := Lib.hid (List.getElem?_eq_getElem hk1)
    have HFA : RowKit.Hid (okAt bs k = false → gmay bs = false) := Lib.hid (fun h => by
      cases hh : gmay bs with
      | false => rfl
      | true => rw [(HG.out.1 hh).2 k hk1] at h; cases h)
    obtain ⟨W1, hW1⟩ : ∃ W, wr.alloc (.cells #[.int .i64 bs[k].id, .int .u32 bs[k].addr, .int .i64 bs[k].weight] 27) = W := ⟨_, rfl⟩
    have t1 : Touch wr W1 (fun _ => False) := hW1 ▸ (Touch.refl wr _).alloc _
    have HR1 := Lib.hid (hr.still t1)
    have g1 : W1.heap[wr.heap.size]? = some (.cells #[.int .i64 bs[k].id, .int .u32 bs[k].addr, .int .i64 bs[k].weight] 27 (0, 0)) := hW1 ▸ heap_alloc_new ..
    have x0 : W1.cell? ⟨wr.heap.size, 0, none⟩ = some (.int .i64 bs[k].id) := cell_of_cells g1 0
    have x1 : W1.cell? ⟨wr.heap.size, 1, none⟩ = some (.int .u32 bs[k].addr) := cell_of_cells g1 1
    have x2 : W1.cell? ⟨wr.heap.size, 2, none⟩ = some (.int .i64 bs[k].weight) := cell_of_cells g1 2
    have HX0 := Lib.hid x0
    have HX1 := Lib.hid x1
    have HX2 := Lib.hid x2
    have HG1 := Lib.hid g1
    have HKC : RowKit.Hid (∀ W, Touch W1 W (fun _ => False) → W.cell? ⟨wr.heap.size, 0, none⟩ = some (.int .i64 bs[k].id) ∧ W.cell? ⟨wr.heap.size, 1, none⟩ = some (.int .u32 bs[k].addr) ∧ W.cell? ⟨wr.heap.size, 2, none⟩ = some (.int .i64 bs[k].weight)) := Lib.hid (fun W t => by
      have g := t.keeps g1 (fun h => h)
      exact ⟨cell_of_cells g 0, cell_of_cells g 1, cell_of_cells g 2⟩)
    have HT1 := Lib.hid (HT.out.trans t1 (fun _ _ h => h))
    have HW1 := Lib.hid hW1
    have HMK : RowKit.Hid (∀ W, Calls Tryz.prog 28 #[.agg #[.int .i64 bs[k].id, .int .u32 bs[k].addr, .int .i64 bs[k].weight]] W fun e w' => e = .returned (.bool (mayKB bs[k])) ∧ Touch W w' (fun _ => False)) := Lib.hid (fun W => rmayK_any bs[k] W)
    clear hr t1 g1 hW1 x0 x1 x2
    have hlI : (k : Int) < len := by omega
    cases hm : mayKB bs[k]
    case false =>
      rw [hm] at HMK
      have HOK : RowKit.Hid (gmay bs = false) := Lib.hid (HFA.out (by unfold okAt; rw [HK.out]; simp [hm]))
      clear hm HK HFA
      generalize bs[k] = f at *
      go_upto_region 6 with (fail)
      rw [HW1.out]
      have x0 := fun d os => cell_regrown HX0.out d os
      have x1 := fun d os => cell_regrown HX1.out d os
      have x2 := fun d os => cell_regrown HX2.out d os
      have cM := fun d os => Calls.regrown_of ((HMK.out (Sort.grow (redrawn W1 d) os)).mono (fun e w' h => ⟨h.1, h.2.below (fun _ _ h => h.elim) (Nat.le_refl _)⟩))
      refine wp_region_quiet_below (by kernel_rfl) (by kernel_rfl) ?_
      repeat (go_big_quiet_step (exact cM _ _))
      refine wpQuiet_nil ?_
      intro _ hw'
      obtain ⟨⟨dq, osq⟩, hw''⟩ := hw'
      subst hw''
      have HT6 := Lib.hid (HT1.out.trans (Touch.ofBelow (S := fun _ => False) (below_regrown W1 dq osq) (fun k h1 h2 => by omega)) (fun _ _ h => h))
      go_wp2
      go_ret
      exact ⟨by rw [HOK.out]; rfl, HT6.out⟩
    case true =>
      rw [hm] at HMK
      cases k with
      | zero =>
        have HOK : RowKit.Hid (okAt bs 0 = true) := Lib.hid (by rw [okAt_zero HK.out]; exact hm)
        clear hm HK HFA
        generalize bs[0] = f at *
        simp only [Nat.zero_mul, Nat.add_zero] at c0 c1 c2
        go_upto_region 6 with (fail)
        rw [HW1.out]
        have x0 := fun d os => cell_regrown HX0.out d os
        have x1 := fun d os => cell_regrown HX1.out d os
        have x2 := fun d os => cell_regrown HX2.out d os
        have cM := fun d os => Calls.regrown_of ((HMK.out (Sort.grow (redrawn W1 d) os)).mono (fun e w' h => ⟨h.1, h.2.below (fun _ _ h => h.elim) (Nat.le_refl _)⟩))
        refine wp_region_quiet_below (by kernel_rfl) (by kernel_rfl) ?_
        repeat (go_big_quiet_step (exact cM _ _))
        refine wpQuiet_nil ?_
        intro _ hw'
        obtain ⟨⟨dq, osq⟩, hw''⟩ := hw'
        subst hw''
        have HT6 := Lib.hid (HT1.out.trans (Touch.ofBelow (S := fun _ => False) (below_regrown W1 dq osq) (fun k h1 h2 => by omega)) (fun _ _ h => h))
        go_wp2
        exact ⟨⟨1, hlt, rfl, HT6.out, fun j hj => by (obtain rfl : j = 0 := (by omega)); exact HOK.out⟩, by simp [intOf]; omega⟩
      | succ k =>
        have hk0 : k < bs.length := by omega
        obtain ⟨p, hp⟩ : ∃ p, bs[k] = p := ⟨_, rfl⟩
        have HCP : RowKit.Hid (∀ W, Touch W1 W (fun _ => False) → W.cell? ⟨b, off + k * 3, none⟩ = some (.int .i64 p.id)) := Lib.hid (fun W t => by
          have := ((HR1.out.still t).cells k hk0).1
          rwa [hp] at this)
        have hok := okAt_succ HK.out (show bs[k]? = some p by rw [List.getElem?_eq_getElem hk0, hp])
        rw [hm, Bool.true_and] at hok
        have HOK := Lib.hid hok
        clear hm hok HK hp
        generalize bs[k + 1] = f at *
        have hkl2 : (k : Int) < len := by omega
        have hkl3 : ¬ ((k : Int) + 1 = 0) := by omega
        obtain ⟨eb, heb⟩ : ∃ eb, decide (f.id ≤ p.id) = eb := ⟨_, rfl⟩
        have HEB := Lib.hid heb
        go_upto_region 6 with (fail)
        rw [HW1.out]
        have x0 := fun d os => cell_regrown HX0.out d os
        have x1 := fun d os => cell_regrown HX1.out d os
        have x2 := fun d os => cell_regrown HX2.out d os
        have cM := fun d os => Calls.regrown_of ((HMK.out (Sort.grow (redrawn W1 d) os)).mono (fun e w' h => ⟨h.1, h.2.below (fun _ _ h => h.elim) (Nat.le_refl _)⟩))
        have y2 := fun d os => cell_regrown (HCP.out W1 (Touch.refl _ _)) d os
        refine wp_region_quiet_below (by kernel_rfl) (by kernel_rfl) ?_
        repeat (go_big_quiet_step (exact cM _ _))
        refine wpQuiet_nil ?_
        intro _ hw'
        obtain ⟨⟨dq, osq⟩, hw''⟩ := hw'
        subst hw''
        have HT6 := Lib.hid (HT1.out.trans (Touch.ofBelow (S := fun _ => False) (below_regrown W1 dq osq) (fun k h1 h2 => by omega)) (fun _ _ h => h))
        clear heb
        cases eb with
        | true =>
          have HF : RowKit.Hid (gmay bs = false) := Lib.hid (HFA.out (by
            rw [HOK.out]
            have := of_decide_eq_true HEB.out
            exact decide_eq_false (by omega)))
          go_wp2
          go_ret
          exact ⟨by rw [HF.out]; rfl, HT6.out⟩
        | false =>
          go_wp2
          refine ⟨⟨k + 2, hlt, by go_num, HT6.out, fun j hj => ?_⟩, by simp [intOf]; omega⟩
          rcases Nat.lt_or_ge j (k + 1) with h9 | h9
          · exact HE.out j h9
          · obtain rfl : j = k + 1 := by omega
            rw [HOK.out]
            have := of_decide_eq_false HEB.out
            exact decide_eq_true (by omega)
end Go.Proofs.YtgpchkobjgglhaaGreatDoor

end

section
/- The reference: a backend by its number, who stays; a pick of any tuple. -/
set_option linter.unusedVariables false
namespace Go.Proofs.YtgpchkobjgglhaaGreatDoor
open Go.RowKit

set_option maxRecDepth 20000 in
set_option maxHeartbeats 2000000 in
theorem rfind_any (a : Option Addr) (len cap : Nat) (bs : List BkD) (id : Int) (w : World) (hr : RowK w a len cap bs) :
    Calls Tryz.prog 6 #[.slice a len cap, .int .i64 id] w fun e w' => e = .returned (findV bs id) ∧ Touch w w' (fun _ => False) := by
  have hl := hr.len
  have hcap := hr.hmax
  have hcap1 := hr.hcap
  obtain ⟨W0, hW0⟩ : ∃ W, w.alloc (.cells #[.int .i64 0, .int .u32 0, .int .i64 0] 27) = W := ⟨_, rfl⟩
  have t0 : Touch w W0 (fun _ => False) := hW0 ▸ (Touch.refl w _).alloc _
  have g0 : W0.heap[w.heap.size]? = some (.cells #[.int .i64 0, .int .u32 0, .int .i64 0] 27 (0, 0)) := hW0 ▸ heap_alloc_new ..
  have HR := Lib.hid (hr.still t0)
  have HL := Lib.hid hl
  have HT0 := Lib.hid t0
  have HG0 := Lib.hid g0
  have HII := Lib.hid infoBk3
  have HW0 := Lib.hid hW0
  clear hr hl t0 g0 hW0
  go_enter Tryz.func6, Tryz.ntmps6
  go_upto_region 1 with (fail)
  rw [HW0.out]
  go_wp2_with fail
  go_loopw [10] (fun i wr => ∃ k : Nat, k ≤ len ∧ i = .int .i64 k ∧ findF (bs.take k) id = none ∧ Touch W0 wr (fun _ => False)) (fun i _ => len - (intOf i).toNat)
  case atStart => exact ⟨0, Nat.zero_le _, rfl, rfl, Touch.refl _ _⟩
  case round =>
    obtain ⟨k, hk, rfl, hf, ht⟩ := hrel
    have HT := Lib.hid ht
    have HF := Lib.hid hf
    have HG := Lib.hid (ht.keeps HG0.out (fun h => h))
    clear ht hf
    by_cases hlt : k < len
    case neg =>
      obtain rfl : len = k := by omega
      have hlt' : ¬ (len : Int) < len := by omega
      go_wp2_with (refine store_row rfl 27 (.tmp 4) (.tmp 20) rfl w.heap.size _ rfl rfl _ _ HG.out HII.out rfl rfl ?_)
      refine ret_row1 rfl rfl w.heap.size ?t ?cs ?fr _ rfl ?hg Tryz.underlying27 rfl ?hi _ rfl ?hR
      case hg => exact setRow_heap _ _ _ _ _ _ HG.out
      case hi => exact HII.out
      case hR =>
        refine ⟨?_, (HT0.out.trans HT.out (fun _ _ h => h)).setRow _ _ (fun h => absurd h (Nat.lt_irrefl _))⟩
        have e := HF.out
        rw [← HL.out, List.take_length] at e
        unfold findV
        rw [e]; rfl
    case pos =>
    have hr := HR.out.still HT.out
    obtain ⟨b, off, rfl⟩ := hr.some (by omega)
    have hk1 : k < bs.length := by rw [HL.out]; exact hlt
    obtain ⟨c0, c1, c2⟩ := hr.cells k hk1
    have HS1 : RowKit.Hid (findF (bs.take (k + 1)) id = if bs[k].id == id then some bs[k] else none) := Lib.hid (by
      rw [List.take_succ_eq_append_getElem hk1]
      unfold findF
      rw [List.find?_append]
      have := HF.out
      unfold findF at this
      rw [this]
      simp only [Option.none_or, List.find?_cons, List.find?_nil]
      split <;> simp_all)
    have HS2 : RowKit.Hid (bs[k].id = id → findF bs id = some bs[k]) := Lib.hid (fun h => by
      have key : bs.find? (fun b => b.id == id) = (bs.take (k + 1) ++ bs.drop (k + 1)).find? (fun b => b.id == id) := by rw [List.take_append_drop]
      have h2 := HS1.out
      unfold findF at h2 ⊢
      rw [key, List.find?_append, h2, if_pos (beq_iff_eq.2 h)]
      rfl)
    generalize bs[k] = f at *
    obtain ⟨W2, hW2⟩ : ∃ W, wr.alloc (.cells #[.int .i64 f.id, .int .u32 f.addr, .int .i64 f.weight] 27) = W := ⟨_, rfl⟩
    have t2 : Touch wr W2 (fun _ => False) := hW2 ▸ (Touch.refl wr _).alloc _
    have g2 : W2.heap[wr.heap.size]? = some (.cells #[.int .i64 f.id, .int .u32 f.addr, .int .i64 f.weight] 27 (0, 0)) := hW2 ▸ heap_alloc_new ..
    have HX0 : RowKit.Hid (W2.cell? ⟨wr.heap.size, 0, none⟩ = some (.int .i64 f.id)) := Lib.hid (cell_of_cells g2 0)
    have HX1 : RowKit.Hid (W2.cell? ⟨wr.heap.size, 1, none⟩ = some (.int .u32 f.addr)) := Lib.hid (cell_of_cells g2 1)
    have HX2 : RowKit.Hid (W2.cell? ⟨wr.heap.size, 2, none⟩ = some (.int .i64 f.weight)) := Lib.hid (cell_of_cells g2 2)
    have HT2 := Lib.hid (HT.out.trans t2 (fun _ _ h => h))
    have HG2 := Lib.hid (t2.keeps HG.out (fun h => h))
    have HW2 := Lib.hid hW2
    have hkI : (k : Int) < len := by omega
    clear hr t2 g2 hW2
    by_cases hid : f.id = id
    · have HV := Lib.hid (HS2.out hid)
      subst hid
      clear HS1 HS2
      go_upto_region 4 with (fail)
      rw [HW2.out]
      have x0 := HX0.out
      have x1 := HX1.out
      have x2 := HX2.out
      go_wp2_with (refine store_row rfl 27 (.tmp 4) (.tmp 18) rfl w.heap.size _ rfl rfl _ _ HG2.out HII.out rfl rfl ?_)
      refine ret_row1 rfl rfl w.heap.size _ #[.int .i64 f.id, .int .u32 f.addr, .int .i64 f.weight] _ _ rfl (setRow_heap _ _ _ _ _ _ HG2.out) Tryz.underlying27 rfl HII.out (.bool true) rfl ?_
      refine ⟨?_, (HT0.out.trans HT2.out (fun _ _ h => h)).setRow _ _ (fun h => absurd h (Nat.lt_irrefl _))⟩
      unfold findV
      rw [HV.out]
      rfl
    · have hb : (f.id == id) = false := beq_eq_false_iff_ne.2 hid
      go_upto_region 4 with (fail)
      rw [HW2.out]
      have x0 := HX0.out
      go_wp2_with fail
      exact ⟨⟨k + 1, hlt, by go_num, by rw [HS1.out]; simp [hid], HT2.out⟩, by simp [intOf]; omega⟩

set_option maxRecDepth 20000 in
set_option maxHeartbeats 2000000 in
theorem rwithout_any (a ax : Option Addr) (len cap lx cx : Nat) (bs : List BkD) (xs : List Int) (w : World) (hr : RowK w a len cap bs) (hlen : len ≤ 1000) (hx : RowI w ax lx cx xs) :
    Calls Tryz.prog 16 #[.slice a len cap, .slice ax lx cx] w fun e w' => ∃ a' c', e = .returned (.slice a' (keepF (outB xs) bs).length c') ∧ OwnK w' w.heap.size (.slice a' (keepF (outB xs) bs).length c') (keepF (outB xs) bs) ∧ Touch w w' (fun _ => False) := by
  have hl := hr.len
  have hcap := hr.hmax
  have hcap1 := hr.hcap
  have hcx := hx.2.2.1
  have hcx1 := hx.2.1
  have HR := Lib.hid hr
  have HL := Lib.hid hl
  have HX := Lib.hid hx
  have HLX := Lib.hid hx.1
  have HII := Lib.hid infoBk
  clear hr hl hx
  go_enter Tryz.func16, Tryz.ntmps16
  go_wp2_with fail
  go_loopw [5, 13] (fun s i wr => ∃ (k n : Nat) (a' : Option Addr) (c' : Nat), k ≤ len ∧ n ≤ k ∧ i = .int .i64 k ∧ s = .slice a' n c' ∧ n = (keepF (outB xs) (bs.take k)).length ∧ OwnK wr w.heap.size (.slice a' n c') (keepF (outB xs) (bs.take k)) ∧ Touch w wr (fun _ => False)) (fun _ i _ => len - (intOf i).toNat)
  case atStart => exact ⟨0, 0, none, 0, Nat.zero_le _, Nat.le_refl _, rfl, rfl, rfl, OwnS.nil _ _ _ _, Touch.refl _ _⟩
  case round =>
    obtain ⟨k, n, a', c', hk, hnk, rfl, rfl, hn, ho, ht⟩ := hrel
    have HN := Lib.hid hn
    have HO := Lib.hid ho
    have HT := Lib.hid ht
    clear ho ht hn
    by_cases hlt : k < len
    case neg =>
      obtain rfl : len = k := by omega
      have hlt' : ¬ (len : Int) < len := by omega
      go_wp2
      go_ret
      have e : bs.take len = bs := by rw [← HL.out, List.take_length]
      have h1 := HO.out
      have h2 := HN.out
      rw [e] at h1 h2
      exact ⟨a', c', by rw [← h2]; rfl, by rw [← h2]; exact h1, HT.out⟩
    case pos =>
    have hr := HR.out.still HT.out
    obtain ⟨b, off, rfl⟩ := hr.some (by omega)
    have hk1 : k < bs.length := by rw [HL.out]; exact hlt
    obtain ⟨c0, c1, c2⟩ := hr.cells k hk1
    have HS : RowKit.Hid (keepF (outB xs) (bs.take (k + 1)) = keepF (outB xs) (bs.take k) ++ (if outB xs bs[k].id then [] else [bs[k]])) := Lib.hid (by rw [List.take_succ_eq_append_getElem hk1, keepF_snoc])
    generalize bs[k] = f at *
    obtain ⟨W2, hW2⟩ : ∃ W, wr.alloc (.cells #[.int .i64 f.id, .int .u32 f.addr, .int .i64 f.weight] 27) = W := ⟨_, rfl⟩
    have t1 : Touch wr W2 (fun _ => False) := hW2 ▸ (Touch.refl wr _).alloc _
    have g2 : W2.heap[wr.heap.size]? = some (.cells #[.int .i64 f.id, .int .u32 f.addr, .int .i64 f.weight] 27 (0, 0)) := hW2 ▸ heap_alloc_new ..
    have x0 : W2.cell? ⟨wr.heap.size, 0, none⟩ = some (.int .i64 f.id) := cell_of_cells g2 0
    have x1 : W2.cell? ⟨wr.heap.size, 1, none⟩ = some (.int .u32 f.addr) := cell_of_cells g2 1
    have x2 : W2.cell? ⟨wr.heap.size, 2, none⟩ = some (.int .i64 f.weight) := cell_of_cells g2 2
    have HX0 := Lib.hid x0
    have HX1 := Lib.hid x1
    have HX2 := Lib.hid x2
    have HT2 := Lib.hid (HT.out.trans t1 (fun _ _ h => h))
    have HO2 := Lib.hid (OwnS.still HO.out.toS t1)
    have HXR := Lib.hid (HX.out.still HT2.out)
    have HW2 := Lib.hid hW2
    have hlI : (k : Int) < len := by omega
    clear hr t1 g2 hW2 x0 x1 x2
    go_upto_region 5 with (fail)
    rw [HW2.out]
    go_wp2_with fail
    go_loopw [8, 19] (fun s i wv => ∃ (j : Nat), j ≤ lx ∧ i = .int .i64 j ∧ s = .bool (outB (xs.take j) f.id) ∧ wv = W2) (fun _ i _ => lx - (intOf i).toNat)
    case atStart => exact ⟨0, Nat.zero_le _, rfl, by rw [List.take_zero, outB_nil], rfl⟩
    case round =>
      obtain ⟨j, hj, rfl, rfl, hwv⟩ := hrel
      subst hwv
      by_cases hjt : j < lx
      case pos =>
        obtain ⟨bx, ox, rfl, hcj⟩ := HXR.out.some (by omega)
        have hj1 : j < xs.length := by rw [HLX.out]; exact hjt
        have cj := hcj j hj1
        have x0 := HX0.out
        have hjI : (j : Int) < lx := by omega
        have HSN : RowKit.Hid (outB (xs.take (j + 1)) f.id = (outB (xs.take j) f.id || (xs[j] == f.id))) := Lib.hid (by rw [List.take_succ_eq_append_getElem hj1, outB_snoc])
        generalize xs[j] = x at *
        generalize outB (xs.take j) f.id = p at *
        obtain ⟨q, hq⟩ : ∃ q, (x == f.id) = q := ⟨_, rfl⟩
        rw [hq] at HSN
        clear hcj
        cases p with
        | true =>
          go_wp2
          exact ⟨⟨j + 1, hjt, by go_num, by rw [HSN.out]; rfl, trivial⟩, by simp [intOf]; omega⟩
        | false =>
          go_wp2
          exact ⟨⟨j + 1, hjt, by go_num, by rw [HSN.out]; rfl, trivial⟩, by simp [intOf]; omega⟩
      case neg =>
      obtain rfl : lx = j := by omega
      have hjt' : ¬ (lx : Int) < lx := by omega
      have e : xs.take lx = xs := by rw [← HLX.out, List.take_length]
      rw [e]
      obtain ⟨x, hx⟩ : ∃ x, outB xs f.id = x := ⟨_, rfl⟩
      rw [hx] at HS ⊢
      clear hx e
      cases x with
      | true =>
        have HS' : RowKit.Hid (keepF (outB xs) (bs.take (k + 1)) = keepF (outB xs) (bs.take k)) := Lib.hid (by rw [HS.out]; simp)
        clear HS
        go_wp2_with fail
        exact ⟨⟨k + 1, n, a', c', hlt, by omega, by go_num, rfl, by rw [HS'.out]; exact HN.out, by rw [HS'.out]; exact HO2.out, HT2.out⟩, by simp [intOf]; omega⟩
      | false =>
      have HS' : RowKit.Hid (keepF (outB xs) (bs.take (k + 1)) = keepF (outB xs) (bs.take k) ++ [f]) := Lib.hid (by rw [HS.out]; simp)
      clear HS
      have t5 := (Touch.refl wr (fun _ => False)).alloc (.cells #[.int .i64 f.id, .int .u32 f.addr, .int .i64 f.weight] 27)
      have HT5 := Lib.hid (HT2.out.trans t5 (fun _ _ h => h))
      have HO5 := Lib.hid (OwnS.still HO2.out t5)
      have hown : (wr.alloc (.cells #[.int .i64 f.id, .int .u32 f.addr, .int .i64 f.weight] 27)).ownsRow w.heap.size 27 3 (.slice a' n c') n ((keepF (outB xs) (bs.take k)).map BkD.cells).flatten := by
        have := HO5.out.own
        rwa [List.length_map, ← HN.out] at this
      have HOWN := Lib.hid hown
      have HQ := Lib.hid (news_of (heap_alloc_new wr (.cells #[.int .i64 f.id, .int .u32 f.addr, .int .i64 f.weight] 27)))
      have x0 := HX0.out
      have x1 := HX1.out
      have x2 := HX2.out
      clear hown t5
      go_wp2_with (at_builtin; (with_reducible refine wp_appR HOWN.out 22 Tryz.underlying22 _ 24 HII.out rfl (by decide) ⟨wr.heap.size, 0, none⟩ 1 1 _ rfl HQ.out (by simp [Value.oneCell']) (by simp only [maxLen]; omega) (by omega) (HT5.out.under (Nat.le_refl _)) (Nat.le_refl _) HT5.out.size rfl _ _ rfl rfl rfl ?_); intro a4 c4 w6 ho4 hg4 hb4 hp4; have HO4 := Lib.hid ho4; have HT4 := Lib.hid (Touch.ofBelow (S := fun _ => False) hb4 (fun k h1 h2 => by omega)); clear ho4 hg4 hb4 hp4)
      have HO6 : RowKit.Hid (OwnK w6 w.heap.size (.slice a4 (n + 1) c4) (keepF (outB xs) (bs.take (k + 1)))) := Lib.hid (by
        rw [HS'.out]
        unfold OwnK
        rw [List.map_append, List.map_cons, List.map_nil]
        refine HO5.out.add (L2 := [f.cells]) (by simp [BkD.cells]) ?_
        have := HO4.out
        rw [List.length_map, ← HN.out]
        simpa [BkD.cells] using this)
      exact ⟨⟨k + 1, n + 1, a4, c4, hlt, by omega, by go_num, rfl, by rw [HS'.out, List.length_append, ← HN.out]; rfl, HO6.out, HT4.out⟩, by simp [intOf]; omega⟩
end Go.Proofs.YtgpchkobjgglhaaGreatDoor

end

section
/- Shares are fair: as lists. -/
set_option linter.unusedVariables false
namespace Go.Proofs.YtgpchkobjgglhaaGreatDoor
open Go.RowKit Go.Maps

theorem okAt_app (bs : List BkD) (b : BkD) (i : Nat) (h : i < bs.length) : okAt (bs ++ [b]) i = okAt bs i := by
  unfold okAt
  rw [List.getElem?_append_left h, List.getElem?_append_left (by omega)]
theorem gmay_snoc {bs : List BkD} {b : BkD} (h : gmay bs = true) (hl : bs.length < 16) (hb : mayKB b = true) (hlt : ∀ a ∈ bs, a.id < b.id) : gmay (bs ++ [b]) = true := by
  rw [gmay_iff] at h ⊢
  refine ⟨by simp; omega, fun i hi => ?_⟩
  rcases Nat.lt_or_ge i bs.length with h9 | h9
  · rw [okAt_app bs b i h9]; exact h.2 i h9
  · have e : i = bs.length := by simp at hi; omega
    subst e
    have hg : (bs ++ [b])[bs.length]? = some b := by simp
    cases hn : bs.length with
    | zero => rw [hn] at hg; rw [okAt_zero hg]; exact hb
    | succ m =>
      rw [hn] at hg
      have hm : m < bs.length := by omega
      rw [okAt_succ hg (a := bs[m]) (by rw [List.getElem?_append_left hm]; exact List.getElem?_eq_getElem hm), hb, Bool.true_and]
      exact decide_eq_true (hlt _ (List.getElem_mem hm))
theorem gmay_nil : gmay [] = true := by decide

/-- The shares, one behind the other. -/
def totF (rs : List Rw) (n i : Nat) : Nat := ((List.range i).map (fun q => cnt rs q n)).sum
theorem totF_succ (rs : List Rw) (n i : Nat) : totF rs n (i + 1) = totF rs n i + cnt rs i n := by
  unfold totF; rw [List.range_succ]; simp
theorem sum_one (f : Nat → Nat) (x : Nat) : ∀ m, x < m → ((List.range m).map (fun i => f i + (if x = i then 1 else 0))).sum = ((List.range m).map f).sum + 1
  | 0, h => by omega
  | m + 1, h => by
    rw [List.range_succ, List.map_append, List.map_append, List.sum_append, List.sum_append]
    by_cases hx : x = m
    · subst hx
      have e : (List.range x).map (fun i => f i + (if x = i then 1 else 0)) = (List.range x).map f := List.map_congr_left (fun i hi => by
        have := List.mem_range.1 hi
        rw [if_neg (by omega)]; rfl)
      rw [e]; simp; omega
    · have ih := sum_one f x m (by omega)
      rw [ih]; simp [hx]; omega
theorem totF_all (rs : List Rw) (h0 : 0 < allW rs) : ∀ k, totF rs k rs.length = k
  | 0 => by
    unfold totF
    simp only [cnt]
    induction rs.length with
    | zero => rfl
    | succ m ih => rw [List.range_succ, List.map_append, List.sum_append, ih]; rfl
  | k + 1 => by
    have ih := totF_all rs h0 k
    unfold totF at ih ⊢
    have := sum_one (fun q => cnt rs q k) (who rs (k % allW rs)) rs.length (who_lt rs _ (Nat.mod_lt _ h0))
    simp only [cnt]
    rw [this, ih]
theorem rounds_two (n all : Nat) (h0 : 0 < all) : (n % all = 0 ∧ (n + all - 1) / all = n / all) ∨ (0 < n % all ∧ (n + all - 1) / all = n / all + 1) := by
  have hd := Nat.div_add_mod n all
  rcases Nat.eq_zero_or_pos (n % all) with h | h
  · left
    refine ⟨h, ?_⟩
    have e : n + all - 1 = all * (n / all) + (all - 1) := by omega
    rw [e, Nat.mul_add_div h0, Nat.div_eq_of_lt (show all - 1 < all by omega)]; omega
  · right
    refine ⟨h, ?_⟩
    have e : n + all - 1 = all * (n / all) + (all + (n % all - 1)) := by omega
    rw [e, Nat.mul_add_div h0, Nat.add_div_left _ h0, Nat.div_eq_of_lt (show n % all - 1 < all by have := Nat.mod_lt n h0; omega)]
theorem cnt_bounds (rs : List Rw) (i n : Nat) (r : Rw) (h : rs[i]? = some r) (h1 : 1 ≤ r.wt) : ((n + allW rs - 1) / allW rs - 1) * r.wt ≤ cnt rs i n ∧ cnt rs i n ≤ (n + allW rs - 1) / allW rs * r.wt := by
  have hp := pre_wt_le rs i r h
  rw [cnt_is rs i r h h1 n]
  rcases rounds_two n (allW rs) (by omega) with ⟨e1, e2⟩ | ⟨e1, e2⟩
  · rw [e2, e1]
    have := Nat.mul_le_mul_right r.wt (Nat.sub_le (n / allW rs) 1)
    omega
  · rw [e2, Nat.add_sub_cancel, Nat.succ_mul]; omega
/-- What a table of some backends is. -/
structure Fair (bs : List BkD) (n : Nat) (T : List Int) : Prop where
  each : ∀ (i : Nat) (b : BkD), bs[i]? = some b → T.count b.id = cnt (rowsF bs n) i n ∧ b.weight = ((b.weight.toNat : Nat) : Int) ∧ 1 ≤ b.weight.toNat ∧ b.weight.toNat ≤ 10 ∧ 0 ≤ b.id ∧ b.id ≤ 65535 ∧
    ((n + allW (rowsF bs n) - 1) / allW (rowsF bs n) - 1) * b.weight.toNat ≤ T.count b.id ∧ T.count b.id ≤ (n + allW (rowsF bs n) - 1) / allW (rowsF bs n) * b.weight.toNat ∧ pre (rowsF bs n) (i + 1) = pre (rowsF bs n) i + b.weight.toNat
  total : totF (rowsF bs n) n bs.length = n
  all : pre (rowsF bs n) bs.length = allW (rowsF bs n)
  pos : 0 < allW (rowsF bs n)
  le : allW (rowsF bs n) ≤ 160
  size : Maps.size (shD T n) ≤ bs.length
theorem allW_le : ∀ rs : List Rw, (∀ r ∈ rs, r.wt ≤ 10) → allW rs ≤ 10 * rs.length
  | [], _ => by simp [allW]
  | r :: rs, h => by
    have := allW_le rs (fun q hq => h q (List.mem_cons_of_mem _ hq))
    have := h r (List.mem_cons_self ..)
    simp only [allW, List.length_cons]; omega
theorem fair_tab {bs : List BkD} {n : Nat} (hp : Prm n) (hg : gmay bs = true) (h0 : 0 < bs.length) : Fair bs n (tabF bs n) := by
  have hR := rows_fine hp hg
  have hrl := rowsF_length bs n
  have hI := inv_all hR (by omega) n (Nat.le_refl _)
  have hT : tabF bs n = (stM (rowsF bs n) n n).1 := by unfold tabF; rw [if_neg (fun h => h.elim (fun h => by omega) (fun h => by rw [hg] at h; cases h))]
  have hpos : 0 < allW (rowsF bs n) := allW_pos (fun r hr => (hR.each r hr).2.2.1) (by omega)
  refine ⟨fun i b hb => ?_, ?_, ?_, hpos, ?_, ?_⟩
  · have hr : (rowsF bs n)[i]? = some (rwF n b) := by unfold rowsF; rw [List.getElem?_map, hb]; rfl
    have he := hR.each _ (List.mem_of_getElem? hr)
    have hc := hI.has i _ hr
    have hbd := cnt_bounds (rowsF bs n) i n (rwF n b) hr he.2.2.1
    rw [← hT] at hc
    have e1 : (rwF n b).id = b.id := rfl
    have e2 : (rwF n b).wt = b.weight.toNat := rfl
    rw [e1] at hc
    rw [e2] at hbd
    rw [e1, e2] at he
    rw [← hc] at hbd
    have hw := (mayKB_iff b).1 (by
      obtain ⟨hi, rfl⟩ := List.getElem?_eq_some_iff.1 hb
      exact gmay_at hg i hi)
    refine ⟨hc, by omega, he.2.2.1, he.2.2.2.1, he.1, he.2.1, hbd.1, hbd.2, ?_⟩
    rw [pre_succ _ i _ hr, e2]
  · rw [← hrl]; exact totF_all _ hpos n
  · rw [← hrl]; exact pre_all _
  · have := allW_le _ (fun r hr => (hR.each r hr).2.2.2.1)
    have := hR.len
    omega
  · have hn : (bs.map (·.id)).Nodup := by
      have := gmay_up hg
      refine List.Pairwise.map _ (fun a b h => ?_) this
      omega
    have hs := shD_size (tabF bs n) (bs.map (·.id)) hn (fun x hx h0 => by
      rw [hT] at hx
      rcases hI.mem x hx with h | ⟨r, hr, h⟩
      · omega
      · unfold rowsF at hr
        obtain ⟨b, hb, rfl⟩ := List.mem_map.1 hr
        exact List.mem_map.2 ⟨b, hb, h.symm⟩) n (by rw [tab_len hp]; exact Nat.le_refl _)
    rw [hs]
    have := List.countP_le_length (p := fun x => has (shD (tabF bs n) n) (key x)) (l := bs.map (·.id))
    simpa using this
end Go.Proofs.YtgpchkobjgglhaaGreatDoor

end
