/- Who is out: gone, says, Without; a chooser set. -/
import Derived.Test.YtfjnhaoiecndpaaCho5
import Derived.Deep.RegionHeld3
set_option linter.unusedVariables false
namespace Go.Proofs.Ytfjnhaoiecndpaa
open Go.RowKit

/-- Is it out? -/
def outB (xs : List Int) (id : Int) : Bool := decide (id ∈ xs)
theorem outB_nil (id : Int) : outB [] id = false := by simp [outB]
theorem outB_snoc (xs : List Int) (x id : Int) : outB (xs ++ [x]) id = (outB xs id || (x == id)) := by
  unfold outB
  rw [Bool.eq_iff_iff]
  simp only [List.mem_append, List.mem_singleton, decide_eq_true_eq, Bool.or_eq_true, beq_iff_eq]
  exact or_congr Iff.rfl eq_comm
theorem outB_mem {xs : List Int} {id : Int} (h : id ∈ xs) : outB xs id = true := decide_eq_true h
/-- What 'gone' gives: a function with the box of its row. -/
def goneV (g : Nat) : Value := .func (.func 28) #[] #[.pointer (some ⟨g, 0, none⟩)]

set_option maxRecDepth 20000 in
theorem gone_any (a : Option Addr) (len cap : Nat) (w : World) :
    Calls Try.prog 13 #[.slice a len cap] w fun e w' => e = .returned (goneV w.heap.size) ∧ w' = w.alloc (.cells #[.slice a len cap] 34) := by
  go_enter Try.func13, Try.ntmps13
  go_wp2_with fail
  go_ret
  exact ⟨rfl, rfl⟩

set_option maxRecDepth 20000 in
set_option maxHeartbeats 1000000 in
theorem gone1_any (g : Nat) (a : Option Addr) (len cap : Nat) (xs : List Int) (id : Int) (w : World) (hg : w.cell? ⟨g, 0, none⟩ = some (.slice a len cap)) (hr : RowI w a len cap xs) :
    Calls Try.prog 28 #[.int .i64 id, .pointer (some ⟨g, 0, none⟩)] w fun e w' => e = .returned (.bool (outB xs id)) ∧ w = w' := by
  have hl := hr.1
  have hcap := hr.2.2.1
  have hcap1 := hr.2.1
  have HR := Lib.hid hr
  have HL := Lib.hid hl
  clear hr hl
  go_enter Try.func28, Try.ntmps28
  go_wp2_with fail
  go_loopw [8] (fun i wr => ∃ k : Nat, k ≤ len ∧ i = .int .i64 k ∧ wr = w ∧ outB (xs.take k) id = false) (fun i _ => len - (intOf i).toNat)
  case atStart => exact ⟨0, Nat.zero_le _, rfl, rfl, outB_nil _⟩
  case round =>
    obtain ⟨k, hk, rfl, rfl, hf⟩ := hrel
    have HF := Lib.hid hf
    clear hf
    by_cases hlt : k < len
    case neg =>
      obtain rfl : len = k := by omega
      have hlt' : ¬ (len : Int) < len := by omega
      have HE : RowKit.Hid (outB xs id = false) := Lib.hid (by have := HF.out; rwa [← HL.out, List.take_length] at this)
      go_wp2
      go_ret
      exact ⟨by rw [HE.out]; rfl, rfl⟩
    case pos =>
    obtain ⟨b, off, rfl, hc⟩ := HR.out.some (by omega)
    have hk1 : k < xs.length := by rw [HL.out]; exact hlt
    have c0 := hc k hk1
    have HS : RowKit.Hid (xs.take (k + 1) = xs.take k ++ [xs[k]]) := Lib.hid (List.take_succ_eq_append_getElem hk1)
    have HM : RowKit.Hid (xs[k] ∈ xs) := Lib.hid (List.getElem_mem hk1)
    generalize xs[k] = x at *
    have hlI : (k : Int) < len := by omega
    clear hc
    by_cases hx : x = id
    · subst hx
      have HE : RowKit.Hid (outB xs x = true) := Lib.hid (outB_mem HM.out)
      go_wp2
      go_ret
      exact ⟨by rw [HE.out]; rfl, rfl⟩
    · have hb : (x == id) = false := beq_eq_false_iff_ne.2 hx
      go_wp2
      exact ⟨⟨k + 1, hlt, by go_num, trivial, by rw [HS.out, outB_snoc, HF.out, hb]; rfl⟩, by simp [intOf]; omega⟩

theorem has_gone (g : Nat) (a : Option Addr) (len cap : Nat) (xs : List Int) (id : Int) (w : World) (hg : w.cell? ⟨g, 0, none⟩ = some (.slice a len cap)) (hr : RowI w a len cap xs) :
    Calls Try.prog 24 #[goneV g, .int .i64 id] w fun e w' => e = .returned (.bool (outB xs id)) ∧ w = w' := by
  have HG := Lib.hid (gone1_any g a len cap xs id w hg hr)
  have hnn : ∀ W : World, (binOp BinOp.neq 53 (.func (.func 28) #[] #[.pointer (some ⟨g, 0, none⟩)]) Value.nilFunc).run Try.prog W = .ok (.bool true) W := fun W => by kernel_rfl
  unfold goneV
  clear hg hr
  generalize outB xs id = x at *
  go_enter Try.func24, Try.ntmps24
  go_wp2_with (go_at_call 28; (with_reducible refine HG.out.mono ?_); rintro e w9 ⟨rfl, rfl⟩)
  go_ret
  exact ⟨rfl, rfl⟩

theorem says_gone (g : Nat) (a : Option Addr) (len cap : Nat) (xs : List Int) (id : Int) (w : World) (hg : w.cell? ⟨g, 0, none⟩ = some (.slice a len cap)) (hr : RowI w a len cap xs) :
    Calls Try.prog 36 #[.func (.func 24) #[goneV g] #[], .int .i64 id] w fun e w' => e = .returned (.bool (outB xs id)) ∧ Touch w w' (fun _ => False) := by
  have t1 := (Touch.refl w (fun _ => False)).alloc (.cells #[.bool false] 4)
  have HG := Lib.hid (has_gone g a len cap xs id (w.alloc (.cells #[.bool false] 4)) ((t1.cell (block_lt_of_cell hg) (fun h => h)).trans hg) (hr.still t1))
  have hnf : ∀ W : World, (binOp BinOp.neq 42 (.func (.func 24) #[goneV g] #[]) Value.nilFunc).run Try.prog W = .ok (.bool true) W := fun W => by kernel_rfl
  clear hg hr
  generalize outB xs id = x at *
  go_enter_defers Try.func36, Try.ntmps36
  go_wp2_with (go_at_call 24; (with_reducible refine HG.out.mono ?_); rintro e w9 ⟨rfl, rfl⟩)
  refine leaves_cons (f := 44) (args := #[.pointer (some ⟨w.heap.size, 0, none⟩)]) (by simp) (by simp [go_sem]) ?_
  refine (catch_idle ⟨w.heap.size, 0, none⟩ _).mono ?_
  rintro e u' w'' ⟨rfl, rfl, rfl⟩
  simp [Leaves, settle, results, Try.results36, go_sem]
  exact (Touch.refl w _).alloc _

def keepF (out : Int → Bool) (bs : List BkD) : List BkD := bs.filter (fun b => !out b.id)
theorem keepF_snoc (out : Int → Bool) (bs : List BkD) (b : BkD) : keepF out (bs ++ [b]) = keepF out bs ++ (if out b.id then [] else [b]) := by
  unfold keepF
  rw [List.filter_append]
  congr 1
  cases h : out b.id <;> simp [h]
theorem keepF_len (out : Int → Bool) (bs : List BkD) : (keepF out bs).length ≤ bs.length := List.length_filter_le _ _

set_option maxRecDepth 20000 in
set_option maxHeartbeats 2000000 in
/-- Those stay of whom says says no. -/
theorem without_says (fn : FuncId) (f1 f2 : Array Value) (out : Int → Bool) (a : Option Addr) (len cap : Nat) (bs : List BkD) (w : World) (hr : RowK w a len cap bs) (hlen : len ≤ 1000)
    (hsy : ∀ (W : World) (id : Int), Touch w W (fun _ => False) → Calls Try.prog 36 #[.func (.func fn) f1 f2, .int .i64 id] W fun e w' => e = .returned (.bool (out id)) ∧ Touch W w' (fun _ => False)) :
    Calls Try.prog 23 #[.slice a len cap, .func (.func fn) f1 f2] w fun e w' => ∃ a' c', e = .returned (.slice a' (keepF out bs).length c') ∧ OwnK w' w.heap.size (.slice a' (keepF out bs).length c') (keepF out bs) ∧ Touch w w' (fun _ => False) := by
  have hl := hr.len
  have hcap := hr.hmax
  have hcap1 := hr.hcap
  have HR := Lib.hid hr
  have HL := Lib.hid hl
  have HII := Lib.hid infoBk
  have HSY := Lib.hid hsy
  clear hr hl hsy
  go_enter Try.func23, Try.ntmps23
  go_wp2_with fail
  go_loopw [5, 10] (fun s i wr => ∃ (k n : Nat) (a' : Option Addr) (c' : Nat), k ≤ len ∧ n ≤ k ∧ i = .int .i64 k ∧ s = .slice a' n c' ∧ n = (keepF out (bs.take k)).length ∧ OwnK wr w.heap.size (.slice a' n c') (keepF out (bs.take k)) ∧ Touch w wr (fun _ => False)) (fun _ i _ => len - (intOf i).toNat)
  case atStart => exact ⟨0, 0, none, 0, Nat.zero_le _, Nat.le_refl _, rfl, rfl, rfl, OwnS.nil _ _ _ _, Touch.refl _ _⟩
  case round =>
    obtain ⟨k, n, a', c', hk, hnk, rfl, rfl, hn, ho, ht⟩ := hrel
    have HN := Lib.hid hn
    have HO := Lib.hid ho
    have HT := Lib.hid ht
    clear ho ht hn
    by_cases hlt : k < len
    case neg =>
      obtain rfl : len = k := by omega
      have hlt' : ¬ (len : Int) < len := by omega
      go_wp2
      go_ret
      have e : bs.take len = bs := by rw [← HL.out, List.take_length]
      have h1 := HO.out
      have h2 := HN.out
      rw [e] at h1 h2
      exact ⟨a', c', by rw [← h2]; rfl, by rw [← h2]; exact h1, HT.out⟩
    case pos =>
    have hr := HR.out.still HT.out
    obtain ⟨b, off, rfl⟩ := hr.some (by omega)
    have hk1 : k < bs.length := by rw [HL.out]; exact hlt
    obtain ⟨c0, c1, c2⟩ := hr.cells k hk1
    have HS : RowKit.Hid (keepF out (bs.take (k + 1)) = keepF out (bs.take k) ++ (if out bs[k].id then [] else [bs[k]])) := Lib.hid (by rw [List.take_succ_eq_append_getElem hk1, keepF_snoc])
    generalize bs[k] = f at *
    obtain ⟨W2, hW2⟩ : ∃ W, wr.alloc (.cells #[.int .i64 f.id, .int .u32 f.addr, .int .i64 f.weight] 28) = W := ⟨_, rfl⟩
    have t1 : Touch wr W2 (fun _ => False) := hW2 ▸ (Touch.refl wr _).alloc _
    have g2 : W2.heap[wr.heap.size]? = some (.cells #[.int .i64 f.id, .int .u32 f.addr, .int .i64 f.weight] 28 (0, 0)) := hW2 ▸ heap_alloc_new ..
    have HG2 := Lib.hid g2
    have HT2 := Lib.hid (HT.out.trans t1 (fun _ _ h => h))
    have HO2 := Lib.hid (OwnS.still HO.out.toS t1)
    have HSF := Lib.hid (HSY.out W2 f.id (HT.out.trans t1 (fun _ _ h => h)))
    have HW2 := Lib.hid hW2
    have hlI : (k : Int) < len := by omega
    clear hr t1 g2 hW2
    obtain ⟨x, hx⟩ : ∃ x, out f.id = x := ⟨_, rfl⟩
    rw [hx] at HSF HS
    clear hx
    go_wp2_with fail
    rw [HW2.out]
    refine HSF.out.mono ?_
    rintro e w4 ⟨rfl, t4⟩
    have g4 := t4.keeps HG2.out (fun h => h)
    have x0 : w4.cell? ⟨wr.heap.size, 0, none⟩ = some (.int .i64 f.id) := cell_of_cells g4 0
    have x1 : w4.cell? ⟨wr.heap.size, 1, none⟩ = some (.int .u32 f.addr) := cell_of_cells g4 1
    have x2 : w4.cell? ⟨wr.heap.size, 2, none⟩ = some (.int .i64 f.weight) := cell_of_cells g4 2
    cases x with
    | true =>
      have HT4 := Lib.hid (HT2.out.trans t4 (fun _ _ h => h))
      have HO4 := Lib.hid (OwnS.still HO2.out t4)
      have HS' : RowKit.Hid (keepF out (bs.take (k + 1)) = keepF out (bs.take k)) := Lib.hid (by rw [HS.out]; simp)
      clear t4 g4 HS
      go_wp2_with fail
      exact ⟨⟨k + 1, n, a', c', hlt, by omega, by go_num, rfl, by rw [HS'.out]; exact HN.out, by rw [HS'.out]; exact HO4.out, HT4.out⟩, by simp [intOf]; omega⟩
    | false =>
    have HS' : RowKit.Hid (keepF out (bs.take (k + 1)) = keepF out (bs.take k) ++ [f]) := Lib.hid (by rw [HS.out]; simp)
    clear HS
    have t5 := (Touch.refl w4 (fun _ => False)).alloc (.cells #[.int .i64 f.id, .int .u32 f.addr, .int .i64 f.weight] 28)
    have HT5 := Lib.hid ((HT2.out.trans t4 (fun _ _ h => h)).trans t5 (fun _ _ h => h))
    have HO5 := Lib.hid (OwnS.still (OwnS.still HO2.out t4) t5)
    have hown : (w4.alloc (.cells #[.int .i64 f.id, .int .u32 f.addr, .int .i64 f.weight] 28)).ownsRow w.heap.size 28 3 (.slice a' n c') n ((keepF out (bs.take k)).map BkD.cells).flatten := by
      have := HO5.out.own
      rwa [List.length_map, ← HN.out] at this
    have HOWN := Lib.hid hown
    have HQ := Lib.hid (news_of (heap_alloc_new w4 (.cells #[.int .i64 f.id, .int .u32 f.addr, .int .i64 f.weight] 28)))
    clear hown t4 t5 g4
    go_wp2_with (at_builtin; (with_reducible refine wp_appR HOWN.out 22 Try.underlying22 _ 24 HII.out rfl (by decide) ⟨w4.heap.size, 0, none⟩ 1 1 _ rfl HQ.out (by simp [Value.oneCell']) (by simp only [maxLen]; omega) (by omega) (HT5.out.under (Nat.le_refl _)) (Nat.le_refl _) HT5.out.size rfl _ _ rfl rfl rfl ?_); intro a4 c4 w6 ho4 hg4 hb4 hp4; have HO4 := Lib.hid ho4; have HT4 := Lib.hid (Touch.ofBelow (S := fun _ => False) hb4 (fun k h1 h2 => by omega)); clear ho4 hg4 hb4 hp4)
    have HO6 : RowKit.Hid (OwnK w6 w.heap.size (.slice a4 (n + 1) c4) (keepF out (bs.take (k + 1)))) := Lib.hid (by
      rw [HS'.out]
      unfold OwnK
      rw [List.map_append, List.map_cons, List.map_nil]
      refine HO5.out.add (L2 := [f.cells]) (by simp [BkD.cells]) ?_
      have := HO4.out
      rw [List.length_map, ← HN.out]
      simpa [BkD.cells] using this)
    exact ⟨⟨k + 1, n + 1, a4, c4, hlt, by omega, by go_num, rfl, by rw [HS'.out, List.length_append, ← HN.out]; rfl, HO6.out, HT4.out⟩, by simp [intOf]; omega⟩

set_option maxRecDepth 20000 in
set_option maxHeartbeats 4000000 in
/-- A chooser's set, whoever is out. -/
theorem set_out (n : Nat) (fv : Value) (L : List BkD) (C : Nat) (ab : Option Addr) (lb cb : Nat) (at_ : Option Addr) (lt ct m : Nat) (a : Option Addr) (len cap : Nat) (bs : List BkD) (w : World) (hp : Prm n) (hm : m ≤ 1000000)
    (hc : w.heap[C]? = some (.cells (chC n ab lb cb at_ lt ct m) 49 (0, 0))) (hr : RowK w a len cap bs) (hg : gmay bs = true) (hne : ∀ x, a = some x → len = 0 ∨ ¬ x.block = C)
    (hwo : ∀ W, Touch w W (fun _ => False) → Calls Try.prog 23 #[.slice a len cap, .func (.func 24) #[fv] #[]] W fun e w' => ∃ a' c', e = .returned (.slice a' L.length c') ∧ OwnK w' W.heap.size (.slice a' L.length c') L ∧ Touch W w' (fun _ => False)) :
    Calls Try.prog 7 #[.pointer (some ⟨C, 0, none⟩), .slice a len cap, fv] w fun e w' => e = .returned (.int .i64 0) ∧ ∃ a' c' G, w'.heap[C]? = some (.cells (chC n a' len c' (some ⟨G, 0, none⟩) n n (m + 1)) 49 (0, 0)) ∧ RowK w' a' len c' bs ∧ RowI w' (some ⟨G, 0, none⟩) n n (tabF L n) ∧ (∀ x, a' = some x → w.heap.size ≤ x.block) ∧ w.heap.size ≤ G ∧ Touch w w' (fun k => k = C) := by
  have h3 := hp.lo
  have h251 := hp.hi
  have HM := Lib.hid (fun W => mayS_any n W h3 h251)
  rw [prm_may hp] at HM
  have hl := hr.len
  have hl16 : len ≤ 16 := by have := ((gmay_iff bs).1 hg).1; omega
  have HP := Lib.hid hp
  have HG := Lib.hid hg
  have HC := Lib.hid hc
  have HR := Lib.hid hr
  have HNE := Lib.hid hne
  have HGM : RowKit.Hid (∀ W, RowK W a len cap bs → Calls Try.prog 21 #[.slice a len cap] W fun e w' => e = .returned (.bool true) ∧ Touch W w' (fun _ => False)) := Lib.hid (fun W h => by have := gmay_any a len cap bs W h; rwa [hg] at this)
  have hmf : ∀ (fn : Fn) (first cap : Array Value) (w : World), (Instr.makeFunc fn first cap).run Try.prog w = .ok (.func fn first cap) w := fun _ _ _ _ => rfl
  have c0 : w.cell? ⟨C, 0, none⟩ = some (.int .i64 (n : Nat)) := cell_of_cells hc 0
  have HWO0 := Lib.hid hwo
  clear hc hr hg hne hp hl hwo
  go_enter Try.func7, Try.ntmps7
  go_wp2_with (first
    | (go_at_call 20; (with_reducible refine (HM.out _).mono ?_); rintro e w9 ⟨rfl, rfl⟩)
    | (go_at_call 21; (with_reducible refine (HGM.out _ HR.out).mono ?_); rintro e w3 ⟨rfl, t3⟩; have HT := Lib.hid t3; have HC := Lib.hid (t3.keeps HC.out (fun h => h)); have HR := Lib.hid (HR.out.still t3); clear t3))
  have hc := HC.out
  have c0 : w3.cell? ⟨C, 0, none⟩ = some (.int .i64 (n : Nat)) := cell_of_cells hc 0
  have HCC : RowKit.Hid (∀ W, Touch w3 W (fun _ => False) → W.cell? ⟨C, 0, none⟩ = some (.int .i64 (n : Nat))) := Lib.hid (fun W t => cell_of_cells (t.keeps hc (fun h => h)) 0)
  have HWO : RowKit.Hid (∀ W, Touch w3 W (fun _ => False) → Calls Try.prog 23 #[.slice a len cap, .func (.func 24) #[fv] #[]] W fun e w' => ∃ a' c', e = .returned (.slice a' L.length c') ∧ RowK w' a' L.length c' L ∧ Touch w3 w' (fun _ => False)) := Lib.hid (fun W t => by
    refine (HWO0.out W (HT.out.trans t (fun _ _ h => h))).mono ?_
    rintro e w' ⟨a', c', he, ho, t'⟩
    exact ⟨a', c', he, ho.row.2.1, t.trans t' (fun _ _ h => h)⟩)
  have HTA : RowKit.Hid (∀ W a5 c5, RowK W a5 L.length c5 L → Touch w3 W (fun _ => False) → Calls Try.prog 22 #[.slice a5 L.length c5, .int .i64 n] W fun e w' => ∃ G, e = .returned (.slice (some ⟨G, 0, none⟩) n n) ∧ RowI w' (some ⟨G, 0, none⟩) n n (tabF L n) ∧ w3.heap.size ≤ G ∧ Touch w3 w' (fun _ => False)) := Lib.hid (fun W a5 c5 h t => by
    refine (table_any a5 L.length c5 n L W HP.out h).mono ?_
    rintro e w' ⟨G, he, ho, t'⟩
    exact ⟨G, he, ho.rowI (tab_i64 HP.out), Nat.le_trans t.size ho.lt.1, t.trans t' (fun _ _ h => h)⟩)
  clear hc
  go_region_held3 (fun w' => w'.cell? ⟨C, 0, none⟩ = some (.int .i64 (n : Nat)))
    (first | (with_reducible exact HK8.out _) | (with_reducible exact HCC.out _ T8.out) | (with_reducible exact HCC.out _ T5.out) | go_keep)
    (first
    | (go_simp; go_at_call 22; have _u := HK5; (with_reducible refine (HTA.out _ _ _ HK5.out T5.out).mono ?_); rintro e w8 ⟨G, rfl, hi8, hg8, t8⟩; have HI8 := Lib.hid hi8; have HGS := Lib.hid hg8; have T8 := Lib.hid t8; have c2 : w8.cell? ⟨C, 2, none⟩ = some (.slice at_ lt ct) := cell_of_cells (t8.keeps HC.out (fun h => h)) 2; have f2 := free_of_cells (t8.keeps HC.out (fun h => h)) 2; have k0 := HCC.out _ t8; have HK8 : RowKit.Hid (∀ v, (w8.setCell ⟨C, 2, none⟩ v).cell? ⟨C, 0, none⟩ = some (.int .i64 (n : Nat))) := Lib.hid (fun v => (cell_of_cells (heap_setCell_same w8 C 2 _ _ v (T8.out.keeps HC.out (fun h => h))) 0).trans rfl); clear hi8 t8 hg8)
    | (go_simp; go_at_call 23; (with_reducible refine (HWO.out _ (Touch.refl _ _).drew).mono ?_); rintro e w5 ⟨a5, c5, rfl, hk5, t5⟩; have HK5 := Lib.hid hk5; have T5 := Lib.hid t5; have k5 := HCC.out _ t5; clear hk5 t5))
  clear k5 k0 c2 f2 c0 _u
  have HC8 := T8.out.keeps HC.out (fun h => h)
  have hCl : C < w3.heap.size := heap_lt HC.out
  obtain ⟨W9, hW9⟩ : ∃ W, w8.setCell ⟨C, 2, none⟩ (.slice (some ⟨G, 0, none⟩) n n) = W := ⟨_, rfl⟩
  have HC9 : RowKit.Hid (W9.heap[C]? = some (.cells (chC n ab lb cb (some ⟨G, 0, none⟩) n n m) 49 (0, 0))) := Lib.hid (by rw [← hW9]; exact heap_setCell_same w8 C 2 _ _ _ HC8)
  have t9 : Touch w8 W9 (fun k => k = C) := hW9 ▸ (Touch.refl w8 (fun k => k = C)).setCell _ _ (fun _ => rfl)
  have HR9 := Lib.hid ((HR.out.still T8.out).touch t9 HNE.out)
  have hGC : ¬ G = C := by have := HGS.out; omega
  have HI9 := Lib.hid (HI8.out.touch t9 (fun x hx => by cases hx; exact .inr hGC))
  have HT9 := Lib.hid ((HT.out.mono (fun _ _ h => h.elim)).trans ((T8.out.mono (fun _ _ h => h.elim)).trans t9 (fun _ _ h => h)) (fun _ _ h => h))
  rw [hW9]
  clear hW9 t9 HC8
  go_wp2_with fail
  refine (cloneK_any a len cap bs W9 HR9.out (by omega)).mono ?_
  rintro e w10 ⟨a10, c10, rfl, ho10, t10⟩
  have g10 := t10.keeps HC9.out (fun h => h)
  have y1 : w10.cell? ⟨C, 1, none⟩ = some (.slice ab lb cb) := cell_of_cells g10 1
  have y3 : w10.cell? ⟨C, 3, none⟩ = some (.int .i64 (m : Nat)) := cell_of_cells g10 3
  have f1 := free_of_cells g10 1
  have f3 := free_of_cells g10 3
  have hC9 : C < W9.heap.size := heap_lt HC9.out
  have g11 := heap_setCell_same w10 C 1 _ _ (.slice a10 len c10) g10
  have g12 := heap_setCell_same (w10.setCell ⟨C, 1, none⟩ (.slice a10 len c10)) C 3 _ _ (.int .i64 ((m + 1 : Nat))) g11
  have t12 := ((Touch.refl w10 (fun k => k = C)).setCell ⟨C, 1, none⟩ (.slice a10 len c10) (fun _ => rfl)).setCell ⟨C, 3, none⟩ (.int .i64 ((m + 1 : Nat))) (fun _ => rfl)
  have HG12 := Lib.hid g12
  have HK12 := Lib.hid (ho10.row.2.1.touch t12 (fun x hx => .inr (fun h => by have := (ho10.row.2.2 x hx).1; omega)))
  have HI12 := Lib.hid ((HI9.out.still t10).touch t12 (fun x hx => by cases hx; exact .inr hGC))
  have HFR : RowKit.Hid (∀ x, a10 = some x → w.heap.size ≤ x.block) := Lib.hid (fun x hx => Nat.le_trans HT9.out.size (ho10.row.2.2 x hx).1)
  have HFG : RowKit.Hid (w.heap.size ≤ G) := Lib.hid (Nat.le_trans HT.out.size HGS.out)
  have HT12 := Lib.hid ((HT9.out.trans (t10.mono (fun _ _ h => h.elim)) (fun _ _ h => h)).trans t12 (fun _ _ h => h))
  clear ho10 t10 g10 g11 g12 t12
  go_wp2_with fail
  go_ret
  have e : ((m : Int) + 1) = ((m + 1 : Nat) : Int) := by omega
  rw [e]
  exact ⟨rfl, a10, c10, G, HG12.out, HK12.out, HI12.out, HFR.out, HFG.out, HT12.out⟩
end Go.Proofs.Ytfjnhaoiecndpaa
