/- Records: what a reader's walk over a set of backends fills. -/
import Derived.Test.YtbklngcocbnijaaRecRFlowZ
import Derived.Laws.MakeOwn
import Derived.Laws.OwnMore
set_option linter.unusedVariables false
set_option linter.unusedSimpArgs false
namespace Go.Proofs.Ytbklngcocbnijaa
open Go.RowKit

/-- Backends as cells. -/
def BB (bs : List BkD) : Array Value := (bs.map BkD.cells).flatten.toArray
theorem bk_each (bs : List BkD) : ∀ l ∈ bs.map BkD.cells, l.length = 3 := by
  intro l hl
  simp only [List.mem_map] at hl
  obtain ⟨b, _, rfl⟩ := hl
  rfl
theorem BB_size (bs : List BkD) : (BB bs).size = bs.length * 3 := by
  unfold BB; rw [List.size_toArray, flatten_length _ (bk_each bs), List.length_map]
theorem BB_set (pre post : List BkD) (b c : BkD) (j : Nat) (hj : j < 3) (u : Value) (h : b.cells.set j u = c.cells) : (BB (pre ++ b :: post)).setIfInBounds (pre.length * 3 + j) u = BB (pre ++ c :: post) := by
  unfold BB
  apply Array.toList_inj.1
  rw [Array.toList_setIfInBounds]
  show ((pre ++ b :: post).map BkD.cells).flatten.set (pre.length * 3 + j) u = ((pre ++ c :: post).map BkD.cells).flatten
  rw [flatten_set _ (bk_each _) pre.length (by simp) j hj u]
  congr 1
  simp only [List.map_append, List.map_cons]
  rw [List.set_append_right _ _ (by simp)]
  simp [h]
def zK : BkD := ⟨0, 0, 0⟩
theorem made_bks (n : Nat) : madeCells #[.int .i64 0, .int .u32 0, .int .i64 0] (n * 3) = BB (List.replicate n zK) := by
  apply Array.toList_inj.1
  unfold madeCells BB
  rw [Array.toList_map, Array.toList_range]
  show _ = (List.map BkD.cells (List.replicate n zK)).flatten
  induction n with
  | zero => rfl
  | succ n ih =>
    rw [List.replicate_succ', List.map_append, List.flatten_append, ← ih, Nat.add_mul, List.range_add, List.map_append]
    congr 1
    show List.map _ (List.map (fun x => n * 3 + x) [0, 1, 2]) = _
    simp only [List.map_cons, List.map_nil]
    have e0 : (n * 3 + 0) % 3 = 0 := by omega
    have e1 : (n * 3 + 1) % 3 = 1 := by omega
    have e2 : (n * 3 + 2) % 3 = 2 := by omega
    have es : (#[Value.int .i64 0, .int .u32 0, .int .i64 0] : Array Value).size = 3 := rfl
    rw [es, e0, e1, e2]
    rfl
theorem make_bks (w : World) (L : Int) (n : Nat) (hL : L = n) (hn : n ≤ 1000) :
    (Instr.makeSlice 27 (.int .i64 L) (.int .i64 L)).run Try.prog w = .ok (.slice (some ⟨w.heap.size, 0, none⟩) n n) (w.alloc (.cells (BB (List.replicate n zK)) 61)) := by
  subst hL
  obtain ⟨i, hi, hz0, hz1, hz2⟩ := info_parts infoBk
  have := run_make (P := Try.prog) w 27 61 i _ Try.underlying27 hi hz0 .i64 .i64 n n (by omega) (Int.le_refl _) (by rw [hz2]; omega) (by omega)
  simp only [Int.toNat_natCast, hz1, Value.cells] at this
  rw [made_bks] at this
  exact this
theorem row_BB {w : World} {g n : Nat} {bs : List BkD} {T : TypeId} (h : w.heap[g]? = some (.cells (BB bs) T (0, 0))) (hn : bs.length = n) (hmx : n ≤ 1000) : RowK w (some ⟨g, 0, none⟩) n n bs := by
  refine ⟨by rw [List.length_map]; exact hn, Nat.le_refl _, by omega, bk_each bs, .inr ⟨g, 0, rfl, heap_lt h, fun i hi j u hu => ?_⟩⟩
  rw [cell_of_cells h]
  have := flatten_get _ (bk_each bs) i hi j u hu
  unfold BB
  simpa using this
/-- What a walk over backends leaves. -/
def BacksR (w : World) (G R : Nat) (D : Nat → Prop) (xs : List Nat) (err : Int) (r : RecD) (v : Int) (e : Ending) (w' : World) : Prop :=
  e = .returned (.tuple #[]) ∧ ∃ a' c', RdD w' G D (nxtX (1 + valN 1 xs * bkW v) xs) (nxtE (1 + valN 1 xs * bkW v) xs err) ∧ w'.heap[R]? = some (.cells (rcs { r with bs := bksV v (valN 1 xs) (nxtX 1 xs) } a' c') 29 (0, 0)) ∧
    RowK w' a' (valN 1 xs) c' (bksV v (valN 1 xs) (nxtX 1 xs)) ∧ Touch w w' (fun k => k = G ∨ k = R)
/-- At the head of the loop over the backends. -/
def BkR (w : World) (G R g : Nat) (D : Nat → Prop) (xs : List Nat) (err : Int) (v : Int) (r : RecD) (N k : Nat) (wr : World) : Prop :=
  RdD wr G (fun k => D k ∨ w.heap.size ≤ k) (nxtX (1 + k * bkW v) xs) (nxtE (1 + k * bkW v) xs err) ∧ wr.heap[R]? = some (.cells (rcs r (some ⟨g, 0, none⟩) N) 29 (0, 0)) ∧ wr.heap[w.heap.size]? = some (.cells (rdC G) 76 (0, 0)) ∧
    wr.heap[g]? = some (.cells (BB (bksV v k (nxtX 1 xs) ++ List.replicate (N - k) zK)) 61 (0, 0)) ∧ Touch w wr (fun k => k = G ∨ k = R)
theorem half_step (v : Int) (N k : Nat) (ys : List Nat) (h : k < N) : bksV v k ys ++ List.replicate (N - k) zK = bksV v k ys ++ zK :: List.replicate (N - (k + 1)) zK := by
  obtain ⟨m, hm⟩ : ∃ m, N - k = m + 1 := ⟨N - k - 1, by omega⟩
  rw [hm, List.replicate_succ, show N - (k + 1) = m by omega]
theorem rset_bs (r : RecD) (a : Option Addr) (cap : Nat) (bs : List BkD) (g N : Nat) (h : bs.length = N) : (rcs r a cap).setIfInBounds 10 (.slice (some ⟨g, 0, none⟩) N N) = rcs { r with bs := bs } (some ⟨g, 0, none⟩) N := by subst h; rfl

set_option maxRecDepth 20000 in
set_option maxHeartbeats 8000000 in
theorem rbacks_v1 (G R : Nat) (D : Nat → Prop) (xs : List Nat) (err : Int) (r : RecD) (w : World) (h : RdD w G D xs err) (hD : D R) (hr : w.heap[R]? = some (.cells (rcs r none 0) 29 (0, 0))) (hbs : r.bs = []) :
    Calls Try.prog 79 #[.agg (rdC G), .pointer (some ⟨R, 0, none⟩), .int .i64 1] w (BacksR w G R D xs err r 1) := by
  have hne := h.ne hD
  have hlt := h.lt
  have hrl := heap_lt hr
  have hN : valN 1 xs < 256 := valN_lt 1 xs h.small
  obtain ⟨W1, hW1⟩ : ∃ W, w.alloc (.cells (rdC G) 76) = W := ⟨_, rfl⟩
  have hs1 : W1.heap.size = w.heap.size + 1 := by rw [← hW1]; simp
  have t1 : Touch w W1 (fun _ => False) := hW1 ▸ (Touch.refl _ _).alloc _
  obtain ⟨W2, hW2⟩ : ∃ W, W1.alloc (.cells #[.int .i64 0] 3) = W := ⟨_, rfl⟩
  have t2 : Touch W1 W2 (fun _ => False) := hW2 ▸ (Touch.refl _ _).alloc _
  have HC : RowKit.Hid (W2.heap[w.heap.size]? = some (.cells (rdC G) 76 (0, 0))) := Lib.hid (t2.keeps (hW1 ▸ heap_alloc_new w _) (fun h => h))
  have HN : RowKit.Hid (W2.heap[W1.heap.size]? = some (.cells #[.int .i64 0] 3 (0, 0))) := Lib.hid (hW2 ▸ heap_alloc_new W1 _)
  have HR := Lib.hid ((h.above.still t1).still t2)
  have hB1 := t1.keeps hr (fun h => h)
  have HB := Lib.hid (t2.keeps hB1 (fun h => h))
  have HT : RowKit.Hid (Touch w W2 (fun k => k = G ∨ k = R)) := Lib.hid ((t1.trans t2 (fun _ _ h => h)).mono (fun _ _ h => h.elim))
  have HD := Lib.hid hD
  have HRN : RowKit.Hid (G < w.heap.size ∧ R < w.heap.size ∧ R ≠ G ∧ W1.heap.size = w.heap.size + 1) := Lib.hid ⟨hlt, hrl, hne, hs1⟩
  have HBS := Lib.hid hbs
  have HL := Lib.hid hN
  obtain ⟨j0, j1, j2, j3, j4, j5, j6, j7, j8, j9, j10, j11, j12, j13⟩ := rcells_of hB1
  rw [hbs] at j10
  simp only [List.length_nil] at j10
  obtain ⟨m0, m1, m2, m3, m4, m5⟩ := rdcells_of HC.out
  have HQ := Lib.hid (f_u8 G W1.heap.size 0 _ _ _ _ _ W2 HR.out (.inr (by omega)) HN.out (by decide))
  have HW2 := Lib.hid hW2
  clear h hr hD hne hlt hrl t1 t2 hB1 hs1 hN hbs hW2
  simp only [rdC] at hW1
  simp only [rdC]
  go_enter Try.func79, Try.ntmps79
  go_upto_region 2 with fail
  rw [HW2.out]
  clear j0 j1 j2 j3 j4 j5 j6 j7 j8 j9 j10 j11 j12 j13
  go_wp2_with (go_at_call 81; (with_reducible refine HQ.out.mono ?_); rintro e w3 ⟨rfl, h1, h2, h3⟩; have HR := Lib.hid h1; have HN := Lib.hid h2; have HB := Lib.hid (h3.keeps HB.out (fun h => by have := HRN.out; omega)); have HC := Lib.hid (h3.keeps HC.out (fun h => by have := HRN.out; omega)); have HT := Lib.hid (HT.out.trans h3 (fun k hk h => by have := HRN.out; rcases h with h | h; exact Or.inl h; omega)); clear h1 h2 h3 HQ m0 m1 m2 m3 m4 m5; have n0 : w3.cell? ⟨W1.heap.size, 0, none⟩ = some (.int .i64 (valN 1 xs : Nat)) := cell_of_cells HN.out 0; obtain ⟨k0, k1, k2, k3, k4, k5, k6, k7, k8, k9, k10, k11, k12, k13⟩ := rcells_of HB.out; rw [HBS.out] at k10; simp only [List.length_nil] at k10)
  have HX : RowKit.Hid (∀ e w', BacksR w G R D xs err r 1 e w' = (e = .returned (.tuple #[]) ∧ ∃ a' c', RdD w' G D (nxtX (1 + valN 1 xs * bkW 1) xs) (nxtE (1 + valN 1 xs * bkW 1) xs err) ∧ w'.heap[R]? = some (.cells (rcs { r with bs := bksV 1 (valN 1 xs) (nxtX 1 xs) } a' c') 29 (0, 0)) ∧
    RowK w' a' (valN 1 xs) c' (bksV 1 (valN 1 xs) (nxtX 1 xs)) ∧ Touch w w' (fun k => k = G ∨ k = R))) := Lib.hid (fun _ _ => rfl)
  generalize BacksR w G R D xs err r 1 = X at *
  generalize valN 1 xs = N at *
  by_cases h0 : N = 0
  · subst h0
    have hll : ¬ (0 : Int) < ((0 : Nat) : Int) := by omega
    go_quiet (fail)
    have tq := (Touch.refl w3 (fun _ => False)).drewN nq
    generalize w3.drewN nq = w4 at *
    have HR := Lib.hid (HR.out.still tq)
    have HB := Lib.hid (tq.keeps HB.out (fun h => h))
    have HT := Lib.hid (HT.out.trans tq (fun _ _ h => h.elim))
    clear tq k0 k1 k2 k3 k4 k5 k6 k7 k8 k9 k10 k11 k12 k13 n0 HN HC
    obtain ⟨k0, k1, k2, k3, k4, k5, k6, k7, k8, k9, k10, k11, k12, k13⟩ := rcells_of HB.out
    rw [HBS.out] at k10
    simp only [List.length_nil] at k10
    go_wp2_with fail
    go_loop [34] (fun i => i = .int .i64 0) (fun _ => 0)
    case atStart => rfl
    case round =>
      subst hrel
      go_wp2
      go_end0
      rw [HX.out]
      refine ⟨rfl, none, 0, by simpa using HR.out.mono (fun _ h => .inl h), ?_, RowS.nil _ _ _ _ (by omega), HT.out⟩
      have e : ({ r with bs := bksV 1 0 (nxtX 1 xs) } : RecD) = r := by
        have := HBS.out
        obtain ⟨_, _, _, _, _, _, _, _, _, _⟩ := r
        simp only at this
        subst this
        rfl
      rw [e]
      exact HB.out
  · have hll : (0 : Int) < (N : Int) := by omega
    go_quiet (fail)
    have tq := (Touch.refl w3 (fun _ => False)).drewN nq
    generalize w3.drewN nq = w4 at *
    have HR := Lib.hid (HR.out.still tq)
    have HB := Lib.hid (tq.keeps HB.out (fun h => h))
    have HC := Lib.hid (tq.keeps HC.out (fun h => h))
    have HN := Lib.hid (tq.keeps HN.out (fun h => h))
    have HT := Lib.hid (HT.out.trans tq (fun _ _ h => h.elim))
    clear tq k0 k1 k2 k3 k4 k5 k6 k7 k8 k9 k10 k11 k12 k13 n0
    have n0 : w4.cell? ⟨W1.heap.size, 0, none⟩ = some (.int .i64 (N : Nat)) := cell_of_cells HN.out 0
    have hmk := make_bks w4 N N rfl (by have := HL.out; omega)
    obtain ⟨W5, hW5⟩ : ∃ W, w4.alloc (.cells (BB (List.replicate N zK)) 61) = W := ⟨_, rfl⟩
    have t5 : Touch w4 W5 (fun _ => False) := hW5 ▸ (Touch.refl _ _).alloc _
    have HB5 := Lib.hid (t5.keeps HB.out (fun h => h))
    have HG5 : RowKit.Hid (W5.heap[w4.heap.size]? = some (.cells (BB (List.replicate N zK)) 61 (0, 0))) := Lib.hid (hW5 ▸ heap_alloc_new w4 _)
    have k10 : W5.cell? ⟨R, 10, none⟩ = some (.slice none 0 0) := by have := cell_of_cells HB5.out 10; rw [this]; simp [rcs, HBS.out]
    have kf := free_of_cells HB5.out 10
    have HGE : RowKit.Hid (w.heap.size < w4.heap.size) := Lib.hid (by have := heap_lt HN.out; have := HRN.out; omega)
    rw [hW5] at hmk
    have t6 : Touch W5 (W5.setCell ⟨R, 10, none⟩ (.slice (some ⟨w4.heap.size, 0, none⟩) N N)) (fun k => k = R) := (Touch.refl W5 _).into 10 _
    have HB6 := Lib.hid (heap_setCell_same W5 R 10 _ _ (.slice (some ⟨w4.heap.size, 0, none⟩) N N) HB5.out)
    rw [rset_bs r none 0 (bksV 1 N (nxtX 1 xs)) w4.heap.size N (bksV_length _ _ _)] at HB6
    have HC6 := Lib.hid (t6.keeps (t5.keeps HC.out (fun h => h)) (by have := HRN.out; omega))
    have HG6 := Lib.hid (t6.keeps HG5.out (by have := HRN.out; have := HGE.out; omega))
    have HT6 := Lib.hid ((HT.out.trans t5 (fun _ _ h => h.elim)).trans t6 (fun _ _ h => Or.inr h))
    have HR6 := Lib.hid ((HR.out.still t5).touch t6 (fun k _ h => Or.inl (h ▸ HD.out)))
    have q10 : (W5.setCell ⟨R, 10, none⟩ (.slice (some ⟨w4.heap.size, 0, none⟩) N N)).cell? ⟨R, 10, none⟩ = some (.slice (some ⟨w4.heap.size, 0, none⟩) N N) := by have := cell_of_cells HB6.out 10; rw [this]; simp [rcs, bksV_length]
    clear t5 t6 HB5 HG5 HB HC HR HT HN hW5
    have hmx : (N : Int) ≤ 1000 := by have := HL.out; omega
    go_wp2_with fail
    obtain ⟨W6, hW6⟩ : ∃ W, W5.setCell ⟨R, 10, none⟩ (.slice (some ⟨w4.heap.size, 0, none⟩) N N) = W := ⟨_, rfl⟩
    rw [hW6] at HB6 HC6 HG6 HT6 HR6
    have HS0 : RowKit.Hid (BkR w G R w4.heap.size D xs err 1 { r with bs := bksV 1 N (nxtX 1 xs) } N 0 W6) := Lib.hid ⟨by simpa using HR6.out, HB6.out, HC6.out, by simpa [bksV] using HG6.out, HT6.out⟩
    try rw [hW6]
    clear HB6 HC6 HG6 HT6 HR6 q10 k10 kf hmk n0 hW6
    generalize w4.heap.size = g at *
    have HGG := HGE
    clear HGE
    have hdec : decide (0 < N) = true := decide_eq_true (by omega)
    rw [hdec]
    clear hdec
    go_loopw [34] (fun i wr => ∃ k : Nat, k ≤ N ∧ i = .int .i64 k ∧ BkR w G R g D xs err 1 { r with bs := bksV 1 N (nxtX 1 xs) } N k wr) (fun i _ => N - (intOf i).toNat)
    case atStart => exact ⟨0, Nat.zero_le _, rfl, HS0.out⟩
    case round =>
      clear HS0
      obtain ⟨k, hk, rfl, hr, hb, hc, hg, ht⟩ := hrel
      have HR := Lib.hid hr
      have HB := Lib.hid hb
      have HC := Lib.hid hc
      have HG := Lib.hid hg
      have HT := Lib.hid ht
      clear hr hb hc hg ht
      obtain ⟨k0, k1, k2, k3, k4, k5, k6, k7, k8, k9, k10, k11, k12, k13⟩ := rcells_of HB.out
      simp only [bksV_length] at k10
      obtain ⟨m0, m1, m2, m3, m4, m5⟩ := rdcells_of HC.out
      by_cases hlt : k < N
      case neg =>
        obtain rfl : N = k := by omega
        have hlt' : ¬ (N : Int) < N := by omega
        go_wp2
        go_end0
        rw [HX.out]
        have hg := HG.out
        rw [Nat.sub_self, List.replicate_zero, List.append_nil] at hg
        exact ⟨rfl, some ⟨g, 0, none⟩, N, HR.out.mono (fun _ h => .inl h), HB.out, row_BB hg (bksV_length _ _ _) (by have := HL.out; omega), HT.out⟩
      case pos =>
        have i1 : (k : Int) < N := by omega
        rw [half_step 1 N k _ hlt] at HG
        go_wp2_with fail
        go_still_tail 5, (by kernel_rfl)
        change wpList _ _ _ _ _ wr.drew
        have HQ := Lib.hid (f_u16 G g (k * 3 + 0) _ _ _ _ _ wr.drew HR.out.drew (.inr (Nat.le_of_lt HGG.out)) HG.out (by rw [BB_size]; have := hlt; simp [bksV_length] <;> omega))
        have hset := BB_set (bksV 1 k (nxtX 1 xs)) (List.replicate (N - (k + 1)) zK) zK ⟨(valN 2 (nxtX (1 + k * bkW 1) xs) : Nat), 0, 0⟩ 0 (by decide) (.int .i64 (valN 2 (nxtX (1 + k * bkW 1) xs) : Nat)) rfl
        rw [bksV_length] at hset
        rw [hset] at HQ
        clear hset
        rw [Nat.add_zero] at HQ
        go_wp2_with (go_at_call 82; (with_reducible refine HQ.out.mono ?_); rintro e w5 ⟨rfl, h1, h2, h3⟩; have t9 := ((Touch.refl wr _).drew).trans h3 (fun _ _ h => h); have HR := Lib.hid h1; have HG := Lib.hid h2; have HB := Lib.hid (t9.keeps HB.out (fun h => by have := HRN.out; have := HGG.out; omega)); have HC := Lib.hid (t9.keeps HC.out (fun h => by have := HRN.out; have := HGG.out; omega)); have HT := Lib.hid (HT.out.trans t9 (fun k hk h => by have := HGG.out; rcases h with h | h; exact Or.inl h; omega)); clear t9 h1 h2 h3 k0 k1 k2 k3 k4 k5 k6 k7 k8 k9 k10 k11 k12 k13 m0 m1 m2 m3 m4 m5; obtain ⟨m0, m1, m2, m3, m4, m5⟩ := rdcells_of HC.out; obtain ⟨k0, k1, k2, k3, k4, k5, k6, k7, k8, k9, k10, k11, k12, k13⟩ := rcells_of HB.out; simp only [bksV_length] at k10)
        go_wp2_with fail
        go_still_tail 5, (by kernel_rfl)
        change wpList _ _ _ _ _ w5.drew
        have HQ := Lib.hid (f_addr G g (k * 3 + 1) _ _ _ _ _ w5.drew HR.out.drew (.inr (Nat.le_of_lt HGG.out)) HG.out (by rw [BB_size]; have := hlt; simp [bksV_length] <;> omega))
        have hset := BB_set (bksV 1 k (nxtX 1 xs)) (List.replicate (N - (k + 1)) zK) ⟨(valN 2 (nxtX (1 + k * bkW 1) xs) : Nat), 0, 0⟩ ⟨(valN 2 (nxtX (1 + k * bkW 1) xs) : Nat), (valN 4 (nxtX 2 (nxtX (1 + k * bkW 1) xs)) : Nat), 0⟩ 1 (by decide) (.int .u32 (valN 4 (nxtX 2 (nxtX (1 + k * bkW 1) xs)) : Nat)) rfl
        rw [bksV_length] at hset
        rw [hset] at HQ
        clear hset
        skip
        go_wp2_with (go_at_call 84; (with_reducible refine HQ.out.mono ?_); rintro e w6 ⟨rfl, h1, h2, h3⟩; have t9 := ((Touch.refl w5 _).drew).trans h3 (fun _ _ h => h); have HR := Lib.hid h1; have HG := Lib.hid h2; have HB := Lib.hid (t9.keeps HB.out (fun h => by have := HRN.out; have := HGG.out; omega)); have HC := Lib.hid (t9.keeps HC.out (fun h => by have := HRN.out; have := HGG.out; omega)); have HT := Lib.hid (HT.out.trans t9 (fun k hk h => by have := HGG.out; rcases h with h | h; exact Or.inl h; omega)); clear t9 h1 h2 h3 k0 k1 k2 k3 k4 k5 k6 k7 k8 k9 k10 k11 k12 k13 m0 m1 m2 m3 m4 m5; obtain ⟨m0, m1, m2, m3, m4, m5⟩ := rdcells_of HC.out; obtain ⟨k0, k1, k2, k3, k4, k5, k6, k7, k8, k9, k10, k11, k12, k13⟩ := rcells_of HB.out; simp only [bksV_length] at k10)
        rw [show nxtE 4 (nxtX 2 (nxtX (1 + k * bkW 1) xs)) (nxtE 2 (nxtX (1 + k * bkW 1) xs) (nxtE (1 + k * bkW 1) xs err)) = nxtE 6 (nxtX (1 + k * bkW 1) xs) (nxtE (1 + k * bkW 1) xs err) from nxtE_nxtE 4 2 _ _, show nxtX 4 (nxtX 2 (nxtX (1 + k * bkW 1) xs)) = nxtX 6 (nxtX (1 + k * bkW 1) xs) from nxtX_nxtX 4 2 _] at HR

        go_wp2
        go_roundw
        case rel =>
          refine ⟨k + 1, hlt, by go_num, ?_, HB.out, HC.out, ?_, HT.out⟩
          · have hr := HR.out
            rw [nxtX_nxtX, nxtE_nxtE] at hr
            have e : 1 + k * bkW 1 + 6 = 1 + (k + 1) * bkW 1 := by rw [Nat.add_mul, show bkW 1 = 6 from rfl]; omega
            simp only [Nat.add_assoc] at hr e ⊢
            rwa [e] at hr
          · have hg := HG.out
            rw [bksV_snoc, List.append_assoc]
            have e : bkV 1 (nxtX (k * bkW 1) (nxtX 1 xs)) = ⟨(valN 2 (nxtX (1 + k * bkW 1) xs) : Nat), (valN 4 (nxtX 2 (nxtX (1 + k * bkW 1) xs)) : Nat), 0⟩ := by
              rw [nxtX_nxtX]; rfl
            rw [e]
            exact hg
        case measure => simp [intOf]; omega
set_option maxRecDepth 20000 in
set_option maxHeartbeats 8000000 in
theorem rbacks_v2 (G R : Nat) (D : Nat → Prop) (xs : List Nat) (err : Int) (r : RecD) (w : World) (h : RdD w G D xs err) (hD : D R) (hr : w.heap[R]? = some (.cells (rcs r none 0) 29 (0, 0))) (hbs : r.bs = []) :
    Calls Try.prog 79 #[.agg (rdC G), .pointer (some ⟨R, 0, none⟩), .int .i64 2] w (BacksR w G R D xs err r 2) := by
  have hne := h.ne hD
  have hlt := h.lt
  have hrl := heap_lt hr
  have hN : valN 1 xs < 256 := valN_lt 1 xs h.small
  obtain ⟨W1, hW1⟩ : ∃ W, w.alloc (.cells (rdC G) 76) = W := ⟨_, rfl⟩
  have hs1 : W1.heap.size = w.heap.size + 1 := by rw [← hW1]; simp
  have t1 : Touch w W1 (fun _ => False) := hW1 ▸ (Touch.refl _ _).alloc _
  obtain ⟨W2, hW2⟩ : ∃ W, W1.alloc (.cells #[.int .i64 0] 3) = W := ⟨_, rfl⟩
  have t2 : Touch W1 W2 (fun _ => False) := hW2 ▸ (Touch.refl _ _).alloc _
  have HC : RowKit.Hid (W2.heap[w.heap.size]? = some (.cells (rdC G) 76 (0, 0))) := Lib.hid (t2.keeps (hW1 ▸ heap_alloc_new w _) (fun h => h))
  have HN : RowKit.Hid (W2.heap[W1.heap.size]? = some (.cells #[.int .i64 0] 3 (0, 0))) := Lib.hid (hW2 ▸ heap_alloc_new W1 _)
  have HR := Lib.hid ((h.above.still t1).still t2)
  have hB1 := t1.keeps hr (fun h => h)
  have HB := Lib.hid (t2.keeps hB1 (fun h => h))
  have HT : RowKit.Hid (Touch w W2 (fun k => k = G ∨ k = R)) := Lib.hid ((t1.trans t2 (fun _ _ h => h)).mono (fun _ _ h => h.elim))
  have HD := Lib.hid hD
  have HRN : RowKit.Hid (G < w.heap.size ∧ R < w.heap.size ∧ R ≠ G ∧ W1.heap.size = w.heap.size + 1) := Lib.hid ⟨hlt, hrl, hne, hs1⟩
  have HBS := Lib.hid hbs
  have HL := Lib.hid hN
  obtain ⟨j0, j1, j2, j3, j4, j5, j6, j7, j8, j9, j10, j11, j12, j13⟩ := rcells_of hB1
  rw [hbs] at j10
  simp only [List.length_nil] at j10
  obtain ⟨m0, m1, m2, m3, m4, m5⟩ := rdcells_of HC.out
  have HQ := Lib.hid (f_u8 G W1.heap.size 0 _ _ _ _ _ W2 HR.out (.inr (by omega)) HN.out (by decide))
  have HW2 := Lib.hid hW2
  clear h hr hD hne hlt hrl t1 t2 hB1 hs1 hN hbs hW2
  simp only [rdC] at hW1
  simp only [rdC]
  go_enter Try.func79, Try.ntmps79
  go_upto_region 2 with fail
  rw [HW2.out]
  clear j0 j1 j2 j3 j4 j5 j6 j7 j8 j9 j10 j11 j12 j13
  go_wp2_with (go_at_call 81; (with_reducible refine HQ.out.mono ?_); rintro e w3 ⟨rfl, h1, h2, h3⟩; have HR := Lib.hid h1; have HN := Lib.hid h2; have HB := Lib.hid (h3.keeps HB.out (fun h => by have := HRN.out; omega)); have HC := Lib.hid (h3.keeps HC.out (fun h => by have := HRN.out; omega)); have HT := Lib.hid (HT.out.trans h3 (fun k hk h => by have := HRN.out; rcases h with h | h; exact Or.inl h; omega)); clear h1 h2 h3 HQ m0 m1 m2 m3 m4 m5; have n0 : w3.cell? ⟨W1.heap.size, 0, none⟩ = some (.int .i64 (valN 1 xs : Nat)) := cell_of_cells HN.out 0; obtain ⟨k0, k1, k2, k3, k4, k5, k6, k7, k8, k9, k10, k11, k12, k13⟩ := rcells_of HB.out; rw [HBS.out] at k10; simp only [List.length_nil] at k10)
  have HX : RowKit.Hid (∀ e w', BacksR w G R D xs err r 2 e w' = (e = .returned (.tuple #[]) ∧ ∃ a' c', RdD w' G D (nxtX (1 + valN 1 xs * bkW 2) xs) (nxtE (1 + valN 1 xs * bkW 2) xs err) ∧ w'.heap[R]? = some (.cells (rcs { r with bs := bksV 2 (valN 1 xs) (nxtX 1 xs) } a' c') 29 (0, 0)) ∧
    RowK w' a' (valN 1 xs) c' (bksV 2 (valN 1 xs) (nxtX 1 xs)) ∧ Touch w w' (fun k => k = G ∨ k = R))) := Lib.hid (fun _ _ => rfl)
  generalize BacksR w G R D xs err r 2 = X at *
  generalize valN 1 xs = N at *
  by_cases h0 : N = 0
  · subst h0
    have hll : ¬ (0 : Int) < ((0 : Nat) : Int) := by omega
    go_quiet (fail)
    have tq := (Touch.refl w3 (fun _ => False)).drewN nq
    generalize w3.drewN nq = w4 at *
    have HR := Lib.hid (HR.out.still tq)
    have HB := Lib.hid (tq.keeps HB.out (fun h => h))
    have HT := Lib.hid (HT.out.trans tq (fun _ _ h => h.elim))
    clear tq k0 k1 k2 k3 k4 k5 k6 k7 k8 k9 k10 k11 k12 k13 n0 HN HC
    obtain ⟨k0, k1, k2, k3, k4, k5, k6, k7, k8, k9, k10, k11, k12, k13⟩ := rcells_of HB.out
    rw [HBS.out] at k10
    simp only [List.length_nil] at k10
    go_wp2_with fail
    go_loop [34] (fun i => i = .int .i64 0) (fun _ => 0)
    case atStart => rfl
    case round =>
      subst hrel
      go_wp2
      go_end0
      rw [HX.out]
      refine ⟨rfl, none, 0, by simpa using HR.out.mono (fun _ h => .inl h), ?_, RowS.nil _ _ _ _ (by omega), HT.out⟩
      have e : ({ r with bs := bksV 2 0 (nxtX 1 xs) } : RecD) = r := by
        have := HBS.out
        obtain ⟨_, _, _, _, _, _, _, _, _, _⟩ := r
        simp only at this
        subst this
        rfl
      rw [e]
      exact HB.out
  · have hll : (0 : Int) < (N : Int) := by omega
    go_quiet (fail)
    have tq := (Touch.refl w3 (fun _ => False)).drewN nq
    generalize w3.drewN nq = w4 at *
    have HR := Lib.hid (HR.out.still tq)
    have HB := Lib.hid (tq.keeps HB.out (fun h => h))
    have HC := Lib.hid (tq.keeps HC.out (fun h => h))
    have HN := Lib.hid (tq.keeps HN.out (fun h => h))
    have HT := Lib.hid (HT.out.trans tq (fun _ _ h => h.elim))
    clear tq k0 k1 k2 k3 k4 k5 k6 k7 k8 k9 k10 k11 k12 k13 n0
    have n0 : w4.cell? ⟨W1.heap.size, 0, none⟩ = some (.int .i64 (N : Nat)) := cell_of_cells HN.out 0
    have hmk := make_bks w4 N N rfl (by have := HL.out; omega)
    obtain ⟨W5, hW5⟩ : ∃ W, w4.alloc (.cells (BB (List.replicate N zK)) 61) = W := ⟨_, rfl⟩
    have t5 : Touch w4 W5 (fun _ => False) := hW5 ▸ (Touch.refl _ _).alloc _
    have HB5 := Lib.hid (t5.keeps HB.out (fun h => h))
    have HG5 : RowKit.Hid (W5.heap[w4.heap.size]? = some (.cells (BB (List.replicate N zK)) 61 (0, 0))) := Lib.hid (hW5 ▸ heap_alloc_new w4 _)
    have k10 : W5.cell? ⟨R, 10, none⟩ = some (.slice none 0 0) := by have := cell_of_cells HB5.out 10; rw [this]; simp [rcs, HBS.out]
    have kf := free_of_cells HB5.out 10
    have HGE : RowKit.Hid (w.heap.size < w4.heap.size) := Lib.hid (by have := heap_lt HN.out; have := HRN.out; omega)
    rw [hW5] at hmk
    have t6 : Touch W5 (W5.setCell ⟨R, 10, none⟩ (.slice (some ⟨w4.heap.size, 0, none⟩) N N)) (fun k => k = R) := (Touch.refl W5 _).into 10 _
    have HB6 := Lib.hid (heap_setCell_same W5 R 10 _ _ (.slice (some ⟨w4.heap.size, 0, none⟩) N N) HB5.out)
    rw [rset_bs r none 0 (bksV 2 N (nxtX 1 xs)) w4.heap.size N (bksV_length _ _ _)] at HB6
    have HC6 := Lib.hid (t6.keeps (t5.keeps HC.out (fun h => h)) (by have := HRN.out; omega))
    have HG6 := Lib.hid (t6.keeps HG5.out (by have := HRN.out; have := HGE.out; omega))
    have HT6 := Lib.hid ((HT.out.trans t5 (fun _ _ h => h.elim)).trans t6 (fun _ _ h => Or.inr h))
    have HR6 := Lib.hid ((HR.out.still t5).touch t6 (fun k _ h => Or.inl (h ▸ HD.out)))
    have q10 : (W5.setCell ⟨R, 10, none⟩ (.slice (some ⟨w4.heap.size, 0, none⟩) N N)).cell? ⟨R, 10, none⟩ = some (.slice (some ⟨w4.heap.size, 0, none⟩) N N) := by have := cell_of_cells HB6.out 10; rw [this]; simp [rcs, bksV_length]
    clear t5 t6 HB5 HG5 HB HC HR HT HN hW5
    have hmx : (N : Int) ≤ 1000 := by have := HL.out; omega
    go_wp2_with fail
    obtain ⟨W6, hW6⟩ : ∃ W, W5.setCell ⟨R, 10, none⟩ (.slice (some ⟨w4.heap.size, 0, none⟩) N N) = W := ⟨_, rfl⟩
    rw [hW6] at HB6 HC6 HG6 HT6 HR6
    have HS0 : RowKit.Hid (BkR w G R w4.heap.size D xs err 2 { r with bs := bksV 2 N (nxtX 1 xs) } N 0 W6) := Lib.hid ⟨by simpa using HR6.out, HB6.out, HC6.out, by simpa [bksV] using HG6.out, HT6.out⟩
    try rw [hW6]
    clear HB6 HC6 HG6 HT6 HR6 q10 k10 kf hmk n0 hW6
    generalize w4.heap.size = g at *
    have HGG := HGE
    clear HGE
    have hdec : decide (0 < N) = true := decide_eq_true (by omega)
    rw [hdec]
    clear hdec
    go_loopw [34] (fun i wr => ∃ k : Nat, k ≤ N ∧ i = .int .i64 k ∧ BkR w G R g D xs err 2 { r with bs := bksV 2 N (nxtX 1 xs) } N k wr) (fun i _ => N - (intOf i).toNat)
    case atStart => exact ⟨0, Nat.zero_le _, rfl, HS0.out⟩
    case round =>
      clear HS0
      obtain ⟨k, hk, rfl, hr, hb, hc, hg, ht⟩ := hrel
      have HR := Lib.hid hr
      have HB := Lib.hid hb
      have HC := Lib.hid hc
      have HG := Lib.hid hg
      have HT := Lib.hid ht
      clear hr hb hc hg ht
      obtain ⟨k0, k1, k2, k3, k4, k5, k6, k7, k8, k9, k10, k11, k12, k13⟩ := rcells_of HB.out
      simp only [bksV_length] at k10
      obtain ⟨m0, m1, m2, m3, m4, m5⟩ := rdcells_of HC.out
      by_cases hlt : k < N
      case neg =>
        obtain rfl : N = k := by omega
        have hlt' : ¬ (N : Int) < N := by omega
        go_wp2
        go_end0
        rw [HX.out]
        have hg := HG.out
        rw [Nat.sub_self, List.replicate_zero, List.append_nil] at hg
        exact ⟨rfl, some ⟨g, 0, none⟩, N, HR.out.mono (fun _ h => .inl h), HB.out, row_BB hg (bksV_length _ _ _) (by have := HL.out; omega), HT.out⟩
      case pos =>
        have i1 : (k : Int) < N := by omega
        rw [half_step 2 N k _ hlt] at HG
        go_wp2_with fail
        go_still_tail 5, (by kernel_rfl)
        change wpList _ _ _ _ _ wr.drew
        have HQ := Lib.hid (f_u16 G g (k * 3 + 0) _ _ _ _ _ wr.drew HR.out.drew (.inr (Nat.le_of_lt HGG.out)) HG.out (by rw [BB_size]; have := hlt; simp [bksV_length] <;> omega))
        have hset := BB_set (bksV 2 k (nxtX 1 xs)) (List.replicate (N - (k + 1)) zK) zK ⟨(valN 2 (nxtX (1 + k * bkW 2) xs) : Nat), 0, 0⟩ 0 (by decide) (.int .i64 (valN 2 (nxtX (1 + k * bkW 2) xs) : Nat)) rfl
        rw [bksV_length] at hset
        rw [hset] at HQ
        clear hset
        rw [Nat.add_zero] at HQ
        go_wp2_with (go_at_call 82; (with_reducible refine HQ.out.mono ?_); rintro e w5 ⟨rfl, h1, h2, h3⟩; have t9 := ((Touch.refl wr _).drew).trans h3 (fun _ _ h => h); have HR := Lib.hid h1; have HG := Lib.hid h2; have HB := Lib.hid (t9.keeps HB.out (fun h => by have := HRN.out; have := HGG.out; omega)); have HC := Lib.hid (t9.keeps HC.out (fun h => by have := HRN.out; have := HGG.out; omega)); have HT := Lib.hid (HT.out.trans t9 (fun k hk h => by have := HGG.out; rcases h with h | h; exact Or.inl h; omega)); clear t9 h1 h2 h3 k0 k1 k2 k3 k4 k5 k6 k7 k8 k9 k10 k11 k12 k13 m0 m1 m2 m3 m4 m5; obtain ⟨m0, m1, m2, m3, m4, m5⟩ := rdcells_of HC.out; obtain ⟨k0, k1, k2, k3, k4, k5, k6, k7, k8, k9, k10, k11, k12, k13⟩ := rcells_of HB.out; simp only [bksV_length] at k10)
        go_wp2_with fail
        go_still_tail 5, (by kernel_rfl)
        change wpList _ _ _ _ _ w5.drew
        have HQ := Lib.hid (f_addr G g (k * 3 + 1) _ _ _ _ _ w5.drew HR.out.drew (.inr (Nat.le_of_lt HGG.out)) HG.out (by rw [BB_size]; have := hlt; simp [bksV_length] <;> omega))
        have hset := BB_set (bksV 2 k (nxtX 1 xs)) (List.replicate (N - (k + 1)) zK) ⟨(valN 2 (nxtX (1 + k * bkW 2) xs) : Nat), 0, 0⟩ ⟨(valN 2 (nxtX (1 + k * bkW 2) xs) : Nat), (valN 4 (nxtX 2 (nxtX (1 + k * bkW 2) xs)) : Nat), 0⟩ 1 (by decide) (.int .u32 (valN 4 (nxtX 2 (nxtX (1 + k * bkW 2) xs)) : Nat)) rfl
        rw [bksV_length] at hset
        rw [hset] at HQ
        clear hset
        skip
        go_wp2_with (go_at_call 84; (with_reducible refine HQ.out.mono ?_); rintro e w6 ⟨rfl, h1, h2, h3⟩; have t9 := ((Touch.refl w5 _).drew).trans h3 (fun _ _ h => h); have HR := Lib.hid h1; have HG := Lib.hid h2; have HB := Lib.hid (t9.keeps HB.out (fun h => by have := HRN.out; have := HGG.out; omega)); have HC := Lib.hid (t9.keeps HC.out (fun h => by have := HRN.out; have := HGG.out; omega)); have HT := Lib.hid (HT.out.trans t9 (fun k hk h => by have := HGG.out; rcases h with h | h; exact Or.inl h; omega)); clear t9 h1 h2 h3 k0 k1 k2 k3 k4 k5 k6 k7 k8 k9 k10 k11 k12 k13 m0 m1 m2 m3 m4 m5; obtain ⟨m0, m1, m2, m3, m4, m5⟩ := rdcells_of HC.out; obtain ⟨k0, k1, k2, k3, k4, k5, k6, k7, k8, k9, k10, k11, k12, k13⟩ := rcells_of HB.out; simp only [bksV_length] at k10)
        rw [show nxtE 4 (nxtX 2 (nxtX (1 + k * bkW 2) xs)) (nxtE 2 (nxtX (1 + k * bkW 2) xs) (nxtE (1 + k * bkW 2) xs err)) = nxtE 6 (nxtX (1 + k * bkW 2) xs) (nxtE (1 + k * bkW 2) xs err) from nxtE_nxtE 4 2 _ _, show nxtX 4 (nxtX 2 (nxtX (1 + k * bkW 2) xs)) = nxtX 6 (nxtX (1 + k * bkW 2) xs) from nxtX_nxtX 4 2 _] at HR
        go_wp2_with fail
        go_still_tail 5, (by kernel_rfl)
        change wpList _ _ _ _ _ w6.drew
        have HQ := Lib.hid (f_u8 G g (k * 3 + 2) _ _ _ _ _ w6.drew HR.out.drew (.inr (Nat.le_of_lt HGG.out)) HG.out (by rw [BB_size]; have := hlt; simp [bksV_length] <;> omega))
        have hset := BB_set (bksV 2 k (nxtX 1 xs)) (List.replicate (N - (k + 1)) zK) ⟨(valN 2 (nxtX (1 + k * bkW 2) xs) : Nat), (valN 4 (nxtX 2 (nxtX (1 + k * bkW 2) xs)) : Nat), 0⟩ ⟨(valN 2 (nxtX (1 + k * bkW 2) xs) : Nat), (valN 4 (nxtX 2 (nxtX (1 + k * bkW 2) xs)) : Nat), (valN 1 (nxtX 6 (nxtX (1 + k * bkW 2) xs)) : Nat)⟩ 2 (by decide) (.int .i64 (valN 1 (nxtX 6 (nxtX (1 + k * bkW 2) xs)) : Nat)) rfl
        rw [bksV_length] at hset
        rw [hset] at HQ
        clear hset
        skip
        go_wp2_with (go_at_call 81; (with_reducible refine HQ.out.mono ?_); rintro e w7 ⟨rfl, h1, h2, h3⟩; have t9 := ((Touch.refl w6 _).drew).trans h3 (fun _ _ h => h); have HR := Lib.hid h1; have HG := Lib.hid h2; have HB := Lib.hid (t9.keeps HB.out (fun h => by have := HRN.out; have := HGG.out; omega)); have HC := Lib.hid (t9.keeps HC.out (fun h => by have := HRN.out; have := HGG.out; omega)); have HT := Lib.hid (HT.out.trans t9 (fun k hk h => by have := HGG.out; rcases h with h | h; exact Or.inl h; omega)); clear t9 h1 h2 h3 k0 k1 k2 k3 k4 k5 k6 k7 k8 k9 k10 k11 k12 k13 m0 m1 m2 m3 m4 m5; obtain ⟨m0, m1, m2, m3, m4, m5⟩ := rdcells_of HC.out; obtain ⟨k0, k1, k2, k3, k4, k5, k6, k7, k8, k9, k10, k11, k12, k13⟩ := rcells_of HB.out; simp only [bksV_length] at k10)
        rw [show nxtE 1 (nxtX 6 (nxtX (1 + k * bkW 2) xs)) (nxtE 6 (nxtX (1 + k * bkW 2) xs) (nxtE (1 + k * bkW 2) xs err)) = nxtE 7 (nxtX (1 + k * bkW 2) xs) (nxtE (1 + k * bkW 2) xs err) from nxtE_nxtE 1 6 _ _, show nxtX 1 (nxtX 6 (nxtX (1 + k * bkW 2) xs)) = nxtX 7 (nxtX (1 + k * bkW 2) xs) from nxtX_nxtX 1 6 _] at HR

        go_wp2
        go_roundw
        case rel =>
          refine ⟨k + 1, hlt, by go_num, ?_, HB.out, HC.out, ?_, HT.out⟩
          · have hr := HR.out
            rw [nxtX_nxtX, nxtE_nxtE] at hr
            have e : 1 + k * bkW 2 + 7 = 1 + (k + 1) * bkW 2 := by rw [Nat.add_mul, show bkW 2 = 7 from rfl]; omega
            simp only [Nat.add_assoc] at hr e ⊢
            rwa [e] at hr
          · have hg := HG.out
            rw [bksV_snoc, List.append_assoc]
            have e : bkV 2 (nxtX (k * bkW 2) (nxtX 1 xs)) = ⟨(valN 2 (nxtX (1 + k * bkW 2) xs) : Nat), (valN 4 (nxtX 2 (nxtX (1 + k * bkW 2) xs)) : Nat), (valN 1 (nxtX 6 (nxtX (1 + k * bkW 2) xs)) : Nat)⟩ := by
              rw [nxtX_nxtX]; rfl
            rw [e]
            exact hg
        case measure => simp [intOf]; omega
set_option maxRecDepth 20000 in
set_option maxHeartbeats 8000000 in
theorem rbacks_v3 (G R : Nat) (D : Nat → Prop) (xs : List Nat) (err : Int) (r : RecD) (w : World) (h : RdD w G D xs err) (hD : D R) (hr : w.heap[R]? = some (.cells (rcs r none 0) 29 (0, 0))) (hbs : r.bs = []) :
    Calls Try.prog 79 #[.agg (rdC G), .pointer (some ⟨R, 0, none⟩), .int .i64 3] w (BacksR w G R D xs err r 3) := by
  have hne := h.ne hD
  have hlt := h.lt
  have hrl := heap_lt hr
  have hN : valN 1 xs < 256 := valN_lt 1 xs h.small
  obtain ⟨W1, hW1⟩ : ∃ W, w.alloc (.cells (rdC G) 76) = W := ⟨_, rfl⟩
  have hs1 : W1.heap.size = w.heap.size + 1 := by rw [← hW1]; simp
  have t1 : Touch w W1 (fun _ => False) := hW1 ▸ (Touch.refl _ _).alloc _
  obtain ⟨W2, hW2⟩ : ∃ W, W1.alloc (.cells #[.int .i64 0] 3) = W := ⟨_, rfl⟩
  have t2 : Touch W1 W2 (fun _ => False) := hW2 ▸ (Touch.refl _ _).alloc _
  have HC : RowKit.Hid (W2.heap[w.heap.size]? = some (.cells (rdC G) 76 (0, 0))) := Lib.hid (t2.keeps (hW1 ▸ heap_alloc_new w _) (fun h => h))
  have HN : RowKit.Hid (W2.heap[W1.heap.size]? = some (.cells #[.int .i64 0] 3 (0, 0))) := Lib.hid (hW2 ▸ heap_alloc_new W1 _)
  have HR := Lib.hid ((h.above.still t1).still t2)
  have hB1 := t1.keeps hr (fun h => h)
  have HB := Lib.hid (t2.keeps hB1 (fun h => h))
  have HT : RowKit.Hid (Touch w W2 (fun k => k = G ∨ k = R)) := Lib.hid ((t1.trans t2 (fun _ _ h => h)).mono (fun _ _ h => h.elim))
  have HD := Lib.hid hD
  have HRN : RowKit.Hid (G < w.heap.size ∧ R < w.heap.size ∧ R ≠ G ∧ W1.heap.size = w.heap.size + 1) := Lib.hid ⟨hlt, hrl, hne, hs1⟩
  have HBS := Lib.hid hbs
  have HL := Lib.hid hN
  obtain ⟨j0, j1, j2, j3, j4, j5, j6, j7, j8, j9, j10, j11, j12, j13⟩ := rcells_of hB1
  rw [hbs] at j10
  simp only [List.length_nil] at j10
  obtain ⟨m0, m1, m2, m3, m4, m5⟩ := rdcells_of HC.out
  have HQ := Lib.hid (f_u8 G W1.heap.size 0 _ _ _ _ _ W2 HR.out (.inr (by omega)) HN.out (by decide))
  have HW2 := Lib.hid hW2
  clear h hr hD hne hlt hrl t1 t2 hB1 hs1 hN hbs hW2
  simp only [rdC] at hW1
  simp only [rdC]
  go_enter Try.func79, Try.ntmps79
  go_upto_region 2 with fail
  rw [HW2.out]
  clear j0 j1 j2 j3 j4 j5 j6 j7 j8 j9 j10 j11 j12 j13
  go_wp2_with (go_at_call 81; (with_reducible refine HQ.out.mono ?_); rintro e w3 ⟨rfl, h1, h2, h3⟩; have HR := Lib.hid h1; have HN := Lib.hid h2; have HB := Lib.hid (h3.keeps HB.out (fun h => by have := HRN.out; omega)); have HC := Lib.hid (h3.keeps HC.out (fun h => by have := HRN.out; omega)); have HT := Lib.hid (HT.out.trans h3 (fun k hk h => by have := HRN.out; rcases h with h | h; exact Or.inl h; omega)); clear h1 h2 h3 HQ m0 m1 m2 m3 m4 m5; have n0 : w3.cell? ⟨W1.heap.size, 0, none⟩ = some (.int .i64 (valN 1 xs : Nat)) := cell_of_cells HN.out 0; obtain ⟨k0, k1, k2, k3, k4, k5, k6, k7, k8, k9, k10, k11, k12, k13⟩ := rcells_of HB.out; rw [HBS.out] at k10; simp only [List.length_nil] at k10)
  have HX : RowKit.Hid (∀ e w', BacksR w G R D xs err r 3 e w' = (e = .returned (.tuple #[]) ∧ ∃ a' c', RdD w' G D (nxtX (1 + valN 1 xs * bkW 3) xs) (nxtE (1 + valN 1 xs * bkW 3) xs err) ∧ w'.heap[R]? = some (.cells (rcs { r with bs := bksV 3 (valN 1 xs) (nxtX 1 xs) } a' c') 29 (0, 0)) ∧
    RowK w' a' (valN 1 xs) c' (bksV 3 (valN 1 xs) (nxtX 1 xs)) ∧ Touch w w' (fun k => k = G ∨ k = R))) := Lib.hid (fun _ _ => rfl)
  generalize BacksR w G R D xs err r 3 = X at *
  generalize valN 1 xs = N at *
  by_cases h0 : N = 0
  · subst h0
    have hll : ¬ (0 : Int) < ((0 : Nat) : Int) := by omega
    go_quiet (fail)
    have tq := (Touch.refl w3 (fun _ => False)).drewN nq
    generalize w3.drewN nq = w4 at *
    have HR := Lib.hid (HR.out.still tq)
    have HB := Lib.hid (tq.keeps HB.out (fun h => h))
    have HT := Lib.hid (HT.out.trans tq (fun _ _ h => h.elim))
    clear tq k0 k1 k2 k3 k4 k5 k6 k7 k8 k9 k10 k11 k12 k13 n0 HN HC
    obtain ⟨k0, k1, k2, k3, k4, k5, k6, k7, k8, k9, k10, k11, k12, k13⟩ := rcells_of HB.out
    rw [HBS.out] at k10
    simp only [List.length_nil] at k10
    go_wp2_with fail
    go_loop [34] (fun i => i = .int .i64 0) (fun _ => 0)
    case atStart => rfl
    case round =>
      subst hrel
      go_wp2
      go_end0
      rw [HX.out]
      refine ⟨rfl, none, 0, by simpa using HR.out.mono (fun _ h => .inl h), ?_, RowS.nil _ _ _ _ (by omega), HT.out⟩
      have e : ({ r with bs := bksV 3 0 (nxtX 1 xs) } : RecD) = r := by
        have := HBS.out
        obtain ⟨_, _, _, _, _, _, _, _, _, _⟩ := r
        simp only at this
        subst this
        rfl
      rw [e]
      exact HB.out
  · have hll : (0 : Int) < (N : Int) := by omega
    go_quiet (fail)
    have tq := (Touch.refl w3 (fun _ => False)).drewN nq
    generalize w3.drewN nq = w4 at *
    have HR := Lib.hid (HR.out.still tq)
    have HB := Lib.hid (tq.keeps HB.out (fun h => h))
    have HC := Lib.hid (tq.keeps HC.out (fun h => h))
    have HN := Lib.hid (tq.keeps HN.out (fun h => h))
    have HT := Lib.hid (HT.out.trans tq (fun _ _ h => h.elim))
    clear tq k0 k1 k2 k3 k4 k5 k6 k7 k8 k9 k10 k11 k12 k13 n0
    have n0 : w4.cell? ⟨W1.heap.size, 0, none⟩ = some (.int .i64 (N : Nat)) := cell_of_cells HN.out 0
    have hmk := make_bks w4 N N rfl (by have := HL.out; omega)
    obtain ⟨W5, hW5⟩ : ∃ W, w4.alloc (.cells (BB (List.replicate N zK)) 61) = W := ⟨_, rfl⟩
    have t5 : Touch w4 W5 (fun _ => False) := hW5 ▸ (Touch.refl _ _).alloc _
    have HB5 := Lib.hid (t5.keeps HB.out (fun h => h))
    have HG5 : RowKit.Hid (W5.heap[w4.heap.size]? = some (.cells (BB (List.replicate N zK)) 61 (0, 0))) := Lib.hid (hW5 ▸ heap_alloc_new w4 _)
    have k10 : W5.cell? ⟨R, 10, none⟩ = some (.slice none 0 0) := by have := cell_of_cells HB5.out 10; rw [this]; simp [rcs, HBS.out]
    have kf := free_of_cells HB5.out 10
    have HGE : RowKit.Hid (w.heap.size < w4.heap.size) := Lib.hid (by have := heap_lt HN.out; have := HRN.out; omega)
    rw [hW5] at hmk
    have t6 : Touch W5 (W5.setCell ⟨R, 10, none⟩ (.slice (some ⟨w4.heap.size, 0, none⟩) N N)) (fun k => k = R) := (Touch.refl W5 _).into 10 _
    have HB6 := Lib.hid (heap_setCell_same W5 R 10 _ _ (.slice (some ⟨w4.heap.size, 0, none⟩) N N) HB5.out)
    rw [rset_bs r none 0 (bksV 3 N (nxtX 1 xs)) w4.heap.size N (bksV_length _ _ _)] at HB6
    have HC6 := Lib.hid (t6.keeps (t5.keeps HC.out (fun h => h)) (by have := HRN.out; omega))
    have HG6 := Lib.hid (t6.keeps HG5.out (by have := HRN.out; have := HGE.out; omega))
    have HT6 := Lib.hid ((HT.out.trans t5 (fun _ _ h => h.elim)).trans t6 (fun _ _ h => Or.inr h))
    have HR6 := Lib.hid ((HR.out.still t5).touch t6 (fun k _ h => Or.inl (h ▸ HD.out)))
    have q10 : (W5.setCell ⟨R, 10, none⟩ (.slice (some ⟨w4.heap.size, 0, none⟩) N N)).cell? ⟨R, 10, none⟩ = some (.slice (some ⟨w4.heap.size, 0, none⟩) N N) := by have := cell_of_cells HB6.out 10; rw [this]; simp [rcs, bksV_length]
    clear t5 t6 HB5 HG5 HB HC HR HT HN hW5
    have hmx : (N : Int) ≤ 1000 := by have := HL.out; omega
    go_wp2_with fail
    obtain ⟨W6, hW6⟩ : ∃ W, W5.setCell ⟨R, 10, none⟩ (.slice (some ⟨w4.heap.size, 0, none⟩) N N) = W := ⟨_, rfl⟩
    rw [hW6] at HB6 HC6 HG6 HT6 HR6
    have HS0 : RowKit.Hid (BkR w G R w4.heap.size D xs err 3 { r with bs := bksV 3 N (nxtX 1 xs) } N 0 W6) := Lib.hid ⟨by simpa using HR6.out, HB6.out, HC6.out, by simpa [bksV] using HG6.out, HT6.out⟩
    try rw [hW6]
    clear HB6 HC6 HG6 HT6 HR6 q10 k10 kf hmk n0 hW6
    generalize w4.heap.size = g at *
    have HGG := HGE
    clear HGE
    have hdec : decide (0 < N) = true := decide_eq_true (by omega)
    rw [hdec]
    clear hdec
    go_loopw [34] (fun i wr => ∃ k : Nat, k ≤ N ∧ i = .int .i64 k ∧ BkR w G R g D xs err 3 { r with bs := bksV 3 N (nxtX 1 xs) } N k wr) (fun i _ => N - (intOf i).toNat)
    case atStart => exact ⟨0, Nat.zero_le _, rfl, HS0.out⟩
    case round =>
      clear HS0
      obtain ⟨k, hk, rfl, hr, hb, hc, hg, ht⟩ := hrel
      have HR := Lib.hid hr
      have HB := Lib.hid hb
      have HC := Lib.hid hc
      have HG := Lib.hid hg
      have HT := Lib.hid ht
      clear hr hb hc hg ht
      obtain ⟨k0, k1, k2, k3, k4, k5, k6, k7, k8, k9, k10, k11, k12, k13⟩ := rcells_of HB.out
      simp only [bksV_length] at k10
      obtain ⟨m0, m1, m2, m3, m4, m5⟩ := rdcells_of HC.out
      by_cases hlt : k < N
      case neg =>
        obtain rfl : N = k := by omega
        have hlt' : ¬ (N : Int) < N := by omega
        go_wp2
        go_end0
        rw [HX.out]
        have hg := HG.out
        rw [Nat.sub_self, List.replicate_zero, List.append_nil] at hg
        exact ⟨rfl, some ⟨g, 0, none⟩, N, HR.out.mono (fun _ h => .inl h), HB.out, row_BB hg (bksV_length _ _ _) (by have := HL.out; omega), HT.out⟩
      case pos =>
        have i1 : (k : Int) < N := by omega
        rw [half_step 3 N k _ hlt] at HG
        go_wp2_with fail
        go_still_tail 5, (by kernel_rfl)
        change wpList _ _ _ _ _ wr.drew
        have HQ := Lib.hid (f_u16 G g (k * 3 + 0) _ _ _ _ _ wr.drew HR.out.drew (.inr (Nat.le_of_lt HGG.out)) HG.out (by rw [BB_size]; have := hlt; simp [bksV_length] <;> omega))
        have hset := BB_set (bksV 3 k (nxtX 1 xs)) (List.replicate (N - (k + 1)) zK) zK ⟨(valN 2 (nxtX (1 + k * bkW 3) xs) : Nat), 0, 0⟩ 0 (by decide) (.int .i64 (valN 2 (nxtX (1 + k * bkW 3) xs) : Nat)) rfl
        rw [bksV_length] at hset
        rw [hset] at HQ
        clear hset
        rw [Nat.add_zero] at HQ
        go_wp2_with (go_at_call 82; (with_reducible refine HQ.out.mono ?_); rintro e w5 ⟨rfl, h1, h2, h3⟩; have t9 := ((Touch.refl wr _).drew).trans h3 (fun _ _ h => h); have HR := Lib.hid h1; have HG := Lib.hid h2; have HB := Lib.hid (t9.keeps HB.out (fun h => by have := HRN.out; have := HGG.out; omega)); have HC := Lib.hid (t9.keeps HC.out (fun h => by have := HRN.out; have := HGG.out; omega)); have HT := Lib.hid (HT.out.trans t9 (fun k hk h => by have := HGG.out; rcases h with h | h; exact Or.inl h; omega)); clear t9 h1 h2 h3 k0 k1 k2 k3 k4 k5 k6 k7 k8 k9 k10 k11 k12 k13 m0 m1 m2 m3 m4 m5; obtain ⟨m0, m1, m2, m3, m4, m5⟩ := rdcells_of HC.out; obtain ⟨k0, k1, k2, k3, k4, k5, k6, k7, k8, k9, k10, k11, k12, k13⟩ := rcells_of HB.out; simp only [bksV_length] at k10)
        go_wp2_with fail
        go_still_tail 5, (by kernel_rfl)
        change wpList _ _ _ _ _ w5.drew
        have HQ := Lib.hid (f_addr G g (k * 3 + 1) _ _ _ _ _ w5.drew HR.out.drew (.inr (Nat.le_of_lt HGG.out)) HG.out (by rw [BB_size]; have := hlt; simp [bksV_length] <;> omega))
        have hset := BB_set (bksV 3 k (nxtX 1 xs)) (List.replicate (N - (k + 1)) zK) ⟨(valN 2 (nxtX (1 + k * bkW 3) xs) : Nat), 0, 0⟩ ⟨(valN 2 (nxtX (1 + k * bkW 3) xs) : Nat), (valN 4 (nxtX 2 (nxtX (1 + k * bkW 3) xs)) : Nat), 0⟩ 1 (by decide) (.int .u32 (valN 4 (nxtX 2 (nxtX (1 + k * bkW 3) xs)) : Nat)) rfl
        rw [bksV_length] at hset
        rw [hset] at HQ
        clear hset
        skip
        go_wp2_with (go_at_call 84; (with_reducible refine HQ.out.mono ?_); rintro e w6 ⟨rfl, h1, h2, h3⟩; have t9 := ((Touch.refl w5 _).drew).trans h3 (fun _ _ h => h); have HR := Lib.hid h1; have HG := Lib.hid h2; have HB := Lib.hid (t9.keeps HB.out (fun h => by have := HRN.out; have := HGG.out; omega)); have HC := Lib.hid (t9.keeps HC.out (fun h => by have := HRN.out; have := HGG.out; omega)); have HT := Lib.hid (HT.out.trans t9 (fun k hk h => by have := HGG.out; rcases h with h | h; exact Or.inl h; omega)); clear t9 h1 h2 h3 k0 k1 k2 k3 k4 k5 k6 k7 k8 k9 k10 k11 k12 k13 m0 m1 m2 m3 m4 m5; obtain ⟨m0, m1, m2, m3, m4, m5⟩ := rdcells_of HC.out; obtain ⟨k0, k1, k2, k3, k4, k5, k6, k7, k8, k9, k10, k11, k12, k13⟩ := rcells_of HB.out; simp only [bksV_length] at k10)
        rw [show nxtE 4 (nxtX 2 (nxtX (1 + k * bkW 3) xs)) (nxtE 2 (nxtX (1 + k * bkW 3) xs) (nxtE (1 + k * bkW 3) xs err)) = nxtE 6 (nxtX (1 + k * bkW 3) xs) (nxtE (1 + k * bkW 3) xs err) from nxtE_nxtE 4 2 _ _, show nxtX 4 (nxtX 2 (nxtX (1 + k * bkW 3) xs)) = nxtX 6 (nxtX (1 + k * bkW 3) xs) from nxtX_nxtX 4 2 _] at HR
        go_wp2_with fail
        go_still_tail 5, (by kernel_rfl)
        change wpList _ _ _ _ _ w6.drew
        have HQ := Lib.hid (f_u8 G g (k * 3 + 2) _ _ _ _ _ w6.drew HR.out.drew (.inr (Nat.le_of_lt HGG.out)) HG.out (by rw [BB_size]; have := hlt; simp [bksV_length] <;> omega))
        have hset := BB_set (bksV 3 k (nxtX 1 xs)) (List.replicate (N - (k + 1)) zK) ⟨(valN 2 (nxtX (1 + k * bkW 3) xs) : Nat), (valN 4 (nxtX 2 (nxtX (1 + k * bkW 3) xs)) : Nat), 0⟩ ⟨(valN 2 (nxtX (1 + k * bkW 3) xs) : Nat), (valN 4 (nxtX 2 (nxtX (1 + k * bkW 3) xs)) : Nat), (valN 1 (nxtX 6 (nxtX (1 + k * bkW 3) xs)) : Nat)⟩ 2 (by decide) (.int .i64 (valN 1 (nxtX 6 (nxtX (1 + k * bkW 3) xs)) : Nat)) rfl
        rw [bksV_length] at hset
        rw [hset] at HQ
        clear hset
        skip
        go_wp2_with (go_at_call 81; (with_reducible refine HQ.out.mono ?_); rintro e w7 ⟨rfl, h1, h2, h3⟩; have t9 := ((Touch.refl w6 _).drew).trans h3 (fun _ _ h => h); have HR := Lib.hid h1; have HG := Lib.hid h2; have HB := Lib.hid (t9.keeps HB.out (fun h => by have := HRN.out; have := HGG.out; omega)); have HC := Lib.hid (t9.keeps HC.out (fun h => by have := HRN.out; have := HGG.out; omega)); have HT := Lib.hid (HT.out.trans t9 (fun k hk h => by have := HGG.out; rcases h with h | h; exact Or.inl h; omega)); clear t9 h1 h2 h3 k0 k1 k2 k3 k4 k5 k6 k7 k8 k9 k10 k11 k12 k13 m0 m1 m2 m3 m4 m5; obtain ⟨m0, m1, m2, m3, m4, m5⟩ := rdcells_of HC.out; obtain ⟨k0, k1, k2, k3, k4, k5, k6, k7, k8, k9, k10, k11, k12, k13⟩ := rcells_of HB.out; simp only [bksV_length] at k10)
        rw [show nxtE 1 (nxtX 6 (nxtX (1 + k * bkW 3) xs)) (nxtE 6 (nxtX (1 + k * bkW 3) xs) (nxtE (1 + k * bkW 3) xs err)) = nxtE 7 (nxtX (1 + k * bkW 3) xs) (nxtE (1 + k * bkW 3) xs err) from nxtE_nxtE 1 6 _ _, show nxtX 1 (nxtX 6 (nxtX (1 + k * bkW 3) xs)) = nxtX 7 (nxtX (1 + k * bkW 3) xs) from nxtX_nxtX 1 6 _] at HR

        go_wp2
        go_roundw
        case rel =>
          refine ⟨k + 1, hlt, by go_num, ?_, HB.out, HC.out, ?_, HT.out⟩
          · have hr := HR.out
            rw [nxtX_nxtX, nxtE_nxtE] at hr
            have e : 1 + k * bkW 3 + 7 = 1 + (k + 1) * bkW 3 := by rw [Nat.add_mul, show bkW 3 = 7 from rfl]; omega
            simp only [Nat.add_assoc] at hr e ⊢
            rwa [e] at hr
          · have hg := HG.out
            rw [bksV_snoc, List.append_assoc]
            have e : bkV 3 (nxtX (k * bkW 3) (nxtX 1 xs)) = ⟨(valN 2 (nxtX (1 + k * bkW 3) xs) : Nat), (valN 4 (nxtX 2 (nxtX (1 + k * bkW 3) xs)) : Nat), (valN 1 (nxtX 6 (nxtX (1 + k * bkW 3) xs)) : Nat)⟩ := by
              rw [nxtX_nxtX]; rfl
            rw [e]
            exact hg
        case measure => simp [intOf]; omega
theorem rbacks_any (G R : Nat) (D : Nat → Prop) (xs : List Nat) (err : Int) (r : RecD) (v : Int) (hv : v = 1 ∨ v = 2 ∨ v = 3) (w : World) (h : RdD w G D xs err) (hD : D R) (hr : w.heap[R]? = some (.cells (rcs r none 0) 29 (0, 0))) (hbs : r.bs = []) :
    Calls Try.prog 79 #[.agg (rdC G), .pointer (some ⟨R, 0, none⟩), .int .i64 v] w (BacksR w G R D xs err r v) := by
  rcases hv with rfl | rfl | rfl
  · exact rbacks_v1 G R D xs err r w h hD hr hbs
  · exact rbacks_v2 G R D xs err r w h hD hr hbs
  · exact rbacks_v3 G R D xs err r w h hD hr hbs
end Go.Proofs.Ytbklngcocbnijaa
