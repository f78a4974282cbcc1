/- FlowsOrder answers true for any flows. -/
import Derived.Test.YtgmimdnebgncoaaFlowsApartZ
import Derived.Test.YtgmimdnebgncoaaFlowRLessZ
import Derived.Test.YtgmimdnebgncoaaCalmBZ
import Derived.Test.YtgmimdnebgncoaaFrFlowsOrderZ
import Derived.Deep.DeepCutAuto
set_option linter.unusedVariables false
set_option linter.unusedSimpArgs false
namespace Go.Proofs.Ytgmimdnebgncoaa
open Go.RowKit

theorem enter_rless (a b : Value) (w : World) : (callFunc 22 #[a, b]).run Try.prog w = .ok (.enter 22 #[a, b]) w := by kernel_rfl
/-- A backend is among those of the flows. -/
def occ (K : List FlD) (b : Int) : Bool := K.any (fun g => decide (g.fb = b))
/-- So many flows are of these backends. -/
def cntF (M K : List FlD) : Nat := (M.filter (fun x => occ K x.fb)).length
theorem cnt_nil (M : List FlD) : cntF M [] = 0 := by
  unfold cntF occ
  simp
theorem cnt_le (M K : List FlD) : cntF M K ≤ M.length := List.length_filter_le ..
theorem occ_add (K : List FlD) (x : FlD) (b : Int) : occ (K ++ [x]) b = (occ K b || decide (x.fb = b)) := by
  unfold occ
  simp
theorem cnt_all {M L : List FlD} (h : L.Perm M) : cntF M L = L.length := by
  unfold cntF
  rw [h.length_eq, List.filter_eq_self.2]
  intro x hx
  unfold occ
  rw [List.any_eq_true]
  exact ⟨x, h.mem_iff.2 hx, by simp⟩
theorem cnt_again {M K : List FlD} {x : FlD} (h : occ K x.fb = true) : cntF M (K ++ [x]) = cntF M K := by
  unfold cntF
  congr 1
  refine List.filter_congr fun y _ => ?_
  rw [occ_add]
  by_cases e : x.fb = y.fb
  · rw [← e, h]; rfl
  · simp [e]
theorem cnt_first {K : List FlD} {x : FlD} (h : occ K x.fb = false) : ∀ M : List FlD, cntF M (K ++ [x]) = cntF M K + (M.filter (isOf x.fb)).length
  | [] => rfl
  | y :: M => by
    have ih := cnt_first h M
    unfold cntF at ih ⊢
    rw [List.filter_cons, List.filter_cons, List.filter_cons, occ_add]
    by_cases e : y.fb = x.fb
    · have e1 : isOf x.fb y = true := decide_eq_true e
      have e2 : occ K y.fb = false := by rw [e]; exact h
      rw [e1, e2]
      simp [e]
      omega
    · have e1 : isOf x.fb y = false := decide_eq_false e
      have e3 : decide (x.fb = y.fb) = false := decide_eq_false (fun h => e h.symm)
      rw [e1, e3, Bool.or_false]
      cases occ K y.fb <;> simp <;> omega
theorem take_gf (L : List FlD) (i : Nat) (h : i < L.length) : L.take (i + 1) = L.take i ++ [gf L i] := by
  rw [List.take_add_one, List.getElem?_eq_getElem h, gf_get L i h]; rfl
theorem strict_at {L : List FlD} (h : StrictF L) (p : Nat) (hp : p + 1 < L.length) : lessT (gf L p).t (gf L (p + 1)).t = true := by
  rw [gf_get L p (by omega), gf_get L (p + 1) hp]
  exact List.pairwise_iff_getElem.1 h p (p + 1) (by omega) hp (by omega)
set_option maxRecDepth 20000 in
set_option maxHeartbeats 24000000 in
theorem order11_walk (w : World) (a0 : Option Addr) (cap : Nat) (l : List FlD) (hr : RowS w a0 l.length cap 8 (l.map fcl)) (hok : ∀ f ∈ l, FlOk f) :
    Calls Try.prog 6 #[.slice a0 l.length cap] w fun e w' => e = .returned (.bool true) ∧ Below w.heap.size w w' := by
  obtain ⟨n, hn⟩ : ∃ n, l.length = n := ⟨_, rfl⟩
  rw [hn] at hr ⊢
  have hcap := hr.hcap
  have hmax := hr.hmax
  have HR := Lib.hid hr
  have HOK := Lib.hid hok
  clear hr hok
  go_enter Try.func6, Try.ntmps6
  go_wp2_with fail
  refine (fnew_any w 100 10).mono ?_
  rintro e w0 ⟨g, h, rfl, q0, t0, f0⟩
  rw [show min (max (100 : Int) 0) 256 = 100 by decide, show min (max (10 : Int) 1) 1099511627776 = 10 by decide] at q0
  have N0 := Lib.hid (FN.mk q0 t0 f0)
  clear q0 t0 f0
  go_wp2_with fail
  go_loopw [16] (fun s16 wr => ∃ (k : Nat) (h : FH) (M : List FlD), k ≤ n ∧ s16 = .int .i64 k ∧ FN w wr g h 100 10 M) (fun s16 _ => n - (RowKit.intOf s16).toNat)
  case atStart => exact ⟨0, h, [], Nat.zero_le _, rfl, N0.out⟩
  case round =>
    obtain ⟨k, h, M, hkn, rfl, hq⟩ := hrel
    have HQ := Lib.hid hq
    clear hq N0
    by_cases hlt : k < n
    case neg =>
      obtain rfl : n = k := by omega
      have HA := Lib.hid (fall_any wr g h 100 10 M HQ.out.q)
      have hM := HQ.out.q.len.1
      go_wp2_with fail
      (with_reducible refine HA.out.mono ?_)
      rintro e w3 ⟨a1, c1, L, rfl, hp1, hs1, ho1, t3⟩
      have HN3 := Lib.hid (HQ.out.still t3)
      have hL := hp1.length_eq
      obtain ⟨m, hm⟩ : ∃ m, L.length = m := ⟨_, rfl⟩
      rw [hm] at ho1 hL ⊢
      have hm1 : m ≤ 100 := by omega
      have hcp := ho1.row'.2.1.hcap
      have hmx := ho1.row'.2.1.hmax
      have HL := Lib.hid (And.intro hp1 hs1)
      have HRW := Lib.hid ho1.row'.2.1
      have HM := Lib.hid hm
      have HLM := Lib.hid hL
      clear hp1 hs1 ho1 t3 hm hL hM HA
      go_wp2_with fail
      go_loopw [7, 31] (fun s7 s31 wr => ∃ i : Nat, i ≤ m ∧ s31 = .int .i64 i ∧ s7 = .int .i64 (cntF M (L.take i)) ∧ Touch w3 wr (fun _ => False)) (fun _ s31 _ => m - (RowKit.intOf s31).toNat)
      case atStart => exact ⟨0, Nat.zero_le _, rfl, by rw [List.take_zero, cnt_nil]; rfl, Touch.refl _ _⟩
      case round =>
        obtain ⟨i, him, rfl, rfl, ht⟩ := hrel
        have HT := Lib.hid ht
        clear ht
        by_cases hli : i < m
        case neg =>
          obtain rfl : m = i := by omega
          have hn4 := HN3.out.still HT.out
          have hcm : cntF M (L.take m) = m := by rw [← HM.out, List.take_length, cnt_all HL.out.1]
          have hlen := flen_any wr g h 100 10 M hn4.q
          rw [← HLM.out] at hlen
          have HLEN := Lib.hid hlen
          have HT4 := Lib.hid hn4.t
          rw [hcm]
          clear hn4 hlen hcm
          go_wp2_with fail
          (with_reducible refine HLEN.out.mono ?_)
          rintro e w' ⟨rfl, rfl⟩
          go_wp2_with fail
          refine (awake11 wr).mono ?_
          rintro e w10 ⟨rfl, t10⟩
          have HT10 := Lib.hid (HT4.out.trans t10 (fun _ _ h => h))
          clear t10
          go_wp2_with fail
          go_ret
          exact ⟨rfl, HT10.out.below (fun _ _ h => h.elim) (Nat.le_refl _)⟩
        case pos =>
          have HRX := Lib.hid (HRW.out.still HT.out)
          obtain ⟨B, off, rfl⟩ := HRX.out.some (by omega)
          obtain ⟨d0, d1, d2, d3, d4, d5, d6, d7⟩ := flow_cells HRX.out i (by rw [HM.out]; exact hli)
          obtain ⟨x, hx⟩ : ∃ x, gf L i = x := ⟨_, rfl⟩
          rw [hx] at d0 d1 d2 d3 d4 d5 d6 d7
          have HX := Lib.hid hx
          obtain ⟨W2, hW2⟩ : ∃ W, wr.alloc (.cells (fca x) 26) = W := ⟨_, rfl⟩
          have t2 : Touch wr W2 (fun _ => False) := hW2 ▸ (Touch.refl wr _).alloc _
          have g2 : W2.heap[wr.heap.size]? = some (.cells (fca x) 26 (0, 0)) := hW2 ▸ heap_alloc_new ..
          obtain ⟨bx, hbx⟩ : ∃ b, wr.heap.size = b := ⟨_, rfl⟩
          rw [hbx] at g2
          have HBX := Lib.hid hbx
          have HG2 := Lib.hid g2
          have HT2 := Lib.hid (HT.out.trans t2 (fun _ _ h => h))
          have HW2 := Lib.hid hW2
          have hlI : (i : Int) < m := by omega
          have iI : (i : Int) ≤ 100 := by omega
          have hcl : cntF M (L.take i) ≤ 100 := by have := cnt_le M (L.take i); have := HLM.out; omega
          have hclI : (cntF M (L.take i) : Int) ≤ 100 := by omega
          obtain ⟨C, hC⟩ : ∃ C, cntF M (L.take i) = C := ⟨_, rfl⟩
          rw [hC] at hcl hclI ⊢
          have HCN := Lib.hid hC
          clear t2 g2 hW2 hx hbx hC
          simp only [fca] at HW2
          go_upto_region 13 with (fail)
          rw [HW2.out, HBX.out]
          clear d0 d1 d2 d3 d4 d5 d6 d7
          -- the order of two neighbours
          go_cut [49] (fun s49 wx => s49 = .bool false ∧ Touch W2 wx (fun _ => False))
          case first =>
            rcases Nat.eq_zero_or_pos i with hi0 | hi0
            · subst hi0
              go_wp2_with fail
              have hS := (Touch.refl W2 (fun _ => False)).drew
              refine wp_region_sched (fun w' => Touch W2 w' (fun _ => False)) [(0, true), (1, true), (2, true), (3, true), (4, true), (5, true), (6, true), (7, true), (8, true), (9, true), (10, true), (11, false), (12, true), (13, true)] (by kernel_rfl) (by kernel_rfl) rfl (by kernel_rfl) hS ?_
              (refine walkS_take (v := ?_) (some 36) rfl rfl (fun _ _ _ h => h) (by rfl) ?_ ?_; rotate_left; (focus (intro w' hw'; go_simp; (try with_reducible rfl))); (try simp only [Act.put, List.setIfInBounds_toArray, List.set_cons_zero, List.set_cons_succ]))
              (refine walkS_take (v := ?_) (some 37) rfl rfl (fun _ _ _ h => h) (by rfl) ?_ ?_; rotate_left; (focus (intro w' hw'; go_simp; (try with_reducible rfl))); (try simp only [Act.put, List.setIfInBounds_toArray, List.set_cons_zero, List.set_cons_succ]))
              (refine walkS_take (v := ?_) (some 38) rfl rfl (fun _ _ _ h => h) (by rfl) ?_ ?_; rotate_left; (focus (intro w' hw'; go_simp; (try with_reducible rfl))); (try simp only [Act.put, List.setIfInBounds_toArray, List.set_cons_zero, List.set_cons_succ]))
              first | (refine walkS_skip (some 39) rfl rfl (by rfl) (fun _ _ _ h => h) hS ?_; (try simp only [Act.put, List.setIfInBounds_toArray, List.set_cons_zero, List.set_cons_succ])) | (refine walkS_take (v := ?_) (some 39) rfl rfl (fun _ _ _ h => h) (by rfl) ?_ ?_; rotate_left; (focus (intro w' hw'; go_simp; (try with_reducible rfl))); (try simp only [Act.put, List.setIfInBounds_toArray, List.set_cons_zero, List.set_cons_succ]))
              first | (refine walkS_skip (some 40) rfl rfl (by rfl) (fun _ _ _ h => h) hS ?_; (try simp only [Act.put, List.setIfInBounds_toArray, List.set_cons_zero, List.set_cons_succ])) | (refine walkS_take (v := ?_) (some 40) rfl rfl (fun _ _ _ h => h) (by rfl) ?_ ?_; rotate_left; (focus (intro w' hw'; go_simp; (try with_reducible rfl))); (try simp only [Act.put, List.setIfInBounds_toArray, List.set_cons_zero, List.set_cons_succ]))
              first | (refine walkS_skip (some 41) rfl rfl (by rfl) (fun _ _ _ h => h) hS ?_; (try simp only [Act.put, List.setIfInBounds_toArray, List.set_cons_zero, List.set_cons_succ])) | (refine walkS_take (v := ?_) (some 41) rfl rfl (fun _ _ _ h => h) (by rfl) ?_ ?_; rotate_left; (focus (intro w' hw'; go_simp; (try with_reducible rfl))); (try simp only [Act.put, List.setIfInBounds_toArray, List.set_cons_zero, List.set_cons_succ]))
              first | (refine walkS_skip (some 42) rfl rfl (by rfl) (fun _ _ _ h => h) hS ?_; (try simp only [Act.put, List.setIfInBounds_toArray, List.set_cons_zero, List.set_cons_succ])) | (refine walkS_take (v := ?_) (some 42) rfl rfl (fun _ _ _ h => h) (by rfl) ?_ ?_; rotate_left; (focus (intro w' hw'; go_simp; (try with_reducible rfl))); (try simp only [Act.put, List.setIfInBounds_toArray, List.set_cons_zero, List.set_cons_succ]))
              first | (refine walkS_skip (some 43) rfl rfl (by rfl) (fun _ _ _ h => h) hS ?_; (try simp only [Act.put, List.setIfInBounds_toArray, List.set_cons_zero, List.set_cons_succ])) | (refine walkS_take (v := ?_) (some 43) rfl rfl (fun _ _ _ h => h) (by rfl) ?_ ?_; rotate_left; (focus (intro w' hw'; go_simp; (try with_reducible rfl))); (try simp only [Act.put, List.setIfInBounds_toArray, List.set_cons_zero, List.set_cons_succ]))
              first | (refine walkS_skip (some 44) rfl rfl (by rfl) (fun _ _ _ h => h) hS ?_; (try simp only [Act.put, List.setIfInBounds_toArray, List.set_cons_zero, List.set_cons_succ])) | (refine walkS_take (v := ?_) (some 44) rfl rfl (fun _ _ _ h => h) (by rfl) ?_ ?_; rotate_left; (focus (intro w' hw'; go_simp; (try with_reducible rfl))); (try simp only [Act.put, List.setIfInBounds_toArray, List.set_cons_zero, List.set_cons_succ]))
              first | (refine walkS_skip (some 45) rfl rfl (by rfl) (fun _ _ _ h => h) hS ?_; (try simp only [Act.put, List.setIfInBounds_toArray, List.set_cons_zero, List.set_cons_succ])) | (refine walkS_take (v := ?_) (some 45) rfl rfl (fun _ _ _ h => h) (by rfl) ?_ ?_; rotate_left; (focus (intro w' hw'; go_simp; (try with_reducible rfl))); (try simp only [Act.put, List.setIfInBounds_toArray, List.set_cons_zero, List.set_cons_succ]))
              first | (refine walkS_skip (some 46) rfl rfl (by rfl) (fun _ _ _ h => h) hS ?_; (try simp only [Act.put, List.setIfInBounds_toArray, List.set_cons_zero, List.set_cons_succ])) | (refine walkS_take (v := ?_) (some 46) rfl rfl (fun _ _ _ h => h) (by rfl) ?_ ?_; rotate_left; (focus (intro w' hw'; go_simp; (try with_reducible rfl))); (try simp only [Act.put, List.setIfInBounds_toArray, List.set_cons_zero, List.set_cons_succ]))
              first | (refine walkS_skip (some 47) rfl rfl (by rfl) (fun _ _ _ h => h) hS ?_; (try simp only [Act.put, List.setIfInBounds_toArray, List.set_cons_zero, List.set_cons_succ])) | (refine walkS_call 47 _ _ _ _ (rless4_any noT noT _) rfl rfl rfl (by rfl) rfl (enter_rless _ _ _) ?_; rintro e w6 ⟨rfl, t6⟩; refine ⟨_, rfl, hS.trans t6 (fun _ _ h => h), fun hS => ?_⟩; clear t6; (try simp only [Act.put, List.setIfInBounds_toArray, List.set_cons_zero, List.set_cons_succ]))
              first | (refine walkS_skip (some 48) rfl rfl (by rfl) (fun _ _ _ h => h) hS ?_; (try simp only [Act.put, List.setIfInBounds_toArray, List.set_cons_zero, List.set_cons_succ])) | (refine walkS_take (v := ?_) (some 48) rfl rfl (fun _ _ _ h => h) (by rfl) ?_ ?_; rotate_left; (focus (intro w' hw'; go_simp; (try with_reducible rfl))); (try simp only [Act.put, List.setIfInBounds_toArray, List.set_cons_zero, List.set_cons_succ]))
              (refine walkS_take (v := ?_) (some 49) rfl rfl (fun _ _ _ h => h) (by rfl) ?_ ?_; rotate_left; (focus (intro w' hw'; go_simp; (try with_reducible rfl))); (try simp only [Act.put, List.setIfInBounds_toArray, List.set_cons_zero, List.set_cons_succ]))
              refine walkS_done ?_
              go_wp2_with fail
              go_meet
              exact ⟨rfl, hS⟩
            · obtain ⟨p, rfl⟩ : ∃ p, i = p + 1 := ⟨i - 1, by omega⟩
              have HST := Lib.hid (strict_at HL.out.2 p (by rw [HM.out]; omega))
              obtain ⟨z, hz⟩ : ∃ z, gf L p = z := ⟨_, rfl⟩
              have HZC : RowKit.Hid (∀ W', Touch W2 W' (fun _ => False) → W'.cell? ⟨B, off + p * 8, none⟩ = some (.int .u32 z.t.src) ∧ W'.cell? ⟨B, off + p * 8 + 1, none⟩ = some (.int .u32 z.t.dst) ∧ W'.cell? ⟨B, off + p * 8 + 2, none⟩ = some (.int .i64 z.t.proto) ∧ W'.cell? ⟨B, off + p * 8 + 3, none⟩ = some (.int .i64 z.t.sport) ∧ W'.cell? ⟨B, off + p * 8 + 4, none⟩ = some (.int .i64 z.t.dport) ∧
                  W'.cell? ⟨bx, 0, none⟩ = some (.int .u32 x.t.src) ∧ W'.cell? ⟨bx, 1, none⟩ = some (.int .u32 x.t.dst) ∧ W'.cell? ⟨bx, 2, none⟩ = some (.int .i64 x.t.proto) ∧ W'.cell? ⟨bx, 3, none⟩ = some (.int .i64 x.t.sport) ∧ W'.cell? ⟨bx, 4, none⟩ = some (.int .i64 x.t.dport)) := Lib.hid (fun W' t => by
                obtain ⟨e0, e1, e2, e3, e4, e5, e6, e7⟩ := flow_cells (HRW.out.still (HT2.out.trans t (fun _ _ h => h))) p (by rw [HM.out]; omega)
                obtain ⟨x0, x1, x2, x3, x4, x5, x6, x7⟩ := fcells_of (t.keeps HG2.out (fun h => h))
                rw [hz] at e0 e1 e2 e3 e4
                exact ⟨e0, e1, e2, e3, e4, x0, x1, x2, x3, x4⟩)
              have HLS : RowKit.Hid (∀ X, Calls Try.prog 22 #[.agg #[.int .u32 z.t.src, .int .u32 z.t.dst, .int .i64 z.t.proto, .int .i64 z.t.sport, .int .i64 z.t.dport], .agg #[.int .u32 x.t.src, .int .u32 x.t.dst, .int .i64 x.t.proto, .int .i64 x.t.sport, .int .i64 x.t.dport]] X fun e w' => e = .returned (.bool true) ∧ Touch X w' (fun _ => False)) := Lib.hid (fun X => by
                have h1 := rless4_any z.t x.t X
                rw [show lessT z.t x.t = true by rw [← hz, ← HX.out]; exact HST.out] at h1
                exact h1)
              clear hz
              have p1 : ((p + 1 : Nat) : Int) = (p : Int) + 1 := by omega
              have pI : (p : Int) ≤ 100 := by omega
              have p0 : (0 : Int) < (p : Int) + 1 := by omega
              have pm : (p : Int) < m := by omega
              have pw : IntKind.i64.wrap (p : Int) = (p : Int) := by simp [IntKind.wrap, IntKind.bits, IntKind.signed]; omega
              go_wp2_with fail
              have hS := (Touch.refl W2 (fun _ => False)).drew
              refine wp_region_sched (fun w' => Touch W2 w' (fun _ => False)) [(0, true), (1, true), (2, true), (3, true), (4, true), (5, true), (6, true), (7, true), (8, true), (9, true), (10, true), (11, false), (12, true), (13, true)] (by kernel_rfl) (by kernel_rfl) rfl (by kernel_rfl) hS ?_
              (refine walkS_take (v := ?_) (some 36) rfl rfl (fun _ _ _ h => h) (by rfl) ?_ ?_; rotate_left; (focus (intro w' hw'; obtain ⟨c0, c1, c2, c3, c4, c5, c6, c7, c8, c9⟩ := HZC.out w' hw'; go_simp; (try with_reducible rfl))); (try simp only [Act.put, List.setIfInBounds_toArray, List.set_cons_zero, List.set_cons_succ]))
              (refine walkS_take (v := ?_) (some 37) rfl rfl (fun _ _ _ h => h) (by rfl) ?_ ?_; rotate_left; (focus (intro w' hw'; obtain ⟨c0, c1, c2, c3, c4, c5, c6, c7, c8, c9⟩ := HZC.out w' hw'; go_simp; (try with_reducible rfl))); (try simp only [Act.put, List.setIfInBounds_toArray, List.set_cons_zero, List.set_cons_succ]))
              (refine walkS_take (v := ?_) (some 38) rfl rfl (fun _ _ _ h => h) (by rfl) ?_ ?_; rotate_left; (focus (intro w' hw'; obtain ⟨c0, c1, c2, c3, c4, c5, c6, c7, c8, c9⟩ := HZC.out w' hw'; go_simp; (try with_reducible rfl))); (try simp only [Act.put, List.setIfInBounds_toArray, List.set_cons_zero, List.set_cons_succ]))
              first | (refine walkS_skip (some 39) rfl rfl (by rfl) (fun _ _ _ h => h) hS ?_; (try simp only [Act.put, List.setIfInBounds_toArray, List.set_cons_zero, List.set_cons_succ])) | (refine walkS_take (v := ?_) (some 39) rfl rfl (fun _ _ _ h => h) (by rfl) ?_ ?_; rotate_left; (focus (intro w' hw'; obtain ⟨c0, c1, c2, c3, c4, c5, c6, c7, c8, c9⟩ := HZC.out w' hw'; go_simp; (try with_reducible rfl))); (try simp only [Act.put, List.setIfInBounds_toArray, List.set_cons_zero, List.set_cons_succ]))
              first | (refine walkS_skip (some 40) rfl rfl (by rfl) (fun _ _ _ h => h) hS ?_; (try simp only [Act.put, List.setIfInBounds_toArray, List.set_cons_zero, List.set_cons_succ])) | (refine walkS_take (v := ?_) (some 40) rfl rfl (fun _ _ _ h => h) (by rfl) ?_ ?_; rotate_left; (focus (intro w' hw'; obtain ⟨c0, c1, c2, c3, c4, c5, c6, c7, c8, c9⟩ := HZC.out w' hw'; go_simp; (try with_reducible rfl))); (try simp only [Act.put, List.setIfInBounds_toArray, List.set_cons_zero, List.set_cons_succ]))
              first | (refine walkS_skip (some 41) rfl rfl (by rfl) (fun _ _ _ h => h) hS ?_; (try simp only [Act.put, List.setIfInBounds_toArray, List.set_cons_zero, List.set_cons_succ])) | (refine walkS_take (v := ?_) (some 41) rfl rfl (fun _ _ _ h => h) (by rfl) ?_ ?_; rotate_left; (focus (intro w' hw'; obtain ⟨c0, c1, c2, c3, c4, c5, c6, c7, c8, c9⟩ := HZC.out w' hw'; go_simp; (try with_reducible rfl))); (try simp only [Act.put, List.setIfInBounds_toArray, List.set_cons_zero, List.set_cons_succ]))
              first | (refine walkS_skip (some 42) rfl rfl (by rfl) (fun _ _ _ h => h) hS ?_; (try simp only [Act.put, List.setIfInBounds_toArray, List.set_cons_zero, List.set_cons_succ])) | (refine walkS_take (v := ?_) (some 42) rfl rfl (fun _ _ _ h => h) (by rfl) ?_ ?_; rotate_left; (focus (intro w' hw'; obtain ⟨c0, c1, c2, c3, c4, c5, c6, c7, c8, c9⟩ := HZC.out w' hw'; go_simp; (try with_reducible rfl))); (try simp only [Act.put, List.setIfInBounds_toArray, List.set_cons_zero, List.set_cons_succ]))
              first | (refine walkS_skip (some 43) rfl rfl (by rfl) (fun _ _ _ h => h) hS ?_; (try simp only [Act.put, List.setIfInBounds_toArray, List.set_cons_zero, List.set_cons_succ])) | (refine walkS_take (v := ?_) (some 43) rfl rfl (fun _ _ _ h => h) (by rfl) ?_ ?_; rotate_left; (focus (intro w' hw'; obtain ⟨c0, c1, c2, c3, c4, c5, c6, c7, c8, c9⟩ := HZC.out w' hw'; go_simp; (try with_reducible rfl))); (try simp only [Act.put, List.setIfInBounds_toArray, List.set_cons_zero, List.set_cons_succ]))
              first | (refine walkS_skip (some 44) rfl rfl (by rfl) (fun _ _ _ h => h) hS ?_; (try simp only [Act.put, List.setIfInBounds_toArray, List.set_cons_zero, List.set_cons_succ])) | (refine walkS_take (v := ?_) (some 44) rfl rfl (fun _ _ _ h => h) (by rfl) ?_ ?_; rotate_left; (focus (intro w' hw'; obtain ⟨c0, c1, c2, c3, c4, c5, c6, c7, c8, c9⟩ := HZC.out w' hw'; go_simp; (try with_reducible rfl))); (try simp only [Act.put, List.setIfInBounds_toArray, List.set_cons_zero, List.set_cons_succ]))
              first | (refine walkS_skip (some 45) rfl rfl (by rfl) (fun _ _ _ h => h) hS ?_; (try simp only [Act.put, List.setIfInBounds_toArray, List.set_cons_zero, List.set_cons_succ])) | (refine walkS_take (v := ?_) (some 45) rfl rfl (fun _ _ _ h => h) (by rfl) ?_ ?_; rotate_left; (focus (intro w' hw'; obtain ⟨c0, c1, c2, c3, c4, c5, c6, c7, c8, c9⟩ := HZC.out w' hw'; go_simp; (try with_reducible rfl))); (try simp only [Act.put, List.setIfInBounds_toArray, List.set_cons_zero, List.set_cons_succ]))
              first | (refine walkS_skip (some 46) rfl rfl (by rfl) (fun _ _ _ h => h) hS ?_; (try simp only [Act.put, List.setIfInBounds_toArray, List.set_cons_zero, List.set_cons_succ])) | (refine walkS_take (v := ?_) (some 46) rfl rfl (fun _ _ _ h => h) (by rfl) ?_ ?_; rotate_left; (focus (intro w' hw'; obtain ⟨c0, c1, c2, c3, c4, c5, c6, c7, c8, c9⟩ := HZC.out w' hw'; go_simp; (try with_reducible rfl))); (try simp only [Act.put, List.setIfInBounds_toArray, List.set_cons_zero, List.set_cons_succ]))
              first | (refine walkS_skip (some 47) rfl rfl (by rfl) (fun _ _ _ h => h) hS ?_; (try simp only [Act.put, List.setIfInBounds_toArray, List.set_cons_zero, List.set_cons_succ])) | (refine walkS_call 47 _ _ _ _ (HLS.out _) rfl rfl rfl (by rfl) rfl (enter_rless _ _ _) ?_; rintro e w6 ⟨rfl, t6⟩; refine ⟨_, rfl, hS.trans t6 (fun _ _ h => h), fun hS => ?_⟩; clear t6; (try simp only [Act.put, List.setIfInBounds_toArray, List.set_cons_zero, List.set_cons_succ]))
              first | (refine walkS_skip (some 48) rfl rfl (by rfl) (fun _ _ _ h => h) hS ?_; (try simp only [Act.put, List.setIfInBounds_toArray, List.set_cons_zero, List.set_cons_succ])) | (refine walkS_take (v := ?_) (some 48) rfl rfl (fun _ _ _ h => h) (by rfl) ?_ ?_; rotate_left; (focus (intro w' hw'; obtain ⟨c0, c1, c2, c3, c4, c5, c6, c7, c8, c9⟩ := HZC.out w' hw'; go_simp; (try with_reducible rfl))); (try simp only [Act.put, List.setIfInBounds_toArray, List.set_cons_zero, List.set_cons_succ]))
              (refine walkS_take (v := ?_) (some 49) rfl rfl (fun _ _ _ h => h) (by rfl) ?_ ?_; rotate_left; (focus (intro w' hw'; obtain ⟨c0, c1, c2, c3, c4, c5, c6, c7, c8, c9⟩ := HZC.out w' hw'; go_simp; (try with_reducible rfl))); (try simp only [Act.put, List.setIfInBounds_toArray, List.set_cons_zero, List.set_cons_succ]))
              refine walkS_done ?_
              go_wp2_with fail
              go_meet
              exact ⟨rfl, hS⟩
          case rest =>
            obtain ⟨rfl, hq5⟩ := hcut
            have HT5 := Lib.hid (HT2.out.trans hq5 (fun _ _ h => h))
            have HG5 := Lib.hid (hq5.keeps HG2.out (fun h => h))
            clear hq5
            obtain ⟨Wc, hWc⟩ : ∃ Wc, Wc = wc := ⟨_, rfl⟩
            subst hWc
            have hic : (i : Int) ≤ c1 := by omega
            go_wp2_with fail
            go_loopw [10, 54] (fun s10 s54 wr => ∃ j : Nat, j ≤ i ∧ s54 = .int .i64 j ∧ s10 = .bool (!occ (L.take j) x.fb) ∧ Touch Wc wr (fun _ => False)) (fun _ s54 _ => i - (RowKit.intOf s54).toNat)
            case atStart => exact ⟨0, Nat.zero_le _, rfl, rfl, Touch.refl _ _⟩
            case round =>
              obtain ⟨j, hji, rfl, rfl, htj⟩ := hrel
              have HTJ := Lib.hid htj
              obtain ⟨x0, x1, x2, x3, x4, x5, x6, x7⟩ := fcells_of (htj.keeps HG5.out (fun h => h))
              clear htj
              by_cases hlj : j < i
              case neg =>
                obtain rfl : i = j := by omega
                cases hoc : occ (L.take i) x.fb with
                | true =>
                  have HCA : RowKit.Hid (cntF M (L.take (i + 1)) = C) := Lib.hid (by rw [take_gf L i (by rw [HM.out]; exact hli), HX.out, cnt_again hoc, HCN.out])
                  rw [Bool.not_true]
                  clear hoc
                  go_wp2_with fail
                  go_roundw
                  · exact ⟨i + 1, by omega, by go_num, by rw [HCA.out], HT5.out.trans HTJ.out (fun _ _ h => h)⟩
                  · simp only [RowKit.intOf]; omega
                | false =>
                  have HCA : RowKit.Hid (cntF M (L.take (i + 1)) = C + (M.filter (isOf x.fb)).length) := Lib.hid (by rw [take_gf L i (by rw [HM.out]; exact hli), HX.out, cnt_first hoc, HCN.out])
                  have hn6 := HN3.out.still (HT5.out.trans HTJ.out (fun _ _ h => h))
                  have HOF := Lib.hid (fof_any wr g h 100 10 M hn6.q x.fb)
                  have hfl : (M.filter (isOf x.fb)).length ≤ 100 := by have := List.length_filter_le (isOf x.fb) M; have := HLM.out; omega
                  obtain ⟨Q, hQ⟩ : ∃ Q, (M.filter (isOf x.fb)).length = Q := ⟨_, rfl⟩
                  rw [hQ] at hfl HCA
                  have hflI : (Q : Int) ≤ 100 := by omega
                  have HQQ := Lib.hid hQ
                  rw [Bool.not_false]
                  clear hoc hn6 hQ
                  go_wp2_with (go_at_call 14; (with_reducible refine HOF.out.mono ?_); rintro e w7 ⟨a7, c7, L7, rfl, hp7, hs7, ho7, t7⟩; have hl7 := hp7.length_eq; rw [HQQ.out] at hl7; rw [hl7]; have HT7 := Lib.hid (HTJ.out.trans t7 (fun _ _ h => h)); clear hp7 hs7 ho7 t7 hl7)
                  go_roundw
                  · exact ⟨i + 1, by omega, by go_num, by rw [HCA.out]; congr 1, HT5.out.trans HT7.out (fun _ _ h => h)⟩
                  · simp only [RowKit.intOf]; omega
              case pos =>
                obtain ⟨d0, d1, d2, d3, d4, d5, d6, d7⟩ := flow_cells (HRW.out.still (HT5.out.trans HTJ.out (fun _ _ h => h))) j (by rw [HM.out]; omega)
                obtain ⟨y, hy⟩ : ∃ y, gf L j = y := ⟨_, rfl⟩
                rw [hy] at d0 d1 d2 d3 d4 d5 d6 d7
                obtain ⟨W7, hW7⟩ : ∃ W, wr.alloc (.cells (fca y) 26) = W := ⟨_, rfl⟩
                have t7 : Touch wr W7 (fun _ => False) := hW7 ▸ (Touch.refl wr _).alloc _
                have g7 : W7.heap[wr.heap.size]? = some (.cells (fca y) 26 (0, 0)) := hW7 ▸ heap_alloc_new ..
                have y5 : W7.cell? ⟨wr.heap.size, 5, none⟩ = some (.int .i64 y.fb) := cell_of_cells g7 5
                have z5 : W7.cell? ⟨bx, 5, none⟩ = some (.int .i64 x.fb) := cell_of_cells ((HTJ.out.trans t7 (fun _ _ h => h)).keeps HG5.out (fun h => h)) 5
                have HT7 := Lib.hid (HTJ.out.trans t7 (fun _ _ h => h))
                have HOC : RowKit.Hid (occ (L.take (j + 1)) x.fb = (occ (L.take j) x.fb || decide (y.fb = x.fb))) := Lib.hid (by rw [take_gf L j (by rw [HM.out]; omega), hy, occ_add])
                have HW7 := Lib.hid hW7
                have hjI : (j : Int) < i := by omega
                have hjJ : (j : Int) ≤ 100 := by omega
                obtain ⟨o, ho⟩ : ∃ o, occ (L.take j) x.fb = o := ⟨_, rfl⟩
                rw [ho] at HOC ⊢
                have HFIN : RowKit.Hid (∀ b : Bool, b = (!(o || decide (y.fb = x.fb))) → ∃ j' : Nat, j' ≤ i ∧ Value.int .i64 ((j : Int) + 1) = .int .i64 j' ∧ Value.bool b = .bool (!occ (L.take j') x.fb) ∧ Touch Wc W7 (fun _ => False)) := Lib.hid (fun b hb => ⟨j + 1, by omega, by go_num, by rw [HOC.out, hb], HT7.out⟩)
                clear t7 g7 hW7 hy ho
                simp only [fca] at HW7
                go_upto_region 19 with (fail)
                rw [HW7.out]
                clear d0 d1 d2 d3 d4 d5 d6 d7
                cases o with
                | true =>
                  rw [Bool.not_true]
                  go_wp2_with fail
                  go_roundw
                  · exact HFIN.out _ (by simp)
                  · simp only [RowKit.intOf]; omega
                | false =>
                  rw [Bool.not_false]
                  by_cases hb : y.fb = x.fb
                  · have hb2 : (y.fb == x.fb) = true := by simpa using hb
                    go_wp2_with fail
                    go_roundw
                    · exact HFIN.out _ (by simp [hb])
                    · simp only [RowKit.intOf]; omega
                  · have hb2 : (y.fb == x.fb) = false := beq_eq_false_iff_ne.2 hb
                    go_wp2_with fail
                    go_roundw
                    · exact HFIN.out _ (by simp [hb])
                    · simp only [RowKit.intOf]; omega
    case pos =>
      have HRX := Lib.hid (HR.out.still HQ.out.t)
      obtain ⟨gr, off, rfl⟩ := HRX.out.some (by omega)
      obtain ⟨d0, d1, d2, d3, d4, d5, d6, d7⟩ := flow_cells HRX.out k (by omega)
      have hfok := HOK.out _ (gf_mem l k (by omega))
      generalize gf l k = x at *
      obtain ⟨W2, hW2⟩ : ∃ W, wr.alloc (.cells (fca x) 26) = W := ⟨_, rfl⟩
      have t2 : Touch wr W2 (fun _ => False) := hW2 ▸ (Touch.refl wr _).alloc _
      have g2 : W2.heap[wr.heap.size]? = some (.cells (fca x) 26 (0, 0)) := hW2 ▸ heap_alloc_new ..
      have HQ2 := Lib.hid (HQ.out.still t2)
      obtain ⟨x0, x1, x2, x3, x4, x5, x6, x7⟩ := fcells_of g2
      have HW2 := Lib.hid hW2
      have HXO := Lib.hid hfok
      have hlI : (k : Int) < n := by omega
      have HEND : RowKit.Hid (∀ W (M' : List FlD) h', FN w W g h' 100 10 M' → ∃ (k' : Nat) (h : FH) (M : List FlD), k' ≤ n ∧ Value.int .i64 ((k : Int) + 1) = .int .i64 k' ∧ FN w W g h 100 10 M) := Lib.hid (fun W M' h' q => ⟨k + 1, h', M', by omega, by go_num, q⟩)
      clear t2 g2 hW2 hfok
      simp only [fca] at HW2
      go_upto_region 5 with (fail)
      rw [HW2.out]
      clear d0 d1 d2 d3 d4 d5 d6 d7
      by_cases h60 : k < 100
      case neg =>
        have h60' : ¬ (k : Int) < 100 := by omega
        go_wp2_with fail
        go_roundw
        · exact HEND.out _ _ _ HQ2.out
        · simp only [RowKit.intOf]; omega
      case pos =>
        have h60' : (k : Int) < 100 := by omega
        have HPU := Lib.hid (fput_any W2 g h 100 10 M HQ2.out.q x HXO.out.1)
        simp only [fca] at HPU
        go_wp2_with (go_at_call 9; (with_reducible refine HPU.out.mono ?_); rintro e w5 ⟨rfl, s5⟩; obtain ⟨h5, M5, p5, n5, f5, t5⟩ := HQ2.out.step s5; have HN5 := Lib.hid n5; clear s5 n5 f5 t5 p5)
        go_roundw
        · exact HEND.out _ _ _ HN5.out
        · simp only [RowKit.intOf]; omega
theorem flowsOrder_holds : Rows.FlowsOrderSaid := by
  refine flowsOrder.said fun H enc W base v0 d0 p0 h0 => ?_
  obtain ⟨a, cap, l, rfl, hr, hok⟩ := h0.flowsF
  exact order11_walk W a cap l hr hok
end Go.Proofs.Ytgmimdnebgncoaa
