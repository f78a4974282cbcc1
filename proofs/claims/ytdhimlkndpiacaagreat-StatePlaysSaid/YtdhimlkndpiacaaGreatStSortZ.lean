/- A view's flows sorted. -/
import Derived.Test.YtdhimlkndpiacaaGreatGMZ
import Derived.Test.YtdhimlkndpiacaaGreatStGetZ
set_option linter.unusedVariables false
set_option linter.unusedSimpArgs false
namespace Go.Proofs.YtdhimlkndpiacaaGreat
open Go.RowKit

set_option maxRecDepth 20000 in
set_option maxHeartbeats 4000000 in
theorem ltvw_any (v0 v1 v2 : Value) (W : World) (base B c bx : Nat) (d : Array FlD) (ho : OwnS W base 39 8 (.slice (some ⟨B, 0, none⟩) d.size c) (d.toList.map fcl)) (hb : W.heap[bx]? = some (.cells #[v0, v1, v2, .slice (some ⟨B, 0, none⟩) d.size c] 35 (0, 0))) (i j : Nat) (hi : i < d.size) (hj : j < d.size) :
    Calls Tryz.prog 44 #[.int .i64 i, .int .i64 j, .pointer (some ⟨bx, 0, none⟩)] W fun e w' => e = .returned (.bool (ltFl d[i]! d[j]!)) ∧ Touch W w' (fun _ => False) := by
  have hcap := ho.row'.2.1.hcap
  have hmax := ho.row'.2.1.hmax
  have HC : RowKit.Hid (∀ W', Touch W W' (fun _ => False) → W'.cell? ⟨bx, 3, none⟩ = some (.slice (some ⟨B, 0, none⟩) d.size c) ∧
      W'.cell? ⟨B, i * 8, none⟩ = some (.int .u32 d[i]!.t.src) ∧ W'.cell? ⟨B, i * 8 + 1, none⟩ = some (.int .u32 d[i]!.t.dst) ∧ W'.cell? ⟨B, i * 8 + 2, none⟩ = some (.int .i64 d[i]!.t.proto) ∧ W'.cell? ⟨B, i * 8 + 3, none⟩ = some (.int .i64 d[i]!.t.sport) ∧ W'.cell? ⟨B, i * 8 + 4, none⟩ = some (.int .i64 d[i]!.t.dport) ∧
      W'.cell? ⟨B, j * 8, none⟩ = some (.int .u32 d[j]!.t.src) ∧ W'.cell? ⟨B, j * 8 + 1, none⟩ = some (.int .u32 d[j]!.t.dst) ∧ W'.cell? ⟨B, j * 8 + 2, none⟩ = some (.int .i64 d[j]!.t.proto) ∧ W'.cell? ⟨B, j * 8 + 3, none⟩ = some (.int .i64 d[j]!.t.sport) ∧ W'.cell? ⟨B, j * 8 + 4, none⟩ = some (.int .i64 d[j]!.t.dport)) := Lib.hid (fun W' t => by
    have o := ho.still t
    exact ⟨cell_of_cells (t.keeps hb (fun h => h)) 3, own_at o i hi 0 _ rfl, own_at o i hi 1 _ rfl, own_at o i hi 2 _ rfl, own_at o i hi 3 _ rfl, own_at o i hi 4 _ rfl, own_at o j hj 0 _ rfl, own_at o j hj 1 _ rfl, own_at o j hj 2 _ rfl, own_at o j hj 3 _ rfl, own_at o j hj 4 _ rfl⟩)
  have hiI : (i : Int) < d.size := by omega
  have hjI : (j : Int) < d.size := by omega
  have HLS : RowKit.Hid (∀ X, Calls Tryz.prog 45 #[.agg #[.int .u32 d[i]!.t.src, .int .u32 d[i]!.t.dst, .int .i64 d[i]!.t.proto, .int .i64 d[i]!.t.sport, .int .i64 d[i]!.t.dport], .agg #[.int .u32 d[j]!.t.src, .int .u32 d[j]!.t.dst, .int .i64 d[j]!.t.proto, .int .i64 d[j]!.t.sport, .int .i64 d[j]!.t.dport]] X fun e w' => e = .returned (.bool (ltFl d[i]! d[j]!)) ∧ Touch X w' (fun _ => False)) := Lib.hid (fun X => less_any d[i]!.t d[j]!.t X)
  clear ho hb
  obtain ⟨n, hn⟩ : ∃ n, d.size = n := ⟨_, rfl⟩
  obtain ⟨x, hx⟩ : ∃ x, d[i]! = x := ⟨_, rfl⟩
  obtain ⟨y, hy⟩ : ∃ y, d[j]! = y := ⟨_, rfl⟩
  rw [hn, hx, hy] at HC
  rw [hx, hy] at HLS ⊢
  rw [hn] at hcap hiI hjI hi hj
  clear hx hy hn
  go_enter Tryz.func44, Tryz.ntmps44
  go_wp2_with fail
  have hS := (Touch.refl W (fun _ => False)).drew
  refine wp_region_tree (fun w' => Touch W w' (fun _ => False)) (.take 0 (.take 1 (.take 2 (.take 3 (.take 4 (.take 5 (.take 6 (.take 7 (.take 8 (.take 9 (.take 10 (.take 11 (.one 12 (.take 13 .fin)))))))))))))) (by kernel_rfl) (by kernel_rfl) (by kernel_rfl) (by kernel_rfl) hS ?_
  refine walkT_take ?_
  (refine takeN_take (v := ?_) (some 6) rfl rfl (fun _ _ _ h => h) (by rfl) ?_ ?_; rotate_left; (focus (intro w' hw'; obtain ⟨c0, c1, c2, c3, c4, c5, c6, c7, c8, c9, c10⟩ := HC.out w' hw'; go_simp; (try with_reducible rfl))); (try simp only [Act.put, List.setIfInBounds_toArray, List.set_cons_zero, List.set_cons_succ]))
  refine walkT_take ?_
  (refine takeN_take (v := ?_) (some 7) rfl rfl (fun _ _ _ h => h) (by rfl) ?_ ?_; rotate_left; (focus (intro w' hw'; obtain ⟨c0, c1, c2, c3, c4, c5, c6, c7, c8, c9, c10⟩ := HC.out w' hw'; go_simp; (try with_reducible rfl))); (try simp only [Act.put, List.setIfInBounds_toArray, List.set_cons_zero, List.set_cons_succ]))
  refine walkT_take ?_
  (refine takeN_take (v := ?_) (some 8) rfl rfl (fun _ _ _ h => h) (by rfl) ?_ ?_; rotate_left; (focus (intro w' hw'; obtain ⟨c0, c1, c2, c3, c4, c5, c6, c7, c8, c9, c10⟩ := HC.out w' hw'; go_simp; (try with_reducible rfl))); (try simp only [Act.put, List.setIfInBounds_toArray, List.set_cons_zero, List.set_cons_succ]))
  refine walkT_take ?_
  (refine takeN_take (v := ?_) (some 9) rfl rfl (fun _ _ _ h => h) (by rfl) ?_ ?_; rotate_left; (focus (intro w' hw'; obtain ⟨c0, c1, c2, c3, c4, c5, c6, c7, c8, c9, c10⟩ := HC.out w' hw'; go_simp; (try with_reducible rfl))); (try simp only [Act.put, List.setIfInBounds_toArray, List.set_cons_zero, List.set_cons_succ]))
  refine walkT_take ?_
  (refine takeN_take (v := ?_) (some 10) rfl rfl (fun _ _ _ h => h) (by rfl) ?_ ?_; rotate_left; (focus (intro w' hw'; obtain ⟨c0, c1, c2, c3, c4, c5, c6, c7, c8, c9, c10⟩ := HC.out w' hw'; go_simp; (try with_reducible rfl))); (try simp only [Act.put, List.setIfInBounds_toArray, List.set_cons_zero, List.set_cons_succ]))
  refine walkT_take ?_
  (refine takeN_take (v := ?_) (some 11) rfl rfl (fun _ _ _ h => h) (by rfl) ?_ ?_; rotate_left; (focus (intro w' hw'; obtain ⟨c0, c1, c2, c3, c4, c5, c6, c7, c8, c9, c10⟩ := HC.out w' hw'; go_simp; (try with_reducible rfl))); (try simp only [Act.put, List.setIfInBounds_toArray, List.set_cons_zero, List.set_cons_succ]))
  refine walkT_take ?_
  (refine takeN_take (v := ?_) (some 12) rfl rfl (fun _ _ _ h => h) (by rfl) ?_ ?_; rotate_left; (focus (intro w' hw'; obtain ⟨c0, c1, c2, c3, c4, c5, c6, c7, c8, c9, c10⟩ := HC.out w' hw'; go_simp; (try with_reducible rfl))); (try simp only [Act.put, List.setIfInBounds_toArray, List.set_cons_zero, List.set_cons_succ]))
  refine walkT_take ?_
  (refine takeN_take (v := ?_) (some 13) rfl rfl (fun _ _ _ h => h) (by rfl) ?_ ?_; rotate_left; (focus (intro w' hw'; obtain ⟨c0, c1, c2, c3, c4, c5, c6, c7, c8, c9, c10⟩ := HC.out w' hw'; go_simp; (try with_reducible rfl))); (try simp only [Act.put, List.setIfInBounds_toArray, List.set_cons_zero, List.set_cons_succ]))
  refine walkT_take ?_
  (refine takeN_take (v := ?_) (some 14) rfl rfl (fun _ _ _ h => h) (by rfl) ?_ ?_; rotate_left; (focus (intro w' hw'; obtain ⟨c0, c1, c2, c3, c4, c5, c6, c7, c8, c9, c10⟩ := HC.out w' hw'; go_simp; (try with_reducible rfl))); (try simp only [Act.put, List.setIfInBounds_toArray, List.set_cons_zero, List.set_cons_succ]))
  refine walkT_take ?_
  (refine takeN_take (v := ?_) (some 15) rfl rfl (fun _ _ _ h => h) (by rfl) ?_ ?_; rotate_left; (focus (intro w' hw'; obtain ⟨c0, c1, c2, c3, c4, c5, c6, c7, c8, c9, c10⟩ := HC.out w' hw'; go_simp; (try with_reducible rfl))); (try simp only [Act.put, List.setIfInBounds_toArray, List.set_cons_zero, List.set_cons_succ]))
  refine walkT_take ?_
  (refine takeN_take (v := ?_) (some 16) rfl rfl (fun _ _ _ h => h) (by rfl) ?_ ?_; rotate_left; (focus (intro w' hw'; obtain ⟨c0, c1, c2, c3, c4, c5, c6, c7, c8, c9, c10⟩ := HC.out w' hw'; go_simp; (try with_reducible rfl))); (try simp only [Act.put, List.setIfInBounds_toArray, List.set_cons_zero, List.set_cons_succ]))
  refine walkT_take ?_
  (refine takeN_take (v := ?_) (some 17) rfl rfl (fun _ _ _ h => h) (by rfl) ?_ ?_; rotate_left; (focus (intro w' hw'; obtain ⟨c0, c1, c2, c3, c4, c5, c6, c7, c8, c9, c10⟩ := HC.out w' hw'; go_simp; (try with_reducible rfl))); (try simp only [Act.put, List.setIfInBounds_toArray, List.set_cons_zero, List.set_cons_succ]))
  refine walkT_one ?_
  (refine runN_call 18 45 _ _ _ (HLS.out _) rfl rfl rfl (by rfl) rfl (enter_tless _ _) ?_; rintro e w6 ⟨rfl, t6⟩; have hS := hS.trans t6 (fun _ _ h => h); refine ⟨_, rfl, hS, fun hS => ?_⟩; clear t6; (try simp only [Act.put, List.setIfInBounds_toArray, List.set_cons_zero, List.set_cons_succ]))
  refine walkT_take ?_
  (refine takeN_take (v := ?_) (some 5) rfl rfl (fun _ _ _ h => h) (by rfl) ?_ ?_; rotate_left; (focus (intro w' hw'; obtain ⟨c0, c1, c2, c3, c4, c5, c6, c7, c8, c9, c10⟩ := HC.out w' hw'; go_simp; (try with_reducible rfl))); (try simp only [Act.put, List.setIfInBounds_toArray, List.set_cons_zero, List.set_cons_succ]))
  refine walkT_fin ?_
  go_wp2_with fail
  go_ret
  exact ⟨rfl, hS⟩
theorem enter_vw : ∀ (vs : Array Value) (w : World), (callFunc 44 vs).run Tryz.prog w = .ok (.enter 44 vs) w := fun vs w => by kernel_rfl
/-- What a sort of the rows in the view's block bx is to do. -/
def SortsV (v0 v1 v2 : Value) (P : List FlD → List FlD → Prop) (K : List FlD) : Prop := ∀ (W : World) (base bx : Nat) (a : Option Addr) (c : Nat) (L : List FlD), L.Perm K → OwnS W base 39 8 (.slice a L.length c) (L.map fcl) → bx < base → W.heap[bx]? = some (.cells #[v0, v1, v2, .slice a L.length c] 35 (0, 0)) →
  Calls Tryz.prog 43 #[.iface 33 (.slice a L.length c), .func (.func 44) #[] #[.pointer (some ⟨bx, 0, none⟩)]] W fun e w' => e = .returned (.tuple #[]) ∧ ∃ L', L'.Perm L ∧ P L L' ∧ OwnS w' base 39 8 (.slice a L.length c) (L'.map fcl) ∧ Touch W w' (fun k => (Value.slice a L.length c).ownBlock = some k)
set_option maxRecDepth 20000 in
set_option maxHeartbeats 4000000 in
theorem sortsV_any (v0 v1 v2 : Value) (K : List FlD) (hk : K.length ≤ 4000000) : SortsV v0 v1 v2 (fun _ L' => SortedF L') K := by
  intro W base bx a c L hp ho hb hh
  by_cases h2 : 2 ≤ L.length
  case neg =>
    have hl : L.length ≤ 1 := by omega
    refine (sort_tiny a L.length c hl _ _ _ W).mono ?_
    rintro e w' ⟨rfl, os, rfl⟩
    refine ⟨rfl, L, .refl _, ?_, ho.still (touch_grow W os), (touch_grow W os).mono (fun _ _ h => h.elim)⟩
    cases L with
    | nil => exact .nil
    | cons x r =>
      have : r = [] := by simpa using hl
      subst this
      exact List.pairwise_singleton _ _
  case pos =>
    obtain ⟨B, rfl⟩ : ∃ B, a = some ⟨B, 0, none⟩ := by
      rcases ho.own.2 with ⟨hv, hn⟩ | ⟨g, cap, cur, hv, hb, hg, _⟩
      · rw [List.length_map] at hn
        exact absurd hn (by omega)
      · simp only [Value.slice.injEq] at hv
        exact ⟨g, hv.1⟩
    have hBW : B < W.heap.size ∧ base ≤ B := ⟨(ho.row'.2.2 ⟨B, 0, none⟩ rfl).2, (ho.row'.2.2 ⟨B, 0, none⟩ rfl).1⟩
    obtain ⟨i, hi⟩ := Option.isSome_iff_exists.1 (show (Tryz.prog.info? 33).isSome = true by kernel_rfl)
    obtain ⟨ie, hie⟩ := Option.isSome_iff_exists.1 (show (Tryz.prog.info? 39).isSome = true by kernel_rfl)
    have hd : i.desc = .slice 39 := by
      have h1 : (Tryz.prog.info? 33).map (·.desc) = some (.slice 39) := by kernel_rfl
      rw [hi] at h1
      exact Option.some.inj h1
    have h9 : Lib.swapperK L.length ie 25 = 9 := by
      have h1 : (Tryz.prog.info? 39).map (fun i => (i.hasPointers, i.bytes)) = some (false, 56) := by kernel_rfl
      rw [hie] at h1
      have h3 := Option.some.inj h1
      have e1 : ie.hasPointers = false := congrArg Prod.fst h3
      have e2 : ie.bytes = 56 := congrArg Prod.snd h3
      unfold Lib.swapperK
      have c1 : (L.length == 0) = false := beq_eq_false_iff_ne.2 (by omega)
      have c2 : (L.length == 1) = false := beq_eq_false_iff_ne.2 (by omega)
      rw [c1, c2, e1, e2]
      rfl
    obtain ⟨n, hn⟩ : ∃ n, L.length = n := ⟨_, rfl⟩
    have hn4 : n ≤ 4000000 := by rw [← hn, hp.length_eq]; exact hk
    obtain ⟨W0, hW0⟩ : ∃ X, (W.alloc (.cells #[.slice (some ⟨B, 0, none⟩) n c] 33)).alloc (.cells #[.pointer (some ⟨Tryz.prog.globals.size, 33, none⟩), .pointer (some ⟨W.heap.size, 0, none⟩), .int .u64 151] 112) = X := ⟨_, rfl⟩
    have t0 : Touch W W0 (fun _ => False) := by
      rw [← hW0]
      exact ((Touch.refl W _).alloc _).alloc _
    have hr : SrtC W0 base B c L.toArray W0 := ⟨by simpa using ho.still t0, Touch.refl _ _⟩
    have hlc : LessC W0 base B c n 44 #[.pointer (some ⟨bx, 0, none⟩)] := by
      intro X d hd hx i j hi hj
      subst hd
      have hb2 : X.heap[bx]? = some (.cells #[v0, v1, v2, .slice (some ⟨B, 0, none⟩) d.size c] 35 (0, 0)) := by
        rw [← hn]
        exact hx.t.keeps (t0.keeps hh (fun h => h)) (by omega)
      exact ltvw_any v0 v1 v2 X base B c bx d hx.row hb2 i j hi hj
    have hpd := pdq_any swo_flows W0 base B c n 44 #[.pointer (some ⟨bx, 0, none⟩)] enter_vw hlc 91 _ (swap_any W0 base B c n) hn4 (n + 1) 0 n (Lib.bitLen n) L.toArray W0 (by omega) (by simpa using hn) hr (Nat.zero_le _) (Nat.le_refl _) (Nat.le_trans (Lib.bitLen_le n 62 (by omega) (by omega)) (by decide)) (Or.inl rfl)
    have hs := Go.Sort.pdq_sorts ltFl swo_flows L.toArray 0 n (Lib.bitLen n) true true (Nat.zero_le _) (by simp [hn]) (Or.inl rfl)
    rw [hn]
    refine (Any.sort_Slice_of_pdq Tryz.laysGg6 33 39 i ie hi hd (by kernel_rfl) hie 25 (fun w => by kernel_rfl) (some ⟨B, 0, none⟩) n c (by omega) 91 (by rw [← hn, h9]; kernel_rfl) (.func 44) #[] #[.pointer (some ⟨bx, 0, none⟩)] W
      (fun w' => SrtC W0 base B c (Go.Sort.pdq ltFl L.toArray 0 n (Lib.bitLen n) true true) w' ∧ Touch W0 w' (fun k => k = B)) ?_).mono ?_
    · have hB : sliceBound Tryz.prog 39 ie 25 (some ⟨B, 0, none⟩) n c = #[.slice (some ⟨B, 0, none⟩) n c, typeHandle Tryz.prog 39] := by
        unfold sliceBound; rw [← hn, h9]; rfl
      have hsw : ∀ ρ' : Go.Shelf.Ren, ρ'.t 35 = 112 → sliceWorld Tryz.prog ρ' 33 (some ⟨B, 0, none⟩) n c W = W0 := fun ρ' h => by unfold sliceWorld; rw [h]; exact hW0
      rw [hB, hsw _ rfl]
      exact hpd
    · rintro e w' ⟨rfl, hR, hT⟩
      generalize Go.Sort.pdq ltFl L.toArray 0 n (Lib.bitLen n) true true = D at *
      have hz : D.size = n := by rw [hs.1.1]; simpa using hn
      have hx : ∀ (E : Array FlD), E.size = n → (E.extract 0 n).toList = E.toList := fun E h => by
        rw [Array.toList_extract, ← h]
        simp [List.take_of_length_le]
      refine ⟨rfl, D.toList, ?_, ?_, ?_, ?_⟩
      · have h1 := hs.1.2.2
        rw [hx D hz, hx L.toArray (by simpa using hn)] at h1
        exact h1
      · show SortedF D.toList
        unfold SortedF
        rw [List.pairwise_iff_getElem]
        intro p q hp1 hq1 hpq
        have h1 := hs.2 p q (Nat.zero_le _) hpq (by simpa [hz] using hq1)
        rw [getElem!_pos D p (by simpa using hp1), getElem!_pos D q (by simpa using hq1)] at h1
        simpa using h1
      · have h1 := hR.row
        rw [hz] at h1
        exact h1
      · exact (t0.mono (T := fun k => (Value.slice (some ⟨B, 0, none⟩) n c).ownBlock = some k) (fun _ _ h => h.elim)).trans hT (fun k _ h => by subst h; rfl)
end Go.Proofs.YtdhimlkndpiacaaGreat
