import Derived.Test.YtpjdcgjoepjmcaaGreatGJZ
import Derived.Test.YtpjdcgjoepjmcaaGreatHAZ
import Derived.Shelf.GgSortFunc.SmallK
import Derived.Test.YtpjdcgjoepjmcaaGreatGKZ
import Derived.Test.YtpjdcgjoepjmcaaGreatGLZ
import Derived.Sort.Walk13
import Derived.Sort.AssemblyPlain
import Derived.Deep.LoopGhost
import Derived.Deep.DeepCutAuto
import Derived.Test.YtpjdcgjoepjmcaaGreatFlowThAllZ
import Derived.Shelf.GgSortFunc.Slice
import Derived.Test.YtpjdcgjoepjmcaaGreatGFZ
import Derived.Test.YtpjdcgjoepjmcaaGreatHDZ
set_option linter.unusedVariables false
set_option linter.unusedSimpArgs false
section
namespace Go.Proofs.YtpjdcgjoepjmcaaGreat
open Go.RowKit
theorem enter_tless (vs : Array Value) (w : World) : (callFunc 95 vs).run Tryz.prog w = .ok (.enter 95 vs) w := by kernel_rfl
theorem own_at {W : World} {base B c : Nat} {d : Array FlD} (h : OwnS W base 83 8 (.slice (some ⟨B, 0, none⟩) d.size c) (d.toList.map fcl)) (i : Nat) (hi : i < d.size) (j : Nat) (u : Value) (hu : (fcl d[i]!)[j]? = some u) : W.cell? ⟨B, i * 8 + j, none⟩ = some u := by
 have h1 := h.row'.2.1.cell i (by simpa using hi) j u (by
  rw [List.getElem_map, Array.getElem_toList]
  rwa [getElem!_pos d i hi] at hu)
 rwa [Nat.zero_add] at h1
set_option maxRecDepth 20000 in
set_option maxHeartbeats 4000000 in
theorem ltclo_any (W : World) (base B c bx : Nat) (d : Array FlD) (ho : OwnS W base 83 8 (.slice (some ⟨B, 0, none⟩) d.size c) (d.toList.map fcl)) (hb : W.heap[bx]? = some (.cells #[.slice (some ⟨B, 0, none⟩) d.size c] 61 (0, 0))) (i j : Nat) (hi : i < d.size) (hj : j < d.size) :
 Calls Tryz.prog 94 #[.int .i64 i, .int .i64 j, .pointer (some ⟨bx, 0, none⟩)] W fun e w' => e = .returned (.bool (ltFl d[i]! d[j]!)) ∧ Touch W w' (fun _ => False) := by
 have hcap := ho.row'.2.1.hcap
 have hmax := ho.row'.2.1.hmax
 have HC : RowKit.Hid (∀ W', Touch W W' (fun _ => False) → W'.cell? ⟨bx, 0, none⟩ = some (.slice (some ⟨B, 0, none⟩) d.size c) ∧
  W'.cell? ⟨B, i * 8, none⟩ = some (.int .u32 d[i]!.t.src) ∧ W'.cell? ⟨B, i * 8 + 1, none⟩ = some (.int .u32 d[i]!.t.dst) ∧ W'.cell? ⟨B, i * 8 + 2, none⟩ = some (.int .i64 d[i]!.t.proto) ∧ W'.cell? ⟨B, i * 8 + 3, none⟩ = some (.int .i64 d[i]!.t.sport) ∧ W'.cell? ⟨B, i * 8 + 4, none⟩ = some (.int .i64 d[i]!.t.dport) ∧
  W'.cell? ⟨B, j * 8, none⟩ = some (.int .u32 d[j]!.t.src) ∧ W'.cell? ⟨B, j * 8 + 1, none⟩ = some (.int .u32 d[j]!.t.dst) ∧ W'.cell? ⟨B, j * 8 + 2, none⟩ = some (.int .i64 d[j]!.t.proto) ∧ W'.cell? ⟨B, j * 8 + 3, none⟩ = some (.int .i64 d[j]!.t.sport) ∧ W'.cell? ⟨B, j * 8 + 4, none⟩ = some (.int .i64 d[j]!.t.dport)) := Lib.hid (fun W' t => by
  have o := ho.still t
  exact ⟨cell_of_cells (t.keeps hb (fun h => h)) 0, own_at o i hi 0 _ rfl, own_at o i hi 1 _ rfl, own_at o i hi 2 _ rfl, own_at o i hi 3 _ rfl, own_at o i hi 4 _ rfl, own_at o j hj 0 _ rfl, own_at o j hj 1 _ rfl, own_at o j hj 2 _ rfl, own_at o j hj 3 _ rfl, own_at o j hj 4 _ rfl⟩)
 have hiI : (i : Int) < d.size := by omega
 have hjI : (j : Int) < d.size := by omega
 have HLS : RowKit.Hid (∀ X, Calls Tryz.prog 95 #[.agg #[.int .u32 d[i]!.t.src, .int .u32 d[i]!.t.dst, .int .i64 d[i]!.t.proto, .int .i64 d[i]!.t.sport, .int .i64 d[i]!.t.dport], .agg #[.int .u32 d[j]!.t.src, .int .u32 d[j]!.t.dst, .int .i64 d[j]!.t.proto, .int .i64 d[j]!.t.sport, .int .i64 d[j]!.t.dport]] X fun e w' => e = .returned (.bool (ltFl d[i]! d[j]!)) ∧ Touch X w' (fun _ => False)) := Lib.hid (fun X => less_any d[i]!.t d[j]!.t X)
 clear ho hb
 obtain ⟨n, hn⟩ : ∃ n, d.size = n := ⟨_, rfl⟩
 obtain ⟨x, hx⟩ : ∃ x, d[i]! = x := ⟨_, rfl⟩
 obtain ⟨y, hy⟩ : ∃ y, d[j]! = y := ⟨_, rfl⟩
 rw [hn, hx, hy] at HC
 rw [hx, hy] at HLS ⊢
 rw [hn] at hcap hiI hjI hi hj
 clear hx hy hn
 go_enter Tryz.func94, Tryz.ntmps94
 go_wp2_with fail
 have hS := (Touch.refl W (fun _ => False)).drew
 refine wp_region_tree (fun w' => Touch W w' (fun _ => False)) (.take 0 (.take 1 (.take 2 (.take 3 (.take 4 (.take 5 (.take 6 (.take 7 (.take 8 (.take 9 (.one 10 (.take 11 .fin)))))))))))) (by kernel_rfl) (by kernel_rfl) (by kernel_rfl) (by kernel_rfl) hS ?_
 repeat' (first
  | (with_reducible refine walkT_take ?_)
  | (with_reducible refine walkT_one ?_)
  | (with_reducible refine walkT_two ?_ ?_)
  | (with_reducible refine walkT_fin ?_)
  | ((with_reducible show TakeN _ _ _ _ _ _ _ _); ((refine takeN_take (v := ?_) (some _) rfl rfl (fun _ _ _ h => h) (by rfl) ?_ ?_; rotate_left; (focus (intro w' hw'; obtain ⟨c0, c1, c2, c3, c4, c5, c6, c7, c8, c9, c10⟩ := HC.out w' hw'; go_simp; (try with_reducible rfl))); (try simp only [Act.put, List.setIfInBounds_toArray, List.set_cons_zero, List.set_cons_succ]))))
  | ((with_reducible show RunN _ _ _ _ 10 _ _ _); ((refine runN_call 16 95 _ _ _ (HLS.out _) rfl rfl rfl (by rfl) rfl (enter_tless _ _) ?_; rintro e w6 ⟨rfl, t6⟩; have hS := hS.trans t6 (fun _ _ h => h); refine ⟨_, rfl, hS, fun hS => ?_⟩; clear t6; (try simp only [Act.put, List.setIfInBounds_toArray, List.set_cons_zero, List.set_cons_succ])))))
 all_goals
  go_wp2_with fail
  go_ret
  exact ⟨rfl, hS⟩
theorem touch_cellsF (B : Nat) : ∀ (vs : List Value) (o : Nat) (W : World), Touch W (W.setCells B o vs) (fun k => k = B)
 | [], _, W => Touch.refl W _
 | v :: r, o, W => ((Touch.refl W (fun k => k = B)).setCell ⟨B, o, none⟩ v (fun _ => rfl)).trans (touch_cellsF B r (o + 1) _) (fun _ _ h => h)
theorem run_swap (args : Array Value) (W : World) : (callFunc 156 args).run Tryz.prog W = ((Extern.ReflectliteSwapper.swap false args).run Tryz.prog W).andThen fun v w' => .ok (.value v) w' :=
 run_callFunc_extern Tryz.func156 (by kernel_rfl) (by kernel_rfl) (by kernel_rfl) (e := Extern.ReflectliteSwapper.swap false) (by kernel_rfl) args W
theorem swp_list (d : Array FlD) (i j : Nat) : (Go.Sort.swp d i j).toList = (d.toList.set i d[j]!).set j d[i]! := by
 unfold Go.Sort.swp
 rw [Array.toList_setIfInBounds, Array.toList_setIfInBounds]
theorem holds_own {W : World} {base B c : Nat} {d : Array FlD} (h : OwnS W base 83 8 (.slice (some ⟨B, 0, none⟩) d.size c) (d.toList.map fcl)) : Go.Sort.HoldsK fcl 8 W B 0 d := by
 intro t ht
 rw [Go.Sort.size_flatK] at ht
 have hq : t / 8 < d.size := by omega
 have hr : t % 8 < 8 := Nat.mod_lt _ (by decide)
 refine ⟨?_, h.free _⟩
 rw [Go.Sort.get_flatK _ _ _ _ ht]
 have h1 := own_at h (t / 8) hq (t % 8) ((fcl d[t / 8]!)[t % 8]!) (by
  rw [List.getElem?_eq_getElem (show t % 8 < (fcl d[t / 8]!).length from hr)]
  rw [getElem!_pos (fcl d[t / 8]!) (t % 8) hr]; rfl)
 rw [show t / 8 * 8 + t % 8 = 0 + t by omega] at h1
 exact h1
set_option maxRecDepth 20000 in
theorem swap_any (W0 : World) (base B c n : Nat) : SwapC W0 base B c n 156 #[.slice (some ⟨B, 0, none⟩) n c, typeHandle Tryz.prog 83] := by
 intro W d hd hr i j hi hj
 obtain ⟨ie, hie⟩ := Option.isSome_iff_exists.1 (show (Tryz.prog.info? 83).isSome = true by kernel_rfl)
 have hsz : ie.size = 8 := by
  have h1 : (Tryz.prog.info? 83).map (·.size) = some 8 := by kernel_rfl
  rw [hie] at h1
  exact Option.some.inj h1
 have hrun := swapSwapsK_of_literal (P := Tryz.prog) false 156 run_swap 83 ie hie fcl 8 (fun _ => rfl) hsz (fun w => by kernel_rfl) (fun x v hv => by
  simp only [fcl, List.mem_cons, List.not_mem_nil, or_false] at hv
  rcases hv with rfl | rfl | rfl | rfl | rfl | rfl | rfl | rfl <;> rfl) B 0 n c W d (holds_own (by have := hr.row; exact this)) hd i j hi hj
 refine ⟨_, hrun, ?_, by rw [Go.Sort.size_swp]; exact hd, ?_⟩
 ·have o := hr.row
  have o1 := own_putF o i (by simpa using (by omega : i < d.size)) d[j]!
  have o2 := own_putF o1 j (by simpa using (by omega : j < d.size)) d[i]!
  rw [Nat.zero_add, Nat.zero_add]
  refine ⟨?_, hr.t.trans ((touch_cellsF B _ _ _).trans (touch_cellsF B _ _ _) (fun _ _ h => h)) (fun _ _ h => h)⟩
  rw [swp_list, Go.Sort.size_swp]
  exact o2
 ·exact (touch_cellsF B _ _ _).trans (touch_cellsF B _ _ _) (fun _ _ h => h)
end Go.Proofs.YtpjdcgjoepjmcaaGreat
end
section
namespace Go.Proofs.YtpjdcgjoepjmcaaGreat
open Go.RowKit
set_option maxRecDepth 20000 in
set_option maxHeartbeats 24000000 in
theorem pdq_any (hO : Go.Sort.SWO ltFl) (W0 : World) (base B c n : Nat) (g : Nat) (lb : Array Value) (eg : ∀ args w, (callFunc g args).run Tryz.prog w = .ok (.enter g args) w) (hl : LessC W0 base B c n g lb) (sf : Nat) (sb : Array Value) (hs : SwapC W0 base B c n sf sb) (hn : n ≤ 4000000) :
 ∀ (N a b limit : Nat) (d : Array FlD) (W : World), b - a < N → d.size = n → SrtC W0 base B c d W → a ≤ b → b ≤ n → limit ≤ 64 → Go.Sort.Below ltFl a b d →
 Calls Tryz.prog 132 #[.agg #[.func (.func g) #[] lb, .func (.func sf) #[] sb], .int .i64 a, .int .i64 b, .int .i64 limit] W fun e w' => e = .returned (.tuple #[]) ∧ SrtC W0 base B c (Go.Sort.pdq ltFl d a b limit true true) w' ∧ Touch W w' (fun k => k = B) := by
 have HSW := Lib.hid hs
 have HLS := Lib.hid hl
 have HO := Lib.hid hO
 clear hs hl hO
 intro N
 induction N with
 | zero => intro _ _ _ _ _ h; exact absurd h (Nat.not_lt_zero _)
 | succ N ih =>
   intro a b limit d W hN hd hr hab hb hlimit hBel0
   have IH := Lib.hid ih
   obtain ⟨W1, hW1⟩ : ∃ X, W.alloc (.cells #[.func (.func g) #[] lb, .func (.func sf) #[] sb] 193) = X := ⟨_, rfl⟩
   have t1 : Touch W W1 (fun _ => False) := hW1 ▸ (Touch.refl W _).alloc _
   have g1 : W1.heap[W.heap.size]? = some (.cells #[.func (.func g) #[] lb, .func (.func sf) #[] sb] 193 (0, 0)) := hW1 ▸ heap_alloc_new ..
   have hBW : B < W.heap.size := (hr.row.row'.2.2 ⟨B, 0, none⟩ rfl).2
   have HBX : RowKit.Hid (∀ X, Touch W1 X (fun k => k = B) → X.cell? ⟨W.heap.size, 0, none⟩ = some (.func (.func g) #[] lb) ∧ X.cell? ⟨W.heap.size, 1, none⟩ = some (.func (.func sf) #[] sb)) := Lib.hid (fun X x => by
    have h1 := x.keeps g1 (fun e => by have e : W.heap.size = B := e; omega)
    exact ⟨cell_of_cells h1 0, cell_of_cells h1 1⟩)
   have HR0 := Lib.hid (hr.still t1)
   have HD := Lib.hid hd
   have HB0 := Lib.hid hBel0
   have HW1 := Lib.hid hW1
   have HEND : RowKit.Hid (∀ X, Touch W1 X (fun k => k = B) → Touch W X (fun k => k = B)) := Lib.hid (fun X x => (t1.mono (T := fun k => k = B) (fun _ _ h => h.elim)).trans x (fun _ _ h => h))
   have b2 : (b : Int) ≤ 4000000 := by omega
   have l2 : (limit : Int) ≤ 64 := by omega
   clear hW1 t1 g1 hr hd hBel0 ih
   go_enter Tryz.func132, Tryz.ntmps132
   go_upto_region 1 with (fail)
   rw [HW1.out]
   go_wp2_with fail
   go_loopw [1, 2, 3, 8, 9] (fun s1 s2 s3 s8 s9 wr => ∃ (a1 b1 lim : Nat) (wb wp : Bool) (dk : Array FlD), s1 = .int .i64 a1 ∧ s2 = .int .i64 b1 ∧ s3 = .int .i64 lim ∧ s8 = .bool wb ∧ s9 = .bool wp ∧
    a1 ≤ b1 ∧ b1 ≤ n ∧ b1 - a1 ≤ b - a ∧ lim ≤ limit ∧ dk.size = n ∧ Go.Sort.Below ltFl a1 b1 dk ∧ SrtC W0 base B c dk wr ∧ Touch W1 wr (fun k => k = B) ∧ RowKit.Hid (Go.Sort.pdq ltFl dk a1 b1 lim wb wp = Go.Sort.pdq ltFl d a b limit true true)) (fun s1 s2 _ _ _ _ => (RowKit.intOf s2 - RowKit.intOf s1).toNat)
   case atStart => exact ⟨a, b, limit, true, true, d, rfl, rfl, rfl, rfl, rfl, hab, hb, Nat.le_refl _, Nat.le_refl _, HD.out, HB0.out, HR0.out, Touch.refl _ _, rfl⟩
   case round =>
    obtain ⟨a1, b1, lim, wb, wp, dk, rfl, rfl, rfl, rfl, rfl, hab', hb', hkN, hlim, hds, hBel, hr, ht, A⟩ := hrel
    have HDS := Lib.hid hds
    have HR := Lib.hid hr
    have HT := Lib.hid ht
    have HBel := Lib.hid hBel
    obtain ⟨x0, x1⟩ := HBX.out wr ht
    have abI : (a1 : Int) ≤ b1 := by omega
    have b3 : (b1 : Int) ≤ 4000000 := by omega
    have l3 : (lim : Int) ≤ 64 := by omega
    clear hds hr ht hBel
    by_cases h12 : b1 - a1 ≤ 12
    case pos =>
     have h12z : (b1 : Int) - (a1 : Int) ≤ 12 := by omega
     have HC := Lib.hid (inssort_any W0 base B c n g lb eg HLS.out sf sb HSW.out wr dk HDS.out HR.out a1 b1 hb' (by omega) hn)
     go_wp2_with (go_at_call 159; (with_reducible refine HC.out.mono ?_); rintro e w3 ⟨rfl, r3, z3, t3⟩; have HR3 := Lib.hid r3; have HT3 := Lib.hid (HT.out.trans t3 (fun _ _ h => h)); clear r3 z3 t3)
     (try simp only [Exit.inBlock, Exit.then]); refine bodyPost_ret (results_none rfl _ _ _) rfl ?_
     refine ⟨rfl, ?_, HEND.out _ HT3.out⟩
     rw [← A.out, Go.Sort.pdq_small h12]
     exact HR3.out
    case neg =>
     have h12z : ¬ ((b1 : Int) - (a1 : Int) ≤ 12) := by omega
     by_cases hl0 : lim = 0
     case pos =>
      subst hl0
      have HC := Lib.hid (heap_any W0 base B c n g lb eg HLS.out sf sb HSW.out wr dk HDS.out HR.out a1 b1 (by omega) hb' hn)
      go_wp2_with (go_at_call 160; (with_reducible refine HC.out.mono ?_); rintro e w3 ⟨rfl, r3, z3, t3⟩; have HR3 := Lib.hid r3; have HT3 := Lib.hid (HT.out.trans t3 (fun _ _ h => h)); clear r3 z3 t3)
      (try simp only [Exit.inBlock, Exit.then]); refine bodyPost_ret (results_none rfl _ _ _) rfl ?_
      refine ⟨rfl, ?_, HEND.out _ HT3.out⟩
      rw [← A.out, Go.Sort.pdq_heap h12 rfl]
      exact HR3.out
     case neg =>
      have hl0b : ((lim : Int) == 0) = false := beq_eq_false_iff_ne.2 (by omega)
      obtain ⟨s1, B1, hc1, s2, B2, hpv, s3, B3⟩ := Go.Sort.rd_facts (lt := ltFl) (limit := lim) (wb := wb) (wp := wp) HO.out Go.Sort.partialInsertionSort_holds Go.Sort.reverseRange_holds (show a1 < b1 by omega) (show b1 ≤ dk.size by rw [HDS.out]; exact hb') HBel.out
      rw [HDS.out] at s1 s2 s3
      have hrl : (Go.Sort.rd ltFl dk a1 b1 lim wb wp).lim ≤ lim := Go.Sort.rd_lim_le
      have hrlI : ((Go.Sort.rd ltFl dk a1 b1 lim wb wp).lim : Int) ≤ lim := by omega
      have SZ := Lib.hid (And.intro s1 (And.intro s2 s3))
      have BB := Lib.hid B3
      clear s1 s2 s3 B1 B2 B3
      go_upto_if 35 with fail
      go_cut [3] from 19 (fun s3 wc => s3 = .int .i64 (Go.Sort.rd ltFl dk a1 b1 lim wb wp).lim ∧ SrtC W0 base B c (Go.Sort.rd ltFl dk a1 b1 lim wb wp).d1 wc ∧ Touch W1 wc (fun k => k = B))
      case first =>
       cases wb
       ·have HC := Lib.hid (break_any W0 base B c n g lb sf sb HSW.out wr dk HDS.out HR.out a1 b1 hab' hb' hn)
        go_wp2_with (go_at_call 161; (with_reducible refine HC.out.mono ?_); rintro e w3 ⟨rfl, r3, z3, t3⟩; have HR3 := Lib.hid r3; have HT3 := Lib.hid (HT.out.trans t3 (fun _ _ h => h)); clear r3 z3 t3)
        go_meet
        case rel =>
         refine ⟨?_, HR3.out, HT3.out⟩
         show Value.int .i64 ((lim : Int) - 1) = Value.int .i64 ((lim - 1 : Nat) : Int)
         congr 1
         omega
       ·go_wp2_with fail
        go_meet
        case rel => exact ⟨rfl, HR.out, HT.out⟩
      case rest =>
       obtain ⟨rfl, hr1, ht1⟩ := hcut
       have HR1 := Lib.hid hr1
       have HT1 := Lib.hid ht1
       clear x0 x1 hr1 ht1
       obtain ⟨y0, y1⟩ := HBX.out wc HT1.out
       have HC17 : RowKit.Hid (Calls Tryz.prog 162 #[.agg #[.func (.func g) #[] lb, .func (.func sf) #[] sb], .int .i64 a1, .int .i64 b1] wc fun e w' => e = .returned (.tuple #[.int .i64 (Go.Sort.rd ltFl dk a1 b1 lim wb wp).c.1, .int .i64 (Go.Sort.hintCode (Go.Sort.rd ltFl dk a1 b1 lim wb wp).c.2)]) ∧ SrtC W0 base B c (Go.Sort.rd ltFl dk a1 b1 lim wb wp).d1 w' ∧ Touch wc w' (fun _ => False)) :=
        Lib.hid (pivot_any W0 base B c n g lb eg HLS.out sf sb wc (Go.Sort.rd ltFl dk a1 b1 lim wb wp).d1 SZ.out.1 HR1.out a1 b1 (by omega) hb' hn)
       go_upto_if 50 with (go_at_call 162; (with_reducible refine HC17.out.mono ?_); rintro e w2 ⟨rfl, r2, t2⟩; have HR2 := Lib.hid r2; have HT2 := Lib.hid (HT1.out.trans t2 (fun _ _ h => h.elim)); clear r2 t2)
       clear y0 y1
       obtain ⟨z0, z1⟩ := HBX.out w2 HT2.out
       go_cut [11, 12] from 19 (fun s11 s12 wc => s11 = .int .i64 (Go.Sort.rd ltFl dk a1 b1 lim wb wp).pivot ∧ s12 = .int .i64 (Go.Sort.hintCode (Go.Sort.rd ltFl dk a1 b1 lim wb wp).hint) ∧ SrtC W0 base B c (Go.Sort.rd ltFl dk a1 b1 lim wb wp).d2 wc ∧ Touch W1 wc (fun k => k = B))
       case first =>
        by_cases hh : (Go.Sort.rd ltFl dk a1 b1 lim wb wp).c.2 = .decreasing
        ·have hcode : Go.Sort.hintCode (Go.Sort.rd ltFl dk a1 b1 lim wb wp).c.2 = 2 := by rw [hh]; rfl
         obtain ⟨e2, epv, eht⟩ := Go.Sort.rd_dec hh
         have HC18 := Lib.hid (reverse_any W0 base B c n (.func g) #[] lb sf sb HSW.out w2 (Go.Sort.rd ltFl dk a1 b1 lim wb wp).d1 SZ.out.1 HR2.out a1 b1 hb' (by omega) (by omega) hn)
         have HEE := Lib.hid (And.intro e2 (And.intro epv eht))
         clear e2 epv eht
         go_wp2_with (go_at_call 163; (with_reducible refine HC18.out.mono ?_); rintro e w3 ⟨rfl, r3, z3, t3⟩; have HR3 := Lib.hid r3; have HT3 := Lib.hid (HT2.out.trans t3 (fun _ _ h => h)); clear r3 z3 t3)
         go_meet
         case rel =>
          refine ⟨?_, by rw [HEE.out.2.2]; rfl, by rw [HEE.out.1]; exact HR3.out, HT3.out⟩
          rw [HEE.out.2.1]
          congr 1
          omega
        ·have hcode : ¬ (Go.Sort.hintCode (Go.Sort.rd ltFl dk a1 b1 lim wb wp).c.2 = 2) := fun h => hh (Go.Proofs.hintCode_two h)
         obtain ⟨e2, epv, eht⟩ := Go.Sort.rd_not hh
         have HEE := Lib.hid (And.intro e2 (And.intro epv eht))
         clear e2 epv eht
         go_wp2_with fail
         go_meet
         case rel => exact ⟨by rw [HEE.out.2.1], by rw [HEE.out.2.2], by rw [HEE.out.1]; exact HR2.out, HT2.out⟩
       case rest =>
        obtain ⟨rfl, rfl, hr3, ht3⟩ := hcut
        have HR3 := Lib.hid hr3
        have HT3 := Lib.hid ht3
        clear z0 z1 hr3 ht3
        obtain ⟨v0, v1⟩ := HBX.out wc HT3.out
        go_upto_region 16 with fail
        go_cut [12, 68] from 19 (fun s12 s68 wx => s12 = .int .i64 (Go.Sort.hintCode (Go.Sort.rd ltFl dk a1 b1 lim wb wp).hint) ∧ s68 = .bool (wb && wp && decide ((Go.Sort.rd ltFl dk a1 b1 lim wb wp).hint = .increasing)) ∧ wx = wc)
        case first =>
         cases wb <;> cases wp <;> cases hh3 : (Go.Sort.rd ltFl dk a1 b1 lim _ _).hint <;>
          (have hcode3 := congrArg Go.Sort.hintCode hh3
           simp only [Go.Sort.hintCode] at hcode3
           go_wp2_with fail
           go_meet
           exact ⟨by simp [hh3, Go.Sort.hintCode], by simp [hh3, Go.Sort.hintCode], rfl⟩)
        case rest =>
         obtain ⟨rfl, rfl, rfl⟩ := hcut
         go_upto_if 68 with fail
         go_cut [] from 19 (fun wx => (Go.Sort.rd ltFl dk a1 b1 lim wb wp).pi.2 = false ∧ SrtC W0 base B c (Go.Sort.rd ltFl dk a1 b1 lim wb wp).pi.1 wx ∧ Touch W1 wx (fun k => k = B))
         case first =>
          cases h68 : (wb && wp && decide ((Go.Sort.rd ltFl dk a1 b1 lim wb wp).hint = .increasing))
          ·have epi := Go.Sort.rd_pi_no h68
           have HP := Lib.hid epi
           clear epi
           go_wp2_with fail
           go_meet
           case rel => exact ⟨by rw [HP.out], by rw [HP.out]; exact HR3.out, HT3.out⟩
          ·have epi := Go.Sort.rd_pi_yes h68
           have hc19 := partins_any W0 base B c n g lb eg HLS.out sf sb HSW.out wc (Go.Sort.rd ltFl dk a1 b1 lim wb wp).d2 SZ.out.2.1 HR3.out a1 b1 (by omega) hb' hn
           rw [← epi] at hc19
           clear epi
           have HC19 := Lib.hid hc19
           clear hc19
           cases hp2 : (Go.Sort.rd ltFl dk a1 b1 lim wb wp).pi.2
           ·rw [hp2] at HC19
            go_wp2_with (go_at_call 164; (with_reducible refine HC19.out.mono ?_); rintro e w4 ⟨rfl, r4, z4, t4⟩; have HR4 := Lib.hid r4; have HT4 := Lib.hid (HT3.out.trans t4 (fun _ _ h => h)); clear r4 z4 t4)
            go_meet
            case rel => exact ⟨hp2, HR4.out, HT4.out⟩
           ·rw [hp2] at HC19
            go_wp2_with (go_at_call 164; (with_reducible refine HC19.out.mono ?_); rintro e w4 ⟨rfl, r4, z4, t4⟩; have HR4 := Lib.hid r4; have HT4 := Lib.hid (HT3.out.trans t4 (fun _ _ h => h)); clear r4 z4 t4)
            (try simp only [Exit.inBlock, Exit.then]); refine bodyPost_ret (results_none rfl _ _ _) rfl ?_
            refine ⟨rfl, ?_, HEND.out _ HT4.out⟩
            rw [← A.out, Go.Sort.pdq_done h12 hl0 hp2]
            exact HR4.out
         case rest =>
          obtain ⟨hp2, hr5, ht5⟩ := hcut
          have HP2 := Lib.hid hp2
          have HR5 := Lib.hid hr5
          have HT5 := Lib.hid ht5
          clear v0 v1 hr5 ht5 hp2
          obtain ⟨t0, t1⟩ := HBX.out wc HT5.out
          go_upto_region 18 with fail
          go_cut [83] from 19 (fun s83 wx => s83 = .bool (decide (a1 > 0) && !ltFl (Go.Sort.rd ltFl dk a1 b1 lim wb wp).pi.1[a1 - 1]! (Go.Sort.rd ltFl dk a1 b1 lim wb wp).pi.1[(Go.Sort.rd ltFl dk a1 b1 lim wb wp).pivot]!) ∧ SrtC W0 base B c (Go.Sort.rd ltFl dk a1 b1 lim wb wp).pi.1 wx ∧ Touch W1 wx (fun k => k = B))
          case first =>
           rcases Nat.eq_zero_or_pos a1 with ha0 | ha0
           ·have ha0z : decide ((a1 : Int) > 0) = false := decide_eq_false (by omega)
            go_wp2_with fail
            go_meet
            case rel => exact ⟨by simp [ha0], HR5.out, HT5.out⟩
           ·have ha0z : (a1 : Int) > 0 := by omega
            have hl := HLS.out wc (Go.Sort.rd ltFl dk a1 b1 lim wb wp).pi.1 SZ.out.2.2 HR5.out (a1 - 1) (Go.Sort.rd ltFl dk a1 b1 lim wb wp).pivot (by omega) (by omega)
            rw [show ((a1 - 1 : Nat) : Int) = (a1 : Int) - 1 by omega] at hl
            cases hlv : ltFl (Go.Sort.rd ltFl dk a1 b1 lim wb wp).pi.1[a1 - 1]! (Go.Sort.rd ltFl dk a1 b1 lim wb wp).pi.1[(Go.Sort.rd ltFl dk a1 b1 lim wb wp).pivot]! <;>
             (rw [hlv] at hl
              have HL6 := Lib.hid hl
              clear hl
              go_wp2_with (go_at_fn g; (refine HL6.out.mono ?_); rintro e w6 ⟨rfl, t6⟩; have HR6 := Lib.hid (HR5.out.still t6); have HT6 := Lib.hid (HT5.out.trans t6 (fun _ _ h => h.elim)); clear t6)
              go_meet
              exact ⟨by simp [ha0, hlv], HR6.out, HT6.out⟩)
          case rest =>
           obtain ⟨rfl, hr6, ht6⟩ := hcut
           have HR6 := Lib.hid hr6
           have HT6 := Lib.hid ht6
           clear t0 t1 hr6 ht6
           obtain ⟨q0, q1⟩ := HBX.out wc HT6.out
           cases h87 : (decide (a1 > 0) && !ltFl (Go.Sort.rd ltFl dk a1 b1 lim wb wp).pi.1[a1 - 1]! (Go.Sort.rd ltFl dk a1 b1 lim wb wp).pi.1[(Go.Sort.rd ltFl dk a1 b1 lim wb wp).pivot]!)
           ·obtain ⟨mid, ap, d4, hx⟩ : ∃ mid ap d4, Go.Sort.partition ltFl (Go.Sort.rd ltFl dk a1 b1 lim wb wp).pi.1 a1 b1 (Go.Sort.rd ltFl dk a1 b1 lim wb wp).pivot = (mid, ap, d4) := ⟨(Go.Sort.partition ltFl (Go.Sort.rd ltFl dk a1 b1 lim wb wp).pi.1 a1 b1 (Go.Sort.rd ltFl dk a1 b1 lim wb wp).pivot).1, (Go.Sort.partition ltFl (Go.Sort.rd ltFl dk a1 b1 lim wb wp).pi.1 a1 b1 (Go.Sort.rd ltFl dk a1 b1 lim wb wp).pivot).2.1, (Go.Sort.partition ltFl (Go.Sort.rd ltFl dk a1 b1 lim wb wp).pi.1 a1 b1 (Go.Sort.rd ltFl dk a1 b1 lim wb wp).pivot).2.2, rfl⟩
            obtain ⟨r1, r2, r3, r4, r5, r6, r7⟩ := Go.Sort.round_part HO.out (Go.Sort.partition_holds ltFl) hpv.1 hpv.2 (show b1 ≤ (Go.Sort.rd ltFl dk a1 b1 lim wb wp).pi.1.size by rw [SZ.out.2.2]; exact hb') BB.out hx
            have hc22 := partit_any W0 base B c n g lb eg HLS.out sf sb HSW.out wc (Go.Sort.rd ltFl dk a1 b1 lim wb wp).pi.1 SZ.out.2.2 HR6.out a1 b1 (Go.Sort.rd ltFl dk a1 b1 lim wb wp).pivot hpv.1 hpv.2 hb' hn
            rw [hx] at hc22
            have X := Lib.hid hx
            have HC22 := Lib.hid hc22
            have hs4 : d4.size = n := r3.trans SZ.out.2.2
            have HS4 := Lib.hid hs4
            clear hx hc22 hs4 r3
            go_upto_if 109 with (go_at_call 166; (with_reducible refine HC22.out.mono ?_); rintro e w7 ⟨rfl, k7, z7, t7⟩; have HR7 := Lib.hid k7; have HT7 := Lib.hid (HT6.out.trans t7 (fun _ _ h => h)); clear k7 z7 t7)
            have hx := X.out
            clear q0 q1
            obtain ⟨p0, p1⟩ := HBX.out w7 HT7.out
            have hR7 : SrtC W0 base B c d4 w7 := HR7.out
            have m2 : (mid : Int) ≤ 4000000 := by omega
            have m1 : (a1 : Int) ≤ mid := by omega
            have m3 : (mid : Int) < b1 := by omega
            by_cases h4 : mid - a1 < b1 - mid
            ·have h4z : (mid : Int) - (a1 : Int) < (b1 : Int) - (mid : Int) := by omega
             have HIH := Lib.hid (IH.out a1 mid (Go.Sort.rd ltFl dk a1 b1 lim wb wp).lim d4 w7 (by omega) HS4.out hR7 (by omega) (by omega) (by omega) r4)
             obtain ⟨pL, sL⟩ := Go.Sort.pdq_sorts ltFl HO.out d4 a1 mid (Go.Sort.rd ltFl dk a1 b1 lim wb wp).lim true true (by omega) (by rw [HS4.out]; omega) r4
             have PL := Lib.hid pL
             have R6 := Lib.hid ((r6 _ pL sL).1)
             clear hx pL sL r4 r5 r6 r7 hR7
             go_wp2_with (go_at_call 132; (with_reducible refine HIH.out.mono ?_); rintro e w8 ⟨rfl, k8, t8⟩; have HR8 := Lib.hid k8; have HT8 := Lib.hid (HT7.out.trans t8 (fun _ _ h => h)); clear k8 t8)
             go_roundw
             case rel =>
              have hx := X.out
              refine ⟨mid + 1, b1, (Go.Sort.rd ltFl dk a1 b1 lim wb wp).lim, decide (mid - a1 ≥ (b1 - a1) / 8), ap, Go.Sort.pdq ltFl d4 a1 mid (Go.Sort.rd ltFl dk a1 b1 lim wb wp).lim true true, by simp, rfl, rfl, ?_, rfl, by omega, by omega, by omega, by omega, by rw [PL.out.1, HS4.out], R6.out, HR8.out, HT8.out, ?_⟩
              ·exact congrArg Value.bool (Go.Proofs.eighth (by omega) (by omega))
              ·show _ = _
               rw [← A.out, Go.Sort.pdq_left h12 hl0 HP2.out h87 (by rw [hx]; exact ⟨r1, r2⟩) (by rw [hx]; exact h4), hx]
             case measure => simp [RowKit.intOf]; omega
            ·have h4z : ¬ ((mid : Int) - (a1 : Int) < (b1 : Int) - (mid : Int)) := by omega
             have hih := IH.out (mid + 1) b1 (Go.Sort.rd ltFl dk a1 b1 lim wb wp).lim d4 w7 (by omega) HS4.out hR7 (by omega) (by omega) (by omega) r5
             rw [show ((mid + 1 : Nat) : Int) = (mid : Int) + 1 by omega] at hih
             have HIH := Lib.hid hih
             obtain ⟨pL, sL⟩ := Go.Sort.pdq_sorts ltFl HO.out d4 (mid + 1) b1 (Go.Sort.rd ltFl dk a1 b1 lim wb wp).lim true true (by omega) (by rw [HS4.out]; omega) r5
             have PL := Lib.hid pL
             have R7 := Lib.hid ((r7 _ pL sL).1)
             clear hx pL sL r4 r5 r6 r7 hR7 hih
             go_wp2_with (go_at_call 132; (with_reducible refine HIH.out.mono ?_); rintro e w8 ⟨rfl, k8, t8⟩; have HR8 := Lib.hid k8; have HT8 := Lib.hid (HT7.out.trans t8 (fun _ _ h => h)); clear k8 t8)
             go_roundw
             case rel =>
              have hx := X.out
              refine ⟨a1, mid, (Go.Sort.rd ltFl dk a1 b1 lim wb wp).lim, decide (b1 - mid ≥ (b1 - a1) / 8), ap, Go.Sort.pdq ltFl d4 (mid + 1) b1 (Go.Sort.rd ltFl dk a1 b1 lim wb wp).lim true true, rfl, rfl, rfl, ?_, rfl, by omega, by omega, by omega, by omega, by rw [PL.out.1, HS4.out], R7.out, HR8.out, HT8.out, ?_⟩
              ·exact congrArg Value.bool (Go.Proofs.eighth (by omega) (by omega))
              ·show _ = _
               rw [← A.out, Go.Sort.pdq_right h12 hl0 HP2.out h87 (by rw [hx]; exact ⟨r1, r2⟩) (by rw [hx]; exact h4), hx]
             case measure => simp [RowKit.intOf]; omega
           ·have h87' := h87
            simp only [Bool.and_eq_true, decide_eq_true_eq, Bool.not_eq_true'] at h87'
            obtain ⟨mid, d4, hx⟩ : ∃ mid d4, Go.Sort.partitionEqual ltFl (Go.Sort.rd ltFl dk a1 b1 lim wb wp).pi.1 a1 b1 (Go.Sort.rd ltFl dk a1 b1 lim wb wp).pivot = (mid, d4) := ⟨(Go.Sort.partitionEqual ltFl (Go.Sort.rd ltFl dk a1 b1 lim wb wp).pi.1 a1 b1 (Go.Sort.rd ltFl dk a1 b1 lim wb wp).pivot).1, (Go.Sort.partitionEqual ltFl (Go.Sort.rd ltFl dk a1 b1 lim wb wp).pi.1 a1 b1 (Go.Sort.rd ltFl dk a1 b1 lim wb wp).pivot).2, rfl⟩
            obtain ⟨r1, r2, r3, r4, _⟩ := Go.Sort.round_eq HO.out (Go.Sort.partitionEqual_holds ltFl) h87'.1 hpv.1 hpv.2 (show b1 ≤ (Go.Sort.rd ltFl dk a1 b1 lim wb wp).pi.1.size by rw [SZ.out.2.2]; exact hb') BB.out h87'.2 hx
            have hc21 := parteq_any W0 base B c n g lb eg HLS.out sf sb HSW.out wc (Go.Sort.rd ltFl dk a1 b1 lim wb wp).pi.1 SZ.out.2.2 HR6.out a1 b1 (Go.Sort.rd ltFl dk a1 b1 lim wb wp).pivot hpv.1 hpv.2 hb' hn
            rw [hx] at hc21
            have X := Lib.hid hx
            have HC21 := Lib.hid hc21
            have HS4 := Lib.hid (r3.trans SZ.out.2.2)
            have m2 : (mid : Int) ≤ 4000000 := by omega
            have m1 : (a1 : Int) < mid := by omega
            have m3 : (mid : Int) ≤ b1 := by omega
            clear hx hc21 r3 h87'
            go_wp2_with (go_at_call 165; (with_reducible refine HC21.out.mono ?_); rintro e w7 ⟨rfl, k7, z7, t7⟩; have HR7 := Lib.hid k7; have HT7 := Lib.hid (HT6.out.trans t7 (fun _ _ h => h)); clear k7 z7 t7)
            go_roundw
            case rel =>
             have hx := X.out
             exact ⟨mid, b1, (Go.Sort.rd ltFl dk a1 b1 lim wb wp).lim, wb, wp, d4, rfl, rfl, rfl, rfl, rfl, r2, hb', by omega, by omega, HS4.out, r4, HR7.out, HT7.out, (show RowKit.Hid _ from Lib.hid (by rw [← A.out, Go.Sort.pdq_eq h12 hl0 HP2.out h87 (by rw [hx]; exact ⟨r1, r2⟩), hx]))⟩
            case measure => simp [RowKit.intOf]; omega
end Go.Proofs.YtpjdcgjoepjmcaaGreat
end
section
namespace Go.Proofs.YtpjdcgjoepjmcaaGreat
open Go.RowKit
theorem swo_flows : Go.Sort.SWO ltFl := by
 refine ⟨fun x => less_irr x.t, fun x y z h1 h2 => less_trans x.t y.t z.t h1 h2, fun x y z h1 h2 => ?_⟩
 unfold ltFl at *
 rw [Bool.eq_false_iff] at *
 intro h
 rw [ne_eq, lessT_iff] at h1 h2
 rw [lessT_iff] at h
 omega
theorem enter_those : ∀ (vs : Array Value) (w : World), (callFunc 94 vs).run Tryz.prog w = .ok (.enter 94 vs) w := fun vs w => by kernel_rfl
def SortedF (L : List FlD) : Prop := L.Pairwise (fun x y => ltFl y x = false)
set_option maxRecDepth 20000 in
theorem sorts_any (K : List FlD) (hk : K.length ≤ 4000000) : SortsF (fun _ L' => SortedF L') K := by
 intro W base bx a c L hp ho hb hh
 by_cases h2 : 2 ≤ L.length
 case neg =>
  have hl : L.length ≤ 1 := by omega
  refine (sort_tiny a L.length c hl _ _ _ W).mono ?_
  rintro e w' ⟨rfl, os, rfl⟩
  refine ⟨rfl, L, .refl _, ?_, ho.still (touch_grow W os), (touch_grow W os).mono (fun _ _ h => h.elim)⟩
  cases L with
  | nil => exact .nil
  | cons x r =>
    have : r = [] := by simpa using hl
    subst this
    exact List.pairwise_singleton _ _
 case pos =>
  obtain ⟨B, rfl⟩ : ∃ B, a = some ⟨B, 0, none⟩ := by
   rcases ho.own.2 with ⟨hv, hn⟩ | ⟨g, cap, cur, hv, hb, hg, _⟩
   ·rw [List.length_map] at hn
    exact absurd hn (by omega)
   ·simp only [Value.slice.injEq] at hv
    exact ⟨g, hv.1⟩
  have hBW : B < W.heap.size ∧ base ≤ B := ⟨(ho.row'.2.2 ⟨B, 0, none⟩ rfl).2, (ho.row'.2.2 ⟨B, 0, none⟩ rfl).1⟩
  obtain ⟨i, hi⟩ := Option.isSome_iff_exists.1 (show (Tryz.prog.info? 61).isSome = true by kernel_rfl)
  obtain ⟨ie, hie⟩ := Option.isSome_iff_exists.1 (show (Tryz.prog.info? 83).isSome = true by kernel_rfl)
  have hd : i.desc = .slice 83 := by
   have h1 : (Tryz.prog.info? 61).map (·.desc) = some (.slice 83) := by kernel_rfl
   rw [hi] at h1
   exact Option.some.inj h1
  have h9 : Lib.swapperK L.length ie 25 = 9 := by
   have h1 : (Tryz.prog.info? 83).map (fun i => (i.hasPointers, i.bytes)) = some (false, 56) := by kernel_rfl
   rw [hie] at h1
   have h3 := Option.some.inj h1
   have e1 : ie.hasPointers = false := congrArg Prod.fst h3
   have e2 : ie.bytes = 56 := congrArg Prod.snd h3
   unfold Lib.swapperK
   have c1 : (L.length == 0) = false := beq_eq_false_iff_ne.2 (by omega)
   have c2 : (L.length == 1) = false := beq_eq_false_iff_ne.2 (by omega)
   rw [c1, c2, e1, e2]
   rfl
  obtain ⟨n, hn⟩ : ∃ n, L.length = n := ⟨_, rfl⟩
  have hn4 : n ≤ 4000000 := by rw [← hn, hp.length_eq]; exact hk
  obtain ⟨W0, hW0⟩ : ∃ X, (W.alloc (.cells #[.slice (some ⟨B, 0, none⟩) n c] 61)).alloc (.cells #[.pointer (some ⟨Tryz.prog.globals.size, 61, none⟩), .pointer (some ⟨W.heap.size, 0, none⟩), .int .u64 151] 186) = X := ⟨_, rfl⟩
  have t0 : Touch W W0 (fun _ => False) := by
   rw [← hW0]
   exact ((Touch.refl W _).alloc _).alloc _
  have hr : SrtC W0 base B c L.toArray W0 := ⟨by simpa using ho.still t0, Touch.refl _ _⟩
  have hlc : LessC W0 base B c n 94 #[.pointer (some ⟨bx, 0, none⟩)] := by
   intro X d hd hx i j hi hj
   subst hd
   have hb2 : X.heap[bx]? = some (.cells #[.slice (some ⟨B, 0, none⟩) d.size c] 61 (0, 0)) := by
    rw [← hn]
    exact hx.t.keeps (t0.keeps hh (fun h => h)) (by omega)
   exact ltclo_any X base B c bx d hx.row hb2 i j hi hj
  have hpd := pdq_any swo_flows W0 base B c n 94 #[.pointer (some ⟨bx, 0, none⟩)] enter_those hlc 156 _ (swap_any W0 base B c n) hn4 (n + 1) 0 n (Lib.bitLen n) L.toArray W0 (by omega) (by simpa using hn) hr (Nat.zero_le _) (Nat.le_refl _) (Nat.le_trans (Lib.bitLen_le n 62 (by omega) (by omega)) (by decide)) (Or.inl rfl)
  have hs := Go.Sort.pdq_sorts ltFl swo_flows L.toArray 0 n (Lib.bitLen n) true true (Nat.zero_le _) (by simp [hn]) (Or.inl rfl)
  rw [hn]
  refine (Any.sort_Slice_of_pdq Tryz.laysGg6 61 83 i ie hi hd (by kernel_rfl) hie 25 (fun w => by kernel_rfl) (some ⟨B, 0, none⟩) n c (by omega) 156 (by rw [← hn, h9]; kernel_rfl) (.func 94) #[] #[.pointer (some ⟨bx, 0, none⟩)] W
   (fun w' => SrtC W0 base B c (Go.Sort.pdq ltFl L.toArray 0 n (Lib.bitLen n) true true) w' ∧ Touch W0 w' (fun k => k = B)) ?_).mono ?_
  ·have hB : sliceBound Tryz.prog 83 ie 25 (some ⟨B, 0, none⟩) n c = #[.slice (some ⟨B, 0, none⟩) n c, typeHandle Tryz.prog 83] := by
    unfold sliceBound; rw [← hn, h9]; rfl
   have hsw : ∀ ρ' : Go.Shelf.Ren, ρ'.t 35 = 186 → sliceWorld Tryz.prog ρ' 61 (some ⟨B, 0, none⟩) n c W = W0 := fun ρ' h => by unfold sliceWorld; rw [h]; exact hW0
   rw [hB, hsw _ rfl]
   exact hpd
  ·rintro e w' ⟨rfl, hR, hT⟩
   generalize Go.Sort.pdq ltFl L.toArray 0 n (Lib.bitLen n) true true = D at *
   have hz : D.size = n := by rw [hs.1.1]; simpa using hn
   have hx : ∀ (E : Array FlD), E.size = n → (E.extract 0 n).toList = E.toList := fun E h => by
    rw [Array.toList_extract, ← h]
    simp [List.take_of_length_le]
   refine ⟨rfl, D.toList, ?_, ?_, ?_, ?_⟩
   ·have h1 := hs.1.2.2
    rw [hx D hz, hx L.toArray (by simpa using hn)] at h1
    exact h1
   ·show SortedF D.toList
    unfold SortedF
    rw [List.pairwise_iff_getElem]
    intro p q hp1 hq1 hpq
    have h1 := hs.2 p q (Nat.zero_le _) hpq (by simpa [hz] using hq1)
    rw [getElem!_pos D p (by simpa using hp1), getElem!_pos D q (by simpa using hq1)] at h1
    simpa using h1
   ·have h1 := hR.row
    rw [hz] at h1
    exact h1
   ·exact (t0.mono (T := fun k => (Value.slice (some ⟨B, 0, none⟩) n c).ownBlock = some k) (fun _ _ h => h.elim)).trans hT (fun k _ h => by subst h; rfl)
end Go.Proofs.YtpjdcgjoepjmcaaGreat
end
section
namespace Go.Proofs.YtpjdcgjoepjmcaaGreat
open Go.RowKit
def StrictF (L : List FlD) : Prop := L.Pairwise (fun x y => ltFl x y = true)
theorem strict_of {L : List FlD} (hs : SortedF L) (hn : (L.map FlD.t).Nodup) : StrictF L := by
 unfold SortedF at hs
 unfold StrictF
 induction L with
 | nil => exact .nil
 | cons x r ih =>
   rw [List.map_cons, List.nodup_cons] at hn
   rw [List.pairwise_cons] at hs ⊢
   refine ⟨fun y hy => ?_, ih hs.2 hn.2⟩
   have h1 := hs.1 y hy
   have hne : x.t ≠ y.t := fun e => hn.1 (e ▸ List.mem_map_of_mem hy)
   have h2 := less_tri x.t y.t hne
   unfold ltFl at h1 ⊢
   rw [h1] at h2
   cases h3 : lessT x.t y.t
   ·rw [h3] at h2; exact absurd h2 (by decide)
   ·rfl
theorem strict_ext : ∀ {L K : List FlD}, L.Perm K → StrictF L → StrictF K → L = K
 | [], K, hp, _, _ => hp.symm.eq_nil.symm ▸ rfl
 | x :: r, [], hp, _, _ => absurd hp.length_eq (by simp)
 | x :: r, y :: s, hp, hl, hk => by
   unfold StrictF at hl hk
   rw [List.pairwise_cons] at hl hk
   have e : x = y := by
    have h1 : x ∈ y :: s := hp.subset (List.mem_cons_self ..)
    have h2 : y ∈ x :: r := hp.symm.subset (List.mem_cons_self ..)
    rcases List.mem_cons.1 h1 with h1 | h1
    ·exact h1
    ·rcases List.mem_cons.1 h2 with h2 | h2
     ·exact h2.symm
     ·have a := hk.1 x h1
      have b := hl.1 y h2
      have := less_trans x.t y.t x.t b a
      rw [less_irr] at this
      cases this
   subst e
   rw [strict_ext (hp.cons_inv) hl.2 hk.2]
theorem all_filter (M : List FlD) : M.filter isAll = M := by
 unfold isAll
 simp
theorem FS.small {w : World} {g : Nat} {h : FH} {most idle : Int} {M : List FlD} (d : FS w g h most idle M) : M.length ≤ 256 := by
 have := d.len
 omega
set_option maxRecDepth 20000 in
theorem fall_any (w : World) (g : Nat) (h : FH) (most idle : Int) (M : List FlD) (d : FS w g h most idle M) :
 Calls Tryz.prog 24 #[.pointer (some ⟨g, 0, none⟩)] w fun e w' => ∃ a c L, e = .returned (.slice a L.length c) ∧ L.Perm M ∧ StrictF L ∧ OwnS w' w.heap.size 83 8 (.slice a L.length c) (L.map fcl) ∧ Touch w w' (fun _ => False) := by
 have hl : (M.filter isAll).length ≤ 256 := Nat.le_trans (List.length_filter_le ..) d.small
 have HT := Lib.hid (thoseall_any _ w g h most idle M d (sorts_any _ (by omega)))
 have HN := Lib.hid d.map.nd
 go_enter Tryz.func24, Tryz.ntmps24
 go_wp2_with fail
 (with_reducible refine HT.out.mono ?_)
 rintro e w2 ⟨a, c, L, L', rfl, hp, hp2, hs, ho, t2⟩
 rw [all_filter] at hp
 have hq := hp2.trans hp
 have hst : StrictF L' := strict_of hs ((hq.map FlD.t).nodup_iff.2 HN.out)
 have HO := Lib.hid ho
 have HT2 := Lib.hid t2
 have HQ := Lib.hid (And.intro hq hst)
 clear ho t2 hp hp2 hs hq hst
 go_wp2_with fail
 go_ret
 exact ⟨a, c, L', rfl, HQ.out.1, HQ.out.2, HO.out, HT2.out⟩
end Go.Proofs.YtpjdcgjoepjmcaaGreat
end
section
namespace Go.Proofs.YtpjdcgjoepjmcaaGreat
open Go.RowKit
set_option maxRecDepth 20000 in
set_option maxHeartbeats 8000000 in
theorem samefl_any (w : World) (a a2 : Option Addr) (n c c2 : Nat) (A : List FlD) (hA : RowS w a n c 8 (A.map fcl)) (hB : RowS w a2 n c2 8 (A.map fcl)) (hs : n ≤ 100000) :
 Calls Tryz.prog 23 #[.slice a n c, .slice a2 n c2] w fun e w' => e = .returned (.bool true) ∧ Touch w w' (fun _ => False) := by
 have hn : A.length = n := by have := hA.hlen; simpa using this
 have HA := Lib.hid hA
 have HB := Lib.hid hB
 clear hA hB
 go_enter Tryz.func23, Tryz.ntmps23
 go_wp2_with fail
 go_loopw [13] (fun s13 wr => ∃ k : Nat, k ≤ n ∧ s13 = .int .i64 k ∧ Touch w wr (fun _ => False)) (fun s13 _ => n - (RowKit.intOf s13).toNat)
 case atStart => exact ⟨0, Nat.zero_le _, rfl, Touch.refl _ _⟩
 case round =>
  obtain ⟨k, hk, rfl, ht⟩ := hrel
  have HT := Lib.hid ht
  clear ht
  by_cases hlt : k < n
  case neg =>
   obtain rfl : n = k := by omega
   go_wp2_with fail
   go_ret
   exact ⟨rfl, HT.out⟩
  case pos =>
   have hkA : k < (A.map fcl).length := by simp; omega
   have rA := HA.out.still HT.out
   have rB := HB.out.still HT.out
   obtain ⟨b1, o1, ea⟩ := rA.some (by omega)
   obtain ⟨b2, o2, eb⟩ := rB.some (by omega)
   subst ea eb
   have e : (A.map fcl)[k] = fcl (gf A k) := by rw [List.getElem_map, gf_get A k (by omega)]
   have c0 := rA.cell k hkA 0 (.int .u32 (gf A k).t.src) (by rw [e]; rfl)
   have d0 := rB.cell k hkA 0 (.int .u32 (gf A k).t.src) (by rw [e]; rfl)
   have c1 := rA.cell k hkA 1 (.int .u32 (gf A k).t.dst) (by rw [e]; rfl)
   have d1 := rB.cell k hkA 1 (.int .u32 (gf A k).t.dst) (by rw [e]; rfl)
   have c2 := rA.cell k hkA 2 (.int .i64 (gf A k).t.proto) (by rw [e]; rfl)
   have d2 := rB.cell k hkA 2 (.int .i64 (gf A k).t.proto) (by rw [e]; rfl)
   have c3 := rA.cell k hkA 3 (.int .i64 (gf A k).t.sport) (by rw [e]; rfl)
   have d3 := rB.cell k hkA 3 (.int .i64 (gf A k).t.sport) (by rw [e]; rfl)
   have c4 := rA.cell k hkA 4 (.int .i64 (gf A k).t.dport) (by rw [e]; rfl)
   have d4 := rB.cell k hkA 4 (.int .i64 (gf A k).t.dport) (by rw [e]; rfl)
   have c5 := rA.cell k hkA 5 (.int .i64 (gf A k).fb) (by rw [e]; rfl)
   have d5 := rB.cell k hkA 5 (.int .i64 (gf A k).fb) (by rw [e]; rfl)
   have c6 := rA.cell k hkA 6 (.int .i64 (gf A k).fg) (by rw [e]; rfl)
   have d6 := rB.cell k hkA 6 (.int .i64 (gf A k).fg) (by rw [e]; rfl)
   have c7 := rA.cell k hkA 7 (.int .i64 (gf A k).fs) (by rw [e]; rfl)
   have d7 := rB.cell k hkA 7 (.int .i64 (gf A k).fs) (by rw [e]; rfl)
   rw [Nat.add_zero] at c0 d0
   have hlI : (k : Int) < n := by omega
   have hcA := rA.hcap
   have hcB := rB.hcap
   have hmA := rA.hmax
   have hmB := rB.hmax
   clear rA rB e
   obtain ⟨X, hX⟩ : ∃ X, gf A k = X := ⟨_, rfl⟩
   rw [hX] at c0 c1 c2 c3 c4 c5 c6 c7 d0 d1 d2 d3 d4 d5 d6 d7
   clear hX
   obtain ⟨⟨x1, x2, x3, x4, x5⟩, x6, x7, x8⟩ := X
   go_upto_region 6 with (fail)
   go_quiet (fail)
   all_goals (go_wp2_with fail)
   all_goals (go_roundw)
   all_goals first
    | exact ⟨k + 1, by omega, by go_num, HT.out.drewN _⟩
    | (simp only [RowKit.intOf]; omega)
section
open Go.ChangeShapes Go.WideShapes Go.ChangeAt Go.RowKit
variable {H : Type} {enc : TypeId × Value → H} {W : World} {base : Nat} {v : Value} {d : DataW H} {p : List MemPlace} {cs : List Value}
end
end Go.Proofs.YtpjdcgjoepjmcaaGreat
end
