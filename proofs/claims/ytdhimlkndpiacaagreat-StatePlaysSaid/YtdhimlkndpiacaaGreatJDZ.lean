/- JD: StEq, StSame, StVw, StRecs, StRec, StOf. -/
import Derived.Test.YtdhimlkndpiacaaGreatStAwakeZ
import Derived.Test.YtdhimlkndpiacaaGreatGCZ
import Derived.BigQuiet
import Derived.StillTailTactics
import Derived.Test.YtdhimlkndpiacaaGreatStArgsZ
import Derived.Test.YtdhimlkndpiacaaGreatGIZ
import Derived.Test.YtdhimlkndpiacaaGreatHAZ
section
/- slices.Equal at drains, at flows. -/
set_option linter.unusedVariables false
set_option linter.unusedSimpArgs false
namespace Go.Proofs.YtdhimlkndpiacaaGreat
open Go.RowKit

def DR.valE (x : DR) : List Int := [x.b, x.u]
def sameDr (bs cs : List DR) : Bool := decide (bs.map DR.valE = cs.map DR.valE)
theorem sameDr_len {bs cs : List DR} (h : bs.length ≠ cs.length) : sameDr bs cs = false := by
  unfold sameDr; exact decide_eq_false (fun e => h (by have := congrArg List.length e; simpa using this))
theorem sameDr_at {bs cs : List DR} (i : Nat) (h1 : i < bs.length) (h2 : i < cs.length) (h : bs[i].valE ≠ cs[i].valE) : sameDr bs cs = false := by
  unfold sameDr
  refine decide_eq_false (fun e => h ?_)
  have := congrArg (fun l : List (List Int) => l[i]?) e
  simpa [h1, h2] using this
theorem sameDr_all {bs cs : List DR} (hl : bs.length = cs.length) (h : (bs.map DR.valE).take bs.length = (cs.map DR.valE).take bs.length) : sameDr bs cs = true := by
  unfold sameDr; apply decide_eq_true
  rw [List.take_of_length_le (by simp), List.take_of_length_le (by simp; omega)] at h; exact h
theorem sameDr_refl (bs : List DR) : sameDr bs bs = true := decide_eq_true rfl
theorem sameDr_cells {w : World} {b off len cap : Nat} {bs : List DR} (h : RowS w (some ⟨b, off, none⟩) len cap 2 (bs.map dcl)) (i : Nat) (hi : i < bs.length) :
    w.cell? ⟨b, off + i * 2, none⟩ = some (.int .i64 bs[i].b) ∧ w.cell? ⟨b, off + i * 2 + 1, none⟩ = some (.int .i64 bs[i].u) := by
  have hi' : i < (bs.map dcl).length := by simpa using hi
  have e : (bs.map dcl)[i] = dcl bs[i] := by simp
  exact ⟨h.cell i hi' 0 _ (by rw [e]; rfl), h.cell i hi' 1 _ (by rw [e]; rfl)⟩
set_option maxRecDepth 20000 in
set_option maxHeartbeats 8000000 in
theorem sameDr_any (a : Option Addr) (len cap : Nat) (bs : List DR) (a2 : Option Addr) (len2 cap2 : Nat) (cs : List DR) (w : World) (hr : RowS w a len cap 2 (bs.map dcl)) (hr2 : RowS w a2 len2 cap2 2 (cs.map dcl)) :
    Calls Tryz.prog 49 #[.slice a len cap, .slice a2 len2 cap2] w fun e w' => e = .returned (.bool (sameDr bs cs)) ∧ Touch w w' (fun _ => False) := by
  have hl1 : bs.length = len := by have := hr.hlen; simpa using this
  have hl2 : cs.length = len2 := by have := hr2.hlen; simpa using this
  by_cases hn : len = len2
  case neg =>
    have hb : ((len : Int) != (len2 : Int)) = true := bne_iff_ne.2 (by omega)
    rw [sameDr_len (by omega)]
    clear hr hr2 hl1 hl2 hn
    go_enter Tryz.func49, Tryz.ntmps49
    go_wp2
    go_ret
    exact ⟨rfl, Touch.refl _ _⟩
  case pos =>
  obtain rfl := hn
  have hb : ((len : Int) != (len : Int)) = false := bne_eq_false_iff_eq.2 rfl
  have hcap := hr.hmax
  have hcap1 := hr.hcap
  have HR := Lib.hid hr
  have HR2 := Lib.hid hr2
  have HL1 := Lib.hid hl1
  have HL2 := Lib.hid hl2
  clear hr hr2 hl1 hl2
  go_enter Tryz.func49, Tryz.ntmps49
  go_wp2_with fail
  go_loopw [13] (fun i wr => ∃ k n : Nat, k ≤ len ∧ i = .int .i64 k ∧ wr = w.drewN n ∧ (bs.map DR.valE).take k = (cs.map DR.valE).take k) (fun i _ => len - (intOf i).toNat)
  case atStart => exact ⟨0, 0, Nat.zero_le _, rfl, rfl, by simp⟩
  case round =>
    obtain ⟨k, n, hk, rfl, hwr, he⟩ := hrel
    have HWR := Lib.hid hwr
    have HE := Lib.hid he
    have t : Touch w wr (fun _ => False) := hwr ▸ (Touch.refl w (fun _ => False)).drewN n
    clear he hwr
    by_cases hlt : k < len
    case neg =>
      obtain rfl : len = k := by omega
      have hlt' : ¬ (len : Int) < len := by omega
      have HEND : RowKit.Hid (sameDr bs cs = true) := Lib.hid (sameDr_all (by rw [HL1.out, HL2.out]) (by simpa [HL1.out] using HE.out))
      have HT := Lib.hid t
      clear t
      go_wp2
      go_ret
      exact ⟨by rw [HEND.out]; rfl, HT.out⟩
    case pos =>
    have hr := HR.out.still t
    have hr2 := HR2.out.still t
    obtain ⟨b, off, rfl⟩ := hr.some (by omega)
    obtain ⟨b2, off2, rfl⟩ := hr2.some (by omega)
    have hk1 : k < bs.length := by rw [HL1.out]; exact hlt
    have hk2 : k < cs.length := by rw [HL2.out]; exact hlt
    obtain ⟨c0, c1⟩ := sameDr_cells hr k hk1
    obtain ⟨d0, d1⟩ := sameDr_cells hr2 k hk2
    have HF : RowKit.Hid ((bs.map DR.valE).take (k + 1) = (bs.map DR.valE).take k ++ [bs[k].valE]) := Lib.hid (by rw [List.take_succ_eq_append_getElem (by simpa using hk1)]; simp)
    have HG : RowKit.Hid ((cs.map DR.valE).take (k + 1) = (cs.map DR.valE).take k ++ [cs[k].valE]) := Lib.hid (by rw [List.take_succ_eq_append_getElem (by simpa using hk2)]; simp)
    have HAT := Lib.hid (sameDr_at k hk1 hk2)
    generalize bs[k] = f at *
    generalize cs[k] = g at *
    have i1 : (k : Int) < len := by omega
    have HT := Lib.hid t
    clear hr hr2 t
    go_wp2_with fail
    go_still_tail 8, (by kernel_rfl)
    change wpList _ _ _ _ _ wr.drew
    go_wp2
    all_goals first
      | (have hv : f.valE = g.valE := by simp only [DR.valE, List.cons.injEq, and_true]; omega
         refine ⟨⟨k + 1, n + 1, hlt, by go_num, ?_, ?_⟩, by simp [intOf]; omega⟩
         · rw [HWR.out]; rfl
         · rw [HF.out, HG.out, HE.out, hv])
      | (have hv : f.valE ≠ g.valE := fun h => by simp only [DR.valE, List.cons.injEq, and_true] at h; omega
         go_ret
         exact ⟨by rw [HAT.out hv]; rfl, HT.out.drewN 1⟩)

def FlD.valE (x : FlD) : List Int := [x.t.src, x.t.dst, x.t.proto, x.t.sport, x.t.dport, x.fb, x.fg, x.fs]
def sameFr (bs cs : List FlD) : Bool := decide (bs.map FlD.valE = cs.map FlD.valE)
theorem sameFr_len {bs cs : List FlD} (h : bs.length ≠ cs.length) : sameFr bs cs = false := by
  unfold sameFr; exact decide_eq_false (fun e => h (by have := congrArg List.length e; simpa using this))
theorem sameFr_at {bs cs : List FlD} (i : Nat) (h1 : i < bs.length) (h2 : i < cs.length) (h : bs[i].valE ≠ cs[i].valE) : sameFr bs cs = false := by
  unfold sameFr
  refine decide_eq_false (fun e => h ?_)
  have := congrArg (fun l : List (List Int) => l[i]?) e
  simpa [h1, h2] using this
theorem sameFr_all {bs cs : List FlD} (hl : bs.length = cs.length) (h : (bs.map FlD.valE).take bs.length = (cs.map FlD.valE).take bs.length) : sameFr bs cs = true := by
  unfold sameFr; apply decide_eq_true
  rw [List.take_of_length_le (by simp), List.take_of_length_le (by simp; omega)] at h; exact h
theorem sameFr_refl (bs : List FlD) : sameFr bs bs = true := decide_eq_true rfl
theorem sameFr_cells {w : World} {b off len cap : Nat} {bs : List FlD} (h : RowS w (some ⟨b, off, none⟩) len cap 8 (bs.map fcl)) (i : Nat) (hi : i < bs.length) :
    w.cell? ⟨b, off + i * 8, none⟩ = some (.int .u32 bs[i].t.src) ∧ w.cell? ⟨b, off + i * 8 + 1, none⟩ = some (.int .u32 bs[i].t.dst) ∧ w.cell? ⟨b, off + i * 8 + 2, none⟩ = some (.int .i64 bs[i].t.proto) ∧ w.cell? ⟨b, off + i * 8 + 3, none⟩ = some (.int .i64 bs[i].t.sport) ∧ w.cell? ⟨b, off + i * 8 + 4, none⟩ = some (.int .i64 bs[i].t.dport) ∧ w.cell? ⟨b, off + i * 8 + 5, none⟩ = some (.int .i64 bs[i].fb) ∧ w.cell? ⟨b, off + i * 8 + 6, none⟩ = some (.int .i64 bs[i].fg) ∧ w.cell? ⟨b, off + i * 8 + 7, none⟩ = some (.int .i64 bs[i].fs) := by
  have hi' : i < (bs.map fcl).length := by simpa using hi
  have e : (bs.map fcl)[i] = fcl bs[i] := by simp
  exact ⟨h.cell i hi' 0 _ (by rw [e]; rfl), h.cell i hi' 1 _ (by rw [e]; rfl), h.cell i hi' 2 _ (by rw [e]; rfl), h.cell i hi' 3 _ (by rw [e]; rfl), h.cell i hi' 4 _ (by rw [e]; rfl), h.cell i hi' 5 _ (by rw [e]; rfl), h.cell i hi' 6 _ (by rw [e]; rfl), h.cell i hi' 7 _ (by rw [e]; rfl)⟩
set_option maxRecDepth 20000 in
set_option maxHeartbeats 8000000 in
theorem sameFr_any (a : Option Addr) (len cap : Nat) (bs : List FlD) (a2 : Option Addr) (len2 cap2 : Nat) (cs : List FlD) (w : World) (hr : RowS w a len cap 8 (bs.map fcl)) (hr2 : RowS w a2 len2 cap2 8 (cs.map fcl)) :
    Calls Tryz.prog 50 #[.slice a len cap, .slice a2 len2 cap2] w fun e w' => e = .returned (.bool (sameFr bs cs)) ∧ Touch w w' (fun _ => False) := by
  have hl1 : bs.length = len := by have := hr.hlen; simpa using this
  have hl2 : cs.length = len2 := by have := hr2.hlen; simpa using this
  by_cases hn : len = len2
  case neg =>
    have hb : ((len : Int) != (len2 : Int)) = true := bne_iff_ne.2 (by omega)
    rw [sameFr_len (by omega)]
    clear hr hr2 hl1 hl2 hn
    go_enter Tryz.func50, Tryz.ntmps50
    go_wp2
    go_ret
    exact ⟨rfl, Touch.refl _ _⟩
  case pos =>
  obtain rfl := hn
  have hb : ((len : Int) != (len : Int)) = false := bne_eq_false_iff_eq.2 rfl
  have hcap := hr.hmax
  have hcap1 := hr.hcap
  have HR := Lib.hid hr
  have HR2 := Lib.hid hr2
  have HL1 := Lib.hid hl1
  have HL2 := Lib.hid hl2
  clear hr hr2 hl1 hl2
  go_enter Tryz.func50, Tryz.ntmps50
  go_wp2_with fail
  go_loopw [13] (fun i wr => ∃ k n : Nat, k ≤ len ∧ i = .int .i64 k ∧ wr = w.drewN n ∧ (bs.map FlD.valE).take k = (cs.map FlD.valE).take k) (fun i _ => len - (intOf i).toNat)
  case atStart => exact ⟨0, 0, Nat.zero_le _, rfl, rfl, by simp⟩
  case round =>
    obtain ⟨k, n, hk, rfl, hwr, he⟩ := hrel
    have HWR := Lib.hid hwr
    have HE := Lib.hid he
    have t : Touch w wr (fun _ => False) := hwr ▸ (Touch.refl w (fun _ => False)).drewN n
    clear he hwr
    by_cases hlt : k < len
    case neg =>
      obtain rfl : len = k := by omega
      have hlt' : ¬ (len : Int) < len := by omega
      have HEND : RowKit.Hid (sameFr bs cs = true) := Lib.hid (sameFr_all (by rw [HL1.out, HL2.out]) (by simpa [HL1.out] using HE.out))
      have HT := Lib.hid t
      clear t
      go_wp2
      go_ret
      exact ⟨by rw [HEND.out]; rfl, HT.out⟩
    case pos =>
    have hr := HR.out.still t
    have hr2 := HR2.out.still t
    obtain ⟨b, off, rfl⟩ := hr.some (by omega)
    obtain ⟨b2, off2, rfl⟩ := hr2.some (by omega)
    have hk1 : k < bs.length := by rw [HL1.out]; exact hlt
    have hk2 : k < cs.length := by rw [HL2.out]; exact hlt
    obtain ⟨c0, c1, c2, c3, c4, c5, c6, c7⟩ := sameFr_cells hr k hk1
    obtain ⟨d0, d1, d2, d3, d4, d5, d6, d7⟩ := sameFr_cells hr2 k hk2
    have HF : RowKit.Hid ((bs.map FlD.valE).take (k + 1) = (bs.map FlD.valE).take k ++ [bs[k].valE]) := Lib.hid (by rw [List.take_succ_eq_append_getElem (by simpa using hk1)]; simp)
    have HG : RowKit.Hid ((cs.map FlD.valE).take (k + 1) = (cs.map FlD.valE).take k ++ [cs[k].valE]) := Lib.hid (by rw [List.take_succ_eq_append_getElem (by simpa using hk2)]; simp)
    have HAT := Lib.hid (sameFr_at k hk1 hk2)
    generalize bs[k] = f at *
    generalize cs[k] = g at *
    have i1 : (k : Int) < len := by omega
    have HT := Lib.hid t
    clear hr hr2 t
    go_wp2_with fail
    go_still_tail 8, (by kernel_rfl)
    change wpList _ _ _ _ _ wr.drew
    go_wp2
    all_goals first
      | (have hv : f.valE = g.valE := by simp only [FlD.valE, List.cons.injEq, and_true]; omega
         refine ⟨⟨k + 1, n + 1, hlt, by go_num, ?_, ?_⟩, by simp [intOf]; omega⟩
         · rw [HWR.out]; rfl
         · rw [HF.out, HG.out, HE.out, hv])
      | (have hv : f.valE ≠ g.valE := fun h => by simp only [FlD.valE, List.cons.injEq, and_true] at h; omega
         go_ret
         exact ⟨by rw [HAT.out hv]; rfl, HT.out.drewN 1⟩)
end Go.Proofs.YtdhimlkndpiacaaGreat

end

section
/- state.Same: are two views alike? -/
set_option linter.unusedVariables false
set_option linter.unusedSimpArgs false
namespace Go.Proofs.YtdhimlkndpiacaaGreat
open Go.RowKit

def same14 (x y : StS) : Bool := decide (x.gen = y.gen) && (sameK x.bs y.bs && (sameDr x.D y.D && sameFr x.F y.F))
theorem sameK_refl14 (bs : List BkD) : sameK bs bs = true := decide_eq_true rfl
theorem same14_refl (x : StS) : same14 x x = true := by
  unfold same14; rw [sameK_refl14, sameDr_refl, sameFr_refl, decide_eq_true rfl]; rfl
/-- A view that lies somewhere. -/
structure VwAt (w : World) (x : StS) (a1 : Option Addr) (c1 : Nat) (a2 : Option Addr) (c2 : Nat) (a3 : Option Addr) (c3 : Nat) : Prop where
  b : RowK w a1 x.bs.length c1 x.bs
  d : RowS w a2 x.D.length c2 2 (x.D.map dcl)
  f : RowS w a3 x.F.length c3 8 (x.F.map fcl)
def vcs (x : StS) (a1 : Option Addr) (c1 : Nat) (a2 : Option Addr) (c2 : Nat) (a3 : Option Addr) (c3 : Nat) : Array Value := #[.int .i64 x.gen, .slice a1 x.bs.length c1, .slice a2 x.D.length c2, .slice a3 x.F.length c3]
theorem VwAt.still {w w' : World} {x : StS} {a1 : Option Addr} {c1 : Nat} {a2 : Option Addr} {c2 : Nat} {a3 : Option Addr} {c3 : Nat} (h : VwAt w x a1 c1 a2 c2 a3 c3) (t : Touch w w' (fun _ => False)) : VwAt w' x a1 c1 a2 c2 a3 c3 :=
  ⟨h.b.still t, h.d.still t, h.f.still t⟩
theorem gsame_any (a : Option Addr) (len cap : Nat) (bs : List BkD) (a2 : Option Addr) (len2 cap2 : Nat) (cs : List BkD) (w : World) (hr : RowK w a len cap bs) (hr2 : RowK w a2 len2 cap2 cs) :
    Calls Tryz.prog 48 #[.slice a len cap, .slice a2 len2 cap2] w fun e w' => e = .returned (.bool (sameK bs cs)) ∧ Touch w w' (fun _ => False) := by
  have HE := Lib.hid (sameK_any a len cap bs a2 len2 cap2 cs w hr hr2)
  clear hr hr2
  go_enter Tryz.func48, Tryz.ntmps48
  go_wp2_with fail
  (with_reducible refine HE.out.mono ?_)
  rintro e w2 ⟨rfl, n, rfl⟩
  go_wp2_with fail
  go_ret
  exact ⟨rfl, (Touch.refl w _).drewN n⟩
set_option maxRecDepth 20000 in
set_option maxHeartbeats 8000000 in
theorem same14_any (w : World) (x y : StS) (a1 : Option Addr) (c1 : Nat) (a2 : Option Addr) (c2 : Nat) (a3 : Option Addr) (c3 : Nat) (b1 : Option Addr) (d1 : Nat) (b2 : Option Addr) (d2 : Nat) (b3 : Option Addr) (d3 : Nat) (hx : VwAt w x a1 c1 a2 c2 a3 c3) (hy : VwAt w y b1 d1 b2 d2 b3 d3) :
    Calls Tryz.prog 20 #[.agg (vcs x a1 c1 a2 c2 a3 c3), .agg (vcs y b1 d1 b2 d2 b3 d3)] w fun e w' => e = .returned (.bool (same14 x y)) ∧ Touch w w' (fun _ => False) := by
  obtain ⟨W1, hW1⟩ : ∃ W, w.alloc (.cells (vcs x a1 c1 a2 c2 a3 c3) 35) = W := ⟨_, rfl⟩
  have t1 : Touch w W1 (fun _ => False) := hW1 ▸ (Touch.refl w _).alloc _
  have g1 : W1.heap[w.heap.size]? = some (.cells (vcs x a1 c1 a2 c2 a3 c3) 35 (0, 0)) := hW1 ▸ heap_alloc_new ..
  obtain ⟨W2, hW2⟩ : ∃ W, W1.alloc (.cells (vcs y b1 d1 b2 d2 b3 d3) 35) = W := ⟨_, rfl⟩
  have t2 : Touch W1 W2 (fun _ => False) := hW2 ▸ (Touch.refl W1 _).alloc _
  have g2 : W2.heap[W1.heap.size]? = some (.cells (vcs y b1 d1 b2 d2 b3 d3) 35 (0, 0)) := hW2 ▸ heap_alloc_new ..
  obtain ⟨K1, hK1⟩ : ∃ K, w.heap.size = K := ⟨_, rfl⟩
  have s1 : W1.heap.size = w.heap.size + 1 := by rw [← hW1]; simp
  rw [s1] at g2
  obtain ⟨K2, hK2⟩ : ∃ K, w.heap.size + 1 = K := ⟨_, rfl⟩
  rw [hK1] at g1
  rw [hK2] at g2
  have hx2 := (hx.still t1).still t2
  have hy2 := (hy.still t1).still t2
  have HC : RowKit.Hid (∀ W, Touch W2 W (fun _ => False) → (W.cell? ⟨K1, 0, none⟩ = some (.int .i64 x.gen) ∧ W.cell? ⟨K1, 1, none⟩ = some (.slice a1 x.bs.length c1) ∧ W.cell? ⟨K1, 2, none⟩ = some (.slice a2 x.D.length c2) ∧ W.cell? ⟨K1, 3, none⟩ = some (.slice a3 x.F.length c3)) ∧ W.cell? ⟨K2, 0, none⟩ = some (.int .i64 y.gen) ∧ W.cell? ⟨K2, 1, none⟩ = some (.slice b1 y.bs.length d1) ∧ W.cell? ⟨K2, 2, none⟩ = some (.slice b2 y.D.length d2) ∧ W.cell? ⟨K2, 3, none⟩ = some (.slice b3 y.F.length d3)) := Lib.hid (fun W t => by
    have h1 := t.keeps (t2.keeps g1 (fun h => h)) (fun h => h)
    have h2 := t.keeps g2 (fun h => h)
    exact ⟨⟨cell_of_cells h1 0, cell_of_cells h1 1, cell_of_cells h1 2, cell_of_cells h1 3⟩, cell_of_cells h2 0, cell_of_cells h2 1, cell_of_cells h2 2, cell_of_cells h2 3⟩)
  obtain ⟨B1, hB1⟩ : ∃ B, sameK x.bs y.bs = B := ⟨_, rfl⟩
  obtain ⟨B2, hB2⟩ : ∃ B, sameDr x.D y.D = B := ⟨_, rfl⟩
  obtain ⟨B3, hB3⟩ : ∃ B, sameFr x.F y.F = B := ⟨_, rfl⟩
  have HS1 : RowKit.Hid (∀ W, Touch W2 W (fun _ => False) → Calls Tryz.prog 48 #[.slice a1 x.bs.length c1, .slice b1 y.bs.length d1] W fun e w' => e = .returned (.bool B1) ∧ Touch W w' (fun _ => False)) := Lib.hid (fun W t => by rw [← hB1]; exact gsame_any _ _ _ _ _ _ _ _ W (hx2.still t).b (hy2.still t).b)
  have HS2 : RowKit.Hid (∀ W, Touch W2 W (fun _ => False) → Calls Tryz.prog 49 #[.slice a2 x.D.length c2, .slice b2 y.D.length d2] W fun e w' => e = .returned (.bool B2) ∧ Touch W w' (fun _ => False)) := Lib.hid (fun W t => by rw [← hB2]; exact sameDr_any _ _ _ _ _ _ _ _ W (hx2.still t).d (hy2.still t).d)
  have HS3 : RowKit.Hid (∀ W, Touch W2 W (fun _ => False) → Calls Tryz.prog 50 #[.slice a3 x.F.length c3, .slice b3 y.F.length d3] W fun e w' => e = .returned (.bool B3) ∧ Touch W w' (fun _ => False)) := Lib.hid (fun W t => by rw [← hB3]; exact sameFr_any _ _ _ _ _ _ _ _ W (hx2.still t).f (hy2.still t).f)
  have hR : same14 x y = (decide (x.gen = y.gen) && (B1 && (B2 && B3))) := by unfold same14; rw [hB1, hB2, hB3]
  have HR := Lib.hid hR
  have HT := Lib.hid (t1.trans t2 (fun _ _ h => h))
  have HT0 := Lib.hid (Touch.refl W2 (fun _ => False))
  have HW1 := Lib.hid (And.intro hW1 hK1)
  have HW2 := Lib.hid (And.intro hW2 hK2)
  simp only [vcs] at HW1 HW2 ⊢
  clear hR hB1 hB2 hB3 hx2 hy2 hx hy t1 t2 g1 g2 hW1 hW2 hK1 hK2 s1
  go_enter Tryz.func20, Tryz.ntmps20
  go_upto_region 1 with (fail)
  rw [HW1.out.1, HW2.out.1, HW2.out.2, HW1.out.2]
  obtain ⟨⟨y0, y1, y2, y3⟩, z0, z1, z2, z3⟩ := HC.out _ HT0.out
  by_cases hg : x.gen = y.gen
  case neg =>
    rw [decide_eq_false hg] at HR
    go_wp2_with fail
    go_ret
    exact ⟨by rw [HR.out]; rfl, (HT.out.trans HT0.out (fun _ _ h => h))⟩
  case pos =>
  rw [decide_eq_true hg] at HR
  rw [hg] at HC y0
  clear hg
  cases B1
  case false =>
    go_wp2_with (first | (go_at_call 48; (with_reducible refine (HS1.out _ HT0.out).mono ?_); rintro e w1 ⟨rfl, t1⟩; have HT1 := Lib.hid (HT0.out.trans t1 (fun _ _ h => h)); clear t1; (try clear y0 y1 y2 y3 z0 z1 z2 z3); obtain ⟨⟨y0, y1, y2, y3⟩, z0, z1, z2, z3⟩ := HC.out _ HT1.out))
    go_ret
    exact ⟨by rw [HR.out]; rfl, (HT.out.trans HT1.out (fun _ _ h => h))⟩
  case true =>
  cases B2
  case false =>
    go_wp2_with (first | (go_at_call 48; (with_reducible refine (HS1.out _ HT0.out).mono ?_); rintro e w1 ⟨rfl, t1⟩; have HT1 := Lib.hid (HT0.out.trans t1 (fun _ _ h => h)); clear t1; (try clear y0 y1 y2 y3 z0 z1 z2 z3); obtain ⟨⟨y0, y1, y2, y3⟩, z0, z1, z2, z3⟩ := HC.out _ HT1.out) | (go_at_call 49; (with_reducible refine (HS2.out _ HT1.out).mono ?_); rintro e w2 ⟨rfl, t2⟩; have HT2 := Lib.hid (HT1.out.trans t2 (fun _ _ h => h)); clear t2; (try clear y0 y1 y2 y3 z0 z1 z2 z3); obtain ⟨⟨y0, y1, y2, y3⟩, z0, z1, z2, z3⟩ := HC.out _ HT2.out))
    go_ret
    exact ⟨by rw [HR.out]; rfl, (HT.out.trans HT2.out (fun _ _ h => h))⟩
  case true =>
    go_wp2_with (first | (go_at_call 48; (with_reducible refine (HS1.out _ HT0.out).mono ?_); rintro e w1 ⟨rfl, t1⟩; have HT1 := Lib.hid (HT0.out.trans t1 (fun _ _ h => h)); clear t1; (try clear y0 y1 y2 y3 z0 z1 z2 z3); obtain ⟨⟨y0, y1, y2, y3⟩, z0, z1, z2, z3⟩ := HC.out _ HT1.out) | (go_at_call 49; (with_reducible refine (HS2.out _ HT1.out).mono ?_); rintro e w2 ⟨rfl, t2⟩; have HT2 := Lib.hid (HT1.out.trans t2 (fun _ _ h => h)); clear t2; (try clear y0 y1 y2 y3 z0 z1 z2 z3); obtain ⟨⟨y0, y1, y2, y3⟩, z0, z1, z2, z3⟩ := HC.out _ HT2.out) | (go_at_call 50; (with_reducible refine (HS3.out _ HT2.out).mono ?_); rintro e w3 ⟨rfl, t3⟩; have HT3 := Lib.hid (HT2.out.trans t3 (fun _ _ h => h)); clear t3; (try clear y0 y1 y2 y3 z0 z1 z2 z3); obtain ⟨⟨y0, y1, y2, y3⟩, z0, z1, z2, z3⟩ := HC.out _ HT3.out))
    go_ret
    exact ⟨by rw [HR.out]; rfl, (HT.out.trans HT3.out (fun _ _ h => h))⟩
end Go.Proofs.YtdhimlkndpiacaaGreat

end

section
/- A view of a state lies in memory; what a record leaves of others. -/
set_option linter.unusedVariables false
set_option linter.unusedSimpArgs false
namespace Go.Proofs.YtdhimlkndpiacaaGreat
open Go.RowKit

def vwS (s : StS) : StS := ⟨s.gen, s.bs, srtD s.D, srtF s.F⟩
/-- Its rows were laid since w. -/
def VwNew (w : World) (a1 a2 a3 : Option Addr) : Prop := (∀ x, a1 = some x → w.heap.size ≤ x.block) ∧ (∀ x, a2 = some x → w.heap.size ≤ x.block) ∧ (∀ x, a3 = some x → w.heap.size ≤ x.block)
theorem VwAt.touch {w0 w w' : World} {x : StS} {a1 : Option Addr} {c1 : Nat} {a2 : Option Addr} {c2 : Nat} {a3 : Option Addr} {c3 : Nat} {S : Nat → Prop} (h : VwAt w x a1 c1 a2 c2 a3 c3) (hn : VwNew w0 a1 a2 a3) (t : Touch w w' S) (hS : ∀ k, S k → k < w0.heap.size) : VwAt w' x a1 c1 a2 c2 a3 c3 :=
  ⟨h.b.touch t (fun y hy => .inr (fun hs => by have := hS _ hs; have := hn.1 y hy; omega)), h.d.touch t (fun y hy => .inr (fun hs => by have := hS _ hs; have := hn.2.1 y hy; omega)), h.f.touch t (fun y hy => .inr (fun hs => by have := hS _ hs; have := hn.2.2 y hy; omega))⟩
theorem VwIs.at {w w' : World} {s : StS} {e : Ending} (h : VwIs w w' s e) : ∃ a1 c1 a2 c2 a3 c3, e = .returned (.agg (vcs (vwS s) a1 c1 a2 c2 a3 c3)) ∧ (VwAt w' (vwS s) a1 c1 a2 c2 a3 c3 ∧ VwNew w a1 a2 a3) ∧ Touch w w' (fun _ => False) := by
  obtain ⟨a1, c1, a2, c2, a3, c3, rfl, o1, o2, o3, t⟩ := h
  have e2 : (srtD s.D).length = s.D.length := (srtD_perm _).length_eq
  have e3 : (srtF s.F).length = s.F.length := (srtF_perm _).length_eq
  refine ⟨a1, c1, a2, c2, a3, c3, ?_, ⟨⟨o1.row.2.1, ?_, ?_⟩, (fun x hx => (o1.row.2.2 x hx).1), (fun x hx => (o2.row'.2.2 x hx).1), (fun x hx => (o3.row'.2.2 x hx).1)⟩, t⟩
  · unfold vcs vwS; rw [e2, e3]
  · show RowS w' a2 (srtD s.D).length c2 2 ((srtD s.D).map dcl)
    rw [e2]; exact o2.row'.2.1
  · show RowS w' a3 (srtF s.F).length c3 8 ((srtF s.F).map fcl)
    rw [e3]; exact o3.row'.2.1
theorem stvw_any (w : World) (b0 : Nat) (h : StH) (s : StS) (m : StM w b0 h s) :
    Calls Tryz.prog 13 #[.pointer (some ⟨b0, 0, none⟩)] w fun e w' => ∃ a1 c1 a2 c2 a3 c3, e = .returned (.agg (vcs (vwS s) a1 c1 a2 c2 a3 c3)) ∧ (VwAt w' (vwS s) a1 c1 a2 c2 a3 c3 ∧ VwNew w a1 a2 a3) ∧ Touch w w' (fun _ => False) :=
  (stview_any w b0 h s m).mono fun _ _ h => h.at
/-- Is it said of flows? -/
def flowB (r : RecD) : Bool := decide (r.kind = 1) || decide (r.kind = 2)
/-- The drains that a record doesn't speak of. -/
def keepB (r : RecD) (d : DR) : Bool := flowB r || !decide (d.b = r.be)
theorem hasF_consA (f : FlD) (F : List FlD) (t : TupD) : hasF (f :: F) t = (decide (f.t = t) || hasF F t) := by
  rw [Bool.eq_iff_iff, Bool.or_eq_true, hasF_iff, hasF_iff, decide_eq_true_iff, List.map_cons, List.mem_cons]
  exact ⟨fun h => h.imp Eq.symm id, fun h => h.imp Eq.symm id⟩
theorem mem_hasF {F : List FlD} (hn : (F.map FlD.t).Nodup) {f : FlD} (hf : f ∈ F) : hasF F f.t = true ∧ getF F f.t = f :=
  ⟨(hasF_iff _ _).2 (List.mem_map_of_mem hf), getF_of hn hf⟩
theorem apart_gen {s : StS} {r : RecD} (h3 : r.kind ≠ 3) (h0 : stE s r = 0) : (stS s r).gen = s.gen ∧ (stS s r).bs = s.bs := by
  unfold stS; rw [if_pos h0]; unfold stDo
  by_cases h1 : r.kind = 1
  · rw [if_pos h1]; exact ⟨rfl, rfl⟩
  rw [if_neg h1]
  by_cases h2 : r.kind = 2
  · rw [if_pos h2]; exact ⟨rfl, rfl⟩
  rw [if_neg h2, if_neg h3]
  by_cases h4 : r.kind = 4
  · rw [if_pos h4]; exact ⟨rfl, rfl⟩
  rw [if_neg h4]
  by_cases h5 : r.kind = 5
  · rw [if_pos h5]; exact ⟨rfl, rfl⟩
  rw [if_neg h5]; exact ⟨rfl, rfl⟩
/-- Other tuples' flows stay. -/
theorem apart_flow {s : StS} {r : RecD} (o : StOk s) (h3 : r.kind ≠ 3) (h0 : stE s r = 0) {f : FlD} (hf : f ∈ s.F) (hk : flowB r = true → f.t ≠ r.t) : hasF (stS s r).F f.t = true ∧ getF (stS s r).F f.t = f := by
  have o' := o.step r
  refine mem_hasF o'.fn ?_
  unfold stS; rw [if_pos h0]; unfold stDo
  unfold flowB at hk
  by_cases h1 : r.kind = 1
  · rw [if_pos h1]
    have hne := hk (by simp [h1])
    exact List.mem_cons_of_mem _ (List.mem_filter.2 ⟨hf, by simpa using hne⟩)
  rw [if_neg h1]
  by_cases h2 : r.kind = 2
  · rw [if_pos h2]
    have hne := hk (by simp [h2])
    exact List.mem_filter.2 ⟨hf, by simpa using hne⟩
  rw [if_neg h2, if_neg h3]
  by_cases h4 : r.kind = 4
  · rw [if_pos h4]; exact hf
  rw [if_neg h4]
  by_cases h5 : r.kind = 5
  · rw [if_pos h5]; exact hf
  rw [if_neg h5]; exact hf
/-- Other backends' drains stay, and at most one comes. -/
theorem apart_drain {s : StS} {r : RecD} (h3 : r.kind ≠ 3) (h0 : stE s r = 0) :
    (∀ d ∈ s.D, keepB r d = true → d ∈ (stS s r).D) ∧ (s.D.filter (keepB r)).length ≤ (stS s r).D.length ∧ (stS s r).D.length ≤ (s.D.filter (keepB r)).length + 1 := by
  have hm : mayRB r = true := by
    cases e : mayRB r with
    | true => rfl
    | false => unfold stE at h0; rw [if_pos e] at h0; cases h0
  unfold stS; rw [if_pos h0]; unfold stDo
  have hall : flowB r = true → s.D.filter (keepB r) = s.D := fun h => List.filter_eq_self.2 fun d _ => by unfold keepB; rw [h]; rfl
  have hdel : flowB r = false → s.D.filter (keepB r) = delD s.D r.be := fun h => by
    unfold delD; congr 1; funext d; unfold keepB; rw [h]; rfl
  by_cases h1 : r.kind = 1
  · rw [if_pos h1, hall (by unfold flowB; simp [h1])]
    exact ⟨fun d hd _ => hd, Nat.le_refl _, Nat.le_succ _⟩
  rw [if_neg h1]
  by_cases h2 : r.kind = 2
  · rw [if_pos h2, hall (by unfold flowB; simp [h2])]
    exact ⟨fun d hd _ => hd, Nat.le_refl _, Nat.le_succ _⟩
  rw [if_neg h2, if_neg h3, hdel (by unfold flowB; simp [h1, h2])]
  have hk : ∀ d ∈ s.D, keepB r d = true → d ∈ delD s.D r.be := fun d hd hk => by
    rw [← hdel (by unfold flowB; simp [h1, h2])]; exact List.mem_filter.2 ⟨hd, hk⟩
  by_cases h4 : r.kind = 4
  · rw [if_pos h4]
    exact ⟨fun d hd hk' => List.mem_cons_of_mem _ (hk d hd hk'), Nat.le_succ _, Nat.le_refl _⟩
  rw [if_neg h4]
  by_cases h5 : r.kind = 5
  · rw [if_pos h5]
    exact ⟨hk, Nat.le_refl _, Nat.le_succ _⟩
  exfalso
  obtain ⟨e, _⟩ := st_6 (s := s) hm h1 h2 h3 h4 h5
  omega
def cntB14 (r : RecD) (D : List DR) (k : Nat) : Nat := ((D.take k).filter (keepB r)).length
theorem cntB14_succ {r : RecD} {D : List DR} {k : Nat} (h : k < D.length) : cntB14 r D (k + 1) = cntB14 r D k + (if keepB r (gd D k) then 1 else 0) := by
  unfold cntB14
  rw [List.take_succ_eq_append_getElem h, List.filter_append, List.length_append, ← gd_get D k h]
  congr 1
  rw [List.filter_cons]
  cases keepB r (gd D k) <;> rfl
theorem cntB14_le (r : RecD) (D : List DR) (k : Nat) : cntB14 r D k ≤ D.length :=
  Nat.le_trans (List.length_filter_le _ _) (by rw [List.length_take]; omega)
theorem cntB14_all (r : RecD) (D : List DR) : cntB14 r (srtD D) (srtD D).length = (D.filter (keepB r)).length := by
  unfold cntB14
  rw [List.take_of_length_le (Nat.le_refl _)]
  exact ((srtD_perm D).filter _).length_eq
def eqDB (e d : DR) : Bool := decide (e.b = d.b ∧ e.u = d.u)
def inD14 (L : List DR) (d : DR) : Bool := L.any (fun e => eqDB e d)
theorem inD14_mem {L : List DR} {d : DR} (h : d ∈ L) : inD14 L d = true := List.any_eq_true.2 ⟨d, h, decide_eq_true ⟨rfl, rfl⟩⟩
theorem inD14_succ {L : List DR} {d : DR} {k : Nat} (h : k < L.length) : inD14 (L.take (k + 1)) d = (inD14 (L.take k) d || eqDB (gd L k) d) := by
  unfold inD14
  rw [List.take_succ_eq_append_getElem h, List.any_append, ← gd_get L k h]
  simp
theorem dr_cells {w : World} {g off n cap : Nat} {l : List DR} (h : RowS w (some ⟨g, off, none⟩) n cap 2 (l.map dcl)) (k : Nat) (hk : k < l.length) :
    w.cell? ⟨g, off + k * 2, none⟩ = some (.int .i64 (gd l k).b) ∧ w.cell? ⟨g, off + k * 2 + 1, none⟩ = some (.int .i64 (gd l k).u) := by
  have hk' : k < (l.map dcl).length := by simpa using hk
  have e : (l.map dcl)[k] = dcl (gd l k) := by rw [List.getElem_map, gd_get l k hk]
  exact ⟨h.cell k hk' 0 _ (by rw [e]; rfl), h.cell k hk' 1 _ (by rw [e]; rfl)⟩
/-- One record by itself, as a row. -/
theorem oneRB {w : World} {B : Nat} {x : RecB} (g : w.heap[B]? = some (.cells (rcs x.r x.a x.c) 41 (0, 0))) : RowRB w (some ⟨B, 0, none⟩) 1 1 [x] := by
  refine ⟨rfl, Nat.le_refl _, by decide, ?_, .inr ⟨B, 0, rfl, heap_lt g, ?_⟩⟩
  · intro l hl
    rw [List.map_cons, List.map_nil, List.mem_singleton] at hl
    subst hl; rfl
  · intro i hi j u hu
    obtain rfl : i = 0 := by simp at hi; exact hi
    have h1 := cell_of_cells g j
    simp only [Nat.zero_mul, Nat.zero_add]
    rw [h1]
    simpa [RecB.cells] using hu
end Go.Proofs.YtdhimlkndpiacaaGreat

end

section
/- The records that make a state anew. -/
set_option linter.unusedVariables false
set_option linter.unusedSimpArgs false
namespace Go.Proofs.YtdhimlkndpiacaaGreat
open Go.RowKit

def geR (x : StS) (a : Option Addr) (c : Nat) : RecB := ⟨⟨3, noT, 0, 0, 0, x.gen, x.bs, 0, 0, 0⟩, a, c⟩
def drR (d : DR) : RecB := ⟨⟨4, noT, 0, 0, 0, 0, [], d.b, d.u, 0⟩, none, 0⟩
def flR (f : FlD) : RecB := ⟨⟨1, f.t, f.fb, f.fg, f.fs, 0, [], 0, 0, 0⟩, none, 0⟩
def recsV (x : StS) (a : Option Addr) (c : Nat) : List RecB := geR x a c :: (x.D.map drR ++ x.F.map flR)
theorem recsV_len (x : StS) (a : Option Addr) (c : Nat) : (recsV x a c).length = 1 + x.D.length + x.F.length := by
  unfold recsV; simp; omega
theorem recs_step {A : List RecB} {r : RecB} : A.map RecB.cells ++ [r.cells] = (A ++ [r]).map RecB.cells := by simp
theorem infoRecB : (Tryz.prog.info? 41).map (fun i => (i.zero, i.size, i.bytes)) = some (some (.agg (rcs noRB.r none 0)), 14, 120) := by kernel_rfl
theorem rcs_one (r : RecD) (a : Option Addr) (c : Nat) : ∀ u ∈ (rcs r a c).toList, u.oneCell' = true := by
  intro u hu
  simp only [rcs, List.mem_cons, List.not_mem_nil, or_false] at hu
  rcases hu with rfl | rfl | rfl | rfl | rfl | rfl | rfl | rfl | rfl | rfl | rfl | rfl | rfl | rfl <;> rfl
set_option maxRecDepth 20000 in
set_option maxHeartbeats 8000000 in
theorem records_any (w : World) (x : StS) (a1 : Option Addr) (c1 : Nat) (a2 : Option Addr) (c2 : Nat) (a3 : Option Addr) (c3 : Nat) (hx : VwAt w x a1 c1 a2 c2 a3 c3) (hD : x.D.length ≤ 100000) (hF : x.F.length ≤ 100000) :
    Calls Tryz.prog 47 #[.agg (vcs x a1 c1 a2 c2 a3 c3)] w fun e w' => ∃ a c, e = .returned (.slice a (1 + x.D.length + x.F.length) c) ∧ OwnS w' w.heap.size 41 14 (.slice a (1 + x.D.length + x.F.length) c) ((recsV x a1 c1).map RecB.cells) ∧ Touch w w' (fun _ => False) := by
  obtain ⟨W1, hW1⟩ : ∃ W, w.alloc (.cells (vcs x a1 c1 a2 c2 a3 c3) 35) = W := ⟨_, rfl⟩
  have t1 : Touch w W1 (fun _ => False) := hW1 ▸ (Touch.refl w _).alloc _
  have g1 : W1.heap[w.heap.size]? = some (.cells (vcs x a1 c1 a2 c2 a3 c3) 35 (0, 0)) := hW1 ▸ heap_alloc_new ..
  obtain ⟨K1, hK1⟩ : ∃ K, w.heap.size = K := ⟨_, rfl⟩
  rw [hK1] at g1
  have HX := Lib.hid hx
  have HT1 := Lib.hid t1
  have HG1 := Lib.hid g1
  have HW1 := Lib.hid (And.intro hW1 hK1)
  obtain ⟨W2, hW2⟩ : ∃ W, W1.alloc (.cells (rcs (geR x a1 c1).r a1 c1) 41) = W := ⟨_, rfl⟩
  have t2 : Touch W1 W2 (fun _ => False) := hW2 ▸ (Touch.refl W1 _).alloc _
  have o2 : OwnS W2 W1.heap.size 41 14 (.slice (some ⟨W1.heap.size, 0, none⟩) 1 1) ([geR x a1 c1].map RecB.cells) := hW2 ▸ OwnS.lit W1 W1.heap.size (Nat.le_refl _) 41 14 1 ([geR x a1 c1].map RecB.cells) _ (by simp [RecB.cells, geR]) rfl (by intro l hl; rw [List.map_cons, List.map_nil, List.mem_singleton] at hl; subst hl; rfl) (by omega)
  have HT2 := Lib.hid t2
  have HO2 := Lib.hid o2
  have HW2 := Lib.hid hW2
  have HRI := Lib.hid infoRecB
  obtain ⟨nD, hnD⟩ : ∃ n, x.D.length = n := ⟨_, rfl⟩
  obtain ⟨nF, hnF⟩ : ∃ n, x.F.length = n := ⟨_, rfl⟩
  have HND := Lib.hid hnD
  have HNF := Lib.hid hnF
  have HB : RowKit.Hid (nD ≤ 100000 ∧ nF ≤ 100000) := Lib.hid (by omega)
  have h0 : W1.cell? ⟨K1, 0, none⟩ = some (.int .i64 x.gen) := cell_of_cells g1 0
  have h1 : W1.cell? ⟨K1, 1, none⟩ = some (.slice a1 x.bs.length c1) := cell_of_cells g1 1
  simp only [rcs, geR, noT, List.length_map] at HW2
  rw [hnD, hnF]
  clear t1 g1 t2 o2 hW1 hW2 hK1 hx hD hF hnD hnF
  go_enter Tryz.func47, Tryz.ntmps47
  go_upto_region 1 with (fail)
  rw [HW1.out.1, HW1.out.2]
  go_upto_region 2 with (fail)
  rw [HW2.out]
  clear h0 h1
  have HK1 : RowKit.Hid (∀ W, Touch W1 W (fun _ => False) → W.cell? ⟨K1, 2, none⟩ = some (.slice a2 nD c2) ∧ W.cell? ⟨K1, 3, none⟩ = some (.slice a3 nF c3)) := Lib.hid (fun W t => by
    have h := t.keeps HG1.out (fun h => h)
    refine ⟨?_, ?_⟩
    · rw [← HND.out]; exact cell_of_cells h 2
    · rw [← HNF.out]; exact cell_of_cells h 3)
  have HRD : RowKit.Hid (∀ W, Touch W1 W (fun _ => False) → RowS W a2 nD c2 2 (x.D.map dcl)) := Lib.hid (fun W t => by rw [← HND.out]; exact HX.out.d.still (HT1.out.trans t (fun _ _ h => h)))
  have HRF : RowKit.Hid (∀ W, Touch W1 W (fun _ => False) → RowS W a3 nF c3 8 (x.F.map fcl)) := Lib.hid (fun W t => by rw [← HNF.out]; exact HX.out.f.still (HT1.out.trans t (fun _ _ h => h)))
  have hk2 := (HK1.out _ HT2.out).1
  go_wp2_with fail
  go_loopw [3, 17] (fun s3 s17 wr => ∃ (j : Nat) (a : Option Addr) (c : Nat), j ≤ nD ∧ s17 = .int .i64 j ∧ s3 = .slice a (1 + j) c ∧ OwnS wr W1.heap.size 41 14 (.slice a (1 + j) c) ((geR x a1 c1 :: (x.D.take j).map drR).map RecB.cells) ∧ Touch W1 wr (fun _ => False)) (fun _ s17 _ => nD - (RowKit.intOf s17).toNat)
  case atStart => exact ⟨0, _, _, Nat.zero_le _, rfl, rfl, HO2.out, HT2.out⟩
  case round =>
    obtain ⟨j, a, c, hj, rfl, rfl, ho, ht⟩ := hrel
    have HO := Lib.hid ho
    have HT := Lib.hid ht
    clear ho ht hk2
    by_cases hlt : j < nD
    case pos =>
      have hrow := HRD.out _ HT.out
      obtain ⟨g, off, rfl⟩ := hrow.some (by omega)
      have hjL : j < x.D.length := by rw [HND.out]; exact hlt
      obtain ⟨d0, d1⟩ := dr_cells hrow j hjL
      have hcap := hrow.hcap
      have hmax := hrow.hmax
      have htk : (geR x a1 c1 :: (x.D.take j).map drR) ++ [drR (gd x.D j)] = geR x a1 c1 :: (x.D.take (j + 1)).map drR := by
        rw [List.take_succ_eq_append_getElem hjL, List.map_append, ← gd_get x.D j hjL]; rfl
      have HTK := Lib.hid htk
      generalize gd x.D j = d at *
      obtain ⟨w4, hw4⟩ : ∃ W, wr.alloc (.cells #[.int .i64 d.b, .int .i64 d.u] 93) = W := ⟨_, rfl⟩
      have t4 : Touch wr w4 (fun _ => False) := hw4 ▸ (Touch.refl wr _).alloc _
      have g4 : w4.heap[wr.heap.size]? = some (.cells #[.int .i64 d.b, .int .i64 d.u] 93 (0, 0)) := hw4 ▸ heap_alloc_new ..
      obtain ⟨K5, hK5⟩ : ∃ K, wr.heap.size = K := ⟨_, rfl⟩
      rw [hK5] at g4
      have HW4 := Lib.hid (And.intro hw4 hK5)
      have HT4 := Lib.hid (HT.out.trans t4 (fun _ _ h => h))
      have HO4 := Lib.hid (HO.out.still t4)
      have hsz : W1.heap.size ≤ w4.heap.size := HT4.out.size
      have x0 : w4.cell? ⟨K5, 0, none⟩ = some (.int .i64 d.b) := cell_of_cells g4 0
      have x1 : w4.cell? ⟨K5, 1, none⟩ = some (.int .i64 d.u) := cell_of_cells g4 1
      obtain ⟨w5, hw5⟩ : ∃ W, w4.alloc (.cells (rcs (drR d).r none 0) 41) = W := ⟨_, rfl⟩
      have HW5 := Lib.hid hw5
      simp only [rcs, drR, noT, List.length_nil] at HW5
      have hlI : (j : Int) < nD := by omega
      have hjB : 1 + j ≤ 4000000 := by have := HB.out; omega
      have HJB := Lib.hid hjB
      clear hrow htk t4 g4 hw4 hK5 hw5 hjL hjB
      go_upto_region 5 with (fail)
      rw [HW4.out.1, HW4.out.2]
      clear d0 d1
      go_upto_region 6 with (at_builtin; (with_reducible refine wp_add1 (w := w4) (HO4.out.still ((Touch.refl w4 (fun _ => False)).alloc _)) rfl rfl rfl (by simp [Value.oneCell']) HJB.out 22 Tryz.underlying22 _ 120 HRI.out rfl (by decide) (by decide) hsz rfl _ _ rfl rfl rfl ?_); intro a5 c5 w6 ho5 t5 p5; have HO5 := Lib.hid ho5; have HT5 := Lib.hid t5; clear ho5 t5 p5)
      have HX' : RowKit.Hid (∃ (j' : Nat) (a : Option Addr) (c : Nat), j' ≤ nD ∧ Value.int .i64 ((j : Int) + 1) = .int .i64 j' ∧ Value.slice a5 (1 + j + 1) c5 = .slice a (1 + j') c ∧ OwnS w6 W1.heap.size 41 14 (.slice a (1 + j') c) ((geR x a1 c1 :: (x.D.take j').map drR).map RecB.cells) ∧ Touch W1 w6 (fun _ => False)) := Lib.hid ⟨j + 1, a5, c5, by omega, by go_num, rfl, by rw [← HTK.out, ← recs_step]; exact HO5.out, HT4.out.trans HT5.out (fun k hk e => by have h1 := (HO.out.own.lt _ e).1; omega)⟩
      clear x0 x1
      go_wp2_with fail
      go_roundw
      · exact HX'.out
      · simp only [RowKit.intOf]; omega
    case neg =>
      obtain rfl : nD = j := by omega
      have hlI : ¬ (nD : Int) < nD := by omega
      have hk3 := (HK1.out _ HT.out).2
      have htk : (x.D.take nD).map drR = x.D.map drR := by rw [List.take_of_length_le (by rw [HND.out]; exact Nat.le_refl _)]
      rw [htk] at HO
      clear htk hlt hj
      go_upto_region 7 with (fail)
      clear hlI
      go_wp2_with fail
      go_loopw [3, 33] (fun s3 s33 wr => ∃ (j : Nat) (a : Option Addr) (c : Nat), j ≤ nF ∧ s33 = .int .i64 j ∧ s3 = .slice a (1 + nD + j) c ∧ OwnS wr W1.heap.size 41 14 (.slice a (1 + nD + j) c) ((geR x a1 c1 :: (x.D.map drR ++ (x.F.take j).map flR)).map RecB.cells) ∧ Touch W1 wr (fun _ => False)) (fun _ s33 _ => nF - (RowKit.intOf s33).toNat)
      case atStart => exact ⟨0, a, c, Nat.zero_le _, rfl, rfl, by simpa using HO.out, HT.out⟩
      case round =>
        obtain ⟨j, a, c, hj, rfl, rfl, ho, ht⟩ := hrel
        clear HO HT
        have HO := Lib.hid ho
        have HT := Lib.hid ht
        clear ho ht hk3
        by_cases hlt : j < nF
        case neg =>
          obtain rfl : nF = j := by omega
          have hlI : ¬ (nF : Int) < nF := by omega
          have htk : (x.F.take nF).map flR = x.F.map flR := by rw [List.take_of_length_le (by rw [HNF.out]; exact Nat.le_refl _)]
          rw [htk] at HO
          clear htk hlt hj
          go_wp2_with fail
          go_ret
          exact ⟨a, c, rfl, HO.out.rebase (fun x hx => Nat.le_trans HT1.out.size (HO.out.own.lt x hx).1), HT1.out.trans HT.out (fun _ _ h => h)⟩
        case pos =>
          have hrow := HRF.out _ HT.out
          obtain ⟨g, off, rfl⟩ := hrow.some (by omega)
          have hjL : j < x.F.length := by rw [HNF.out]; exact hlt
          obtain ⟨d0, d1, d2, d3, d4, d5, d6, d7⟩ := sameFr_cells hrow j hjL
          have hcap := hrow.hcap
          have hmax := hrow.hmax
          have htk : (geR x a1 c1 :: (x.D.map drR ++ (x.F.take j).map flR)) ++ [flR x.F[j]] = geR x a1 c1 :: (x.D.map drR ++ (x.F.take (j + 1)).map flR) := by
            rw [List.take_succ_eq_append_getElem hjL, List.map_append]; simp
          have HTK := Lib.hid htk
          generalize x.F[j] = f at *
          obtain ⟨w4, hw4⟩ : ∃ W, wr.alloc (.cells (fca f) 39) = W := ⟨_, rfl⟩
          have t4 : Touch wr w4 (fun _ => False) := hw4 ▸ (Touch.refl wr _).alloc _
          have g4 : w4.heap[wr.heap.size]? = some (.cells (fca f) 39 (0, 0)) := hw4 ▸ heap_alloc_new ..
          obtain ⟨K5, hK5⟩ : ∃ K, wr.heap.size = K := ⟨_, rfl⟩
          rw [hK5] at g4
          have HW4 := Lib.hid (And.intro hw4 hK5)
          have HT4 := Lib.hid (HT.out.trans t4 (fun _ _ h => h))
          have HO4 := Lib.hid (HO.out.still t4)
          have hsz : W1.heap.size ≤ w4.heap.size := HT4.out.size
          obtain ⟨x0, x1, x2, x3, x4, x5, x6, x7⟩ := fcells_of g4
          simp only [fca] at HW4
          have hlI : (j : Int) < nF := by omega
          have HJB : RowKit.Hid (1 + nD + j ≤ 4000000) := Lib.hid (by have := HB.out; omega)
          clear hrow htk t4 g4 hw4 hK5 hjL
          go_upto_region 10 with (fail)
          rw [HW4.out.1, HW4.out.2]
          clear d0 d1 d2 d3 d4 d5 d6 d7
          go_upto_region 11 with (at_builtin; (with_reducible refine wp_add1 (w := w4) (HO4.out.still ((Touch.refl w4 (fun _ => False)).alloc _)) rfl rfl rfl (by simp [Value.oneCell']) HJB.out 22 Tryz.underlying22 _ 120 HRI.out rfl (by decide) (by decide) hsz rfl _ _ rfl rfl rfl ?_); intro a5 c5 w6 ho5 t5 p5; have HO5 := Lib.hid ho5; have HT5 := Lib.hid t5; clear ho5 t5 p5)
          have HX' : RowKit.Hid (∃ (j' : Nat) (a : Option Addr) (c : Nat), j' ≤ nF ∧ Value.int .i64 ((j : Int) + 1) = .int .i64 j' ∧ Value.slice a5 (1 + nD + j + 1) c5 = .slice a (1 + nD + j') c ∧ OwnS w6 W1.heap.size 41 14 (.slice a (1 + nD + j') c) ((geR x a1 c1 :: (x.D.map drR ++ (x.F.take j').map flR)).map RecB.cells) ∧ Touch W1 w6 (fun _ => False)) := Lib.hid ⟨j + 1, a5, c5, by omega, by go_num, rfl, by rw [← HTK.out, ← recs_step]; exact HO5.out, HT4.out.trans HT5.out (fun k hk e => by have h1 := (HO.out.own.lt _ e).1; omega)⟩
          clear x0 x1 x2 x3 x4 x5 x6 x7
          go_wp2_with fail
          go_roundw
          · exact HX'.out
          · simp only [RowKit.intOf]; omega
end Go.Proofs.YtdhimlkndpiacaaGreat

end

section
/- Records of a state; what is applied in turn. -/
set_option linter.unusedVariables false
set_option linter.unusedSimpArgs false
namespace Go.Proofs.YtdhimlkndpiacaaGreat
open Go.RowKit

set_option maxRecDepth 20000 in
set_option maxHeartbeats 8000000 in
theorem strecs_any (w : World) (b : Nat) (h : StH) (s : StS) (m : StM w b h s) :
    Calls Tryz.prog 15 #[.pointer (some ⟨b, 0, none⟩)] w fun e w' => ∃ a1 c1 a c, e = .returned (.slice a (1 + s.D.length + s.F.length) c) ∧ OwnS w' w.heap.size 41 14 (.slice a (1 + s.D.length + s.F.length) c) ((recsV (vwS s) a1 c1).map RecB.cells) ∧ RowK w' a1 s.bs.length c1 s.bs ∧ (∀ x, a1 = some x → w.heap.size ≤ x.block) ∧ Touch w w' (fun _ => False) := by
  have HV := Lib.hid (stvw_any w b h s m)
  have e2 : (vwS s).D.length = s.D.length := (srtD_perm _).length_eq
  have e3 : (vwS s).F.length = s.F.length := (srtF_perm _).length_eq
  have HE := Lib.hid (And.intro e2 e3)
  have HB : RowKit.Hid (s.D.length ≤ 100000 ∧ s.F.length ≤ 100000) := Lib.hid ⟨by have := m.ok.dl; omega, by have := m.ok.fl; omega⟩
  clear m e2 e3
  go_enter Tryz.func15, Tryz.ntmps15
  go_wp2_with fail
  (with_reducible refine HV.out.mono ?_)
  rintro e w2 ⟨a1, c1, a2, c2, a3, c3, rfl, ⟨va, vn⟩, t2⟩
  have HR := Lib.hid (records_any w2 (vwS s) a1 c1 a2 c2 a3 c3 va (by rw [HE.out.1]; exact HB.out.1) (by rw [HE.out.2]; exact HB.out.2))
  have HVB := Lib.hid va.b
  have HVN := Lib.hid vn.1
  have HT2 := Lib.hid t2
  clear va vn t2
  go_wp2_with fail
  (with_reducible refine HR.out.mono ?_)
  rintro e w3 ⟨a, c, rfl, o3, t3⟩
  have HO3 := Lib.hid o3
  have HT3 := Lib.hid t3
  clear o3 t3
  go_wp2_with fail
  go_ret
  have ho := HO3.out
  rw [HE.out.1, HE.out.2] at ho
  refine ⟨a1, c1, a, c, ?_, ho.rebase (fun x hx => Nat.le_trans HT2.out.size (ho.own.lt x hx).1), HVB.out.still HT3.out, HVN.out, HT2.out.trans HT3.out (fun _ _ h => h)⟩
  rw [← HE.out.1, ← HE.out.2]; rfl
/-- Records, applied in turn up to the first that is refused. -/
def ofR : List RecB → StS → Int × StS
  | [], s => (0, s)
  | x :: l, s => if stE s x.r = 0 then ofR l (stS s x.r) else (stE s x.r, s)
theorem ofR_cons (x : RecB) (l : List RecB) (s : StS) : ofR (x :: l) s = if stE s x.r = 0 then ofR l (stS s x.r) else (stE s x.r, s) := rfl
theorem ofR_app {l m : List RecB} {s : StS} (h : (ofR l s).1 = 0) : ofR (l ++ m) s = ofR m (ofR l s).2 := by
  induction l generalizing s with
  | nil => rfl
  | cons x l ih =>
    rw [ofR_cons] at h
    rw [List.cons_append, ofR_cons, ofR_cons]
    by_cases h0 : stE s x.r = 0
    · rw [if_pos h0] at h
      rw [if_pos h0, if_pos h0]
      exact ih h
    · rw [if_neg h0] at h; exact absurd h h0
theorem stS_ok {s : StS} {r : RecD} (h : stE s r = 0) : stS s r = stDo s r := by unfold stS; rw [if_pos h]
theorem ofR_dr {D : List DR} {s : StS} (hm : ∀ d ∈ D, mayDr d = true) (hn : (D.map DR.b).Nodup) (hs : ∀ d ∈ D, hasD s.D d.b = false) (hl : s.D.length + D.length ≤ 16) :
    ofR (D.map drR) s = (0, { s with D := D.reverse ++ s.D }) := by
  induction D generalizing s with
  | nil => rfl
  | cons d D ih =>
    have h1 : mayRB (drR d).r = true := by
      have := hm d (List.mem_cons_self ..)
      unfold mayDr at this
      exact this
    obtain ⟨e1, e2⟩ := st_4 (s := s) h1 rfl
    have hd := hs d (List.mem_cons_self ..)
    rw [List.length_cons] at hl
    have hp : stDrE s.D (drR d).r.be = 0 := by
      show (if hasD s.D d.b then (0 : Int) else if 16 ≤ s.D.length then 9 else 0) = 0
      rw [hd, if_neg (by decide), if_neg (by omega)]
    have hz : stDrD s.D ⟨(drR d).r.be, (drR d).r.un⟩ = d :: s.D := by
      unfold stDrD
      rw [show (⟨(drR d).r.be, (drR d).r.un⟩ : DR).b = (drR d).r.be from rfl, hp, if_pos rfl]
      show d :: delD s.D d.b = _
      rw [delD_none (fun h => by rw [← hasD_iff, hd] at h; cases h)]
    rw [hz] at e2
    rw [List.map_cons] at hn ⊢
    rw [ofR_cons, if_pos (e1.trans hp), e2]
    have hn2 := List.nodup_cons.1 hn
    rw [ih (s := { s with D := d :: s.D }) (fun y hy => hm y (List.mem_cons_of_mem _ hy)) hn2.2 (fun y hy => ?_) (by show (d :: s.D).length + D.length ≤ 16; rw [List.length_cons]; omega)]
    · simp
    · have h3 := hs y (List.mem_cons_of_mem _ hy)
      rw [Bool.eq_false_iff]
      intro h4
      rcases List.mem_cons.1 ((hasD_iff _ _).1 h4) with e | e
      · exact hn2.1 (e ▸ List.mem_map_of_mem hy)
      · rw [(hasD_iff _ _).2 e] at h3; cases h3
theorem ofR_fl {F : List FlD} {s : StS} (hm : ∀ f ∈ F, mayFl f = true) (hn : (F.map FlD.t).Nodup) (hs : ∀ f ∈ F, hasF s.F f.t = false) (hl : s.F.length + F.length ≤ 256) :
    ofR (F.map flR) s = (0, { s with F := F.reverse ++ s.F }) := by
  induction F generalizing s with
  | nil => rfl
  | cons f F ih =>
    have h1 : mayRB (flR f).r = true := hm f (List.mem_cons_self ..)
    obtain ⟨e1, e2⟩ := st_1 (s := s) h1 rfl
    have hd := hs f (List.mem_cons_self ..)
    rw [List.length_cons] at hl
    have hp : stPutE s.F (flR f).r.t = 0 := by
      show (if hasF s.F f.t then (0 : Int) else if 256 ≤ s.F.length then 9 else 0) = 0
      rw [hd, if_neg (by decide), if_neg (by omega)]
    have hz : stPutF s.F (flOf (flR f).r) = f :: s.F := by
      unfold stPutF
      rw [show (flOf (flR f).r).t = (flR f).r.t from rfl, hp, if_pos rfl]
      show f :: delF s.F f.t = _
      rw [delF_none (fun h => by rw [← hasF_iff, hd] at h; cases h)]
    rw [hz] at e2
    rw [List.map_cons] at hn ⊢
    rw [ofR_cons, if_pos (e1.trans hp), e2]
    have hn2 := List.nodup_cons.1 hn
    rw [ih (s := { s with F := f :: s.F }) (fun y hy => hm y (List.mem_cons_of_mem _ hy)) hn2.2 (fun y hy => ?_) (by show (f :: s.F).length + F.length ≤ 256; rw [List.length_cons]; omega)]
    · simp
    · have h3 := hs y (List.mem_cons_of_mem _ hy)
      rw [Bool.eq_false_iff]
      intro h4
      rcases List.mem_cons.1 ((hasF_iff _ _).1 h4) with e | e
      · exact hn2.1 (e ▸ List.mem_map_of_mem hy)
      · rw [(hasF_iff _ _).2 e] at h3; cases h3
/-- Orders that are unique. -/
theorem srtD_uniq {A B : List DR} (hp : A.Perm B) (hn : (A.map DR.b).Nodup) : srtD A = srtD B := by
  have h1 := srtD_sort hn
  have h2 := srtD_sort ((hp.map DR.b).nodup_iff.1 hn)
  exact List.Perm.eq_of_pairwise (le := fun a b : DR => a.b < b.b) (fun a b _ _ x y => by omega) h1 h2 ((srtD_perm A).trans (hp.trans (srtD_perm B).symm))
theorem srtF_uniq {A B : List FlD} (hp : A.Perm B) (hn : (A.map FlD.t).Nodup) : srtF A = srtF B := by
  have h1 := srtF_sort hn
  have h2 := srtF_sort ((hp.map FlD.t).nodup_iff.1 hn)
  exact strict_ext ((srtF_perm A).trans (hp.trans (srtF_perm B).symm)) h1 h2
/-- ITS RECORDS MAKE THE STATE ANEW. -/
theorem ofR_vw {s : StS} (o : StOk s) (a : Option Addr) (c : Nat) : (ofR (recsV (vwS s) a c) stZ).1 = 0 ∧ vwS (ofR (recsV (vwS s) a c) stZ).2 = vwS s := by
  have hg : stE stZ (geR (vwS s) a c).r = 0 ∧ stS stZ (geR (vwS s) a c).r = ⟨s.gen, s.bs, [], []⟩ := by
    have hb := (gmay_iff _).1 o.bs
    have h1 : mayRB (geR (vwS s) a c).r = true := by
      show (cntB s.gen && decide (s.bs.length ≤ 16) && s.bs.all mayKB) = true
      have h2 : s.bs.all mayKB = true := by
        rw [List.all_eq_true]
        intro b hb'
        obtain ⟨i, hi, rfl⟩ := List.getElem_of_mem hb'
        have h3 := hb.2 i hi
        unfold okAt at h3
        rw [List.getElem?_eq_getElem hi] at h3
        simp only [Bool.and_eq_true] at h3
        exact h3.1
      rw [o.gen, h2, decide_eq_true hb.1]; rfl
    obtain ⟨e1, e2⟩ := st_3 (s := stZ) h1 rfl
    have e3 : stFoE (geR (vwS s) a c).r.bs = 0 := by
      show (if gmay s.bs then (0 : Int) else 1) = 0
      rw [o.bs]; rfl
    refine ⟨e1.trans e3, e2.trans ?_⟩
    show (if gmay s.bs then _ else _) = _
    rw [o.bs]; rfl
  have hD := srtD_perm s.D
  have hF := srtF_perm s.F
  have h2 : ofR (recsV (vwS s) a c) stZ = (0, ⟨s.gen, s.bs, (srtD s.D).reverse, (srtF s.F).reverse⟩) := by
    unfold recsV
    rw [ofR_cons, if_pos hg.1, hg.2]
    have h3 := ofR_dr (D := (vwS s).D) (s := ⟨s.gen, s.bs, [], []⟩) (fun d hd => o.dk d (hD.mem_iff.1 hd)) ((hD.map DR.b).nodup_iff.2 o.dn) (fun d hd => rfl) (by show 0 + (srtD s.D).length ≤ 16; rw [hD.length_eq]; have := o.dl; omega)
    rw [ofR_app (by rw [h3]), h3]
    have h4 := ofR_fl (F := (vwS s).F) (s := ⟨s.gen, s.bs, (srtD s.D).reverse ++ [], []⟩) (fun f hf => o.fk f (hF.mem_iff.1 hf)) ((hF.map FlD.t).nodup_iff.2 o.fn) (fun f hf => rfl) (by show 0 + (srtF s.F).length ≤ 256; rw [hF.length_eq]; have := o.fl; omega)
    refine h4.trans ?_
    simp [vwS]
  rw [h2]
  refine ⟨rfl, ?_⟩
  have p1 : ((srtD s.D).reverse).Perm s.D := (List.reverse_perm _).trans hD
  have p2 : ((srtF s.F).reverse).Perm s.F := (List.reverse_perm _).trans hF
  unfold vwS
  simp only
  rw [srtD_uniq p1 ((p1.map DR.b).nodup_iff.2 o.dn), srtF_uniq p2 ((p2.map FlD.t).nodup_iff.2 o.fn)]
/-- What is applied twice is as applied once. -/
theorem st_twice {s : StS} (o : StOk s) {r : RecD} (h : stE s r = 0) : stE (stS s r) r = 0 ∧ stS (stS s r) r = stS s r := by
  have hm : mayRB r = true := by
    cases e : mayRB r with
    | true => rfl
    | false => unfold stE at h; rw [if_pos e] at h; cases h
  by_cases h1 : r.kind = 1
  · obtain ⟨e1, e2⟩ := st_1 (s := s) hm h1
    have hp : stPutE s.F r.t = 0 := e1.symm.trans h
    have hF : stPutF s.F (flOf r) = flOf r :: delF s.F r.t := by
      unfold stPutF
      rw [show (flOf r).t = r.t from rfl, hp, if_pos rfl]
    rw [hF] at e2
    rw [e2]
    obtain ⟨f1, f2⟩ := st_1 (s := { s with F := flOf r :: delF s.F r.t }) hm h1
    have hh : hasF (flOf r :: delF s.F r.t) r.t = true := by rw [hasF_consA]; simp [flOf]
    have hp2 : stPutE (flOf r :: delF s.F r.t) r.t = 0 := by unfold stPutE; rw [hh]; rfl
    refine ⟨f1.trans hp2, f2.trans ?_⟩
    have hd : delF (flOf r :: delF s.F r.t) r.t = delF s.F r.t := by
      unfold delF
      rw [List.filter_cons]
      simp [flOf]
    unfold stPutF
    rw [show (flOf r).t = r.t from rfl, hp2, if_pos rfl, hd]
  by_cases h2 : r.kind = 2
  · obtain ⟨e1, e2⟩ := st_2 (s := s) hm h2
    rw [e2]
    obtain ⟨f1, f2⟩ := st_2 (s := { s with F := delF s.F r.t }) hm h2
    refine ⟨f1, f2.trans ?_⟩
    have hd : delF (delF s.F r.t) r.t = delF s.F r.t := by unfold delF; simp
    rw [hd]
  by_cases h3 : r.kind = 3
  · obtain ⟨e1, e2⟩ := st_3 (s := s) hm h3
    have hg : gmay r.bs = true := by
      cases e : gmay r.bs with
      | true => rfl
      | false => rw [h] at e1; unfold stFoE at e1; rw [e] at e1; cases e1
    have e3 : stFoS s r.gen r.bs = { s with gen := r.gen, bs := r.bs } := by unfold stFoS; rw [hg]; rfl
    rw [e3] at e2
    rw [e2]
    obtain ⟨f1, f2⟩ := st_3 (s := { s with gen := r.gen, bs := r.bs }) hm h3
    refine ⟨f1.trans (by unfold stFoE; rw [hg]; rfl), f2.trans ?_⟩
    unfold stFoS; rw [hg]; rfl
  by_cases h4 : r.kind = 4
  · obtain ⟨e1, e2⟩ := st_4 (s := s) hm h4
    have hp : stDrE s.D r.be = 0 := e1.symm.trans h
    have hD : stDrD s.D ⟨r.be, r.un⟩ = ⟨r.be, r.un⟩ :: delD s.D r.be := by
      unfold stDrD
      rw [show (⟨r.be, r.un⟩ : DR).b = r.be from rfl, hp, if_pos rfl]
    rw [hD] at e2
    rw [e2]
    obtain ⟨f1, f2⟩ := st_4 (s := { s with D := ⟨r.be, r.un⟩ :: delD s.D r.be }) hm h4
    have hh : hasD ((⟨r.be, r.un⟩ : DR) :: delD s.D r.be) r.be = true := by rw [hasD_iff]; exact List.mem_cons_self ..
    have hp2 : stDrE ((⟨r.be, r.un⟩ : DR) :: delD s.D r.be) r.be = 0 := by unfold stDrE; rw [hh]; rfl
    refine ⟨f1.trans hp2, f2.trans ?_⟩
    have hd : delD ((⟨r.be, r.un⟩ : DR) :: delD s.D r.be) r.be = delD s.D r.be := by
      unfold delD
      rw [List.filter_cons]
      simp
    unfold stDrD
    rw [show (⟨r.be, r.un⟩ : DR).b = r.be from rfl, hp2, if_pos rfl, hd]
  by_cases h5 : r.kind = 5
  · obtain ⟨e1, e2⟩ := st_5 (s := s) hm h5
    rw [e2]
    obtain ⟨f1, f2⟩ := st_5 (s := { s with D := delD s.D r.be }) hm h5
    refine ⟨f1, f2.trans ?_⟩
    have hd : delD (delD s.D r.be) r.be = delD s.D r.be := by unfold delD; simp
    rw [hd]
  · obtain ⟨e1, _⟩ := st_6 (s := s) hm h1 h2 h3 h4 h5
    rw [h] at e1; cases e1
end Go.Proofs.YtdhimlkndpiacaaGreat

end

section
/- The state that a view is of. -/
set_option linter.unusedVariables false
set_option linter.unusedSimpArgs false
namespace Go.Proofs.YtdhimlkndpiacaaGreat
open Go.RowKit

theorem enter_viewF (a : Value) (w : World) : (callFunc 13 #[a]).run Tryz.prog w = .ok (.enter 13 #[a]) w := by kernel_rfl
theorem enter_sameF (a b : Value) (w : World) : (callFunc 20 #[a, b]).run Tryz.prog w = .ok (.enter 20 #[a, b]) w := by kernel_rfl
theorem infoVF (x : StS) (a1 : Option Addr) (c1 : Nat) (a2 : Option Addr) (c2 : Nat) (a3 : Option Addr) (c3 : Nat) : (Tryz.prog.info? 35).map (·.size) = some (vcs x a1 c1 a2 c2 a3 c3).size := infoSt4
/-- What Of tells. -/
def OfIs (w w' : World) (x : StS) (p : Int × StS) (e : Ending) : Prop :=
  (p.1 ≠ 0 → e = .returned (.tuple #[.pointer none, .int .i64 p.1]) ∧ Touch w w' (fun _ => False)) ∧
  (p.1 = 0 → same14 (vwS p.2) x = false → e = .returned (.tuple #[.pointer none, .int .i64 1]) ∧ Touch w w' (fun _ => False)) ∧
  (p.1 = 0 → same14 (vwS p.2) x = true → ∃ b h, e = .returned (.tuple #[.pointer (some ⟨b, 0, none⟩), .int .i64 0]) ∧ StN w w' b h p.2)
theorem recsV_bs {W : World} {x : StS} {a : Option Addr} {c : Nat} (h : RowK W a x.bs.length c x.bs) (hl : x.bs.length ≤ 100000) : ∀ y ∈ recsV x a c, RowK W y.a y.r.bs.length y.c y.r.bs ∧ y.r.bs.length ≤ 100000 := by
  intro y hy
  unfold recsV at hy
  rcases List.mem_cons.1 hy with rfl | hy
  · exact ⟨h, hl⟩
  · rcases List.mem_append.1 hy with hy | hy
    · obtain ⟨d, _, rfl⟩ := List.mem_map.1 hy
      exact ⟨RowS.nil W none 0 3 (by decide), Nat.zero_le _⟩
    · obtain ⟨f, _, rfl⟩ := List.mem_map.1 hy
      exact ⟨RowS.nil W none 0 3 (by decide), Nat.zero_le _⟩
theorem ofR_drop {l : List RecB} {k : Nat} (hk : k < l.length) (s : StS) : ofR (l.drop k) s = if stE s (grb l k).r = 0 then ofR (l.drop (k + 1)) (stS s (grb l k).r) else (stE s (grb l k).r, s) := by
  rw [List.drop_eq_getElem_cons hk, ofR_cons, grb_get l k hk]
theorem i64_cnt {n : Int} (h : cntB n = true) : i64 n := by have := (cntB_iff n).1 h; unfold i64; omega
theorem i64_id {n : Int} (h : idB n = true) : i64 n := by have := (idB_iff n).1 h; unfold i64; omega
theorem i64_tim {n : Int} (h : timB n = true) : i64 n := by have := (timB_iff n).1 h; unfold i64; omega
theorem i64_z14 : i64 0 := by unfold i64; decide
theorem i64_k14 (n : Nat) (h : n ≤ 9) : i64 (n : Int) := by unfold i64; omega
theorem tupOk_0 : TupOk noT := by constructor <;> simp only [noT, u32, i64] <;> decide
/-- What makes a state anew are records. -/
theorem recsV_ok {s : StS} (o : StOk s) (hb : ∀ b ∈ s.bs, BkOk b) (hf : ∀ f ∈ s.F, TupOk f.t) (a : Option Addr) (c : Nat) : ∀ y ∈ recsV (vwS s) a c, RecOk y.r := by
  intro y hy
  unfold recsV at hy
  rcases List.mem_cons.1 hy with rfl | hy
  · exact ⟨i64_k14 3 (by decide), tupOk_0, i64_z14, i64_z14, i64_z14, i64_cnt o.gen, hb, i64_z14, i64_z14, i64_z14⟩
  · rcases List.mem_append.1 hy with hy | hy
    · obtain ⟨d, hd, rfl⟩ := List.mem_map.1 hy
      have h1 := o.dk d ((srtD_perm s.D).mem_iff.1 hd)
      unfold mayDr at h1
      rw [Bool.and_eq_true] at h1
      exact ⟨i64_k14 4 (by decide), tupOk_0, i64_z14, i64_z14, i64_z14, i64_z14, (fun b hb => by cases hb), i64_id h1.1, i64_tim h1.2, i64_z14⟩
    · obtain ⟨f, hf', rfl⟩ := List.mem_map.1 hy
      have hm := (srtF_perm s.F).mem_iff.1 hf'
      have h1 := o.fk f hm
      unfold mayFl at h1
      simp only [Bool.and_eq_true] at h1
      exact ⟨i64_k14 1 (by decide), hf f hm, i64_id h1.1.1.2, i64_cnt h1.1.2, i64_tim h1.2, i64_z14, (fun b hb => by cases hb), i64_z14, i64_z14, i64_z14⟩
theorem bsOk_step {s : StS} (o : ∀ b ∈ s.bs, BkOk b) {r : RecD} (ok : RecOk r) : ∀ b ∈ (stS s r).bs, BkOk b := by
  unfold stS
  by_cases h0 : stE s r = 0
  case neg => rw [if_neg h0]; exact o
  rw [if_pos h0]
  unfold stDo
  by_cases h1 : r.kind = 1
  · rw [if_pos h1]; exact o
  rw [if_neg h1]
  by_cases h2 : r.kind = 2
  · rw [if_pos h2]; exact o
  rw [if_neg h2]
  by_cases h3 : r.kind = 3
  · rw [if_pos h3]; exact ok.bs
  rw [if_neg h3]
  by_cases h4 : r.kind = 4
  · rw [if_pos h4]; exact o
  rw [if_neg h4]
  by_cases h5 : r.kind = 5
  · rw [if_pos h5]; exact o
  rw [if_neg h5]; exact o
set_option maxRecDepth 20000 in
set_option maxHeartbeats 8000000 in
theorem stof_any (w : World) (x : StS) (a1 : Option Addr) (c1 : Nat) (a2 : Option Addr) (c2 : Nat) (a3 : Option Addr) (c3 : Nat) (hx : VwAt w x a1 c1 a2 c2 a3 c3) (hD : x.D.length ≤ 100000) (hF : x.F.length ≤ 100000) (hb : x.bs.length ≤ 100000) (hok : ∀ y ∈ recsV x a1 c1, RecOk y.r) :
    Calls Tryz.prog 18 #[.agg (vcs x a1 c1 a2 c2 a3 c3)] w fun e w' => OfIs w w' x (ofR (recsV x a1 c1) stZ) e := by
  obtain ⟨W1, hW1⟩ : ∃ W, w.alloc (.cells (vcs x a1 c1 a2 c2 a3 c3) 35) = W := ⟨_, rfl⟩
  have t1 : Touch w W1 (fun _ => False) := hW1 ▸ (Touch.refl w _).alloc _
  have g1 : W1.heap[w.heap.size]? = some (.cells (vcs x a1 c1 a2 c2 a3 c3) 35 (0, 0)) := hW1 ▸ heap_alloc_new ..
  obtain ⟨K1, hK1⟩ : ∃ K, w.heap.size = K := ⟨_, rfl⟩
  rw [hK1] at g1
  have HX := Lib.hid hx
  have HT1 := Lib.hid t1
  have HG0 := Lib.hid g1
  have HW1 := Lib.hid (And.intro hW1 hK1)
  have HB := Lib.hid (And.intro hD (And.intro hF hb))
  have HOK := Lib.hid hok
  obtain ⟨l, hl⟩ : ∃ l, recsV x a1 c1 = l := ⟨_, rfl⟩
  obtain ⟨p, hp⟩ : ∃ p, ofR l stZ = p := ⟨_, rfl⟩
  obtain ⟨n, hn⟩ : ∃ n, 1 + x.D.length + x.F.length = n := ⟨_, rfl⟩
  have HLN : RowKit.Hid (l.length = n) := Lib.hid (by rw [← hl, ← hn]; exact recsV_len _ _ _)
  have HLL := Lib.hid hl
  have HPP := Lib.hid hp
  have HNN := Lib.hid hn
  rw [hl, hp]
  clear t1 g1 hW1 hK1 hx hD hF hb hok hl hp hn
  go_enter Tryz.func18, Tryz.ntmps18
  go_upto_region 1 with (fail)
  rw [HW1.out.1, HW1.out.2]
  go_wp2_with fail
  refine (stnew_any W1).mono ?_
  rintro e w2 ⟨b, h, rfl, n2⟩
  have HN2 := Lib.hid n2
  have HG1 : RowKit.Hid (∀ W, Touch W1 W (fun _ => False) → W.heap[K1]? = some (.cells (vcs x a1 c1 a2 c2 a3 c3) 35 (0, 0))) := Lib.hid (fun W t => t.keeps HG0.out (fun h => h))
  have HR := Lib.hid (records_any w2 x a1 c1 a2 c2 a3 c3 (HX.out.still (HT1.out.trans n2.t (fun _ _ h => h))) HB.out.1 HB.out.2.1)
  rw [HNN.out] at HR
  obtain ⟨v0, v1, v2, v3⟩ : w2.cell? ⟨K1, 0, none⟩ = some (.int .i64 x.gen) ∧ w2.cell? ⟨K1, 1, none⟩ = some (.slice a1 x.bs.length c1) ∧ w2.cell? ⟨K1, 2, none⟩ = some (.slice a2 x.D.length c2) ∧ w2.cell? ⟨K1, 3, none⟩ = some (.slice a3 x.F.length c3) := by
    have g := HG1.out w2 n2.t
    exact ⟨cell_of_cells g 0, cell_of_cells g 1, cell_of_cells g 2, cell_of_cells g 3⟩
  simp only [vcs] at HR
  clear n2
  go_wp2_with fail
  (with_reducible refine HR.out.mono ?_)
  rintro e w3 ⟨ar, cr, rfl, o3, t3⟩
  rw [HLL.out] at o3
  have HRW : RowKit.Hid (∀ W, Touch w3 W (footS b h) → RowRB W ar n cr l) := Lib.hid (fun W t => (o3.row'.2.1).touch t (fun y hy => .inr (fun hs => by have h1 := (o3.row'.2.2 y hy).1; have h2 := HN2.out.m.lt _ hs; omega)))
  have HT3 := Lib.hid t3
  have HN3 := Lib.hid (HN2.out.still t3)
  clear o3 t3 v0 v1 v2 v3
  go_wp2_with fail
  go_loopw [12] (fun s12 wr => ∃ (k : Nat) (hk : StH) (s : StS), k ≤ n ∧ s12 = .int .i64 k ∧ StN W1 wr b hk s ∧ hk.dm = h.dm ∧ hk.fm = h.fm ∧ Touch w3 wr (footS b h) ∧ ofR (l.drop k) s = p) (fun s12 _ => n - (RowKit.intOf s12).toNat)
  case atStart => exact ⟨0, h, stZ, Nat.zero_le _, rfl, HN3.out, rfl, rfl, Touch.refl _ _, HPP.out⟩
  case round =>
    obtain ⟨k, hk, s, hkn, rfl, hq, e1, e2, ht, ho⟩ := hrel
    have HQ := Lib.hid hq
    have HE := Lib.hid (And.intro e1 e2)
    have HTR := Lib.hid ht
    have HO := Lib.hid ho
    clear hq e1 e2 ht ho HN3
    have HFW : RowKit.Hid (∀ W, Touch W1 W (fun _ => False) → Touch w W (fun _ => False)) := Lib.hid (fun W t => HT1.out.trans t (fun _ _ h => h))
    by_cases hlt : k < n
    case pos =>
      have HRX := Lib.hid (HRW.out _ HTR.out)
      have hcap := HRX.out.hcap
      have hmax := HRX.out.hmax
      obtain ⟨gr, off, rfl⟩ := HRX.out.some (by omega)
      have hkL : k < l.length := by have := HLN.out; omega
      obtain ⟨d0, d1, d2, d3, d4, d5, d6, d7, d8, d9, d10, d11, d12, d13⟩ := recB_cells HRX.out k hkL
      have hmem : grb l k ∈ recsV x a1 c1 := by rw [HLL.out]; exact grb_mem l k hkL
      have HYO := Lib.hid (HOK.out _ hmem)
      have HYB := Lib.hid (recsV_bs (HX.out.still (HFW.out _ HQ.out.t)).b HB.out.2.2 _ hmem)
      have HDR := Lib.hid (ofR_drop hkL s)
      rw [HO.out] at HDR
      obtain ⟨y, hy⟩ : ∃ y, grb l k = y := ⟨_, rfl⟩
      rw [hy] at d0 d1 d2 d3 d4 d5 d6 d7 d8 d9 d10 d11 d12 d13 HYO HYB HDR
      clear hy hmem
      obtain ⟨w6, hw6⟩ : ∃ W, wr.alloc (.cells (rcs y.r y.a y.c) 41) = W := ⟨_, rfl⟩
      have t6 : Touch wr w6 (fun _ => False) := hw6 ▸ (Touch.refl wr _).alloc _
      have g6 : w6.heap[wr.heap.size]? = some (.cells (rcs y.r y.a y.c) 41 (0, 0)) := hw6 ▸ heap_alloc_new ..
      have hlI : (k : Int) < n := by omega
      have HQ6 := Lib.hid (HQ.out.still t6)
      have HT6 := Lib.hid (HTR.out.trans t6 (fun _ _ h => h.elim))
      obtain ⟨K7, hK7⟩ : ∃ K, wr.heap.size = K := ⟨_, rfl⟩
      rw [hK7] at g6
      have HW6 := Lib.hid (And.intro hw6 hK7)
      have HAP := Lib.hid (stapply_any w6 b hk s HQ6.out.m y.r y.a y.c (HYB.out.1.still t6) HYB.out.2 HYO.out)
      obtain ⟨y0, y1, y2, y3, y4, y5, y6, y7, y8, y9, y10, y11, y12, y13⟩ := rcells_of g6
      simp only [rcs] at HW6 HAP
      clear t6 g6 hw6 hK7 hkL
      go_upto_region 5 with (fail)
      rw [HW6.out.1, HW6.out.2]
      clear d0 d1 d2 d3 d4 d5 d6 d7 d8 d9 d10 d11 d12 d13
      by_cases hz : stE s y.r = 0
      case neg =>
        have hz' : (stE s y.r == 0) = false := by simpa using hz
        have hpE := HDR.out
        rw [if_neg hz] at hpE
        rw [stS_bad hz] at HAP
        have HPE := Lib.hid hpE
        have HZ := Lib.hid hz
        clear hpE hz
        go_wp2_with fail
        (with_reducible refine HAP.out.mono ?_)
        rintro e w7 ⟨rfl, s7⟩
        obtain ⟨h7, n7, -, -⟩ := HQ6.out.step s7
        have HT7 := Lib.hid (HFW.out _ n7.t)
        clear s7 n7 y0 y1 y2 y3 y4 y5 y6 y7 y8 y9 y10 y11 y12 y13
        go_wp2_with fail
        go_ret2
        rw [HPE.out]
        exact ⟨fun _ => ⟨rfl, HT7.out⟩, fun h => absurd h HZ.out, fun h => absurd h HZ.out⟩
      case pos =>
        have hpE := HDR.out
        rw [if_pos hz] at hpE
        rw [hz] at HAP
        have HPE := Lib.hid hpE
        clear hpE hz
        go_wp2_with fail
        (with_reducible refine HAP.out.mono ?_)
        rintro e w7 ⟨rfl, s7⟩
        obtain ⟨h7, n7, f1, f2⟩ := HQ6.out.step s7
        have hfe : footS b hk = footS b h := by funext q; unfold footS; rw [HE.out.1, HE.out.2]
        have t7 := s7.touch
        rw [hfe] at t7
        have HX' : RowKit.Hid (∃ (k' : Nat) (hk : StH) (s : StS), k' ≤ n ∧ Value.int .i64 ((k : Int) + 1) = .int .i64 k' ∧ StN W1 w7 b hk s ∧ hk.dm = h.dm ∧ hk.fm = h.fm ∧ Touch w3 w7 (footS b h) ∧ ofR (l.drop k') s = p) := Lib.hid ⟨k + 1, h7, stS s y.r, by omega, by go_num, n7, f1.trans HE.out.1, f2.trans HE.out.2, HT6.out.trans t7 (fun _ _ h => h), HPE.out.symm⟩
        clear s7 n7 f1 f2 hfe t7 y0 y1 y2 y3 y4 y5 y6 y7 y8 y9 y10 y11 y12 y13
        go_wp2_with fail
        go_roundw
        · exact HX'.out
        · simp only [RowKit.intOf]; omega
    case neg =>
      obtain rfl : n = k := by omega
      have hlI : ¬ (n : Int) < n := by omega
      have hp : p = (0, s) := by
        have := HO.out
        rw [List.drop_of_length_le (by rw [HLN.out]; exact Nat.le_refl _)] at this
        exact this.symm
      subst hp
      have HVX : RowKit.Hid (∀ W, Touch wr W (fun _ => False) → VwAt W x a1 c1 a2 c2 a3 c3) := Lib.hid (fun W t => HX.out.still (HFW.out _ (HQ.out.t.trans t (fun _ _ h => h))))
      have HGR : RowKit.Hid (∀ W, Touch wr W (fun _ => False) → W.heap[K1]? = some (.cells (vcs x a1 c1 a2 c2 a3 c3) 35 (0, 0))) := Lib.hid (fun W t => HG1.out _ (HQ.out.t.trans t (fun _ _ h => h)))
      obtain ⟨B, hB⟩ : ∃ B, same14 (vwS s) x = B := ⟨_, rfl⟩
      have HBB := Lib.hid hB
      clear hkn hlt hB
      go_upto_region 9 with (fail)
      clear hlI
      have hS := (Touch.refl wr (fun _ => False)).drew
      refine wp_region_sched (fun w' => Touch wr w' (fun _ => False)) [(0, true), (2, true), (1, false), (3, false), (4, true)] (by kernel_rfl) (by kernel_rfl) rfl (by kernel_rfl) hS ?_
      (refine walkS_take (v := ?_) (some 23) rfl rfl (fun _ _ _ h => h) (by rfl) ?_ ?_; rotate_left; (focus (intro w' hw'; go_simp; (try with_reducible rfl))); (try simp only [Act.put, List.setIfInBounds_toArray, List.set_cons_zero, List.set_cons_succ]))
      (refine walkS_row (some 25) rfl rfl 35 (.tmp 1) rfl (K1) rfl _ _ _ _ (fun w' h => HGR.out _ h) Tryz.underlying35 rfl (infoVF _ _ _ _ _ _ _) (fun _ _ _ h => h) (by rfl) ?_; (try simp only [Act.put, List.setIfInBounds_toArray, List.set_cons_zero, List.set_cons_succ]))
      (refine walkS_call 24 _ _ _ _ (stvw_any _ b hk s (HQ.out.m.still hS)) rfl rfl rfl (by rfl) rfl (enter_viewF _ _) ?_; rintro e w' ⟨f1, g1, f2, g2, f3, g3, rfl, ⟨va, -⟩, t9⟩; have HSM := Lib.hid (same14_any w' _ _ _ _ _ _ _ _ _ _ _ _ _ _ va (HVX.out _ (hS.trans t9 (fun _ _ h => h)))); rw [HBB.out] at HSM; have hS := hS.trans t9 (fun _ _ h => h); clear va t9; refine ⟨_, rfl, hS, fun hS => ?_⟩; (try simp only [Act.put, List.setIfInBounds_toArray, List.set_cons_zero, List.set_cons_succ]))
      (refine walkS_call 26 _ _ _ _ (HSM.out) rfl rfl rfl (by rfl) rfl (enter_sameF _ _ _) ?_; rintro e w' ⟨rfl, t⟩; have hS := hS.trans t (fun _ _ h => h); clear t; refine ⟨_, rfl, hS, fun hS => ?_⟩; (try simp only [Act.put, List.setIfInBounds_toArray, List.set_cons_zero, List.set_cons_succ]))
      (refine walkS_take (v := ?_) (some 27) rfl rfl (fun _ _ _ h => h) (by rfl) ?_ ?_; rotate_left; (focus (intro w' hw'; go_simp; (try with_reducible rfl))); (try simp only [Act.put, List.setIfInBounds_toArray, List.set_cons_zero, List.set_cons_succ]))
      refine walkS_done ?_
      have HTW := Lib.hid (HFW.out _ (HQ.out.t.trans hS (fun _ _ h => h)))
      have HNS := Lib.hid (HQ.out.still hS)
      have HSZ := Lib.hid HT1.out.size
      clear hS
      cases B
      case false =>
        go_wp2_with fail
        go_ret2
        exact ⟨fun h => absurd rfl h, fun _ _ => ⟨rfl, HTW.out⟩, fun _ h => absurd (HBB.out.symm.trans h : false = true) Bool.noConfusion⟩
      case true =>
        go_wp2_with fail
        go_ret2
        exact ⟨fun h => absurd rfl h, fun _ h => absurd (HBB.out.symm.trans h : true = false) Bool.noConfusion, fun _ _ => ⟨b, hk, rfl, ⟨HNS.out.m, HTW.out, fun q hq => Nat.le_trans HSZ.out (HNS.out.f q hq)⟩⟩⟩
end Go.Proofs.YtdhimlkndpiacaaGreat

end
