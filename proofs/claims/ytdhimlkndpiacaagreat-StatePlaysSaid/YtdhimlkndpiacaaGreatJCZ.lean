/- JC: RfS, RsA, RsE, RsQ, RsP, RsOf. -/
import Derived.Test.YtdhimlkndpiacaaGreatJDZ
import Derived.Test.YtdhimlkndpiacaaGreatGCZ
import Derived.BigQuiet
import Derived.StillTailTactics
import Derived.Test.YtdhimlkndpiacaaGreatJAZ
import Derived.Test.YtdhimlkndpiacaaGreatJBZ
import Derived.Test.YtdhimlkndpiacaaGreatHFZ
import Derived.Deep.DeepCutAuto
section
/- The reference: are two rows of drains, of flows, two states the same? -/
set_option linter.unusedVariables false
set_option linter.unusedSimpArgs false
namespace Go.Proofs.YtdhimlkndpiacaaGreat
open Go.RowKit

set_option maxRecDepth 20000 in
set_option maxHeartbeats 8000000 in
theorem rsameDr_any (a : Option Addr) (len cap : Nat) (bs : List DR) (a2 : Option Addr) (len2 cap2 : Nat) (cs : List DR) (w : World) (hr : RowS w a len cap 2 (bs.map dcl)) (hr2 : RowS w a2 len2 cap2 2 (cs.map dcl)) :
    Calls Tryz.prog 36 #[.slice a len cap, .slice a2 len2 cap2] w fun e w' => e = .returned (.bool (sameDr bs cs)) ∧ ∃ n, w' = w.drewN n := by
  have hl1 : bs.length = len := by have := hr.hlen; simpa using this
  have hl2 : cs.length = len2 := by have := hr2.hlen; simpa using this
  by_cases hn : len = len2
  case neg =>
    have hb : ((len : Int) != (len2 : Int)) = true := bne_iff_ne.2 (by omega)
    rw [sameDr_len (by omega)]
    clear hr hr2 hl1 hl2 hn
    go_enter Tryz.func36, Tryz.ntmps36
    go_wp2
    go_ret
    exact ⟨rfl, 0, rfl⟩
  case pos =>
  obtain rfl := hn
  have hb : ((len : Int) != (len : Int)) = false := bne_eq_false_iff_eq.2 rfl
  have hcap := hr.hmax
  have hcap1 := hr.hcap
  have HR := Lib.hid hr
  have HR2 := Lib.hid hr2
  have HL1 := Lib.hid hl1
  have HL2 := Lib.hid hl2
  clear hr hr2 hl1 hl2
  go_enter Tryz.func36, Tryz.ntmps36
  go_wp2_with fail
  go_loopw [13] (fun i wr => ∃ k n : Nat, k ≤ len ∧ i = .int .i64 k ∧ wr = w.drewN n ∧ (bs.map DR.valE).take k = (cs.map DR.valE).take k) (fun i _ => len - (RowKit.intOf i).toNat)
  case atStart => exact ⟨0, 0, Nat.zero_le _, rfl, rfl, by simp⟩
  case round =>
    obtain ⟨k, n, hk, rfl, hwr, he⟩ := hrel
    have HWR := Lib.hid hwr
    have HE := Lib.hid he
    have t : Touch w wr (fun _ => False) := hwr ▸ (Touch.refl w (fun _ => False)).drewN n
    clear he hwr
    by_cases hlt : k < len
    case neg =>
      obtain rfl : len = k := by omega
      have hlt' : ¬ (len : Int) < len := by omega
      have HEND : RowKit.Hid (sameDr bs cs = true) := Lib.hid (sameDr_all (by rw [HL1.out, HL2.out]) (by simpa [HL1.out] using HE.out))
      go_wp2
      go_ret
      exact ⟨by rw [HEND.out]; rfl, n, HWR.out⟩
    case pos =>
    have hr := HR.out.still t
    have hr2 := HR2.out.still t
    obtain ⟨b, off, rfl⟩ := hr.some (by omega)
    obtain ⟨b2, off2, rfl⟩ := hr2.some (by omega)
    have hk1 : k < bs.length := by rw [HL1.out]; exact hlt
    have hk2 : k < cs.length := by rw [HL2.out]; exact hlt
    obtain ⟨c0, c1⟩ := sameDr_cells hr k hk1
    obtain ⟨d0, d1⟩ := sameDr_cells hr2 k hk2
    have HF : RowKit.Hid ((bs.map DR.valE).take (k + 1) = (bs.map DR.valE).take k ++ [bs[k].valE]) := Lib.hid (by rw [List.take_succ_eq_append_getElem (by simpa using hk1)]; simp)
    have HG : RowKit.Hid ((cs.map DR.valE).take (k + 1) = (cs.map DR.valE).take k ++ [cs[k].valE]) := Lib.hid (by rw [List.take_succ_eq_append_getElem (by simpa using hk2)]; simp)
    have HAT := Lib.hid (sameDr_at k hk1 hk2)
    generalize bs[k] = f at *
    generalize cs[k] = g at *
    have i1 : (k : Int) < len := by omega
    clear hr hr2 t
    go_wp2_with fail
    go_still_tail 8, (by kernel_rfl)
    change wpList _ _ _ _ _ wr.drew
    go_wp2
    all_goals first
      | (have hv : f.valE = g.valE := by simp only [DR.valE, List.cons.injEq, and_true]; omega
         refine ⟨⟨k + 1, n + 1, hlt, by go_num, ?_, ?_⟩, by simp [RowKit.intOf]; omega⟩
         · rw [HWR.out]; rfl
         · rw [HF.out, HG.out, HE.out, hv])
      | (have hv : f.valE ≠ g.valE := fun h => by simp only [DR.valE, List.cons.injEq, and_true] at h; omega
         go_ret
         exact ⟨by rw [HAT.out hv]; rfl, n + 1, by rw [HWR.out]; rfl⟩)

set_option maxRecDepth 20000 in
set_option maxHeartbeats 8000000 in
theorem rsameFr_any (a : Option Addr) (len cap : Nat) (bs : List FlD) (a2 : Option Addr) (len2 cap2 : Nat) (cs : List FlD) (w : World) (hr : RowS w a len cap 8 (bs.map fcl)) (hr2 : RowS w a2 len2 cap2 8 (cs.map fcl)) :
    Calls Tryz.prog 37 #[.slice a len cap, .slice a2 len2 cap2] w fun e w' => e = .returned (.bool (sameFr bs cs)) ∧ ∃ n, w' = w.drewN n := by
  have hl1 : bs.length = len := by have := hr.hlen; simpa using this
  have hl2 : cs.length = len2 := by have := hr2.hlen; simpa using this
  by_cases hn : len = len2
  case neg =>
    have hb : ((len : Int) != (len2 : Int)) = true := bne_iff_ne.2 (by omega)
    rw [sameFr_len (by omega)]
    clear hr hr2 hl1 hl2 hn
    go_enter Tryz.func37, Tryz.ntmps37
    go_wp2
    go_ret
    exact ⟨rfl, 0, rfl⟩
  case pos =>
  obtain rfl := hn
  have hb : ((len : Int) != (len : Int)) = false := bne_eq_false_iff_eq.2 rfl
  have hcap := hr.hmax
  have hcap1 := hr.hcap
  have HR := Lib.hid hr
  have HR2 := Lib.hid hr2
  have HL1 := Lib.hid hl1
  have HL2 := Lib.hid hl2
  clear hr hr2 hl1 hl2
  go_enter Tryz.func37, Tryz.ntmps37
  go_wp2_with fail
  go_loopw [13] (fun i wr => ∃ k n : Nat, k ≤ len ∧ i = .int .i64 k ∧ wr = w.drewN n ∧ (bs.map FlD.valE).take k = (cs.map FlD.valE).take k) (fun i _ => len - (RowKit.intOf i).toNat)
  case atStart => exact ⟨0, 0, Nat.zero_le _, rfl, rfl, by simp⟩
  case round =>
    obtain ⟨k, n, hk, rfl, hwr, he⟩ := hrel
    have HWR := Lib.hid hwr
    have HE := Lib.hid he
    have t : Touch w wr (fun _ => False) := hwr ▸ (Touch.refl w (fun _ => False)).drewN n
    clear he hwr
    by_cases hlt : k < len
    case neg =>
      obtain rfl : len = k := by omega
      have hlt' : ¬ (len : Int) < len := by omega
      have HEND : RowKit.Hid (sameFr bs cs = true) := Lib.hid (sameFr_all (by rw [HL1.out, HL2.out]) (by simpa [HL1.out] using HE.out))
      go_wp2
      go_ret
      exact ⟨by rw [HEND.out]; rfl, n, HWR.out⟩
    case pos =>
    have hr := HR.out.still t
    have hr2 := HR2.out.still t
    obtain ⟨b, off, rfl⟩ := hr.some (by omega)
    obtain ⟨b2, off2, rfl⟩ := hr2.some (by omega)
    have hk1 : k < bs.length := by rw [HL1.out]; exact hlt
    have hk2 : k < cs.length := by rw [HL2.out]; exact hlt
    obtain ⟨c0, c1, c2, c3, c4, c5, c6, c7⟩ := sameFr_cells hr k hk1
    obtain ⟨d0, d1, d2, d3, d4, d5, d6, d7⟩ := sameFr_cells hr2 k hk2
    have HF : RowKit.Hid ((bs.map FlD.valE).take (k + 1) = (bs.map FlD.valE).take k ++ [bs[k].valE]) := Lib.hid (by rw [List.take_succ_eq_append_getElem (by simpa using hk1)]; simp)
    have HG : RowKit.Hid ((cs.map FlD.valE).take (k + 1) = (cs.map FlD.valE).take k ++ [cs[k].valE]) := Lib.hid (by rw [List.take_succ_eq_append_getElem (by simpa using hk2)]; simp)
    have HAT := Lib.hid (sameFr_at k hk1 hk2)
    generalize bs[k] = f at *
    generalize cs[k] = g at *
    have i1 : (k : Int) < len := by omega
    clear hr hr2 t
    go_wp2_with fail
    go_still_tail 8, (by kernel_rfl)
    change wpList _ _ _ _ _ wr.drew
    go_wp2
    all_goals first
      | (have hv : f.valE = g.valE := by simp only [FlD.valE, List.cons.injEq, and_true]; omega
         refine ⟨⟨k + 1, n + 1, hlt, by go_num, ?_, ?_⟩, by simp [RowKit.intOf]; omega⟩
         · rw [HWR.out]; rfl
         · rw [HF.out, HG.out, HE.out, hv])
      | (have hv : f.valE ≠ g.valE := fun h => by simp only [FlD.valE, List.cons.injEq, and_true] at h; omega
         go_ret
         exact ⟨by rw [HAT.out hv]; rfl, n + 1, by rw [HWR.out]; rfl⟩)

end Go.Proofs.YtdhimlkndpiacaaGreat

end

section
/- The reference's state lies in block m; what its calls leave. -/
set_option linter.unusedVariables false
set_option linter.unusedSimpArgs false
namespace Go.Proofs.YtdhimlkndpiacaaGreat
open Go.RowKit

/-- A record is laid over another. -/
def rsPut (w : World) (K : Nat) (r : RecD) (a : Option Addr) (c : Nat) : World := ((((((((((((((w.setCell ⟨K, 0, none⟩ (.int .i64 r.kind)).setCell ⟨K, 1, none⟩ (.int .u32 r.t.src)).setCell ⟨K, 2, none⟩ (.int .u32 r.t.dst)).setCell ⟨K, 3, none⟩ (.int .i64 r.t.proto)).setCell ⟨K, 4, none⟩ (.int .i64 r.t.sport)).setCell ⟨K, 5, none⟩ (.int .i64 r.t.dport)).setCell ⟨K, 6, none⟩ (.int .i64 r.fb)).setCell ⟨K, 7, none⟩ (.int .i64 r.fg)).setCell ⟨K, 8, none⟩ (.int .i64 r.fs)).setCell ⟨K, 9, none⟩ (.int .i64 r.gen)).setCell ⟨K, 10, none⟩ (.slice a r.bs.length c)).setCell ⟨K, 11, none⟩ (.int .i64 r.be)).setCell ⟨K, 12, none⟩ (.int .i64 r.un)).setCell ⟨K, 13, none⟩ (.int .i64 r.ct))
theorem rsPut_at {w : World} {K : Nat} {r r0 : RecD} {a a0 : Option Addr} {c c0 : Nat} {T : TypeId} (g : w.heap[K]? = some (.cells (rcs r0 a0 c0) T (0, 0))) : (rsPut w K r a c).heap[K]? = some (.cells (rcs r a c) T (0, 0)) := by
  have h := (heap_setCell_same _ K 13 _ _ (.int .i64 r.ct) (heap_setCell_same _ K 12 _ _ (.int .i64 r.un) (heap_setCell_same _ K 11 _ _ (.int .i64 r.be) (heap_setCell_same _ K 10 _ _ (.slice a r.bs.length c) (heap_setCell_same _ K 9 _ _ (.int .i64 r.gen) (heap_setCell_same _ K 8 _ _ (.int .i64 r.fs) (heap_setCell_same _ K 7 _ _ (.int .i64 r.fg) (heap_setCell_same _ K 6 _ _ (.int .i64 r.fb) (heap_setCell_same _ K 5 _ _ (.int .i64 r.t.dport) (heap_setCell_same _ K 4 _ _ (.int .i64 r.t.sport) (heap_setCell_same _ K 3 _ _ (.int .i64 r.t.proto) (heap_setCell_same _ K 2 _ _ (.int .u32 r.t.dst) (heap_setCell_same _ K 1 _ _ (.int .u32 r.t.src) (heap_setCell_same _ K 0 _ _ (.int .i64 r.kind) g))))))))))))))
  unfold rsPut
  rw [h]
  simp [rcs]
theorem rsPut_touch (w : World) (K : Nat) (r : RecD) (a : Option Addr) (c : Nat) : Touch w (rsPut w K r a c) (fun k => k = K) :=
  (((((((((((((((Touch.refl w _).into 0 _).into 1 _).into 2 _).into 3 _).into 4 _).into 5 _).into 6 _).into 7 _).into 8 _).into 9 _).into 10 _).into 11 _).into 12 _).into 13 _)

/-- It lies in block m, its rows in blocks from B on. -/
structure RsM (w : World) (B m : Nat) (s : StS) (a1 : Option Addr) (c1 : Nat) (a2 : Option Addr) (c2 : Nat) (a3 : Option Addr) (c3 : Nat) : Prop where
  head : w.heap[m]? = some (.cells (vcs s a1 c1 a2 c2 a3 c3) 37 (0, 0))
  vw : VwAt w s a1 c1 a2 c2 a3 c3
  b1 : ∀ x, a1 = some x → B ≤ x.block ∧ x.block ≠ m ∧ x.block < w.heap.size
  b2 : ∀ x, a2 = some x → B ≤ x.block ∧ x.block ≠ m ∧ x.block < w.heap.size
  b3 : ∀ x, a3 = some x → B ≤ x.block ∧ x.block ≠ m ∧ x.block < w.heap.size
  p2 : a2 = none ∨ ∃ g off, a2 = some ⟨g, off, none⟩
  p3 : a3 = none ∨ ∃ g off, a3 = some ⟨g, off, none⟩
  hB : B ≤ m
section
variable {w w' w2 : World} {B m : Nat} {s : StS} {a1 a2 a3 a9 : Option Addr} {c1 c2 c3 c9 : Nat}
theorem RsM.touch {S : Nat → Prop} (q : RsM w B m s a1 c1 a2 c2 a3 c3) (t : Touch w w' S) (h : ∀ k, S k → k ≠ m ∧ (k < B ∨ w.heap.size ≤ k)) : RsM w' B m s a1 c1 a2 c2 a3 c3 := by
  have ap : ∀ x : Addr, (B ≤ x.block ∧ x.block ≠ m ∧ x.block < w.heap.size) → ¬ S x.block := fun x hx hs => by have := h _ hs; omega
  have sz : ∀ x : Addr, (B ≤ x.block ∧ x.block ≠ m ∧ x.block < w.heap.size) → (B ≤ x.block ∧ x.block ≠ m ∧ x.block < w'.heap.size) := fun x hx => ⟨hx.1, hx.2.1, Nat.lt_of_lt_of_le hx.2.2 t.size⟩
  exact ⟨t.keeps q.head (fun hs => (h _ hs).1 rfl), ⟨q.vw.b.touch t (fun x hx => .inr (ap x (q.b1 x hx))), q.vw.d.touch t (fun x hx => .inr (ap x (q.b2 x hx))), q.vw.f.touch t (fun x hx => .inr (ap x (q.b3 x hx)))⟩,
    fun x hx => sz x (q.b1 x hx), fun x hx => sz x (q.b2 x hx), fun x hx => sz x (q.b3 x hx), q.p2, q.p3, q.hB⟩
theorem RsM.still (q : RsM w B m s a1 c1 a2 c2 a3 c3) (t : Touch w w' (fun _ => False)) : RsM w' B m s a1 c1 a2 c2 a3 c3 := q.touch t (fun _ h => h.elim)
theorem RsM.cells (q : RsM w B m s a1 c1 a2 c2 a3 c3) : w.cell? ⟨m, 0, none⟩ = some (.int .i64 s.gen) ∧ w.cell? ⟨m, 1, none⟩ = some (.slice a1 s.bs.length c1) ∧ w.cell? ⟨m, 2, none⟩ = some (.slice a2 s.D.length c2) ∧ w.cell? ⟨m, 3, none⟩ = some (.slice a3 s.F.length c3) :=
  ⟨cell_of_cells q.head 0, cell_of_cells q.head 1, cell_of_cells q.head 2, cell_of_cells q.head 3⟩
theorem RsM.frees (q : RsM w B m s a1 c1 a2 c2 a3 c3) : w.frozen? ⟨m, 0, none⟩ = false ∧ w.frozen? ⟨m, 1, none⟩ = false ∧ w.frozen? ⟨m, 2, none⟩ = false ∧ w.frozen? ⟨m, 3, none⟩ = false :=
  ⟨free_of_cells q.head 0, free_of_cells q.head 1, free_of_cells q.head 2, free_of_cells q.head 3⟩
def InB (w : World) (B m : Nat) (a : Option Addr) : Prop := ∀ x, a = some x → B ≤ x.block ∧ x.block ≠ m ∧ x.block < w.heap.size
theorem RsM.setF {F : List FlD} (q : RsM w B m s a1 c1 a2 c2 a3 c3) (hr : RowS w a9 F.length c9 8 (F.map fcl)) (hb : InB w B m a9) (hp : a9 = none ∨ ∃ g off, a9 = some ⟨g, off, none⟩) :
    RsM (w.setCell ⟨m, 3, none⟩ (.slice a9 F.length c9)) B m { s with F := F } a1 c1 a2 c2 a9 c9 := by
  have ts : Touch w (w.setCell ⟨m, 3, none⟩ (.slice a9 F.length c9)) (fun k => k = m) := (Touch.refl w (fun k => k = m)).setCell _ _ (fun _ => rfl)
  have sz : ∀ x : Addr, (B ≤ x.block ∧ x.block ≠ m ∧ x.block < w.heap.size) → (B ≤ x.block ∧ x.block ≠ m ∧ x.block < (w.setCell ⟨m, 3, none⟩ (.slice a9 F.length c9)).heap.size) := fun x hx => ⟨hx.1, hx.2.1, Nat.lt_of_lt_of_le hx.2.2 ts.size⟩
  exact ⟨heap_setCell_same w m 3 _ _ _ q.head, ⟨q.vw.b.touch ts (fun x hx => .inr (q.b1 x hx).2.1), q.vw.d.touch ts (fun x hx => .inr (q.b2 x hx).2.1), hr.touch ts (fun x hx => .inr (hb x hx).2.1)⟩,
    fun x hx => sz x (q.b1 x hx), fun x hx => sz x (q.b2 x hx), fun x hx => sz x (hb x hx), q.p2, hp, q.hB⟩
theorem RsM.setD {D : List DR} (q : RsM w B m s a1 c1 a2 c2 a3 c3) (hr : RowS w a9 D.length c9 2 (D.map dcl)) (hb : InB w B m a9) (hp : a9 = none ∨ ∃ g off, a9 = some ⟨g, off, none⟩) :
    RsM (w.setCell ⟨m, 2, none⟩ (.slice a9 D.length c9)) B m { s with D := D } a1 c1 a9 c9 a3 c3 := by
  have ts : Touch w (w.setCell ⟨m, 2, none⟩ (.slice a9 D.length c9)) (fun k => k = m) := (Touch.refl w (fun k => k = m)).setCell _ _ (fun _ => rfl)
  have sz : ∀ x : Addr, (B ≤ x.block ∧ x.block ≠ m ∧ x.block < w.heap.size) → (B ≤ x.block ∧ x.block ≠ m ∧ x.block < (w.setCell ⟨m, 2, none⟩ (.slice a9 D.length c9)).heap.size) := fun x hx => ⟨hx.1, hx.2.1, Nat.lt_of_lt_of_le hx.2.2 ts.size⟩
  exact ⟨heap_setCell_same w m 2 _ _ _ q.head, ⟨q.vw.b.touch ts (fun x hx => .inr (q.b1 x hx).2.1), hr.touch ts (fun x hx => .inr (hb x hx).2.1), q.vw.f.touch ts (fun x hx => .inr (q.b3 x hx).2.1)⟩,
    fun x hx => sz x (q.b1 x hx), fun x hx => sz x (hb x hx), fun x hx => sz x (q.b3 x hx), hp, q.p3, q.hB⟩
theorem RsM.setG {g : Int} {bs : List BkD} (q : RsM w B m s a1 c1 a2 c2 a3 c3) (hr : RowK w a9 bs.length c9 bs) (hb : InB w B m a9) :
    RsM ((w.setCell ⟨m, 0, none⟩ (.int .i64 g)).setCell ⟨m, 1, none⟩ (.slice a9 bs.length c9)) B m { s with gen := g, bs := bs } a9 c9 a2 c2 a3 c3 := by
  have ts : Touch w ((w.setCell ⟨m, 0, none⟩ (.int .i64 g)).setCell ⟨m, 1, none⟩ (.slice a9 bs.length c9)) (fun k => k = m) := ((Touch.refl w (fun k => k = m)).setCell _ _ (fun _ => rfl)).setCell _ _ (fun _ => rfl)
  have sz : ∀ x : Addr, (B ≤ x.block ∧ x.block ≠ m ∧ x.block < w.heap.size) → (B ≤ x.block ∧ x.block ≠ m ∧ x.block < ((w.setCell ⟨m, 0, none⟩ (.int .i64 g)).setCell ⟨m, 1, none⟩ (.slice a9 bs.length c9)).heap.size) := fun x hx => ⟨hx.1, hx.2.1, Nat.lt_of_lt_of_le hx.2.2 ts.size⟩
  exact ⟨heap_setCell_same _ m 1 _ _ _ (heap_setCell_same w m 0 _ _ _ q.head), ⟨hr.touch ts (fun x hx => .inr (hb x hx).2.1), q.vw.d.touch ts (fun x hx => .inr (q.b2 x hx).2.1), q.vw.f.touch ts (fun x hx => .inr (q.b3 x hx).2.1)⟩,
    fun x hx => sz x (hb x hx), fun x hx => sz x (q.b2 x hx), fun x hx => sz x (q.b3 x hx), q.p2, q.p3, q.hB⟩
/-- Behind a call: it touches its own block alone. -/
def RsTo (w w' : World) (B m : Nat) (s' : StS) : Prop := (∃ a1 c1 a2 c2 a3 c3, RsM w' B m s' a1 c1 a2 c2 a3 c3) ∧ Touch w w' (fun k => k = m)
theorem RsM.to (q : RsM w B m s a1 c1 a2 c2 a3 c3) (t : Touch w w' (fun _ => False)) : RsTo w w' B m s := ⟨⟨a1, c1, a2, c2, a3, c3, q.still t⟩, t.mono (fun _ _ h => h.elim)⟩
end
/-- What Apply makes of the reference's state. -/
def rsDo (s : StS) (r : RecD) : StS :=
  if r.kind = 1 then { s with F := putL s.F (flOf r) }
  else if r.kind = 2 then { s with F := delF s.F r.t }
  else if r.kind = 3 then { s with gen := r.gen, bs := r.bs }
  else if r.kind = 4 then { s with D := putG s.D r.be r.un }
  else if r.kind = 5 then { s with D := delD s.D r.be }
  else s
def rsS (s : StS) (r : RecD) : StS := if stE s r = 0 then rsDo s r else s
theorem rs_bad {s : StS} {r : RecD} (h : stE s r ≠ 0) : rsS s r = s := by unfold rsS; rw [if_neg h]
theorem rs_ok {s : StS} {r : RecD} (h : stE s r = 0) : rsS s r = rsDo s r := by unfold rsS; rw [if_pos h]
theorem enter_rdrs (a : Value) (w : World) : (callFunc 27 #[a]).run Tryz.prog w = .ok (.enter 27 #[a]) w := by kernel_rfl
set_option maxHeartbeats 4000000 in
theorem rdrains_any (w : World) (m : Nat) (a : Option Addr) (n c : Nat) (hc : w.cell? ⟨m, 2, none⟩ = some (.slice a n c)) :
    Calls Tryz.prog 27 #[.pointer (some ⟨m, 0, none⟩)] w fun e w' => e = .returned (.pointer (some ⟨w.heap.size, 0, none⟩)) ∧ w' = w.alloc (.cells #[.slice a n c] 78) := by
  go_enter Tryz.func27, Tryz.ntmps27
  go_wp2_with fail
  go_ret
  exact ⟨rfl, rfl⟩
end Go.Proofs.YtdhimlkndpiacaaGreat

end

section
/- The reference's state is the view of the program's: each record keeps them so. -/
set_option linter.unusedVariables false
set_option linter.unusedSimpArgs false
namespace Go.Proofs.YtdhimlkndpiacaaGreat
open Go.RowKit

theorem insD_permE (r : DR) : ∀ l, (insD r l).Perm (r :: l)
  | [] => .refl _
  | x :: l => by
    unfold insD
    split
    · exact ((insD_permE r l).cons x).trans (.swap r x l)
    · exact .refl _
theorem insD_sortE (r : DR) : ∀ l, SortD l → r.b ∉ l.map DR.b → SortD (insD r l)
  | [], _, _ => by simp [insD, SortD]
  | x :: l, h, hn => by
    obtain ⟨h1, h2⟩ := List.pairwise_cons.1 h
    have hn2 : r.b ∉ l.map DR.b := fun h => hn (by simp only [List.map_cons, List.mem_cons]; exact .inr h)
    have hxr : r.b ≠ x.b := fun h => hn (by simp [h])
    unfold insD
    split
    · rename_i hlt
      have hlt := of_decide_eq_true hlt
      refine List.pairwise_cons.2 ⟨fun y hy => ?_, insD_sortE r l h2 hn2⟩
      rcases List.mem_cons.1 ((insD_permE r l).mem_iff.1 hy) with rfl | hy
      · exact hlt
      · exact h1 y hy
    · rename_i hlt
      have hrx : r.b < x.b := by
        have : ¬ x.b < r.b := fun h => hlt (decide_eq_true h)
        omega
      exact List.pairwise_cons.2 ⟨fun y hy => by
        rcases List.mem_cons.1 hy with rfl | hy
        · exact hrx
        · have := h1 y hy; omega, h⟩

theorem srtD_is {A B : List DR} (hs : SortD A) (hp : A.Perm B) (hn : (B.map DR.b).Nodup) : A = srtD B :=
  List.Perm.eq_of_pairwise (le := fun a b : DR => a.b < b.b) (fun a b _ _ x y => by omega) hs (srtD_sort hn) (hp.trans (srtD_perm B).symm)
theorem srtF_is {A B : List FlD} (hs : SortL A) (hp : A.Perm B) (hn : (B.map FlD.t).Nodup) : A = srtF B :=
  strict_ext (hp.trans (srtF_perm B).symm) hs (srtF_sort hn)
theorem stPutE_perm {A B : List FlD} (h : A.Perm B) (t : TupD) : stPutE A t = stPutE B t := by unfold stPutE; rw [hasF_perm h, h.length_eq]
theorem stDrE_perm {A B : List DR} (h : A.Perm B) (b : Int) : stDrE A b = stDrE B b := by unfold stDrE; rw [hasD_perm h, h.length_eq]
theorem vw_nd {s : StS} (o : StOk s) : ((vwS s).F.map FlD.t).Nodup ∧ ((vwS s).D.map DR.b).Nodup ∧ (vwS s).F.length ≤ 256 ∧ (vwS s).D.length ≤ 16 :=
  ⟨((srtF_perm s.F).map FlD.t).nodup_iff.2 o.fn, ((srtD_perm s.D).map DR.b).nodup_iff.2 o.dn, (srtF_perm s.F).length_eq ▸ o.fl, (srtD_perm s.D).length_eq ▸ o.dl⟩
theorem rs_simE {s : StS} (r : RecD) : stE (vwS s) r = stE s r := by
  cases hm : mayRB r
  · rw [(st_no hm).1, (st_no hm).1]
  by_cases k1 : r.kind = 1
  · rw [(st_1 hm k1).1, (st_1 hm k1).1]; exact stPutE_perm (srtF_perm _) _
  by_cases k2 : r.kind = 2
  · rw [(st_2 hm k2).1, (st_2 hm k2).1]
  by_cases k3 : r.kind = 3
  · rw [(st_3 hm k3).1, (st_3 hm k3).1]
  by_cases k4 : r.kind = 4
  · rw [(st_4 hm k4).1, (st_4 hm k4).1]; exact stDrE_perm (srtD_perm _) _
  by_cases k5 : r.kind = 5
  · rw [(st_5 hm k5).1, (st_5 hm k5).1]
  rw [(st_6 hm k1 k2 k3 k4 k5).1, (st_6 hm k1 k2 k3 k4 k5).1]
/-- EACH RECORD KEEPS THEM ALIKE. -/
theorem rs_sim {s : StS} (o : StOk s) (r : RecD) : rsS (vwS s) r = vwS (stS s r) := by
  have hE := rs_simE (s := s) r
  by_cases h0 : stE s r = 0
  case neg => rw [rs_bad (by rw [hE]; exact h0), stS_bad h0]
  have hm : mayRB r = true := by
    cases hm : mayRB r
    · rw [(st_no hm).1] at h0; cases h0
    · rfl
  have o' := o.step r
  have hF : SortL (srtF s.F) := srtF_sort o.fn
  have hD : SortD (srtD s.D) := srtD_sort o.dn
  rw [stS_ok h0] at o' ⊢
  rw [rs_ok (by rw [hE]; exact h0)]
  unfold rsDo
  unfold stDo at o' ⊢
  by_cases k1 : r.kind = 1
  · rw [if_pos k1] at o' ⊢
    rw [if_pos k1]
    have h : putL (srtF s.F) (flOf r) = srtF (flOf r :: delF s.F r.t) := srtF_is (putL_sort _ hF) ((putL_perm _ hF).trans (((srtF_perm s.F).filter _).cons _)) o'.fn
    show (⟨s.gen, s.bs, srtD s.D, putL (srtF s.F) (flOf r)⟩ : StS) = _
    rw [h]; rfl
  rw [if_neg k1] at o' ⊢
  rw [if_neg k1]
  by_cases k2 : r.kind = 2
  · rw [if_pos k2] at o' ⊢
    rw [if_pos k2]
    have h : delF (srtF s.F) r.t = srtF (delF s.F r.t) := srtF_is (delF_sort hF _) ((srtF_perm s.F).filter _) o'.fn
    show (⟨s.gen, s.bs, srtD s.D, delF (srtF s.F) r.t⟩ : StS) = _
    rw [h]; rfl
  rw [if_neg k2] at o' ⊢
  rw [if_neg k2]
  by_cases k3 : r.kind = 3
  · rw [if_pos k3] at o' ⊢
    rw [if_pos k3]
    rfl
  rw [if_neg k3] at o' ⊢
  rw [if_neg k3]
  have hDel : SortD (delD (srtD s.D) r.be) := List.Pairwise.sublist List.filter_sublist hD
  have hPer : (delD (srtD s.D) r.be).Perm (delD s.D r.be) := (srtD_perm s.D).filter _
  by_cases k4 : r.kind = 4
  · rw [if_pos k4] at o' ⊢
    rw [if_pos k4]
    have hd := may4 k4 hm
    unfold mayDr at hd
    rw [Bool.and_eq_true] at hd
    have h1 := (idB_iff _).1 hd.1
    have h2 : 0 ≤ r.un ∧ r.un ≤ 1099511627776 := (timB_iff _).1 hd.2
    have hl := (vw_nd o).2.2.2
    have hs : setDE (srtD s.D) r.be r.un = 0 := by
      have hl : (srtD s.D).length ≤ 16 := hl
      unfold setDE inN
      rw [if_neg (fun h => h h1), if_neg (by omega)]
      split
      · rfl
      · rw [if_neg (by omega)]
    have hni : (⟨r.be, r.un⟩ : DR).b ∉ (delD (srtD s.D) r.be).map DR.b := fun h => by
      obtain ⟨x, hx, he⟩ := List.mem_map.1 h
      have := (List.mem_filter.1 hx).2
      simp at this
      exact this he
    have h : putG (srtD s.D) r.be r.un = srtD (⟨r.be, r.un⟩ :: delD s.D r.be) := by
      unfold putG
      rw [if_pos hs]
      exact srtD_is (insD_sortE _ _ hDel hni) ((insD_permE _ _).trans (hPer.cons _)) o'.dn
    show (⟨s.gen, s.bs, putG (srtD s.D) r.be r.un, srtF s.F⟩ : StS) = _
    rw [h]; rfl
  rw [if_neg k4] at o' ⊢
  rw [if_neg k4]
  by_cases k5 : r.kind = 5
  · rw [if_pos k5] at o' ⊢
    rw [if_pos k5]
    have h : delD (srtD s.D) r.be = srtD (delD s.D r.be) := srtD_is hDel hPer o'.dn
    show (⟨s.gen, s.bs, delD (srtD s.D) r.be, srtF s.F⟩ : StS) = _
    rw [h]; rfl
  rw [if_neg k5] at o' ⊢
  rw [if_neg k5]
end Go.Proofs.YtdhimlkndpiacaaGreat

end

section
/- The reference's state: Records, SameState. -/
set_option linter.unusedVariables false
set_option linter.unusedSimpArgs false
namespace Go.Proofs.YtdhimlkndpiacaaGreat
open Go.RowKit

theorem rsK_t (a : Option Addr) (len cap : Nat) (bs : List BkD) (a2 : Option Addr) (len2 cap2 : Nat) (cs : List BkD) (w : World) (hr : RowK w a len cap bs) (hr2 : RowK w a2 len2 cap2 cs) :
    Calls Tryz.prog 35 #[.slice a len cap, .slice a2 len2 cap2] w fun e w' => e = .returned (.bool (sameK bs cs)) ∧ Touch w w' (fun _ => False) :=
  (rsameK_any a len cap bs a2 len2 cap2 cs w hr hr2).mono (by rintro e w' ⟨h, n, rfl⟩; exact ⟨h, (Touch.refl w _).drewN n⟩)
theorem rsDr_t (a : Option Addr) (len cap : Nat) (bs : List DR) (a2 : Option Addr) (len2 cap2 : Nat) (cs : List DR) (w : World) (hr : RowS w a len cap 2 (bs.map dcl)) (hr2 : RowS w a2 len2 cap2 2 (cs.map dcl)) :
    Calls Tryz.prog 36 #[.slice a len cap, .slice a2 len2 cap2] w fun e w' => e = .returned (.bool (sameDr bs cs)) ∧ Touch w w' (fun _ => False) :=
  (rsameDr_any a len cap bs a2 len2 cap2 cs w hr hr2).mono (by rintro e w' ⟨h, n, rfl⟩; exact ⟨h, (Touch.refl w _).drewN n⟩)
theorem rsFr_t (a : Option Addr) (len cap : Nat) (bs : List FlD) (a2 : Option Addr) (len2 cap2 : Nat) (cs : List FlD) (w : World) (hr : RowS w a len cap 8 (bs.map fcl)) (hr2 : RowS w a2 len2 cap2 8 (cs.map fcl)) :
    Calls Tryz.prog 37 #[.slice a len cap, .slice a2 len2 cap2] w fun e w' => e = .returned (.bool (sameFr bs cs)) ∧ Touch w w' (fun _ => False) :=
  (rsameFr_any a len cap bs a2 len2 cap2 cs w hr hr2).mono (by rintro e w' ⟨h, n, rfl⟩; exact ⟨h, (Touch.refl w _).drewN n⟩)
set_option maxRecDepth 20000 in
set_option maxHeartbeats 8000000 in
theorem rsame14_any (w : World) (x y : StS) (a1 : Option Addr) (c1 : Nat) (a2 : Option Addr) (c2 : Nat) (a3 : Option Addr) (c3 : Nat) (b1 : Option Addr) (d1 : Nat) (b2 : Option Addr) (d2 : Nat) (b3 : Option Addr) (d3 : Nat) (hx : VwAt w x a1 c1 a2 c2 a3 c3) (hy : VwAt w y b1 d1 b2 d2 b3 d3) :
    Calls Tryz.prog 12 #[.agg (vcs x a1 c1 a2 c2 a3 c3), .agg (vcs y b1 d1 b2 d2 b3 d3)] w fun e w' => e = .returned (.bool (same14 x y)) ∧ Touch w w' (fun _ => False) := by
  obtain ⟨W1, hW1⟩ : ∃ W, w.alloc (.cells (vcs x a1 c1 a2 c2 a3 c3) 35) = W := ⟨_, rfl⟩
  have t1 : Touch w W1 (fun _ => False) := hW1 ▸ (Touch.refl w _).alloc _
  have g1 : W1.heap[w.heap.size]? = some (.cells (vcs x a1 c1 a2 c2 a3 c3) 35 (0, 0)) := hW1 ▸ heap_alloc_new ..
  obtain ⟨W2, hW2⟩ : ∃ W, W1.alloc (.cells (vcs y b1 d1 b2 d2 b3 d3) 35) = W := ⟨_, rfl⟩
  have t2 : Touch W1 W2 (fun _ => False) := hW2 ▸ (Touch.refl W1 _).alloc _
  have g2 : W2.heap[W1.heap.size]? = some (.cells (vcs y b1 d1 b2 d2 b3 d3) 35 (0, 0)) := hW2 ▸ heap_alloc_new ..
  obtain ⟨K1, hK1⟩ : ∃ K, w.heap.size = K := ⟨_, rfl⟩
  have s1 : W1.heap.size = w.heap.size + 1 := by rw [← hW1]; simp
  rw [s1] at g2
  obtain ⟨K2, hK2⟩ : ∃ K, w.heap.size + 1 = K := ⟨_, rfl⟩
  rw [hK1] at g1
  rw [hK2] at g2
  have hx2 := (hx.still t1).still t2
  have hy2 := (hy.still t1).still t2
  have HC : RowKit.Hid (∀ W, Touch W2 W (fun _ => False) → (W.cell? ⟨K1, 0, none⟩ = some (.int .i64 x.gen) ∧ W.cell? ⟨K1, 1, none⟩ = some (.slice a1 x.bs.length c1) ∧ W.cell? ⟨K1, 2, none⟩ = some (.slice a2 x.D.length c2) ∧ W.cell? ⟨K1, 3, none⟩ = some (.slice a3 x.F.length c3)) ∧ W.cell? ⟨K2, 0, none⟩ = some (.int .i64 y.gen) ∧ W.cell? ⟨K2, 1, none⟩ = some (.slice b1 y.bs.length d1) ∧ W.cell? ⟨K2, 2, none⟩ = some (.slice b2 y.D.length d2) ∧ W.cell? ⟨K2, 3, none⟩ = some (.slice b3 y.F.length d3)) := Lib.hid (fun W t => by
    have h1 := t.keeps (t2.keeps g1 (fun h => h)) (fun h => h)
    have h2 := t.keeps g2 (fun h => h)
    exact ⟨⟨cell_of_cells h1 0, cell_of_cells h1 1, cell_of_cells h1 2, cell_of_cells h1 3⟩, cell_of_cells h2 0, cell_of_cells h2 1, cell_of_cells h2 2, cell_of_cells h2 3⟩)
  obtain ⟨B1, hB1⟩ : ∃ B, sameK x.bs y.bs = B := ⟨_, rfl⟩
  obtain ⟨B2, hB2⟩ : ∃ B, sameDr x.D y.D = B := ⟨_, rfl⟩
  obtain ⟨B3, hB3⟩ : ∃ B, sameFr x.F y.F = B := ⟨_, rfl⟩
  have HS1 : RowKit.Hid (∀ W, Touch W2 W (fun _ => False) → Calls Tryz.prog 35 #[.slice a1 x.bs.length c1, .slice b1 y.bs.length d1] W fun e w' => e = .returned (.bool B1) ∧ Touch W w' (fun _ => False)) := Lib.hid (fun W t => by rw [← hB1]; exact rsK_t _ _ _ _ _ _ _ _ W (hx2.still t).b (hy2.still t).b)
  have HS2 : RowKit.Hid (∀ W, Touch W2 W (fun _ => False) → Calls Tryz.prog 36 #[.slice a2 x.D.length c2, .slice b2 y.D.length d2] W fun e w' => e = .returned (.bool B2) ∧ Touch W w' (fun _ => False)) := Lib.hid (fun W t => by rw [← hB2]; exact rsDr_t _ _ _ _ _ _ _ _ W (hx2.still t).d (hy2.still t).d)
  have HS3 : RowKit.Hid (∀ W, Touch W2 W (fun _ => False) → Calls Tryz.prog 37 #[.slice a3 x.F.length c3, .slice b3 y.F.length d3] W fun e w' => e = .returned (.bool B3) ∧ Touch W w' (fun _ => False)) := Lib.hid (fun W t => by rw [← hB3]; exact rsFr_t _ _ _ _ _ _ _ _ W (hx2.still t).f (hy2.still t).f)
  have hR : same14 x y = (decide (x.gen = y.gen) && (B1 && (B2 && B3))) := by unfold same14; rw [hB1, hB2, hB3]
  have HR := Lib.hid hR
  have HT := Lib.hid (t1.trans t2 (fun _ _ h => h))
  have HT0 := Lib.hid (Touch.refl W2 (fun _ => False))
  have HW1 := Lib.hid (And.intro hW1 hK1)
  have HW2 := Lib.hid (And.intro hW2 hK2)
  simp only [vcs] at HW1 HW2 ⊢
  clear hR hB1 hB2 hB3 hx2 hy2 hx hy t1 t2 g1 g2 hW1 hW2 hK1 hK2 s1
  go_enter Tryz.func12, Tryz.ntmps12
  go_upto_region 1 with (fail)
  rw [HW1.out.1, HW2.out.1, HW2.out.2, HW1.out.2]
  obtain ⟨⟨y0, y1, y2, y3⟩, z0, z1, z2, z3⟩ := HC.out _ HT0.out
  by_cases hg : x.gen = y.gen
  case neg =>
    rw [decide_eq_false hg] at HR
    go_wp2_with fail
    go_ret
    exact ⟨by rw [HR.out]; rfl, (HT.out.trans HT0.out (fun _ _ h => h))⟩
  case pos =>
  rw [decide_eq_true hg] at HR
  rw [hg] at HC y0
  clear hg
  cases B1
  case false =>
    go_wp2_with (first | (go_at_call 35; (with_reducible refine (HS1.out _ HT0.out).mono ?_); rintro e w1 ⟨rfl, t1⟩; have HT1 := Lib.hid (HT0.out.trans t1 (fun _ _ h => h)); clear t1; (try clear y0 y1 y2 y3 z0 z1 z2 z3); obtain ⟨⟨y0, y1, y2, y3⟩, z0, z1, z2, z3⟩ := HC.out _ HT1.out))
    go_ret
    exact ⟨by rw [HR.out]; rfl, (HT.out.trans HT1.out (fun _ _ h => h))⟩
  case true =>
  cases B2
  case false =>
    go_wp2_with (first | (go_at_call 35; (with_reducible refine (HS1.out _ HT0.out).mono ?_); rintro e w1 ⟨rfl, t1⟩; have HT1 := Lib.hid (HT0.out.trans t1 (fun _ _ h => h)); clear t1; (try clear y0 y1 y2 y3 z0 z1 z2 z3); obtain ⟨⟨y0, y1, y2, y3⟩, z0, z1, z2, z3⟩ := HC.out _ HT1.out) | (go_at_call 36; (with_reducible refine (HS2.out _ HT1.out).mono ?_); rintro e w2 ⟨rfl, t2⟩; have HT2 := Lib.hid (HT1.out.trans t2 (fun _ _ h => h)); clear t2; (try clear y0 y1 y2 y3 z0 z1 z2 z3); obtain ⟨⟨y0, y1, y2, y3⟩, z0, z1, z2, z3⟩ := HC.out _ HT2.out))
    go_ret
    exact ⟨by rw [HR.out]; rfl, (HT.out.trans HT2.out (fun _ _ h => h))⟩
  case true =>
    go_wp2_with (first | (go_at_call 35; (with_reducible refine (HS1.out _ HT0.out).mono ?_); rintro e w1 ⟨rfl, t1⟩; have HT1 := Lib.hid (HT0.out.trans t1 (fun _ _ h => h)); clear t1; (try clear y0 y1 y2 y3 z0 z1 z2 z3); obtain ⟨⟨y0, y1, y2, y3⟩, z0, z1, z2, z3⟩ := HC.out _ HT1.out) | (go_at_call 36; (with_reducible refine (HS2.out _ HT1.out).mono ?_); rintro e w2 ⟨rfl, t2⟩; have HT2 := Lib.hid (HT1.out.trans t2 (fun _ _ h => h)); clear t2; (try clear y0 y1 y2 y3 z0 z1 z2 z3); obtain ⟨⟨y0, y1, y2, y3⟩, z0, z1, z2, z3⟩ := HC.out _ HT2.out) | (go_at_call 37; (with_reducible refine (HS3.out _ HT2.out).mono ?_); rintro e w3 ⟨rfl, t3⟩; have HT3 := Lib.hid (HT2.out.trans t3 (fun _ _ h => h)); clear t3; (try clear y0 y1 y2 y3 z0 z1 z2 z3); obtain ⟨⟨y0, y1, y2, y3⟩, z0, z1, z2, z3⟩ := HC.out _ HT3.out))
    go_ret
    exact ⟨by rw [HR.out]; rfl, (HT.out.trans HT3.out (fun _ _ h => h))⟩
set_option maxRecDepth 20000 in
set_option maxHeartbeats 8000000 in
theorem rrecords_any (w : World) (x : StS) (a1 : Option Addr) (c1 : Nat) (a2 : Option Addr) (c2 : Nat) (a3 : Option Addr) (c3 : Nat) (hx : VwAt w x a1 c1 a2 c2 a3 c3) (hD : x.D.length ≤ 100000) (hF : x.F.length ≤ 100000) :
    Calls Tryz.prog 16 #[.agg (vcs x a1 c1 a2 c2 a3 c3)] w fun e w' => ∃ a c, e = .returned (.slice a (1 + x.D.length + x.F.length) c) ∧ OwnS w' w.heap.size 41 14 (.slice a (1 + x.D.length + x.F.length) c) ((recsV x a1 c1).map RecB.cells) ∧ Touch w w' (fun _ => False) := by
  obtain ⟨W1, hW1⟩ : ∃ W, w.alloc (.cells (vcs x a1 c1 a2 c2 a3 c3) 35) = W := ⟨_, rfl⟩
  have t1 : Touch w W1 (fun _ => False) := hW1 ▸ (Touch.refl w _).alloc _
  have g1 : W1.heap[w.heap.size]? = some (.cells (vcs x a1 c1 a2 c2 a3 c3) 35 (0, 0)) := hW1 ▸ heap_alloc_new ..
  obtain ⟨K1, hK1⟩ : ∃ K, w.heap.size = K := ⟨_, rfl⟩
  rw [hK1] at g1
  have HX := Lib.hid hx
  have HT1 := Lib.hid t1
  have HG1 := Lib.hid g1
  have HW1 := Lib.hid (And.intro hW1 hK1)
  obtain ⟨W2, hW2⟩ : ∃ W, W1.alloc (.cells (rcs (geR x a1 c1).r a1 c1) 41) = W := ⟨_, rfl⟩
  have t2 : Touch W1 W2 (fun _ => False) := hW2 ▸ (Touch.refl W1 _).alloc _
  have o2 : OwnS W2 W1.heap.size 41 14 (.slice (some ⟨W1.heap.size, 0, none⟩) 1 1) ([geR x a1 c1].map RecB.cells) := hW2 ▸ OwnS.lit W1 W1.heap.size (Nat.le_refl _) 41 14 1 ([geR x a1 c1].map RecB.cells) _ (by simp [RecB.cells, geR]) rfl (by intro l hl; rw [List.map_cons, List.map_nil, List.mem_singleton] at hl; subst hl; rfl) (by omega)
  have HT2 := Lib.hid t2
  have HO2 := Lib.hid o2
  have HW2 := Lib.hid hW2
  have HRI := Lib.hid infoRecB
  obtain ⟨nD, hnD⟩ : ∃ n, x.D.length = n := ⟨_, rfl⟩
  obtain ⟨nF, hnF⟩ : ∃ n, x.F.length = n := ⟨_, rfl⟩
  have HND := Lib.hid hnD
  have HNF := Lib.hid hnF
  have HB : RowKit.Hid (nD ≤ 100000 ∧ nF ≤ 100000) := Lib.hid (by omega)
  have h0 : W1.cell? ⟨K1, 0, none⟩ = some (.int .i64 x.gen) := cell_of_cells g1 0
  have h1 : W1.cell? ⟨K1, 1, none⟩ = some (.slice a1 x.bs.length c1) := cell_of_cells g1 1
  simp only [rcs, geR, noT, List.length_map] at HW2
  rw [hnD, hnF]
  clear t1 g1 t2 o2 hW1 hW2 hK1 hx hD hF hnD hnF
  go_enter Tryz.func16, Tryz.ntmps16
  go_upto_region 1 with (fail)
  rw [HW1.out.1, HW1.out.2]
  go_upto_region 2 with (fail)
  rw [HW2.out]
  clear h0 h1
  have HK1 : RowKit.Hid (∀ W, Touch W1 W (fun _ => False) → W.cell? ⟨K1, 2, none⟩ = some (.slice a2 nD c2) ∧ W.cell? ⟨K1, 3, none⟩ = some (.slice a3 nF c3)) := Lib.hid (fun W t => by
    have h := t.keeps HG1.out (fun h => h)
    refine ⟨?_, ?_⟩
    · rw [← HND.out]; exact cell_of_cells h 2
    · rw [← HNF.out]; exact cell_of_cells h 3)
  have HRD : RowKit.Hid (∀ W, Touch W1 W (fun _ => False) → RowS W a2 nD c2 2 (x.D.map dcl)) := Lib.hid (fun W t => by rw [← HND.out]; exact HX.out.d.still (HT1.out.trans t (fun _ _ h => h)))
  have HRF : RowKit.Hid (∀ W, Touch W1 W (fun _ => False) → RowS W a3 nF c3 8 (x.F.map fcl)) := Lib.hid (fun W t => by rw [← HNF.out]; exact HX.out.f.still (HT1.out.trans t (fun _ _ h => h)))
  have hk2 := (HK1.out _ HT2.out).1
  go_wp2_with fail
  go_loopw [3, 17] (fun s3 s17 wr => ∃ (j : Nat) (a : Option Addr) (c : Nat), j ≤ nD ∧ s17 = .int .i64 j ∧ s3 = .slice a (1 + j) c ∧ OwnS wr W1.heap.size 41 14 (.slice a (1 + j) c) ((geR x a1 c1 :: (x.D.take j).map drR).map RecB.cells) ∧ Touch W1 wr (fun _ => False)) (fun _ s17 _ => nD - (RowKit.intOf s17).toNat)
  case atStart => exact ⟨0, _, _, Nat.zero_le _, rfl, rfl, HO2.out, HT2.out⟩
  case round =>
    obtain ⟨j, a, c, hj, rfl, rfl, ho, ht⟩ := hrel
    have HO := Lib.hid ho
    have HT := Lib.hid ht
    clear ho ht hk2
    by_cases hlt : j < nD
    case pos =>
      have hrow := HRD.out _ HT.out
      obtain ⟨g, off, rfl⟩ := hrow.some (by omega)
      have hjL : j < x.D.length := by rw [HND.out]; exact hlt
      obtain ⟨d0, d1⟩ := dr_cells hrow j hjL
      have hcap := hrow.hcap
      have hmax := hrow.hmax
      have htk : (geR x a1 c1 :: (x.D.take j).map drR) ++ [drR (gd x.D j)] = geR x a1 c1 :: (x.D.take (j + 1)).map drR := by
        rw [List.take_succ_eq_append_getElem hjL, List.map_append, ← gd_get x.D j hjL]; rfl
      have HTK := Lib.hid htk
      generalize gd x.D j = d at *
      obtain ⟨w4, hw4⟩ : ∃ W, wr.alloc (.cells #[.int .i64 d.b, .int .i64 d.u] 93) = W := ⟨_, rfl⟩
      have t4 : Touch wr w4 (fun _ => False) := hw4 ▸ (Touch.refl wr _).alloc _
      have g4 : w4.heap[wr.heap.size]? = some (.cells #[.int .i64 d.b, .int .i64 d.u] 93 (0, 0)) := hw4 ▸ heap_alloc_new ..
      obtain ⟨K5, hK5⟩ : ∃ K, wr.heap.size = K := ⟨_, rfl⟩
      rw [hK5] at g4
      have HW4 := Lib.hid (And.intro hw4 hK5)
      have HT4 := Lib.hid (HT.out.trans t4 (fun _ _ h => h))
      have HO4 := Lib.hid (HO.out.still t4)
      have hsz : W1.heap.size ≤ w4.heap.size := HT4.out.size
      have x0 : w4.cell? ⟨K5, 0, none⟩ = some (.int .i64 d.b) := cell_of_cells g4 0
      have x1 : w4.cell? ⟨K5, 1, none⟩ = some (.int .i64 d.u) := cell_of_cells g4 1
      obtain ⟨w5, hw5⟩ : ∃ W, w4.alloc (.cells (rcs (drR d).r none 0) 41) = W := ⟨_, rfl⟩
      have HW5 := Lib.hid hw5
      simp only [rcs, drR, noT, List.length_nil] at HW5
      have hlI : (j : Int) < nD := by omega
      have hjB : 1 + j ≤ 4000000 := by have := HB.out; omega
      have HJB := Lib.hid hjB
      clear hrow htk t4 g4 hw4 hK5 hw5 hjL hjB
      go_upto_region 5 with (fail)
      rw [HW4.out.1, HW4.out.2]
      clear d0 d1
      go_upto_region 6 with (at_builtin; (with_reducible refine wp_add1 (w := w4) (HO4.out.still ((Touch.refl w4 (fun _ => False)).alloc _)) rfl rfl rfl (by simp [Value.oneCell']) HJB.out 22 Tryz.underlying22 _ 120 HRI.out rfl (by decide) (by decide) hsz rfl _ _ rfl rfl rfl ?_); intro a5 c5 w6 ho5 t5 p5; have HO5 := Lib.hid ho5; have HT5 := Lib.hid t5; clear ho5 t5 p5)
      have HX' : RowKit.Hid (∃ (j' : Nat) (a : Option Addr) (c : Nat), j' ≤ nD ∧ Value.int .i64 ((j : Int) + 1) = .int .i64 j' ∧ Value.slice a5 (1 + j + 1) c5 = .slice a (1 + j') c ∧ OwnS w6 W1.heap.size 41 14 (.slice a (1 + j') c) ((geR x a1 c1 :: (x.D.take j').map drR).map RecB.cells) ∧ Touch W1 w6 (fun _ => False)) := Lib.hid ⟨j + 1, a5, c5, by omega, by go_num, rfl, by rw [← HTK.out, ← recs_step]; exact HO5.out, HT4.out.trans HT5.out (fun k hk e => by have h1 := (HO.out.own.lt _ e).1; omega)⟩
      clear x0 x1
      go_wp2_with fail
      go_roundw
      · exact HX'.out
      · simp only [RowKit.intOf]; omega
    case neg =>
      obtain rfl : nD = j := by omega
      have hlI : ¬ (nD : Int) < nD := by omega
      have hk3 := (HK1.out _ HT.out).2
      have htk : (x.D.take nD).map drR = x.D.map drR := by rw [List.take_of_length_le (by rw [HND.out]; exact Nat.le_refl _)]
      rw [htk] at HO
      clear htk hlt hj
      go_upto_region 7 with (fail)
      clear hlI
      go_wp2_with fail
      go_loopw [3, 33] (fun s3 s33 wr => ∃ (j : Nat) (a : Option Addr) (c : Nat), j ≤ nF ∧ s33 = .int .i64 j ∧ s3 = .slice a (1 + nD + j) c ∧ OwnS wr W1.heap.size 41 14 (.slice a (1 + nD + j) c) ((geR x a1 c1 :: (x.D.map drR ++ (x.F.take j).map flR)).map RecB.cells) ∧ Touch W1 wr (fun _ => False)) (fun _ s33 _ => nF - (RowKit.intOf s33).toNat)
      case atStart => exact ⟨0, a, c, Nat.zero_le _, rfl, rfl, by simpa using HO.out, HT.out⟩
      case round =>
        obtain ⟨j, a, c, hj, rfl, rfl, ho, ht⟩ := hrel
        clear HO HT
        have HO := Lib.hid ho
        have HT := Lib.hid ht
        clear ho ht hk3
        by_cases hlt : j < nF
        case neg =>
          obtain rfl : nF = j := by omega
          have hlI : ¬ (nF : Int) < nF := by omega
          have htk : (x.F.take nF).map flR = x.F.map flR := by rw [List.take_of_length_le (by rw [HNF.out]; exact Nat.le_refl _)]
          rw [htk] at HO
          clear htk hlt hj
          go_wp2_with fail
          go_ret
          exact ⟨a, c, rfl, HO.out.rebase (fun x hx => Nat.le_trans HT1.out.size (HO.out.own.lt x hx).1), HT1.out.trans HT.out (fun _ _ h => h)⟩
        case pos =>
          have hrow := HRF.out _ HT.out
          obtain ⟨g, off, rfl⟩ := hrow.some (by omega)
          have hjL : j < x.F.length := by rw [HNF.out]; exact hlt
          obtain ⟨d0, d1, d2, d3, d4, d5, d6, d7⟩ := sameFr_cells hrow j hjL
          have hcap := hrow.hcap
          have hmax := hrow.hmax
          have htk : (geR x a1 c1 :: (x.D.map drR ++ (x.F.take j).map flR)) ++ [flR x.F[j]] = geR x a1 c1 :: (x.D.map drR ++ (x.F.take (j + 1)).map flR) := by
            rw [List.take_succ_eq_append_getElem hjL, List.map_append]; simp
          have HTK := Lib.hid htk
          generalize x.F[j] = f at *
          obtain ⟨w4, hw4⟩ : ∃ W, wr.alloc (.cells (fca f) 39) = W := ⟨_, rfl⟩
          have t4 : Touch wr w4 (fun _ => False) := hw4 ▸ (Touch.refl wr _).alloc _
          have g4 : w4.heap[wr.heap.size]? = some (.cells (fca f) 39 (0, 0)) := hw4 ▸ heap_alloc_new ..
          obtain ⟨K5, hK5⟩ : ∃ K, wr.heap.size = K := ⟨_, rfl⟩
          rw [hK5] at g4
          have HW4 := Lib.hid (And.intro hw4 hK5)
          have HT4 := Lib.hid (HT.out.trans t4 (fun _ _ h => h))
          have HO4 := Lib.hid (HO.out.still t4)
          have hsz : W1.heap.size ≤ w4.heap.size := HT4.out.size
          obtain ⟨x0, x1, x2, x3, x4, x5, x6, x7⟩ := fcells_of g4
          simp only [fca] at HW4
          have hlI : (j : Int) < nF := by omega
          have HJB : RowKit.Hid (1 + nD + j ≤ 4000000) := Lib.hid (by have := HB.out; omega)
          clear hrow htk t4 g4 hw4 hK5 hjL
          go_upto_region 10 with (fail)
          rw [HW4.out.1, HW4.out.2]
          clear d0 d1 d2 d3 d4 d5 d6 d7
          go_upto_region 11 with (at_builtin; (with_reducible refine wp_add1 (w := w4) (HO4.out.still ((Touch.refl w4 (fun _ => False)).alloc _)) rfl rfl rfl (by simp [Value.oneCell']) HJB.out 22 Tryz.underlying22 _ 120 HRI.out rfl (by decide) (by decide) hsz rfl _ _ rfl rfl rfl ?_); intro a5 c5 w6 ho5 t5 p5; have HO5 := Lib.hid ho5; have HT5 := Lib.hid t5; clear ho5 t5 p5)
          have HX' : RowKit.Hid (∃ (j' : Nat) (a : Option Addr) (c : Nat), j' ≤ nF ∧ Value.int .i64 ((j : Int) + 1) = .int .i64 j' ∧ Value.slice a5 (1 + nD + j + 1) c5 = .slice a (1 + nD + j') c ∧ OwnS w6 W1.heap.size 41 14 (.slice a (1 + nD + j') c) ((geR x a1 c1 :: (x.D.map drR ++ (x.F.take j').map flR)).map RecB.cells) ∧ Touch W1 w6 (fun _ => False)) := Lib.hid ⟨j + 1, a5, c5, by omega, by go_num, rfl, by rw [← HTK.out, ← recs_step]; exact HO5.out, HT4.out.trans HT5.out (fun k hk e => by have h1 := (HO.out.own.lt _ e).1; omega)⟩
          clear x0 x1 x2 x3 x4 x5 x6 x7
          go_wp2_with fail
          go_roundw
          · exact HX'.out
          · simp only [RowKit.intOf]; omega
end Go.Proofs.YtdhimlkndpiacaaGreat

end

section
/- The reference's state: Apply. -/
set_option linter.unusedVariables false
set_option linter.unusedSimpArgs false
namespace Go.Proofs.YtdhimlkndpiacaaGreat
open Go.RowKit

theorem may_fl {f : FlD} (h : mayFl f = true) : mayFB f = true := by
  unfold mayFl at h
  simp only [Bool.and_eq_true] at h
  have h1 := (idB_iff _).1 h.1.1.2
  have h2 := (cntB_iff _).1 h.1.2
  have h3 := (timB_iff _).1 h.2
  unfold mayFB rngF
  rw [Bool.and_eq_true]
  exact ⟨h.1.1.1, decide_eq_true ⟨h1, h2, h3⟩⟩
theorem rp_is {L : List FlD} {f : FlD} (h : mayFl f = true) : rpE L 256 f = stPutE L f.t := by
  unfold rpE stPutE
  rw [if_neg (by rw [may_fl h]; decide)]
  cases hh : hasF L f.t
  · by_cases h2 : 256 ≤ L.length
    · rw [if_pos ⟨rfl, by omega⟩, if_neg (by decide), if_pos h2]
    · rw [if_neg (by omega), if_neg (by decide), if_neg h2]
  · rw [if_neg (by simp), if_pos rfl]
theorem plain_is (r : RecD) : (plainD r).kind = r.kind ∧ (r.kind = 1 → flOf (plainD r) = flOf r) ∧ (r.kind = 2 → (plainD r).t = r.t) ∧ (r.kind = 3 → (plainD r).gen = r.gen ∧ (plainD r).bs = r.bs) ∧ (r.kind = 4 → (plainD r).be = r.be ∧ (plainD r).un = r.un) ∧ (r.kind = 5 → (plainD r).be = r.be) := by
  unfold plainD
  refine ⟨?_, ?_, ?_, ?_, ?_, ?_⟩
  · repeat' split
    all_goals (first | rfl | (simp only; omega))
  · intro h; rw [if_pos h]; rfl
  · intro h; rw [if_neg (by omega), if_pos h]
  · intro h; rw [if_neg (by omega), if_neg (by omega), if_pos h]; exact ⟨rfl, rfl⟩
  · intro h; rw [if_neg (by omega), if_neg (by omega), if_neg (by omega), if_pos h]; exact ⟨rfl, rfl⟩
  · intro h; rw [if_neg (by omega), if_neg (by omega), if_neg (by omega), if_neg (by omega), if_pos h]
set_option maxRecDepth 20000 in
set_option maxHeartbeats 16000000 in
theorem rstapply_any (w : World) (B m : Nat) (s : StS) (a1 : Option Addr) (c1 : Nat) (a2 : Option Addr) (c2 : Nat) (a3 : Option Addr) (c3 : Nat) (q : RsM w B m s a1 c1 a2 c2 a3 c3) (hF : s.F.length ≤ 256) (hD : s.D.length ≤ 16) (hnF : (s.F.map FlD.t).Nodup) (hnD : (s.D.map DR.b).Nodup) (r : RecD) (a : Option Addr) (cap : Nat) (hr : RowK w a r.bs.length cap r.bs) (hl : r.bs.length ≤ 100000) :
    Calls Tryz.prog 9 #[.pointer (some ⟨m, 0, none⟩), .agg (rcs r a cap)] w fun e w' => e = .returned (.int .i64 (stE s r)) ∧ RsTo w w' B m (rsS s r) := by
  have hmB := heap_lt q.head
  obtain ⟨W1, hW1⟩ : ∃ W, w.alloc (.cells (rcs r a cap) 41) = W := ⟨_, rfl⟩
  obtain ⟨KB, hKB⟩ : ∃ k, w.heap.size = k := ⟨_, rfl⟩
  have t1 : Touch w W1 (fun _ => False) := hW1 ▸ (Touch.refl w _).alloc _
  have g1 : W1.heap[KB]? = some (.cells (rcs r a cap) 41 (0, 0)) := hKB ▸ hW1 ▸ heap_alloc_new ..
  have HMY := Lib.hid (rmay_any r a cap W1 (hr.still t1) hl)
  obtain ⟨p, hp⟩ : ∃ p, plainD r = p := ⟨_, rfl⟩
  have HPL : RowKit.Hid (∀ W, Touch W1 W (fun _ => False) → Calls Tryz.prog 26 #[.agg (rcs r a cap)] W fun e w' => RecIs W w' p e) := Lib.hid (fun W t => hp ▸ rplain_any r a cap W ((hr.still t1).still t) hl)
  have HPI := Lib.hid (hp ▸ plain_is r)
  have HGX : RowKit.Hid (∀ W, Touch W1 W (fun _ => False) → _) := Lib.hid (fun W t => rcells_of (t.keeps g1 (fun h => h)))
  have HG1 := Lib.hid g1
  have HQ := Lib.hid q
  have HT1 := Lib.hid t1
  have HLF := Lib.hid (And.intro hF hnF)
  have HLD := Lib.hid (And.intro hD hnD)
  have HW1 := Lib.hid (And.intro hW1 hKB)
  have HMB := Lib.hid hmB
  have HM := Lib.hid (show True from trivial)
  obtain ⟨y0, y1, y2, y3, y4, y5, y6, y7, y8, y9, y10, y11, y12, y13⟩ := rcells_of g1
  clear q hW1 hr hl g1 t1 hp hmB
  cases hm : mayRB r with
  | false =>
    obtain ⟨e1, -⟩ := st_no (s := s) hm
    rw [hm] at HMY
    rw [rs_bad (by rw [e1]; decide), e1]
    clear e1 hm HGX HPL HPI hF hD hnF hnD hKB
    obtain ⟨kind, ⟨i1, i2, i3, i4, i5⟩, fb, fg, fs, gen, bs, be, un, ct⟩ := r
    simp only [rcs] at *
    go_enter Tryz.func9, Tryz.ntmps9
    go_upto_region 1 with (fail)
    rw [HW1.out.1, HW1.out.2]
    go_wp2_with fail
    (with_reducible refine HMY.out.mono ?_)
    rintro e w2 ⟨rfl, t2⟩
    have HR := Lib.hid (HQ.out.to (HT1.out.trans t2 (fun _ _ h => h)))
    clear t2
    go_wp2_with fail
    go_ret
    exact ⟨rfl, HR.out⟩
  | true =>
  rw [hm] at HMY
  by_cases h6 : r.kind = 6
  · obtain ⟨e1, -⟩ := st_6 (s := s) hm (by omega) (by omega) (by omega) (by omega) (by omega)
    rw [rs_bad (by rw [e1]; decide), e1]
    clear e1 hm HPL HPI hF hD hnF hnD hKB
    obtain ⟨kind, ⟨i1, i2, i3, i4, i5⟩, fb, fg, fs, gen, bs, be, un, ct⟩ := r
    simp only [rcs] at *
    subst h6
    go_enter Tryz.func9, Tryz.ntmps9
    go_upto_region 1 with (fail)
    rw [HW1.out.1, HW1.out.2]
    go_wp2_with fail
    (with_reducible refine HMY.out.mono ?_)
    rintro e w2 ⟨rfl, t2⟩
    have HTT := Lib.hid t2
    have HR := Lib.hid (HQ.out.to (HT1.out.trans t2 (fun _ _ h => h)))
    clear t2 y0 y1 y2 y3 y4 y5 y6 y7 y8 y9 y10 y11 y12 y13
    obtain ⟨y0, y1, y2, y3, y4, y5, y6, y7, y8, y9, y10, y11, y12, y13⟩ := HGX.out w2 HTT.out
    try simp only at y0 y1 y2 y3 y4 y5 y6 y7 y8 y9 y10 y11 y12 y13
    go_wp2_with fail
    go_ret
    exact ⟨rfl, HR.out⟩
  -- a record that does something
  have HMR : RowKit.Hid (mayRB r = true ∧ r.kind = p.kind) := Lib.hid ⟨hm, HPI.out.1.symm⟩
  have HEND : RowKit.Hid (∀ e (w' : World), e = stE s r → RsTo w w' B m (rsS s r) → Ending.returned (.int .i64 e) = .returned (.int .i64 (stE s r)) ∧ RsTo w w' B m (rsS s r)) := Lib.hid (fun e w' h1 h2 => ⟨by rw [h1], h2⟩)
  obtain ⟨E, hE⟩ : ∃ E, stE s r = E := ⟨_, rfl⟩
  obtain ⟨T, hT⟩ : ∃ T, rsS s r = T := ⟨_, rfl⟩
  have HE := Lib.hid hE
  have HT := Lib.hid hT
  rw [hE, hT]
  have i6 : (r.kind == 6) = false := by simpa using h6
  have HN6 := Lib.hid h6
  clear HEND hE hT hm hF hD hnF hnD h6
  have HRK : RowKit.Hid (∃ r0, r0 = r) := Lib.hid ⟨r, rfl⟩
  obtain ⟨r0, hr0⟩ := HRK.out
  rw [← hr0] at HE HT HMR HPI HN6
  clear HRK hr0
  obtain ⟨kind, ⟨i1, i2, i3, i4, i5⟩, fb, fg, fs, gen, bs, be, un, ct⟩ := r
  simp only [rcs] at HW1 HMY HPL HGX i6 ⊢
  try simp only at y0 y1 y2 y3 y4 y5 y6 y7 y8 y9 y10 y11 y12 y13
  have HKB := Lib.hid hKB
  clear hKB
  go_enter Tryz.func9, Tryz.ntmps9
  go_upto_region 1 with (fail)
  rw [HW1.out.1, HW1.out.2]
  go_wp2_with fail
  (with_reducible refine HMY.out.mono ?_)
  rintro e w2 ⟨rfl, t2⟩
  have HTT := Lib.hid t2
  clear t2 y0 y1 y2 y3 y4 y5 y6 y7 y8 y9 y10 y11 y12 y13
  obtain ⟨y0, y1, y2, y3, y4, y5, y6, y7, y8, y9, y10, y11, y12, y13⟩ := HGX.out w2 HTT.out
  try simp only at y0 y1 y2 y3 y4 y5 y6 y7 y8 y9 y10 y11 y12 y13
  go_wp2_with fail
  (with_reducible refine (HPL.out _ HTT.out).mono ?_)
  rintro e w3 ⟨a9, c9, rfl, o9, t3⟩
  have HO9 := Lib.hid o9
  have HT3 := Lib.hid (HT1.out.trans (HTT.out.trans t3 (fun _ _ h => h)) (fun _ _ h => h))
  have HG3 := Lib.hid (t3.keeps (HTT.out.keeps HG1.out (fun h => h)) (fun h => h))
  have HS2 : RowKit.Hid (w.heap.size ≤ w2.heap.size) := Lib.hid (HT1.out.trans HTT.out (fun _ _ h => h)).size
  clear y0 y1 y2 y3 y4 y5 y6 y7 y8 y9 y10 y11 y12 y13 o9 t3
  obtain ⟨y0, y1, y2, y3, y4, y5, y6, y7, y8, y9, y10, y11, y12, y13⟩ := rcells_of HG3.out
  try simp only at y0 y1 y2 y3 y4 y5 y6 y7 y8 y9 y10 y11 y12 y13
  have f0 := free_of_cells HG3.out 0
  have f1 := free_of_cells HG3.out 1
  have f2 := free_of_cells HG3.out 2
  have f3 := free_of_cells HG3.out 3
  have f4 := free_of_cells HG3.out 4
  have f5 := free_of_cells HG3.out 5
  have f6 := free_of_cells HG3.out 6
  have f7 := free_of_cells HG3.out 7
  have f8 := free_of_cells HG3.out 8
  have f9 := free_of_cells HG3.out 9
  have f10 := free_of_cells HG3.out 10
  have f11 := free_of_cells HG3.out 11
  have f12 := free_of_cells HG3.out 12
  have f13 := free_of_cells HG3.out 13
  have h11 : RowKit.Hid (∃ W, rsPut w3 KB p a9 c9 = W) := Lib.hid ⟨_, rfl⟩
  obtain ⟨w4, hw4⟩ := h11.out
  have HT34 : RowKit.Hid (Touch w3 w4 (fun k => k = KB)) := Lib.hid (hw4 ▸ rsPut_touch w3 KB p a9 c9)
  have HG4 : RowKit.Hid (w4.heap[KB]? = some (.cells (rcs p a9 c9) 41 (0, 0))) := Lib.hid (hw4 ▸ rsPut_at HG3.out)
  have HT4 : RowKit.Hid (Touch w w4 (fun _ => False)) := Lib.hid (HT3.out.trans HT34.out (fun k hk e => by have := HKB.out; omega))
  have HQ4 := Lib.hid (HQ.out.still HT4.out)
  have HR9 : RowKit.Hid (RowK w4 a9 p.bs.length c9 p.bs ∧ ∀ x, a9 = some x → B ≤ x.block ∧ x.block ≠ m ∧ x.block < w4.heap.size ∧ x.block ≠ KB) := Lib.hid (by
    obtain ⟨-, h2, h3⟩ := OwnS.row' HO9.out
    have hs := HS2.out
    have hk := HKB.out
    have hb := HQ.out.hB
    have hm' := HMB.out
    have hnk : ∀ x, a9 = some x → x.block ≠ KB := fun x hx e => by
      have h4 := (h3 x hx).1
      have h5 : KB < W1.heap.size := heap_lt HG1.out
      have h6 := HTT.out.size
      omega
    exact ⟨h2.touch HT34.out (fun x hx => .inr (hnk x hx)), fun x hx => by
      have h4 := h3 x hx
      have h5 := HT34.out.size
      have h6 := hnk x hx
      omega⟩)
  unfold rsPut at hw4
  have HW4 := Lib.hid hw4
  clear hw4 h11
  have HP := Lib.hid (show True from trivial)
  simp only [rcs]
  go_upto_region 4 with (fail)
  rw [HW4.out]
  clear f0 f1 f2 f3 f4 f5 f6 f7 f8 f9 f10 f11 f12 f13 y0 y1 y2 y3 y4 y5 y6 y7 y8 y9 y10 y11 y12 y13 i6
  obtain ⟨W5, hW5⟩ : ∃ W, w4.alloc (.cells #[.slice a3 s.F.length c3, .int .i64 256, .int .i64 0] 46) = W := ⟨_, rfl⟩
  obtain ⟨KT, hKT⟩ : ∃ k, w4.heap.size = k := ⟨_, rfl⟩
  have t5 : Touch w4 W5 (fun _ => False) := hW5 ▸ (Touch.refl w4 _).alloc _
  have g5 : W5.heap[KT]? = some (.cells #[.slice a3 s.F.length c3, .int .i64 256, .int .i64 0] 46 (0, 0)) := hKT ▸ hW5 ▸ heap_alloc_new ..
  obtain ⟨W6, hW6⟩ : ∃ W, W5.alloc (.cells #[.slice a2 s.D.length c2] 78) = W := ⟨_, rfl⟩
  obtain ⟨KD, hKD⟩ : ∃ k, W5.heap.size = k := ⟨_, rfl⟩
  have t6 : Touch W5 W6 (fun _ => False) := hW6 ▸ (Touch.refl W5 _).alloc _
  have g6 : W6.heap[KD]? = some (.cells #[.slice a2 s.D.length c2] 78 (0, 0)) := hKD ▸ hW6 ▸ heap_alloc_new ..
  have HK : RowKit.Hid (KT < KD ∧ KB < KT ∧ m < KB ∧ w4.heap.size = KT ∧ KB = w.heap.size) := Lib.hid ⟨hKD ▸ heap_lt g5, hKT ▸ heap_lt HG4.out, HKB.out ▸ HMB.out, hKT, HKB.out.symm⟩
  have HT46 := Lib.hid (t5.trans t6 (fun _ _ h => h))
  have HQ6 := Lib.hid (HQ4.out.still HT46.out)
  have HRF : RowKit.Hid (RF W6 KT a3 c3 256 0 s.F) := Lib.hid ⟨t6.keeps g5 (fun h => h), HQ6.out.vw.f, fun x hx => .inr (fun e => by have := (HQ4.out.b3 x hx).2.2; have := HK.out.2.2.2.1; omega), HQ4.out.p3⟩
  have HRD : RowKit.Hid (RD W6 KD a2 c2 s.D) := Lib.hid ⟨g6, HQ6.out.vw.d, fun x hx => .inr (fun e => by have := (HQ4.out.b2 x hx).2.2; have := HK.out; omega), HQ4.out.p2, fun x hx => .inr (HQ6.out.b2 x hx).2.2⟩
  have HG6 := Lib.hid (HT46.out.keeps HG4.out (fun h => h))
  have HDR := Lib.hid (rdrains_any W5 m a2 s.D.length c2 ((HQ4.out.still t5).cells.2.2.1))
  have HW5 := Lib.hid (And.intro hW5 hKT)
  have HW6 := Lib.hid (And.intro hW6 hKD)
  have HR6 : RowKit.Hid (∀ W, Touch W6 W (fun k => k = KT ∨ k = KD) → RowK W a9 p.bs.length c9 p.bs ∧ InB W B m a9) := Lib.hid (fun W t => by
    have tt := HT46.out.trans t (T := fun k => k = KT ∨ k = KD) (S := fun _ => False) (fun k hk e => by have := HK.out; omega)
    exact ⟨HR9.out.1.still tt, fun x hx => ⟨(HR9.out.2 x hx).1, (HR9.out.2 x hx).2.1, Nat.lt_of_lt_of_le (HR9.out.2 x hx).2.2.1 tt.size⟩⟩)
  have HQW : RowKit.Hid (∀ W, Touch W6 W (fun k => k = KT ∨ k = KD) → RsM W B m s a1 c1 a2 c2 a3 c3 ∧ Touch w W (fun _ => False)) := Lib.hid (fun W t => by
    have tt := HT46.out.trans t (T := fun k => k = KT ∨ k = KD) (S := fun _ => False) (fun k hk e => by have := HK.out; omega)
    exact ⟨HQ4.out.still tt, HT4.out.trans tt (fun _ _ h => h)⟩)
  have HGW : RowKit.Hid (∀ W, Touch W6 W (fun k => k = KT ∨ k = KD) → W.heap[KB]? = some (.cells (rcs p a9 c9) 41 (0, 0))) := Lib.hid (fun W t => t.keeps HG6.out (fun e => by have := HK.out; omega))
  have x3 := HQ4.out.cells.2.2.2
  clear t5 t6 g5 g6 hW5 hKT hW6 hKD
  go_upto_region 5 with (fail)
  rw [HW5.out.1, HW5.out.2]
  clear x3
  go_wp2_with fail
  (with_reducible refine HDR.out.mono ?_)
  rintro e w6 ⟨rfl, rfl⟩
  rw [HW6.out.1, HW6.out.2]
  obtain ⟨kind, ⟨u1, u2, u3, u4, u5⟩, fb, fg, fs, gen, bs, be, un, ct⟩ := p
  simp only at HMR
  have y0 := (rcells_of HG6.out).1
  simp only at y0
  have HN := Lib.hid (Touch.refl W6 (fun k => k = KT ∨ k = KD))
  have HOUT : RowKit.Hid (∀ e w', e = E → RsTo w w' B m T → Ending.returned (.int .i64 e) = .returned (.int .i64 E) ∧ RsTo w w' B m T) := Lib.hid (fun e w' h1 h2 => ⟨by rw [h1], h2⟩)
  by_cases h1 : kind = 1
  · have HX : RowKit.Hid (E = rpE s.F 256 ⟨⟨u1, u2, u3, u4, u5⟩, fb, fg, fs⟩ ∧ T = { s with F := rpL s.F 256 ⟨⟨u1, u2, u3, u4, u5⟩, fb, fg, fs⟩ }) := Lib.hid (by
      have k1 : r0.kind = 1 := HMR.out.2.trans h1
      have e2 := HPI.out.2.1 k1
      have hf := may1 k1 HMR.out.1
      rw [← e2] at hf
      have e3 : stE s r0 = rpE s.F 256 ⟨⟨u1, u2, u3, u4, u5⟩, fb, fg, fs⟩ := by
        rw [(st_1 HMR.out.1 k1).1, show r0.t = (flOf r0).t from rfl, ← e2]
        exact (rp_is hf).symm
      refine ⟨HE.out ▸ e3, ?_⟩
      rw [← HT.out]
      unfold rsS rpL
      rw [e3]
      by_cases h0 : rpE s.F 256 ⟨⟨u1, u2, u3, u4, u5⟩, fb, fg, fs⟩ = 0
      · rw [if_pos h0, if_pos h0]; unfold rsDo; rw [if_pos k1, ← e2]; rfl
      · rw [if_neg h0, if_neg h0])
    subst h1
    have HPU := Lib.hid (rfput_any W6 KT a3 c3 256 0 s.F HRF.out (by have := HLF.out.1; omega) ⟨⟨u1, u2, u3, u4, u5⟩, fb, fg, fs⟩)
    obtain ⟨-, y1, y2, y3, y4, y5, y6, y7, y8, -⟩ := rcells_of HG6.out
    simp only at y1 y2 y3 y4 y5 y6 y7 y8
    simp only [fca] at HPU
    go_wp2_with fail
    (with_reducible refine HPU.out.mono ?_)
    rintro e w7 ⟨rfl, b3, d3, q7, t7, n7⟩
    obtain ⟨q8, t8⟩ := HQW.out w7 (t7.mono (fun k _ e => .inl e))
    have HQ8 := Lib.hid q8
    have HT8 := Lib.hid t8
    have HRW := Lib.hid (And.intro q7.row q7.pl)
    have HIN : RowKit.Hid (InB w7 B m b3) := Lib.hid (fun x hx => by
      have hk := HK.out
      have hq := HQ6.out.hB
      have h6 := HT46.out.size
      rcases n7 x hx with h | ⟨z, hz, h⟩
      · omega
      · have := HQ6.out.b3 z hz
        have := t7.size
        omega)
    have z0 := cell_of_cells q7.head 0
    have z3 := q8.cells.2.2.2
    have f3 := q8.frees.2.2.2
    simp only [rpL] at z0
    clear q7 t7 n7 q8 t8 y1 y2 y3 y4 y5 y6 y7 y8 y0
    by_cases h0 : rpE s.F 256 ⟨⟨u1, u2, u3, u4, u5⟩, fb, fg, fs⟩ = 0
    · have HT0 : RowKit.Hid (T = { s with F := putL s.F ⟨⟨u1, u2, u3, u4, u5⟩, fb, fg, fs⟩ } ∧ E = 0) := Lib.hid (by refine ⟨?_, HX.out.1.trans h0⟩; rw [HX.out.2]; unfold rpL; rw [if_pos h0])
      rw [if_pos h0] at z0
      have HRW2 : RowKit.Hid (RowS w7 b3 (putL s.F ⟨⟨u1, u2, u3, u4, u5⟩, fb, fg, fs⟩).length d3 8 ((putL s.F ⟨⟨u1, u2, u3, u4, u5⟩, fb, fg, fs⟩).map fcl)) := Lib.hid (by have h := HRW.out.1; unfold rpL at h; rwa [if_pos h0] at h)
      have HZ : RowKit.Hid (RsTo w (w7.setCell ⟨m, 3, none⟩ (.slice b3 (putL s.F ⟨⟨u1, u2, u3, u4, u5⟩, fb, fg, fs⟩).length d3)) B m T) := Lib.hid ⟨⟨_, _, _, _, _, _, by rw [HT0.out.1]; exact HQ8.out.setF HRW2.out HIN.out HRW.out.2⟩, (HT8.out.mono (fun _ _ h => h.elim)).setCell _ _ (fun _ => rfl)⟩
      rw [h0]
      clear h0
      go_wp2_with fail
      go_ret
      exact ⟨by rw [HT0.out.2]; rfl, HZ.out⟩
    · have HT0 : RowKit.Hid (T = s) := Lib.hid (by rw [HX.out.2]; unfold rpL; rw [if_neg h0])
      have hz : ((rpE s.F 256 ⟨⟨u1, u2, u3, u4, u5⟩, fb, fg, fs⟩) == 0) = false := by simpa using h0
      have HZ : RowKit.Hid (RsTo w w7 B m T) := Lib.hid (by rw [HT0.out]; exact HQ.out.to HT8.out)
      clear z0 z3 f3
      generalize hx : rpE s.F 256 ⟨⟨u1, u2, u3, u4, u5⟩, fb, fg, fs⟩ = x9 at *
      go_wp2_with fail
      go_ret
      exact ⟨by rw [HX.out.1]; rfl, HZ.out⟩
  by_cases h2 : kind = 2
  · have HX : RowKit.Hid (E = 0 ∧ T = { s with F := delF s.F ⟨u1, u2, u3, u4, u5⟩ }) := Lib.hid (by
      have k1 : r0.kind = 2 := HMR.out.2.trans h2
      have e3 := (st_2 (s := s) HMR.out.1 k1).1
      refine ⟨HE.out ▸ e3, ?_⟩
      rw [← HT.out, rs_ok e3]
      unfold rsDo
      rw [if_neg (by omega), if_pos k1, ← HPI.out.2.2.1 k1])
    subst h2
    clear h1
    have HPU := Lib.hid (rfdrop_any W6 KT a3 c3 256 0 s.F HRF.out HLF.out.2 (by have := HLF.out.1; omega) ⟨u1, u2, u3, u4, u5⟩)
    obtain ⟨-, y1, y2, y3, y4, y5, -⟩ := rcells_of HG6.out
    simp only at y1 y2 y3 y4 y5
    simp only [tcs] at HPU
    go_wp2_with fail
    (with_reducible refine HPU.out.mono ?_)
    rintro e w7 ⟨rfl, b3, d3, q7, t7, n7⟩
    obtain ⟨q8, t8⟩ := HQW.out w7 (t7.mono (fun k _ e => .inl e))
    have HIN : RowKit.Hid (InB w7 B m b3) := Lib.hid (fun x hx => by
      have hk := HK.out
      have hq := HQ6.out.hB
      have h6 := HT46.out.size
      rcases n7 x hx with h | ⟨z, hz, h⟩
      · omega
      · have := HQ6.out.b3 z hz
        have := t7.size
        omega)
    have HZ : RowKit.Hid (RsTo w (w7.setCell ⟨m, 3, none⟩ (.slice b3 (delF s.F ⟨u1, u2, u3, u4, u5⟩).length d3)) B m T) := Lib.hid ⟨⟨_, _, _, _, _, _, by rw [HX.out.2]; exact q8.setF q7.row HIN.out q7.pl⟩, (t8.mono (fun _ _ h => h.elim)).setCell _ _ (fun _ => rfl)⟩
    have z0 := cell_of_cells q7.head 0
    have z3 := q8.cells.2.2.2
    have f3 := q8.frees.2.2.2
    clear q7 t7 n7 q8 t8 y1 y2 y3 y4 y5 y0
    go_wp2_with fail
    go_ret
    exact ⟨by rw [HX.out.1]; rfl, HZ.out⟩
  by_cases h3 : kind = 3
  · have HX : RowKit.Hid (E = (if gmay bs then 0 else 1) ∧ T = (if gmay bs then { s with gen := gen, bs := bs } else s)) := Lib.hid (by
      have k1 : r0.kind = 3 := HMR.out.2.trans h3
      have e3 : stE s r0 = (if gmay r0.bs then 0 else 1) := (st_3 (s := s) HMR.out.1 k1).1
      obtain ⟨p1, p2⟩ := HPI.out.2.2.2.1 k1
      have p1 : gen = r0.gen := p1
      have p2 : bs = r0.bs := p2
      rw [p2]
      refine ⟨HE.out ▸ e3, ?_⟩
      rw [← HT.out]
      unfold rsS
      rw [e3]
      cases gmay r0.bs
      · rfl
      · rw [if_pos (by rfl), if_pos rfl]; unfold rsDo; rw [if_neg (by omega), if_neg (by omega), if_pos k1, p1])
    subst h3
    clear h1 h2
    have HGM := Lib.hid (rgmay_any a9 bs.length c9 bs W6 (HR6.out W6 HN.out).1)
    obtain ⟨-, -, -, -, -, -, -, -, -, y9, y10, -⟩ := rcells_of HG6.out
    simp only at y9 y10
    go_wp2_with fail
    (with_reducible refine HGM.out.mono ?_)
    rintro e w7 ⟨rfl, t7⟩
    obtain ⟨q8, t8⟩ := HQW.out w7 (t7.mono (fun k _ e => e.elim))
    obtain ⟨r8, i8⟩ := HR6.out w7 (t7.mono (fun k _ e => e.elim))
    have HQ8 := Lib.hid (q8.still (Touch.refl w7 (fun _ => False)).drew)
    have HT8 := Lib.hid (t8.trans (Touch.refl w7 (fun _ => False)).drew (fun _ _ h => h))
    have HRW := Lib.hid (RowK.still r8 (Touch.refl w7 (fun _ => False)).drew)
    have HIN : RowKit.Hid (InB w7.drew B m a9) := Lib.hid i8
    have HT7 := Lib.hid t8
    have HG7 := Lib.hid (HGW.out w7 (t7.mono (fun k _ e => e.elim)))
    clear q8 t8 r8 i8 t7 y0 y9 y10
    cases hg : gmay bs with
    | false =>
      have HX2 : RowKit.Hid (E = 1 ∧ RsTo w w7 B m T) := Lib.hid (by refine ⟨by rw [HX.out.1, hg]; rfl, ?_⟩; rw [HX.out.2, hg]; exact HQ.out.to HT7.out)
      clear hg
      go_wp2_with fail
      go_ret
      exact ⟨by rw [HX2.out.1]; rfl, HX2.out.2⟩
    | true =>
      have HX2 : RowKit.Hid (E = 0 ∧ T = { s with gen := gen, bs := bs }) := Lib.hid ⟨by rw [HX.out.1, hg]; rfl, by rw [HX.out.2, hg]; rfl⟩
      clear hg
      have HC7 : RowKit.Hid (∀ W, Touch w7 W (fun k => k = m) → W.cell? ⟨KB, 9, none⟩ = some (.int .i64 gen) ∧ W.cell? ⟨KB, 10, none⟩ = some (.slice a9 bs.length c9)) := Lib.hid (fun W t => rgen_of (t.keeps HG7.out (fun e => by have := HK.out; have e : KB = m := e; omega)))
      have HZ : RowKit.Hid (RsTo w ((w7.drew.setCell ⟨m, 0, none⟩ (.int .i64 gen)).setCell ⟨m, 1, none⟩ (.slice a9 bs.length c9)) B m T) := Lib.hid ⟨⟨_, _, _, _, _, _, by rw [HX2.out.2]; exact HQ8.out.setG HRW.out HIN.out⟩, ((HT8.out.mono (T := fun k => k = m) (fun _ _ h => h.elim)).setCell _ _ (fun _ => rfl)).setCell _ _ (fun _ => rfl)⟩
      go_upto_region 20 with (fail)
      go_wp2_with fail
      have hS := (Touch.refl w7 (fun k => k = m)).drew
      refine wp_region_tree (fun w' => Touch w7 w' (fun k => k = m)) (.take 0 (.take 1 (.take 2 (.take 3 (.take 4 (.take 5 (.take 6 (.take 7 (.take 8 (.one 9 (.take 10 (.take 11 (.take 12 (.one 13 .fin)))))))))))))) (by kernel_rfl) (by kernel_rfl) (by kernel_rfl) (by kernel_rfl) hS ?_
      generalize w7.drew = w8 at *
      refine walkT_take ?_
      (refine takeN_take (v := ?_) (some 85) rfl rfl (fun _ _ _ h => h) (by rfl) ?_ ?_; rotate_left; (focus (intro w' hw'; obtain ⟨k1, k2⟩ := HC7.out w' hw'; go_simp; (try with_reducible rfl))); (try simp only [Act.put, List.setIfInBounds_toArray, List.set_cons_zero, List.set_cons_succ]))
      refine walkT_take ?_
      (refine takeN_take (v := ?_) (some 86) rfl rfl (fun _ _ _ h => h) (by rfl) ?_ ?_; rotate_left; (focus (intro w' hw'; obtain ⟨k1, k2⟩ := HC7.out w' hw'; go_simp; (try with_reducible rfl))); (try simp only [Act.put, List.setIfInBounds_toArray, List.set_cons_zero, List.set_cons_succ]))
      refine walkT_take ?_
      (refine takeN_take (v := ?_) (some 87) rfl rfl (fun _ _ _ h => h) (by rfl) ?_ ?_; rotate_left; (focus (intro w' hw'; obtain ⟨k1, k2⟩ := HC7.out w' hw'; go_simp; (try with_reducible rfl))); (try simp only [Act.put, List.setIfInBounds_toArray, List.set_cons_zero, List.set_cons_succ]))
      refine walkT_take ?_
      (refine takeN_take (v := ?_) (some 88) rfl rfl (fun _ _ _ h => h) (by rfl) ?_ ?_; rotate_left; (focus (intro w' hw'; obtain ⟨k1, k2⟩ := HC7.out w' hw'; go_simp; (try with_reducible rfl))); (try simp only [Act.put, List.setIfInBounds_toArray, List.set_cons_zero, List.set_cons_succ]))
      refine walkT_take ?_
      (refine takeN_take (v := ?_) (some 89) rfl rfl (fun _ _ _ h => h) (by rfl) ?_ ?_; rotate_left; (focus (intro w' hw'; obtain ⟨k1, k2⟩ := HC7.out w' hw'; go_simp; (try with_reducible rfl))); (try simp only [Act.put, List.setIfInBounds_toArray, List.set_cons_zero, List.set_cons_succ]))
      refine walkT_take ?_
      (refine takeN_take (v := ?_) (some 90) rfl rfl (fun _ _ _ h => h) (by rfl) ?_ ?_; rotate_left; (focus (intro w' hw'; obtain ⟨k1, k2⟩ := HC7.out w' hw'; go_simp; (try with_reducible rfl))); (try simp only [Act.put, List.setIfInBounds_toArray, List.set_cons_zero, List.set_cons_succ]))
      refine walkT_take ?_
      (refine takeN_take (v := ?_) (some 91) rfl rfl (fun _ _ _ h => h) (by rfl) ?_ ?_; rotate_left; (focus (intro w' hw'; obtain ⟨k1, k2⟩ := HC7.out w' hw'; go_simp; (try with_reducible rfl))); (try simp only [Act.put, List.setIfInBounds_toArray, List.set_cons_zero, List.set_cons_succ]))
      refine walkT_take ?_
      (refine takeN_take (v := ?_) (some 92) rfl rfl (fun _ _ _ h => h) (by rfl) ?_ ?_; rotate_left; (focus (intro w' hw'; obtain ⟨k1, k2⟩ := HC7.out w' hw'; go_simp; (try with_reducible rfl))); (try simp only [Act.put, List.setIfInBounds_toArray, List.set_cons_zero, List.set_cons_succ]))
      refine walkT_take ?_
      (refine takeN_take (v := ?_) (some 93) rfl rfl (fun _ _ _ h => h) (by rfl) ?_ ?_; rotate_left; (focus (intro w' hw'; obtain ⟨k1, k2⟩ := HC7.out w' hw'; go_simp; (try with_reducible rfl))); (try simp only [Act.put, List.setIfInBounds_toArray, List.set_cons_zero, List.set_cons_succ]))
      refine walkT_one ?_
      (have cc := HQ8.out.cells.1; have ff := HQ8.out.frees.1; refine runN_skip0 none rfl rfl (by rfl) (w' := World.setCell w8 ⟨m, 0, none⟩ (.int .i64 gen)) (by go_simp; (try with_reducible rfl)) ?_ ?_; (exact hS.setCell _ _ (fun _ => rfl)); clear cc ff; intro hS; (try simp only [Act.put, List.setIfInBounds_toArray, List.set_cons_zero, List.set_cons_succ]))
      refine walkT_take ?_
      (refine takeN_take (v := ?_) (some 94) rfl rfl (fun _ _ _ h => h) (by rfl) ?_ ?_; rotate_left; (focus (intro w' hw'; obtain ⟨k1, k2⟩ := HC7.out w' hw'; go_simp; (try with_reducible rfl))); (try simp only [Act.put, List.setIfInBounds_toArray, List.set_cons_zero, List.set_cons_succ]))
      refine walkT_take ?_
      (refine takeN_take (v := ?_) (some 95) rfl rfl (fun _ _ _ h => h) (by rfl) ?_ ?_; rotate_left; (focus (intro w' hw'; obtain ⟨k1, k2⟩ := HC7.out w' hw'; go_simp; (try with_reducible rfl))); (try simp only [Act.put, List.setIfInBounds_toArray, List.set_cons_zero, List.set_cons_succ]))
      refine walkT_take ?_
      (refine takeN_take (v := ?_) (some 96) rfl rfl (fun _ _ _ h => h) (by rfl) ?_ ?_; rotate_left; (focus (intro w' hw'; obtain ⟨k1, k2⟩ := HC7.out w' hw'; go_simp; (try with_reducible rfl))); (try simp only [Act.put, List.setIfInBounds_toArray, List.set_cons_zero, List.set_cons_succ]))
      refine walkT_one ?_
      (have cc := HQ8.out.cells.2.1; have ff := HQ8.out.frees.2.1; refine runN_skip0 none rfl rfl (by rfl) (w' := World.setCell (World.setCell w8 ⟨m, 0, none⟩ (.int .i64 gen)) ⟨m, 1, none⟩ (.slice a9 bs.length c9)) (by go_simp; (try with_reducible rfl)) ?_ ?_; (exact hS.setCell _ _ (fun _ => rfl)); clear cc ff; intro hS; (try simp only [Act.put, List.setIfInBounds_toArray, List.set_cons_zero, List.set_cons_succ]))
      refine walkT_fin ?_
      go_wp2_with fail
      go_ret
      exact ⟨by rw [HX2.out.1]; rfl, HZ.out⟩
  by_cases h4 : kind = 4
  · have HX : RowKit.Hid (E = stDrE s.D be ∧ T = (if stDrE s.D be = 0 then { s with D := putG s.D be un } else s)) := Lib.hid (by
      have k1 : r0.kind = 4 := HMR.out.2.trans h4
      have e3 : stE s r0 = stDrE s.D r0.be := (st_4 (s := s) HMR.out.1 k1).1
      obtain ⟨p1, p2⟩ := HPI.out.2.2.2.2.1 k1
      have p1 : be = r0.be := p1
      have p2 : un = r0.un := p2
      rw [p1, p2]
      refine ⟨HE.out ▸ e3, ?_⟩
      rw [← HT.out]
      unfold rsS
      rw [e3]
      by_cases h0 : stDrE s.D r0.be = 0
      · rw [if_pos h0, if_pos h0]; unfold rsDo; rw [if_neg (by omega), if_neg (by omega), if_neg (by omega), if_pos k1]
      · rw [if_neg h0, if_neg h0])
    subst h4
    clear h1 h2 h3
    have HUN := Lib.hid (runtil_any W6 KD a2 c2 s.D HRD.out (by have := HLD.out.1; omega) be)
    obtain ⟨-, -, -, -, -, -, -, -, -, -, -, y11, -, -⟩ := rcells_of HG6.out
    simp only at y11
    go_wp2_with fail
    (with_reducible refine HUN.out.mono ?_)
    rintro e w7 ⟨rfl, t7⟩
    have HT7 := Lib.hid t7
    have HRD7 := Lib.hid (HRD.out.still t7)
    have HPU := Lib.hid (rdput_any w7 KD a2 c2 s.D HRD7.out (by have := HLD.out.1; omega) HLD.out.2 be un)
    obtain ⟨-, -, -, -, -, -, -, -, -, -, -, w11, w12, -⟩ := rcells_of (HGW.out w7 (t7.mono (fun k _ e => e.elim)))
    simp only at w11 w12
    have hz7 := cell_of_cells HRD7.out.head 0
    have HTW := Lib.hid (HQW.out w7 (t7.mono (fun k _ e => e.elim)))
    have HGO : RowKit.Hid (∀ (w8 : World) b2 d2, stDrE s.D be = 0 → RD w8 KD b2 d2 (putG s.D be un) → Touch w7 w8 (fun k => k = KD) → (∀ y, b2 = some y → (w7.heap.size ≤ y.block ∧ y.block < w8.heap.size) ∨ ∃ z, a2 = some z ∧ y.block = z.block) → E = 0 ∧ RsTo w (w8.setCell ⟨m, 2, none⟩ (.slice b2 (putG s.D be un).length d2)) B m T ∧ (w8.cell? ⟨KD, 0, none⟩ = some (.slice b2 (putG s.D be un).length d2) ∧ w8.cell? ⟨m, 2, none⟩ = some (.slice a2 s.D.length c2) ∧ w8.frozen? ⟨m, 2, none⟩ = false)) := Lib.hid (fun w8 b2 d2 h0 q7 t8 n7 => by
      have t78 : Touch W6 w8 (fun k => k = KT ∨ k = KD) := (HT7.out.mono (fun k _ e => e.elim)).trans t8 (fun k _ e => .inr e)
      obtain ⟨q8, t9⟩ := HQW.out w8 t78
      have hIN : InB w8 B m b2 := fun x hx => by
        have hk := HK.out
        have hq := HQ6.out.hB
        have h6 := HT46.out.size
        have h7 := HT7.out.size
        rcases n7 x hx with h | ⟨z, hz, h⟩
        · omega
        · have := HQ6.out.b2 z hz
          have := t8.size
          omega
      refine ⟨by rw [HX.out.1, h0], ⟨⟨_, _, _, _, _, _, by rw [HX.out.2, if_pos h0]; exact q8.setD q7.row hIN q7.pl⟩, (t9.mono (fun _ _ h => h.elim)).setCell _ _ (fun _ => rfl)⟩, cell_of_cells q7.head 0, q8.cells.2.2.1, q8.frees.2.2.1⟩)
    clear t7 y11 y0
    cases hh : hasD s.D be with
    | true =>
      have HDE : RowKit.Hid (stDrE s.D be = 0) := Lib.hid (by unfold stDrE; rw [if_pos hh])
      clear hh
      go_wp2_with fail
      (with_reducible refine HPU.out.mono ?_)
      rintro e w8 ⟨rfl, b2, d2, q7, t8, n7⟩
      obtain ⟨hE0, hZ, z0, z3, f3⟩ := HGO.out w8 b2 d2 HDE.out q7 t8 n7
      have HZ := Lib.hid (And.intro hE0 hZ)
      clear q7 t8 n7 hE0 hZ w11 w12 hz7
      go_wp2_with fail
      go_ret
      exact ⟨by rw [HZ.out.1]; rfl, HZ.out.2⟩
    | false =>
      by_cases hge : 16 ≤ s.D.length
      · have HDE : RowKit.Hid (stDrE s.D be = 9) := Lib.hid (by unfold stDrE; rw [if_neg (by rw [hh]; decide), if_pos hge])
        have HZ : RowKit.Hid (RsTo w w7 B m T) := Lib.hid (by rw [HX.out.2, if_neg (by rw [HDE.out]; decide)]; exact HQ.out.to HTW.out.2)
        have hgI : (16 : Int) ≤ (s.D.length : Int) := by omega
        clear hh hge w11 w12
        go_wp2_with fail
        go_ret
        exact ⟨by rw [HX.out.1, HDE.out]; rfl, HZ.out⟩
      · have HDE : RowKit.Hid (stDrE s.D be = 0) := Lib.hid (by unfold stDrE; rw [if_neg (by rw [hh]; decide), if_neg hge])
        have hgI : ¬ (16 : Int) ≤ (s.D.length : Int) := by omega
        clear hh hge
        go_wp2_with fail
        (with_reducible refine HPU.out.mono ?_)
        rintro e w8 ⟨rfl, b2, d2, q7, t8, n7⟩
        obtain ⟨hE0, hZ, z0, z3, f3⟩ := HGO.out w8 b2 d2 HDE.out q7 t8 n7
        have HZ := Lib.hid (And.intro hE0 hZ)
        clear q7 t8 n7 hE0 hZ w11 w12 hz7 hgI
        go_wp2_with fail
        go_ret
        exact ⟨by rw [HZ.out.1]; rfl, HZ.out.2⟩
  have HX : RowKit.Hid (E = 0 ∧ T = { s with D := delD s.D be }) := Lib.hid (by
    have k1 : r0.kind = 5 := by
      have hm := HMR.out.1
      have hk := HMR.out.2
      have hn := HN6.out
      have hr : 1 ≤ r0.kind ∧ r0.kind ≤ 6 := by
        unfold mayRB at hm
        by_cases g5 : r0.kind = 5
        · omega
        · by_cases g6 : r0.kind = 6
          · omega
          · rw [if_neg (by omega), if_neg (by omega), if_neg (by omega), if_neg (by omega), if_neg g5, if_neg g6] at hm
            cases hm
      omega
    have e3 := (st_5 (s := s) HMR.out.1 k1).1
    refine ⟨HE.out ▸ e3, ?_⟩
    have p1 : be = r0.be := HPI.out.2.2.2.2.2 k1
    rw [← HT.out, rs_ok e3, p1]
    unfold rsDo
    rw [if_neg (by omega), if_neg (by omega), if_neg (by omega), if_neg (by omega), if_pos k1])
  have j1 : (kind == 1) = false := by simpa using h1
  have j2 : (kind == 2) = false := by simpa using h2
  have j3 : (kind == 3) = false := by simpa using h3
  have j4 : (kind == 4) = false := by simpa using h4
  clear h1 h2 h3 h4
  have HPU := Lib.hid (rclear_any W6 KD a2 c2 s.D HRD.out (by have := HLD.out.1; omega) HLD.out.2 be)
  obtain ⟨-, -, -, -, -, -, -, -, -, -, -, y11, -, -⟩ := rcells_of HG6.out
  simp only at y11
  go_wp2_with fail
  (with_reducible refine HPU.out.mono ?_)
  rintro e w7 ⟨rfl, b2, d2, q7, t7, n7⟩
  obtain ⟨q8, t8⟩ := HQW.out w7 (t7.mono (fun k _ e => .inr e))
  have HIN : RowKit.Hid (InB w7 B m b2) := Lib.hid (fun x hx => by
    have hk := HK.out
    have hq := HQ6.out.hB
    have h6 := HT46.out.size
    rcases n7 x hx with h | ⟨z, hz, h⟩
    · omega
    · have := HQ6.out.b2 z hz
      have := t7.size
      omega)
  have HZ : RowKit.Hid (RsTo w (w7.setCell ⟨m, 2, none⟩ (.slice b2 (delD s.D be).length d2)) B m T) := Lib.hid ⟨⟨_, _, _, _, _, _, by rw [HX.out.2]; exact q8.setD q7.row HIN.out q7.pl⟩, (t8.mono (fun _ _ h => h.elim)).setCell _ _ (fun _ => rfl)⟩
  have z0 := cell_of_cells q7.head 0
  have z3 := q8.cells.2.2.1
  have f3 := q8.frees.2.2.1
  clear q7 t7 n7 q8 t8 y11 y0
  go_wp2_with fail
  go_ret
  exact ⟨by rw [HX.out.1]; rfl, HZ.out⟩
end Go.Proofs.YtdhimlkndpiacaaGreat

end

section
/- The reference: the state that a view is of. -/
set_option linter.unusedVariables false
set_option linter.unusedSimpArgs false
namespace Go.Proofs.YtdhimlkndpiacaaGreat
open Go.RowKit

theorem enter_rsameV (a b : Value) (w : World) : (callFunc 12 #[a, b]).run Tryz.prog w = .ok (.enter 12 #[a, b]) w := by kernel_rfl
theorem vwS_Z : vwS stZ = stZ := by simp [vwS, stZ, srtD, srtF]
theorem stOk_Z : StOk stZ := by constructor <;> simp [stZ] <;> decide +kernel
/-- What Of tells. -/
def ROfIs (w w' : World) (x : StS) (p : Int × StS) (e : Ending) : Prop :=
  (p.1 ≠ 0 → e = .returned (.tuple #[.pointer none, .int .i64 p.1]) ∧ Touch w w' (fun _ => False)) ∧
  (p.1 = 0 → same14 (vwS p.2) x = false → e = .returned (.tuple #[.pointer none, .int .i64 1]) ∧ Touch w w' (fun _ => False)) ∧
  (p.1 = 0 → same14 (vwS p.2) x = true → ∃ m b1 d1 b2 d2 b3 d3, e = .returned (.tuple #[.pointer (some ⟨m, 0, none⟩), .int .i64 0]) ∧ RsM w' m m (vwS p.2) b1 d1 b2 d2 b3 d3 ∧ Touch w w' (fun _ => False))
set_option maxRecDepth 20000 in
set_option maxHeartbeats 8000000 in
theorem rstof_any (w : World) (x : StS) (a1 : Option Addr) (c1 : Nat) (a2 : Option Addr) (c2 : Nat) (a3 : Option Addr) (c3 : Nat) (hx : VwAt w x a1 c1 a2 c2 a3 c3) (hD : x.D.length ≤ 100000) (hF : x.F.length ≤ 100000) (hb : x.bs.length ≤ 100000) (hok : ∀ y ∈ recsV x a1 c1, RecOk y.r) :
    Calls Tryz.prog 19 #[.agg (vcs x a1 c1 a2 c2 a3 c3)] w fun e w' => ROfIs w w' x (ofR (recsV x a1 c1) stZ) e := by
  obtain ⟨W1, hW1⟩ : ∃ W, w.alloc (.cells (vcs x a1 c1 a2 c2 a3 c3) 35) = W := ⟨_, rfl⟩
  have t1 : Touch w W1 (fun _ => False) := hW1 ▸ (Touch.refl w _).alloc _
  have g1 : W1.heap[w.heap.size]? = some (.cells (vcs x a1 c1 a2 c2 a3 c3) 35 (0, 0)) := hW1 ▸ heap_alloc_new ..
  obtain ⟨K1, hK1⟩ : ∃ K, w.heap.size = K := ⟨_, rfl⟩
  rw [hK1] at g1
  have HX := Lib.hid hx
  have HT1 := Lib.hid t1
  have HG0 := Lib.hid g1
  have HW1 := Lib.hid (And.intro hW1 hK1)
  have HB := Lib.hid (And.intro hD (And.intro hF hb))
  have HOK := Lib.hid hok
  obtain ⟨l, hl⟩ : ∃ l, recsV x a1 c1 = l := ⟨_, rfl⟩
  obtain ⟨p, hp⟩ : ∃ p, ofR l stZ = p := ⟨_, rfl⟩
  obtain ⟨n, hn⟩ : ∃ n, 1 + x.D.length + x.F.length = n := ⟨_, rfl⟩
  have HLN : RowKit.Hid (l.length = n) := Lib.hid (by rw [← hl, ← hn]; exact recsV_len _ _ _)
  have HLL := Lib.hid hl
  have HPP := Lib.hid hp
  have HNN := Lib.hid hn
  rw [hl, hp]
  clear t1 g1 hW1 hK1 hx hD hF hb hok hl hp hn
  go_enter Tryz.func19, Tryz.ntmps19
  go_upto_region 1 with (fail)
  rw [HW1.out.1, HW1.out.2]
  obtain ⟨w2, hw2⟩ : ∃ W, W1.alloc (.cells (vcs stZ none 0 none 0 none 0) 37) = W := ⟨_, rfl⟩
  obtain ⟨KM, hKM⟩ : ∃ k, W1.heap.size = k := ⟨_, rfl⟩
  have t2 : Touch W1 w2 (fun _ => False) := hw2 ▸ (Touch.refl W1 _).alloc _
  have g2 : w2.heap[KM]? = some (.cells (vcs stZ none 0 none 0 none 0) 37 (0, 0)) := hKM ▸ hw2 ▸ heap_alloc_new ..
  have hM2 : RsM w2 KM KM (vwS stZ) none 0 none 0 none 0 := vwS_Z.symm ▸ ⟨g2, ⟨RowS.nil w2 none 0 3 (by decide), RowS.nil w2 none 0 2 (by decide), RowS.nil w2 none 0 8 (by decide)⟩, (fun x hx => by cases hx), (fun x hx => by cases hx), (fun x hx => by cases hx), .inl rfl, .inl rfl, Nat.le_refl _⟩
  have HN2 := Lib.hid hM2
  have HT2 := Lib.hid t2
  have HW2 := Lib.hid (And.intro hw2 hKM)
  have HKM : RowKit.Hid (W1.heap.size = KM ∧ KM < w2.heap.size) := Lib.hid ⟨hKM, heap_lt g2⟩
  have HG1 : RowKit.Hid (∀ W, Touch W1 W (fun _ => False) → W.heap[K1]? = some (.cells (vcs x a1 c1 a2 c2 a3 c3) 35 (0, 0))) := Lib.hid (fun W t => t.keeps HG0.out (fun h => h))
  have HR := Lib.hid (rrecords_any w2 x a1 c1 a2 c2 a3 c3 (HX.out.still (HT1.out.trans t2 (fun _ _ h => h))) HB.out.1 HB.out.2.1)
  rw [HNN.out] at HR
  obtain ⟨v0, v1, v2, v3⟩ : w2.cell? ⟨K1, 0, none⟩ = some (.int .i64 x.gen) ∧ w2.cell? ⟨K1, 1, none⟩ = some (.slice a1 x.bs.length c1) ∧ w2.cell? ⟨K1, 2, none⟩ = some (.slice a2 x.D.length c2) ∧ w2.cell? ⟨K1, 3, none⟩ = some (.slice a3 x.F.length c3) := by
    have g := HG1.out w2 t2
    exact ⟨cell_of_cells g 0, cell_of_cells g 1, cell_of_cells g 2, cell_of_cells g 3⟩
  simp only [vcs] at HR
  simp only [vcs, stZ, List.length_nil] at HW2
  clear t2 g2 hM2 hw2 hKM
  go_upto_region 2 with (fail)
  rw [HW2.out.1, HW2.out.2]
  go_wp2_with fail
  (with_reducible refine HR.out.mono ?_)
  rintro e w3 ⟨ar, cr, rfl, o3, t3⟩
  rw [HLL.out] at o3
  have HRW : RowKit.Hid (∀ W, Touch w3 W (fun k => k = KM) → RowRB W ar n cr l) := Lib.hid (fun W t => (o3.row'.2.1).touch t (fun y hy => .inr (fun hs => by have h1 := (o3.row'.2.2 y hy).1; have h2 := HKM.out.2; have hs : y.block = KM := hs; omega)))
  have HT23 := Lib.hid (HT2.out.trans t3 (fun _ _ h => h))
  have HT3 := Lib.hid t3
  have HN3 : RowKit.Hid (∃ b1 d1 b2 d2 b3 d3, RsM w3 KM KM (vwS stZ) b1 d1 b2 d2 b3 d3) := Lib.hid ⟨_, _, _, _, _, _, HN2.out.still t3⟩
  clear o3 t3 v0 v1 v2 v3
  go_wp2_with fail
  go_loopw [13] (fun s13 wr => ∃ (k : Nat) (s : StS), k ≤ n ∧ s13 = .int .i64 k ∧ StOk s ∧ (∃ b1 d1 b2 d2 b3 d3, RsM wr KM KM (vwS s) b1 d1 b2 d2 b3 d3) ∧ Touch w3 wr (fun k => k = KM) ∧ ofR (l.drop k) s = p) (fun s13 _ => n - (RowKit.intOf s13).toNat)
  case atStart => exact ⟨0, stZ, Nat.zero_le _, rfl, stOk_Z, HN3.out, Touch.refl _ _, HPP.out⟩
  case round =>
    obtain ⟨k, s, hkn, rfl, hok, ⟨b1, e1, b2, e2, b3, e3, hq⟩, ht, ho⟩ := hrel
    have HQ := Lib.hid hq
    have HSO := Lib.hid hok
    have HTR := Lib.hid ht
    have HO := Lib.hid ho
    clear hq hok ht ho HN3
    have HWT : RowKit.Hid (∀ W, Touch w3 W (fun k => k = KM) → Touch W1 W (fun _ => False)) := Lib.hid (fun W t => HT23.out.trans t (fun k hk e => by have := HKM.out.1; omega))
    have HFW : RowKit.Hid (∀ W, Touch W1 W (fun _ => False) → Touch w W (fun _ => False)) := Lib.hid (fun W t => HT1.out.trans t (fun _ _ h => h))
    by_cases hlt : k < n
    case pos =>
      have HRX := Lib.hid (HRW.out _ HTR.out)
      have hcap := HRX.out.hcap
      have hmax := HRX.out.hmax
      obtain ⟨gr, off, rfl⟩ := HRX.out.some (by omega)
      have hkL : k < l.length := by have := HLN.out; omega
      obtain ⟨d0, d1, d2, d3, d4, d5, d6, d7, d8, d9, d10, d11, d12, d13⟩ := recB_cells HRX.out k hkL
      have hmem : grb l k ∈ recsV x a1 c1 := by rw [HLL.out]; exact grb_mem l k hkL
      have HYO := Lib.hid (HOK.out _ hmem)
      have HYB := Lib.hid (recsV_bs (HX.out.still (HFW.out _ (HWT.out _ HTR.out))).b HB.out.2.2 _ hmem)
      have HDR := Lib.hid (ofR_drop hkL s)
      rw [HO.out] at HDR
      obtain ⟨y, hy⟩ : ∃ y, grb l k = y := ⟨_, rfl⟩
      rw [hy] at d0 d1 d2 d3 d4 d5 d6 d7 d8 d9 d10 d11 d12 d13 HYO HYB HDR
      clear hy hmem
      obtain ⟨w6, hw6⟩ : ∃ W, wr.alloc (.cells (rcs y.r y.a y.c) 41) = W := ⟨_, rfl⟩
      have t6 : Touch wr w6 (fun _ => False) := hw6 ▸ (Touch.refl wr _).alloc _
      have g6 : w6.heap[wr.heap.size]? = some (.cells (rcs y.r y.a y.c) 41 (0, 0)) := hw6 ▸ heap_alloc_new ..
      have hlI : (k : Int) < n := by omega
      have HQ6 := Lib.hid (HQ.out.still t6)
      have HT6 := Lib.hid (HTR.out.trans t6 (fun _ _ h => h.elim))
      obtain ⟨K7, hK7⟩ : ∃ K, wr.heap.size = K := ⟨_, rfl⟩
      rw [hK7] at g6
      have HW6 := Lib.hid (And.intro hw6 hK7)
      have HVN := Lib.hid (vw_nd HSO.out)
      have HAP := Lib.hid (rstapply_any w6 KM KM (vwS s) b1 e1 b2 e2 b3 e3 HQ6.out HVN.out.2.2.1 HVN.out.2.2.2 HVN.out.1 HVN.out.2.1 y.r y.a y.c (HYB.out.1.still t6) HYB.out.2)
      rw [rs_simE, rs_sim HSO.out] at HAP
      obtain ⟨y0, y1, y2, y3, y4, y5, y6, y7, y8, y9, y10, y11, y12, y13⟩ := rcells_of g6
      simp only [rcs] at HW6 HAP
      clear t6 g6 hw6 hK7 hkL
      go_upto_region 5 with (fail)
      rw [HW6.out.1, HW6.out.2]
      clear d0 d1 d2 d3 d4 d5 d6 d7 d8 d9 d10 d11 d12 d13
      by_cases hz : stE s y.r = 0
      case neg =>
        have hz' : (stE s y.r == 0) = false := by simpa using hz
        have hpE := HDR.out
        rw [if_neg hz] at hpE
        rw [stS_bad hz] at HAP
        have HPE := Lib.hid hpE
        have HZ := Lib.hid hz
        clear hpE hz
        go_wp2_with fail
        (with_reducible refine HAP.out.mono ?_)
        rintro e w7 ⟨rfl, s7⟩
        have HT7 := Lib.hid (HFW.out _ (HWT.out _ (HT6.out.trans s7.2 (fun _ _ h => h))))
        clear s7 y0 y1 y2 y3 y4 y5 y6 y7 y8 y9 y10 y11 y12 y13
        go_wp2_with fail
        go_ret2
        rw [HPE.out]
        exact ⟨fun _ => ⟨rfl, HT7.out⟩, fun h => absurd h HZ.out, fun h => absurd h HZ.out⟩
      case pos =>
        have hpE := HDR.out
        rw [if_pos hz] at hpE
        rw [hz] at HAP
        have HPE := Lib.hid hpE
        clear hpE hz
        go_wp2_with fail
        (with_reducible refine HAP.out.mono ?_)
        rintro e w7 ⟨rfl, s7⟩
        have HX' : RowKit.Hid (∃ (k' : Nat) (s : StS), k' ≤ n ∧ Value.int .i64 ((k : Int) + 1) = .int .i64 k' ∧ StOk s ∧ (∃ b1 d1 b2 d2 b3 d3, RsM w7 KM KM (vwS s) b1 d1 b2 d2 b3 d3) ∧ Touch w3 w7 (fun k => k = KM) ∧ ofR (l.drop k') s = p) := Lib.hid ⟨k + 1, stS s y.r, by omega, by go_num, HSO.out.step y.r, s7.1, HT6.out.trans s7.2 (fun _ _ h => h), HPE.out.symm⟩
        clear s7 y0 y1 y2 y3 y4 y5 y6 y7 y8 y9 y10 y11 y12 y13
        go_wp2_with fail
        go_roundw
        · exact HX'.out
        · simp only [RowKit.intOf]; omega
    case neg =>
      obtain rfl : n = k := by omega
      have hlI : ¬ (n : Int) < n := by omega
      have hp : p = (0, s) := by
        have := HO.out
        rw [List.drop_of_length_le (by rw [HLN.out]; exact Nat.le_refl _)] at this
        exact this.symm
      subst hp
      have HVX : RowKit.Hid (∀ W, Touch wr W (fun _ => False) → VwAt W x a1 c1 a2 c2 a3 c3) := Lib.hid (fun W t => HX.out.still (HFW.out _ ((HWT.out _ HTR.out).trans t (fun _ _ h => h))))
      have HGR : RowKit.Hid (∀ W, Touch wr W (fun _ => False) → W.heap[K1]? = some (.cells (vcs x a1 c1 a2 c2 a3 c3) 35 (0, 0))) := Lib.hid (fun W t => HG1.out _ ((HWT.out _ HTR.out).trans t (fun _ _ h => h)))
      obtain ⟨B, hB⟩ : ∃ B, same14 (vwS s) x = B := ⟨_, rfl⟩
      have HBB := Lib.hid hB
      have HGM : RowKit.Hid (∀ W, Touch wr W (fun _ => False) → W.heap[KM]? = some (.cells (vcs (vwS s) b1 e1 b2 e2 b3 e3) 37 (0, 0))) := Lib.hid (fun W t => t.keeps HQ.out.head (fun h => h))
      have HSM : RowKit.Hid (∀ W, Touch wr W (fun _ => False) → Calls Tryz.prog 12 #[.agg (vcs (vwS s) b1 e1 b2 e2 b3 e3), .agg (vcs x a1 c1 a2 c2 a3 c3)] W fun e w' => e = .returned (.bool B) ∧ Touch W w' (fun _ => False)) := Lib.hid (fun W t => hB ▸ rsame14_any W (vwS s) x b1 e1 b2 e2 b3 e3 a1 c1 a2 c2 a3 c3 (HQ.out.still t).vw (HVX.out W t))
      clear hkn hlt hB
      go_upto_region 9 with (fail)
      clear hlI
      have hS := (Touch.refl wr (fun _ => False)).drew
      refine wp_region_sched (fun w' => Touch wr w' (fun _ => False)) [(0, true), (1, true), (2, true), (3, true), (4, true), (5, false), (6, true)] (by kernel_rfl) (by kernel_rfl) rfl (by kernel_rfl) hS ?_
      (refine walkS_take (v := ?_) (some 24) rfl rfl (fun _ _ _ h => h) (by rfl) ?_ ?_; rotate_left; (focus (intro w' hw'; go_simp; (try with_reducible rfl))); (try simp only [Act.put, List.setIfInBounds_toArray, List.set_cons_zero, List.set_cons_succ]))
      (refine walkS_take (v := ?_) (some 25) rfl rfl (fun _ _ _ h => h) (by rfl) ?_ ?_; rotate_left; (focus (intro w' hw'; go_simp; (try with_reducible rfl))); (try simp only [Act.put, List.setIfInBounds_toArray, List.set_cons_zero, List.set_cons_succ]))
      (refine walkS_take (v := ?_) (some 26) rfl rfl (fun _ _ _ h => h) (by rfl) ?_ ?_; rotate_left; (focus (intro w' hw'; go_simp; (try with_reducible rfl))); (try simp only [Act.put, List.setIfInBounds_toArray, List.set_cons_zero, List.set_cons_succ]))
      (refine walkS_row (some 27) rfl rfl 35 (.tmp 26) rfl (KM) rfl _ _ _ _ (fun w' h => HGM.out _ h) Tryz.underlying35 rfl (infoVF _ _ _ _ _ _ _) (fun _ _ _ h => h) (by rfl) ?_; (try simp only [Act.put, List.setIfInBounds_toArray, List.set_cons_zero, List.set_cons_succ]))
      (refine walkS_row (some 28) rfl rfl 35 (.tmp 1) rfl (K1) rfl _ _ _ _ (fun w' h => HGR.out _ h) Tryz.underlying35 rfl (infoVF _ _ _ _ _ _ _) (fun _ _ _ h => h) (by rfl) ?_; (try simp only [Act.put, List.setIfInBounds_toArray, List.set_cons_zero, List.set_cons_succ]))
      (refine walkS_call 29 _ _ _ _ ((HSM.out _ hS)) rfl rfl rfl (by rfl) rfl (enter_rsameV _ _ _) ?_; rintro e w' ⟨rfl, t⟩; have hS := hS.trans t (fun _ _ h => h); clear t; refine ⟨_, rfl, hS, fun hS => ?_⟩; (try simp only [Act.put, List.setIfInBounds_toArray, List.set_cons_zero, List.set_cons_succ]))
      (refine walkS_take (v := ?_) (some 30) rfl rfl (fun _ _ _ h => h) (by rfl) ?_ ?_; rotate_left; (focus (intro w' hw'; go_simp; (try with_reducible rfl))); (try simp only [Act.put, List.setIfInBounds_toArray, List.set_cons_zero, List.set_cons_succ]))
      refine walkS_done ?_

      have HTW := Lib.hid (HFW.out _ ((HWT.out _ HTR.out).trans hS (fun _ _ h => h)))
      have HNS := Lib.hid (HQ.out.still hS)
      clear hS
      cases B
      case false =>
        go_wp2_with fail
        go_ret2
        exact ⟨fun h => absurd rfl h, fun _ _ => ⟨rfl, HTW.out⟩, fun _ h => absurd (HBB.out.symm.trans h : false = true) Bool.noConfusion⟩
      case true =>
        go_wp2_with fail
        go_ret2
        exact ⟨fun h => absurd rfl h, fun _ h => absurd (HBB.out.symm.trans h : true = false) Bool.noConfusion, fun _ _ => ⟨KM, _, _, _, _, _, _, rfl, HNS.out, HTW.out⟩⟩
end Go.Proofs.YtdhimlkndpiacaaGreat

end
