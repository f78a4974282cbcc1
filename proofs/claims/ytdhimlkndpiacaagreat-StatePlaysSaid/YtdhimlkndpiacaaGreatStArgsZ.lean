/- Rows of records that came in; light. -/
import Derived.Test.YtdhimlkndpiacaaGreatStAwakeZ
import Derived.Test.YtdhimlkndpiacaaGreatGCZ
import Derived.Test.YtdhimlkndpiacaaGreatHDZ
set_option linter.unusedVariables false
set_option linter.unusedSimpArgs false
namespace Go.Proofs.YtdhimlkndpiacaaGreat
open Go.RowKit

/-- A record, and where its backends lie. -/
structure RecB where
  r : RecD
  a : Option Addr
  c : Nat
def RecB.cells (x : RecB) : List Value := (rcs x.r x.a x.c).toList
def RecBOk (W : World) (x : RecB) : Prop := RecOk x.r ∧ RowK W x.a x.r.bs.length x.c x.r.bs
def noRB : RecB := ⟨⟨0, noT, 0, 0, 0, 0, [], 0, 0, 0⟩, none, 0⟩
def grb (l : List RecB) (k : Nat) : RecB := l.getD k noRB
theorem grb_get (l : List RecB) (k : Nat) (h : k < l.length) : l[k] = grb l k := by
  unfold grb; rw [List.getD_eq_getElem?_getD, List.getElem?_eq_getElem h]; rfl
theorem grb_mem (l : List RecB) (k : Nat) (h : k < l.length) : grb l k ∈ l := by
  rw [← grb_get l k h]; exact List.getElem_mem h
def RowRB (w : World) (a : Option Addr) (n c : Nat) (l : List RecB) : Prop := RowS w a n c 14 (l.map RecB.cells)
theorem recB_cells {w : World} {g off n cap : Nat} {l : List RecB} (h : RowRB w (some ⟨g, off, none⟩) n cap l) (k : Nat) (hk : k < l.length) :
    w.cell? ⟨g, off + k * 14, none⟩ = some (.int .i64 (grb l k).r.kind) ∧ w.cell? ⟨g, off + k * 14 + 1, none⟩ = some (.int .u32 (grb l k).r.t.src) ∧ w.cell? ⟨g, off + k * 14 + 2, none⟩ = some (.int .u32 (grb l k).r.t.dst) ∧ w.cell? ⟨g, off + k * 14 + 3, none⟩ = some (.int .i64 (grb l k).r.t.proto) ∧ w.cell? ⟨g, off + k * 14 + 4, none⟩ = some (.int .i64 (grb l k).r.t.sport) ∧ w.cell? ⟨g, off + k * 14 + 5, none⟩ = some (.int .i64 (grb l k).r.t.dport) ∧
      w.cell? ⟨g, off + k * 14 + 6, none⟩ = some (.int .i64 (grb l k).r.fb) ∧ w.cell? ⟨g, off + k * 14 + 7, none⟩ = some (.int .i64 (grb l k).r.fg) ∧ w.cell? ⟨g, off + k * 14 + 8, none⟩ = some (.int .i64 (grb l k).r.fs) ∧ w.cell? ⟨g, off + k * 14 + 9, none⟩ = some (.int .i64 (grb l k).r.gen) ∧ w.cell? ⟨g, off + k * 14 + 10, none⟩ = some (.slice (grb l k).a (grb l k).r.bs.length (grb l k).c) ∧
      w.cell? ⟨g, off + k * 14 + 11, none⟩ = some (.int .i64 (grb l k).r.be) ∧ w.cell? ⟨g, off + k * 14 + 12, none⟩ = some (.int .i64 (grb l k).r.un) ∧ w.cell? ⟨g, off + k * 14 + 13, none⟩ = some (.int .i64 (grb l k).r.ct) := by
  have hk' : k < (l.map RecB.cells).length := by simpa using hk
  have e : (l.map RecB.cells)[k] = (grb l k).cells := by rw [List.getElem_map, grb_get l k hk]
  have hc : ∀ j u, (grb l k).cells[j]? = some u → w.cell? ⟨g, off + k * 14 + j, none⟩ = some u := fun j u hu => RowS.cell h k hk' j u (by rw [e]; exact hu)
  exact ⟨hc 0 _ rfl, hc 1 _ rfl, hc 2 _ rfl, hc 3 _ rfl, hc 4 _ rfl, hc 5 _ rfl, hc 6 _ rfl, hc 7 _ rfl, hc 8 _ rfl, hc 9 _ rfl, hc 10 _ rfl, hc 11 _ rfl, hc 12 _ rfl, hc 13 _ rfl⟩
/-- Few records, each with few backends. -/
def lightR (x : RecB) : Bool := decide (x.r.bs.length ≤ 40)
def lightB (l : List RecB) : Bool := decide (l.length ≤ 200) && l.all lightR
theorem lightB_iff {l : List RecB} : lightB l = true ↔ l.length ≤ 200 ∧ ∀ x ∈ l, x.r.bs.length ≤ 40 := by
  unfold lightB lightR
  rw [Bool.and_eq_true, decide_eq_true_iff, List.all_eq_true]
  simp only [decide_eq_true_iff]
theorem light_none {n : Nat} {l : List RecB} (hn : l.length = n) (hk : n ≤ 200) (hb : ∀ j < n, (grb l j).r.bs.length ≤ 40) : lightB l = true := by
  rw [lightB_iff]
  refine ⟨by omega, fun x hx => ?_⟩
  obtain ⟨i, hi, rfl⟩ := List.getElem_of_mem hx
  rw [grb_get l i hi]
  exact hb i (by omega)
theorem light_far {l : List RecB} {k : Nat} (hk : k < l.length) (h : 200 ≤ k) : lightB l = false := by
  rw [Bool.eq_false_iff, Ne, lightB_iff]
  omega
theorem light_big {l : List RecB} {k : Nat} (hk : k < l.length) (h : 40 < (grb l k).r.bs.length) : lightB l = false := by
  rw [Bool.eq_false_iff, Ne, lightB_iff]
  rintro ⟨_, h2⟩
  have := h2 _ (grb_mem l k hk)
  omega
set_option maxRecDepth 20000 in
set_option maxHeartbeats 8000000 in
theorem light_any (w : World) (a : Option Addr) (n c : Nat) (l : List RecB) (hr : RowRB w a n c l) :
    Calls Tryz.prog 5 #[.slice a n c] w fun e w' => e = .returned (.bool (lightB l)) ∧ Touch w w' (fun _ => False) := by
  have hn : l.length = n := by have := hr.hlen; simpa using this
  have HR := Lib.hid hr
  have hmx := hr.hmax
  have hmc := hr.hcap
  clear hr
  go_enter Tryz.func5, Tryz.ntmps5
  go_wp2_with fail
  go_loopw [7] (fun s7 wr => ∃ k : Nat, k ≤ n ∧ k ≤ 200 ∧ s7 = .int .i64 k ∧ (∀ j < k, (grb l j).r.bs.length ≤ 40) ∧ Touch w wr (fun _ => False)) (fun s7 _ => n - (RowKit.intOf s7).toNat)
  case atStart => exact ⟨0, Nat.zero_le _, Nat.zero_le _, rfl, (fun j hj => absurd hj (Nat.not_lt_zero _)), Touch.refl _ _⟩
  case round =>
    obtain ⟨k, hk, hk2, rfl, hb, ht⟩ := hrel
    have HT := Lib.hid ht
    have HB := Lib.hid hb
    clear ht hb
    by_cases hlt : k < n
    case neg =>
      obtain rfl : n = k := by omega
      have HLB := Lib.hid (light_none hn hk2 HB.out)
      clear hmx hmc
      go_wp2_with fail
      go_ret
      exact ⟨by rw [HLB.out]; rfl, HT.out⟩
    case pos =>
      have HRX := Lib.hid (RowS.still HR.out HT.out)
      obtain ⟨gr, off, rfl⟩ := HRX.out.some (by omega)
      obtain ⟨d0, d1, d2, d3, d4, d5, d6, d7, d8, d9, d10, d11, d12, d13⟩ := recB_cells HRX.out k (by omega)
      obtain ⟨x, hx⟩ : ∃ x, grb l k = x := ⟨_, rfl⟩
      rw [hx] at d0 d1 d2 d3 d4 d5 d6 d7 d8 d9 d10 d11 d12 d13
      obtain ⟨W2, hW2⟩ : ∃ W, wr.alloc (.cells (rcs x.r x.a x.c) 41) = W := ⟨_, rfl⟩
      have t2 : Touch wr W2 (fun _ => False) := hW2 ▸ (Touch.refl wr _).alloc _
      have g2 : W2.heap[wr.heap.size]? = some (.cells (rcs x.r x.a x.c) 41 (0, 0)) := hW2 ▸ heap_alloc_new ..
      have hlI : (k : Int) < n := by omega
      have HT2 := Lib.hid (HT.out.trans t2 (fun _ _ h => h))
      have c10 := (rcells_of g2).2.2.2.2.2.2.2.2.2.2.1
      obtain ⟨K, hK⟩ : ∃ K, wr.heap.size = K := ⟨_, rfl⟩
      rw [hK] at c10
      have HW2 := Lib.hid (And.intro hW2 hK)
      have HX := Lib.hid hx
      have HL := Lib.hid hn
      have hk2I : (k : Int) ≤ 200 := by omega
      clear t2 g2 hW2 hK hx
      simp only [rcs] at HW2
      go_upto_region 4 with (fail)
      rw [HW2.out.1, HW2.out.2]
      clear d0 d1 d2 d3 d4 d5 d6 d7 d8 d9 d10 d11 d12 d13
      by_cases h2 : k < 200
      case neg =>
        have h2I : ¬ (k : Int) < 200 := by omega
        have HLB := Lib.hid (light_far (l := l) (k := k) (by have := HL.out; omega) (by omega))
        go_wp2_with fail
        go_ret
        exact ⟨by rw [HLB.out]; rfl, HT2.out⟩
      case pos =>
        have h2I : (k : Int) < 200 := by omega
        by_cases h4 : x.r.bs.length ≤ 40
        case neg =>
          have h4I : ¬ (x.r.bs.length : Int) ≤ 40 := by omega
          have HLB := Lib.hid (light_big (l := l) (k := k) (by have := HL.out; omega) (by rw [HX.out]; omega))
          go_wp2_with fail
          go_ret
          exact ⟨by rw [HLB.out]; rfl, HT2.out⟩
        case pos =>
          have h4I : (x.r.bs.length : Int) ≤ 40 := by omega
          have HB' : RowKit.Hid (∀ j < k + 1, (grb l j).r.bs.length ≤ 40) := Lib.hid (fun j hj => by
            rcases Nat.lt_succ_iff_lt_or_eq.1 hj with h | rfl
            · exact HB.out j h
            · rw [HX.out]; exact h4)
          clear h4
          go_wp2_with fail
          go_roundw
          · exact ⟨k + 1, by omega, by omega, by go_num, HB'.out, HT2.out⟩
          · simp only [RowKit.intOf]; omega
section
open Go.ChangeShapes Go.WideShapes Go.ChangeAt Go.RowKit
variable {H : Type} {enc : TypeId × Value → H} {W : World} {base : Nat} {v : Value} {d : DataW H} {p : List MemPlace} {cs : List Value}
set_option maxRecDepth 20000 in
theorem ArgIn.recsB (h : ArgIn enc Tryz.prog W base 22 v d p) : ∃ (a : Option Addr) (cap : Nat) (l : List RecB), v = .slice a l.length cap ∧ RowRB W a l.length cap l ∧ (∀ x ∈ l, RecBOk W x) := by
  obtain ⟨a0, len0, cap0, rfl⟩ := okWide_slice Tryz.underlying22 h.ok
  obtain ⟨a, cap, bs, hcs, hr, hok, _⟩ := h.tr.rowsOf RecB.cells (RecBOk W) 14 Tryz.underlying22 (by kernel_rfl) (fun _ => rfl) (by decide) (fun cs d h => by
    obtain ⟨r, a, cap, e, h1, h2⟩ := h.recD
    exact ⟨⟨r, a, cap⟩, e, h1, h2⟩)
  simp [Value.cells] at hcs
  obtain ⟨rfl, rfl, rfl⟩ := hcs
  exact ⟨_, _, bs, rfl, hr, hok⟩
end
end Go.Proofs.YtdhimlkndpiacaaGreat
