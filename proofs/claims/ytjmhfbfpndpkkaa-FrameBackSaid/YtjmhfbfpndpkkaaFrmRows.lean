/- Rows of frames: read, of the call's own; are two the same? -/
import Derived.Test.YtjmhfbfpndpkkaaRowR
import Derived.Test.YtjmhfbfpndpkkaaFrmArgs
import Derived.Deep.RegionHeld3
import Derived.StillTailTactics
import Derived.Deep.DeepCutAuto
set_option linter.unusedVariables false
namespace Go.Proofs.Ytjmhfbfpndpkkaa
open Go.RowKit

/-- What a frame is, without where it lies. -/
def FrD.val (f : FrD) : Int × Int × List Nat := (f.k, f.v, f.ys)
/-- A slice of frames reads as these. -/
structure RowF (w : World) (a : Option Addr) (len cap : Nat) (fs : List FrD) : Prop where
  hlen : fs.length = len
  hcap : len ≤ cap
  hmax : cap ≤ 9223372036854775807
  rows : ∀ f ∈ fs, RowB w f.a f.ys.length f.cap f.ys
  at_ : len = 0 ∨ ∃ b off, a = some ⟨b, off, none⟩ ∧ b < w.heap.size ∧ ∀ i (h : i < fs.length), w.cell? ⟨b, off + i * 3, none⟩ = some (.int .i64 fs[i].k) ∧ w.cell? ⟨b, off + i * 3 + 1, none⟩ = some (.int .i64 fs[i].v) ∧ w.cell? ⟨b, off + i * 3 + 2, none⟩ = some (.slice fs[i].a fs[i].ys.length fs[i].cap)
theorem RowF.nil (w : World) (a : Option Addr) (cap : Nat) (h : cap ≤ 9223372036854775807) : RowF w a 0 cap [] := ⟨rfl, Nat.zero_le _, h, by simp, .inl rfl⟩
theorem RowF.touch {w w' : World} {a : Option Addr} {len cap : Nat} {fs : List FrD} {S : Nat → Prop} (h : RowF w a len cap fs) (t : Touch w w' S) (h1 : ∀ x, a = some x → len = 0 ∨ ¬ S x.block) (h2 : ∀ f ∈ fs, ∀ x, f.a = some x → f.ys.length = 0 ∨ ¬ S x.block) : RowF w' a len cap fs := by
  refine ⟨h.hlen, h.hcap, h.hmax, fun f hf => (h.rows f hf).touch t (h2 f hf), ?_⟩
  rcases h.at_ with h0 | ⟨b, off, ha, hlt, hc⟩
  · exact .inl h0
  · by_cases h0 : len = 0
    · exact .inl h0
    · rcases h1 _ ha with h9 | h9
      · exact .inl h9
      · refine .inr ⟨b, off, ha, Nat.lt_of_lt_of_le hlt t.size, fun i hi => ?_⟩
        obtain ⟨g0, g1, g2⟩ := hc i hi
        exact ⟨(t.cell (p := ⟨b, off + i * 3, none⟩) hlt h9).trans g0, (t.cell (p := ⟨b, off + i * 3 + 1, none⟩) hlt h9).trans g1, (t.cell (p := ⟨b, off + i * 3 + 2, none⟩) hlt h9).trans g2⟩
theorem RowF.still {w w' : World} {a : Option Addr} {len cap : Nat} {fs : List FrD} (h : RowF w a len cap fs) (t : Touch w w' (fun _ => False)) : RowF w' a len cap fs :=
  h.touch t (fun _ _ => .inr (fun h => h)) (fun _ _ _ _ => .inr (fun h => h))
theorem RowF.take {w : World} {a : Option Addr} {len cap : Nat} {fs : List FrD} (h : RowF w a len cap fs) (k : Nat) (hk : k ≤ len) : RowF w a k cap (fs.take k) := by
  obtain ⟨h1, h2, h3, h4, h5⟩ := h
  refine ⟨by simp; omega, by omega, h3, fun f hf => h4 f (List.mem_of_mem_take hf), ?_⟩
  rcases h5 with h0 | ⟨b, off, ha, hlt, hc⟩
  · exact .inl (by omega)
  · refine .inr ⟨b, off, ha, hlt, fun i hi => ?_⟩
    simp at hi
    rw [List.getElem_take]
    exact hc i (by omega)
theorem RowF.some {w : World} {a : Option Addr} {len cap : Nat} {fs : List FrD} (h : RowF w a len cap fs) (h0 : 0 < len) : ∃ b off, a = .some ⟨b, off, none⟩ := by
  rcases h.at_ with h5 | ⟨b, off, ha, _⟩
  · omega
  · exact ⟨b, off, ha⟩
theorem RowF.cells {w : World} {b off len cap : Nat} {fs : List FrD} (h : RowF w (.some ⟨b, off, none⟩) len cap fs) (i : Nat) (hi : i < fs.length) :
    w.cell? ⟨b, off + i * 3, none⟩ = .some (.int .i64 fs[i].k) ∧ w.cell? ⟨b, off + i * 3 + 1, none⟩ = .some (.int .i64 fs[i].v) ∧ w.cell? ⟨b, off + i * 3 + 2, none⟩ = .some (.slice fs[i].a fs[i].ys.length fs[i].cap) := by
  rcases h.at_ with h5 | ⟨b', off', ha, _, hc⟩
  · have := h.hlen; omega
  · simp only [Option.some.injEq, Addr.mk.injEq] at ha
    obtain ⟨rfl, rfl, _⟩ := ha
    exact hc i hi

def sameFs (l r : List (Int × Int × List Nat)) : Bool := decide (l = r)
theorem sameFs_len {l r : List (Int × Int × List Nat)} (h : l.length ≠ r.length) : sameFs l r = false := by
  unfold sameFs; exact decide_eq_false (fun e => h (by rw [e]))
theorem sameB_val (f g : FrD) : sameB f.k f.v f.ys g.k g.v g.ys = decide (f.val = g.val) := by
  unfold sameB eqB FrD.val
  rw [Bool.eq_iff_iff]; simp
theorem sameFs_at {l r : List (Int × Int × List Nat)} (i : Nat) (h1 : i < l.length) (h2 : i < r.length) (h : l[i] ≠ r[i]) : sameFs l r = false := by
  unfold sameFs; exact decide_eq_false (fun e => h (by subst e; rfl))
theorem sameFs_all {l r : List (Int × Int × List Nat)} (hl : l.length = r.length) (h : l.take l.length = r.take l.length) : sameFs l r = true := by
  unfold sameFs; apply decide_eq_true
  rw [List.take_length, hl, List.take_length] at h; exact h

set_option maxRecDepth 20000 in
set_option maxHeartbeats 8000000 in
theorem rsames_any (a : Option Addr) (len cap : Nat) (fs : List FrD) (a2 : Option Addr) (len2 cap2 : Nat) (gs : List FrD) (w : World) (hr : RowF w a len cap fs) (hr2 : RowF w a2 len2 cap2 gs) :
    Calls Try.prog 19 #[.slice a len cap, .slice a2 len2 cap2] w fun e w' => e = .returned (.bool (sameFs (fs.map FrD.val) (gs.map FrD.val))) ∧ Touch w w' (fun _ => False) := by
  have hl1 := hr.hlen
  have hl2 := hr2.hlen
  by_cases hn : len = len2
  case neg =>
    have hb : ((len : Int) != (len2 : Int)) = true := bne_iff_ne.2 (by omega)
    rw [sameFs_len (by simp; omega)]
    clear hr hr2 hl1 hl2 hn
    go_enter Try.func19, Try.ntmps19
    go_wp2
    go_ret
    exact ⟨rfl, Touch.refl _ _⟩
  case pos =>
  obtain rfl := hn
  have hb : ((len : Int) != (len : Int)) = false := bne_eq_false_iff_eq.2 rfl
  have HR := Lib.hid hr
  have HR2 := Lib.hid hr2
  have HL1 := Lib.hid hl1
  have HL2 := Lib.hid hl2
  have hcap := hr.hmax
  have hcap1 := hr.hcap
  clear hr hr2 hl1 hl2
  go_enter Try.func19, Try.ntmps19
  go_wp2_with fail
  go_loopw [13] (fun i wr => ∃ k : Nat, k ≤ len ∧ i = .int .i64 k ∧ Touch w wr (fun _ => False) ∧ (fs.map FrD.val).take k = (gs.map FrD.val).take k) (fun i _ => len - (intOf i).toNat)
  case atStart => exact ⟨0, Nat.zero_le _, rfl, Touch.refl _ _, by simp⟩
  case round =>
    obtain ⟨k, hk, rfl, ht, he⟩ := hrel
    have HE := Lib.hid he
    have HT := Lib.hid ht
    clear he ht
    by_cases hlt : k < len
    case neg =>
      obtain rfl : len = k := by omega
      have hlt' : ¬ (len : Int) < len := by omega
      go_wp2
      go_ret
      refine ⟨?_, HT.out⟩
      rw [sameFs_all (by simp; rw [HL1.out, HL2.out]) (by simpa [HL1.out] using HE.out)]
      rfl
    case pos =>
    have hr := HR.out.still HT.out
    have hr2 := HR2.out.still HT.out
    obtain ⟨b, off, rfl⟩ := hr.some (by omega)
    obtain ⟨b2, off2, rfl⟩ := hr2.some (by omega)
    have hk1 : k < fs.length := by rw [HL1.out]; exact hlt
    have hk2 : k < gs.length := by rw [HL2.out]; exact hlt
    obtain ⟨c0, c1, c2⟩ := hr.cells k hk1
    obtain ⟨d0, d1, d2⟩ := hr2.cells k hk2
    have HB1 := Lib.hid (hr.rows fs[k] (List.getElem_mem hk1))
    have HB2 := Lib.hid (hr2.rows gs[k] (List.getElem_mem hk2))
    have HV := Lib.hid (sameB_val fs[k] gs[k])
    have hn1 : ¬ ∀ h, (fs.map FrD.val)[k]'(by simpa using hk1) ≠ h := fun h => h _ rfl
    obtain ⟨f, hf⟩ : ∃ f, fs[k] = f := ⟨_, rfl⟩
    obtain ⟨g, hg⟩ : ∃ g, gs[k] = g := ⟨_, rfl⟩
    rw [hf] at c0 c1 c2 HB1 HV
    rw [hg] at d0 d1 d2 HB2 HV
    have HF : RowKit.Hid ((fs.map FrD.val)[k]'(by simpa using hk1) = f.val) := Lib.hid (by simp [hf])
    have HG : RowKit.Hid ((gs.map FrD.val)[k]'(by simpa using hk2) = g.val) := Lib.hid (by simp [hg])
    clear hr hr2 hf hg hn1
    have i1 : (k : Int) < len := by omega
    go_wp2_with fail
    obtain ⟨wd, hwd⟩ : ∃ W, wr.drew = W := ⟨_, rfl⟩
    have td : Touch wr wd (fun _ => False) := hwd ▸ (Touch.refl _ _).drew
    have HB1 := Lib.hid (HB1.out.touch td (fun _ _ => .inr (fun h => h)))
    have HB2 := Lib.hid (HB2.out.touch td (fun _ _ => .inr (fun h => h)))
    have HT := Lib.hid (HT.out.trans td (fun _ _ h => h))
    have HWD := Lib.hid hwd
    clear hwd td
    have hk3 : k + 1 ≤ len := hlt
    by_cases hv : f.val = g.val
    case neg =>
      have hS : sameB f.k f.v f.ys g.k g.v g.ys = false := by rw [HV.out]; exact decide_eq_false hv
      have HS := Lib.hid hS
      have HEND : RowKit.Hid (sameFs (fs.map FrD.val) (gs.map FrD.val) = false) := Lib.hid (sameFs_at k (by simpa using hk1) (by simpa using hk2) (by rw [HF.out, HG.out]; exact hv))
      clear hS hv
      go_still_tail 8, (by kernel_rfl)
      change wpList _ _ _ _ _ wr.drew
      rw [HWD.out]
      go_wp2_with (go_at_call 16; (with_reducible refine (rsame_any _ _ _ _ _ _ _ _ _ _ _ _ _ HB1.out HB2.out).mono ?_); rintro e w4 ⟨rfl, t4⟩; rw [HS.out]; have HT := Lib.hid (HT.out.trans t4 (fun _ _ h => h)); clear t4)
      go_ret
      exact ⟨by rw [HEND.out]; rfl, HT.out⟩
    case pos =>
      have hS : sameB f.k f.v f.ys g.k g.v g.ys = true := by rw [HV.out]; exact decide_eq_true hv
      have HS := Lib.hid hS
      have HE2 : RowKit.Hid ((fs.map FrD.val).take (k + 1) = (gs.map FrD.val).take (k + 1)) := Lib.hid (by
        rw [List.take_succ_eq_append_getElem (by simpa using hk1), List.take_succ_eq_append_getElem (by simpa using hk2), HE.out, HF.out, HG.out, hv])
      clear hS hv
      go_still_tail 8, (by kernel_rfl)
      change wpList _ _ _ _ _ wr.drew
      rw [HWD.out]
      go_wp2_with (go_at_call 16; (with_reducible refine (rsame_any _ _ _ _ _ _ _ _ _ _ _ _ _ HB1.out HB2.out).mono ?_); rintro e w4 ⟨rfl, t4⟩; rw [HS.out]; have HT := Lib.hid (HT.out.trans t4 (fun _ _ h => h)); clear t4)
      exact ⟨⟨k + 1, hk3, by go_num, HT.out, HE2.out⟩, by simp [intOf]; omega⟩
end Go.Proofs.Ytjmhfbfpndpkkaa
