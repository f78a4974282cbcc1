/- Rows of frames: read, of the call's own; are two the same? -/
import Derived.Test.YtibpnlhdpdfhiaaDoorGAZ
import Derived.Test.YtibpnlhdpdfhiaaDoorFrmArgsZ
import Derived.Deep.RegionHeld3
import Derived.StillTailTactics
import Derived.Deep.DeepCutAuto
set_option linter.unusedVariables false
namespace Go.Proofs.YtibpnlhdpdfhiaaDoor
open Go.RowKit

/-- What a frame is, without where it lies. -/
def FrD.val (f : FrD) : Int × Int × List Nat := (f.k, f.v, f.ys)
/-- A slice of frames reads as these. -/
structure RowF (w : World) (a : Option Addr) (len cap : Nat) (fs : List FrD) : Prop where
  hlen : fs.length = len
  hcap : len ≤ cap
  hmax : cap ≤ 9223372036854775807
  rows : ∀ f ∈ fs, RowB w f.a f.ys.length f.cap f.ys
  at_ : len = 0 ∨ ∃ b off, a = some ⟨b, off, none⟩ ∧ b < w.heap.size ∧ ∀ i (h : i < fs.length), w.cell? ⟨b, off + i * 3, none⟩ = some (.int .i64 fs[i].k) ∧ w.cell? ⟨b, off + i * 3 + 1, none⟩ = some (.int .i64 fs[i].v) ∧ w.cell? ⟨b, off + i * 3 + 2, none⟩ = some (.slice fs[i].a fs[i].ys.length fs[i].cap)
theorem RowF.nil (w : World) (a : Option Addr) (cap : Nat) (h : cap ≤ 9223372036854775807) : RowF w a 0 cap [] := ⟨rfl, Nat.zero_le _, h, by simp, .inl rfl⟩
theorem RowF.touch {w w' : World} {a : Option Addr} {len cap : Nat} {fs : List FrD} {S : Nat → Prop} (h : RowF w a len cap fs) (t : Touch w w' S) (h1 : ∀ x, a = some x → len = 0 ∨ ¬ S x.block) (h2 : ∀ f ∈ fs, ∀ x, f.a = some x → f.ys.length = 0 ∨ ¬ S x.block) : RowF w' a len cap fs := by
  refine ⟨h.hlen, h.hcap, h.hmax, fun f hf => (h.rows f hf).touch t (h2 f hf), ?_⟩
  rcases h.at_ with h0 | ⟨b, off, ha, hlt, hc⟩
  · exact .inl h0
  · by_cases h0 : len = 0
    · exact .inl h0
    · rcases h1 _ ha with h9 | h9
      · exact .inl h9
      · refine .inr ⟨b, off, ha, Nat.lt_of_lt_of_le hlt t.size, fun i hi => ?_⟩
        obtain ⟨g0, g1, g2⟩ := hc i hi
        exact ⟨(t.cell (p := ⟨b, off + i * 3, none⟩) hlt h9).trans g0, (t.cell (p := ⟨b, off + i * 3 + 1, none⟩) hlt h9).trans g1, (t.cell (p := ⟨b, off + i * 3 + 2, none⟩) hlt h9).trans g2⟩
theorem RowF.still {w w' : World} {a : Option Addr} {len cap : Nat} {fs : List FrD} (h : RowF w a len cap fs) (t : Touch w w' (fun _ => False)) : RowF w' a len cap fs :=
  h.touch t (fun _ _ => .inr (fun h => h)) (fun _ _ _ _ => .inr (fun h => h))
theorem RowF.take {w : World} {a : Option Addr} {len cap : Nat} {fs : List FrD} (h : RowF w a len cap fs) (k : Nat) (hk : k ≤ len) : RowF w a k cap (fs.take k) := by
  obtain ⟨h1, h2, h3, h4, h5⟩ := h
  refine ⟨by simp; omega, by omega, h3, fun f hf => h4 f (List.mem_of_mem_take hf), ?_⟩
  rcases h5 with h0 | ⟨b, off, ha, hlt, hc⟩
  · exact .inl (by omega)
  · refine .inr ⟨b, off, ha, hlt, fun i hi => ?_⟩
    simp at hi
    rw [List.getElem_take]
    exact hc i (by omega)
theorem RowF.some {w : World} {a : Option Addr} {len cap : Nat} {fs : List FrD} (h : RowF w a len cap fs) (h0 : 0 < len) : ∃ b off, a = .some ⟨b, off, none⟩ := by
  rcases h.at_ with h5 | ⟨b, off, ha, _⟩
  · omega
  · exact ⟨b, off, ha⟩
theorem RowF.cells {w : World} {b off len cap : Nat} {fs : List FrD} (h : RowF w (.some ⟨b, off, none⟩) len cap fs) (i : Nat) (hi : i < fs.length) :
    w.cell? ⟨b, off + i * 3, none⟩ = .some (.int .i64 fs[i].k) ∧ w.cell? ⟨b, off + i * 3 + 1, none⟩ = .some (.int .i64 fs[i].v) ∧ w.cell? ⟨b, off + i * 3 + 2, none⟩ = .some (.slice fs[i].a fs[i].ys.length fs[i].cap) := by
  rcases h.at_ with h5 | ⟨b', off', ha, _, hc⟩
  · have := h.hlen; omega
  · simp only [Option.some.injEq, Addr.mk.injEq] at ha
    obtain ⟨rfl, rfl, _⟩ := ha
    exact hc i hi

def sameFs (l r : List (Int × Int × List Nat)) : Bool := decide (l = r)
theorem sameFs_len {l r : List (Int × Int × List Nat)} (h : l.length ≠ r.length) : sameFs l r = false := by
  unfold sameFs; exact decide_eq_false (fun e => h (by rw [e]))
theorem sameB_val (f g : FrD) : sameB f.k f.v f.ys g.k g.v g.ys = decide (f.val = g.val) := by
  unfold sameB eqB FrD.val
  rw [Bool.eq_iff_iff]; simp
theorem sameFs_at {l r : List (Int × Int × List Nat)} (i : Nat) (h1 : i < l.length) (h2 : i < r.length) (h : l[i] ≠ r[i]) : sameFs l r = false := by
  unfold sameFs; exact decide_eq_false (fun e => h (by subst e; rfl))
theorem sameFs_all {l r : List (Int × Int × List Nat)} (hl : l.length = r.length) (h : l.take l.length = r.take l.length) : sameFs l r = true := by
  unfold sameFs; apply decide_eq_true
  rw [List.take_length, hl, List.take_length] at h; exact h

end Go.Proofs.YtibpnlhdpdfhiaaDoor
