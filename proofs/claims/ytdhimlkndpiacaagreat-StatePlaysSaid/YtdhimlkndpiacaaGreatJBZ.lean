/- JB: RecRIn, Mig, MigRec, RMig. -/
import Derived.Test.YtdhimlkndpiacaaGreatHDZ
import Derived.Test.YtdhimlkndpiacaaGreatHCZ
import Derived.Deep.RegionHeld3
import Derived.Laws.EntriesVeiled
import Derived.Test.YtdhimlkndpiacaaGreatGAZ
section
/- Records: as a format keeps them: the reference's In. -/
set_option linter.unusedVariables false
set_option linter.unusedSimpArgs false
namespace Go.Proofs.YtdhimlkndpiacaaGreat
open Go.RowKit

/-- At the head of the loop over the backends. -/
def RInL (w : World) (B Z top : Nat) (P : RecD) (a' : Option Addr) (c' base k : Nat) (wx : World) : Prop :=
  wx.heap[B]? = some (.cells (rcs P a' c') 41 (0, 0)) ∧ wx.heap[Z]? = some (.cells (rcs zeroR none 0) 41 (0, 0)) ∧ OwnK wx base (.slice a' P.bs.length c') (halfK P.bs k) ∧ Touch w wx (fun _ => False)
/-- The end: the record is handed back. -/
theorem rin_end {w wr : World} {Z base : Nat} {a4 : Option Addr} {c4 : Nat} (q : RecD) (bs : List BkD) {fn : Func} {x : Act} {p : Tmp} (hf : fn.results = #[.cell p 41]) (hd : x.defers = []) (hp : x.tmps.getD p undef = .pointer (some ⟨Z, 0, Option.none⟩))
    (hZ : wr.heap[Z]? = some (.cells (rcs zeroR none 0) 41 (0, 0))) (ho : OwnK wr base (.slice a4 bs.length c4) q.bs) (hb : q.bs.length = bs.length) (hT : Touch w wr (fun _ => False)) (h1 : w.heap.size ≤ Z) (h2 : Z < base) (h3 : w.heap.size ≤ base)
    (cs : Array Value) (hcs : cs = rcs q a4 c4) :
    bodyPost Tryz.prog fn (fun e w' => RecIs w w' q e) .ret x (wr.setRow Z cs) := by
  subst hcs
  have tS := (Touch.refl wr (fun k => k = Z)).setRow Z (rcs q a4 c4) (fun _ => rfl)
  refine ret_row hf hd Z 41 (rcs q a4 c4) (0, 0) _ hp (setRow_heap _ _ _ _ _ _ hZ) Tryz.underlying41 rfl infoRec ?_
  refine ⟨a4, c4, rfl, ?_, hT.trans tS (fun k h4 h5 => by omega)⟩
  rw [hb]
  exact (ho.touch tS (fun x hx h => by have h6 : base ≤ x := ((OwnS.own ho).lt x hx).1; omega)).rebase (fun x hx => by have h6 : base ≤ x := ((OwnS.own ho).lt x hx).1; omega)

end Go.Proofs.YtdhimlkndpiacaaGreat

end

section
/- Migration: what package migrate answers. -/
set_option linter.unusedVariables false
set_option linter.unusedSimpArgs false
namespace Go.Proofs.YtdhimlkndpiacaaGreat
open Go.RowKit

def leadB (f t : Int) : Bool := decide (1 ≤ f ∧ f ≤ t ∧ t ≤ 3)
theorem leadB_iff (f t : Int) : leadB f t = true ↔ (1 ≤ f ∧ f ≤ t ∧ t ≤ 3) := by unfold leadB; exact decide_eq_true_iff
set_option maxHeartbeats 1000000
def stepsN (f t : Int) : Int := if leadB f t = true then t - f else 0
def gen1 (q : RecD) : RecD := if q.kind = 1 then ⟨q.kind, q.t, q.fb, 1, q.fs, q.gen, q.bs, q.be, q.un, q.ct⟩ else q
def seen0 (q : RecD) : RecD := if q.kind = 1 then ⟨q.kind, q.t, q.fb, q.fg, 0, q.gen, q.bs, q.be, q.un, q.ct⟩ else q
theorem gen1_bs (q : RecD) : (gen1 q).bs = q.bs := by unfold gen1; split <;> rfl
theorem seen0_bs (q : RecD) : (seen0 q).bs = q.bs := by unfold seen0; split <;> rfl

/-- A record on its way. -/
def movD (r : RecD) (f t : Int) : RecD :=
  if f = 1 ∧ t = 2 then gen1 (inD r f) else if f = 1 ∧ t = 3 then seen0 (gen1 (inD r f)) else if f = 2 ∧ t = 3 then seen0 (inD r f) else inD r f

end Go.Proofs.YtdhimlkndpiacaaGreat

end

section
/- Migration: what Record of package migrate and the reference's Migrate answer. -/
set_option linter.unusedVariables false
set_option linter.unusedSimpArgs false
namespace Go.Proofs.YtdhimlkndpiacaaGreat
open Go.RowKit

theorem lead_cases {f t : Int} (h : leadB f t = true) : (f = 1 ∧ t = 1) ∨ (f = 1 ∧ t = 2) ∨ (f = 1 ∧ t = 3) ∨ (f = 2 ∧ t = 2) ∨ (f = 2 ∧ t = 3) ∨ (f = 3 ∧ t = 3) := by
  have := (leadB_iff f t).1 h; omega
/-- What a migration tells: its error, its record. -/
def migE (r : RecD) (f t : Int) : Int := if leadB f t = true then (if mayRB r = true then 0 else 1) else 10
def migR (r : RecD) (f t : Int) : RecD := if migE r f t = 0 then movD r f t else zeroR
def MigIs (w : World) (r : RecD) (f t : Int) (e : Ending) (w' : World) : Prop :=
  ∃ (a' : Option Addr) (c' : Nat), e = .returned (.tuple #[.agg (rcs (migR r f t) a' c'), .int .i64 (migE r f t)]) ∧ OwnK w' w.heap.size (.slice a' (migR r f t).bs.length c') (migR r f t).bs ∧ Touch w w' (fun _ => False)
theorem MigIs.bad {w w' : World} {r : RecD} {f t : Int} {e : Int} (h : migE r f t = e) (h0 : e ≠ 0) (ht : Touch w w' (fun _ => False)) : MigIs w r f t (.returned (.tuple #[.agg (rcs zeroR none 0), .int .i64 e])) w' := by
  have hr : migR r f t = zeroR := by unfold migR; rw [h, if_neg h0]
  refine ⟨none, 0, ?_, ?_, ht⟩
  · rw [hr, h]
  · rw [hr]; exact OwnK.none _ _
theorem MigIs.good {w w' : World} {r : RecD} {f t : Int} {a : Option Addr} {c : Nat} (h : migE r f t = 0) (ho : OwnK w' w.heap.size (.slice a (movD r f t).bs.length c) (movD r f t).bs) (ht : Touch w w' (fun _ => False)) : MigIs w r f t (.returned (.tuple #[.agg (rcs (movD r f t) a c), .int .i64 0])) w' := by
  have hr : migR r f t = movD r f t := by unfold migR; rw [h, if_pos rfl]
  refine ⟨a, c, ?_, ?_, ht⟩
  · rw [hr, h]
  · rw [hr]; exact ho

end Go.Proofs.YtdhimlkndpiacaaGreat

end

section
/- Migration: what the reference's Migrate and Steps answer. -/
set_option linter.unusedVariables false
set_option linter.unusedSimpArgs false
namespace Go.Proofs.YtdhimlkndpiacaaGreat
open Go.RowKit

theorem rmay_any (r : RecD) (a : Option Addr) (cap : Nat) (w : World) (hr : RowK w a r.bs.length cap r.bs) (hl : r.bs.length ≤ 100000) :
    Calls Tryz.prog 25 #[.agg (rcs r a cap)] w fun e w' => e = .returned (.bool (mayRB r)) ∧ Touch w w' (fun _ => False) := by
  by_cases h : r.kind < 1 ∨ 6 < r.kind
  · exact rmay_out r a cap w h
  · exact rmay_in r a cap w (by omega) (by omega) hr hl
theorem lead_ver (f t : Int) : leadB f t = true ↔ (verB f = true ∧ verB t = true ∧ ¬ t < f) := by rw [leadB_iff, verB_iff, verB_iff]; omega
end Go.Proofs.YtdhimlkndpiacaaGreat

end
