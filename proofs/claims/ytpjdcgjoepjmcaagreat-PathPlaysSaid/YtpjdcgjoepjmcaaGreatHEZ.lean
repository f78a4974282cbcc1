import Derived.Test.YtpjdcgjoepjmcaaGreatHDZ
import Derived.Test.YtpjdcgjoepjmcaaGreatGBZ
import Derived.Test.YtpjdcgjoepjmcaaGreatGAZ
import Derived.Deep.RegionHeld3
set_option linter.unusedVariables false
set_option linter.unusedSimpArgs false
section
namespace Go.Proofs.YtpjdcgjoepjmcaaGreat
open Go.RowKit
def rawD (k v : Int) (xs : List Nat) : RecD :=
 if k = 1 then ⟨1, rtF xs, (valN 2 (nxtX 13 xs) : Nat), if v < 2 then 0 else (valN 4 (nxtX 15 xs) : Nat), if v < 3 then 0 else sgn (valN 8 (nxtX 19 xs)), 0, [], 0, 0, 0⟩
 else if k = 2 then ⟨2, rtF xs, 0, 0, 0, 0, [], 0, 0, 0⟩
 else if k = 3 then ⟨3, noT, 0, 0, 0, (valN 4 xs : Nat), bksV v (valN 1 (nxtX 4 xs)) (nxtX 5 xs), 0, 0, 0⟩
 else if k = 4 then ⟨4, noT, 0, 0, 0, 0, [], (valN 2 xs : Nat), sgn (valN 8 (nxtX 2 xs)), 0⟩
 else if k = 5 then ⟨5, noT, 0, 0, 0, 0, [], (valN 2 xs : Nat), 0, 0⟩
 else if k = 6 then ⟨6, noT, 0, 0, 0, 0, [], 0, 0, (valN 4 xs : Nat)⟩
 else ⟨k, noT, 0, 0, 0, 0, [], 0, 0, 0⟩
def lenD (k v : Int) (xs : List Nat) : Nat :=
 if k = 1 then flW v else if k = 2 then 13 else if k = 3 then 5 + valN 1 (nxtX 4 xs) * bkW v else if k = 4 then 10 else if k = 5 then 2 else if k = 6 then 4 else 0
def decD (k v : Int) (xs : List Nat) : RecD := inD (rawD k v xs) v
def decB (k v : Int) (xs : List Nat) : Bool := decide (lenD k v xs = xs.length) && mayRB (decD k v xs)
def decE (k v : Int) (xs : List Nat) : Int := if verB v = true then (if decB k v xs = true then 0 else 3) else 10
theorem i1 (n : Int) (h : 0 ≤ n ∧ n < 256) : (((u64N n % 256 : Nat)) : Int) = n := by unfold u64N; omega
theorem i2 (n : Int) (h : 0 ≤ n ∧ n < 65536) : (((u64N n % 65536 : Nat)) : Int) = n := by unfold u64N; omega
def w0K (b : BkD) : BkD := ⟨b.id, b.addr, 0⟩
end Go.Proofs.YtpjdcgjoepjmcaaGreat
end
section
namespace Go.Proofs.YtpjdcgjoepjmcaaGreat
open Go.RowKit
def NumS (w : World) (G : Nat) (D : Nat → Prop) (xs : List Nat) (err : Int) (E : TypeId) (vs : List Value) (n : Nat) (l : Value) (wr : World) : Prop :=
 wr.ownsRow w.heap.size E 1 l vs.length vs ∧ RdD wr G (fun k => D k ∨ w.heap.size ≤ k) (nxtX n xs) (nxtE n xs err) ∧ Touch w wr (fun k => k = G)
def NumIs (w : World) (G : Nat) (D : Nat → Prop) (xs : List Nat) (err : Int) (vs : List Value) (n : Nat) (e : Ending) (wr : World) : Prop :=
 ∃ g c, e = .returned (.slice (some ⟨g, 0, none⟩) vs.length c) ∧ w.heap.size ≤ g ∧ g < wr.heap.size ∧ (∀ (j : Nat) u, vs[j]? = some u → wr.cell? ⟨g, j, none⟩ = some u) ∧ RdD wr G D (nxtX n xs) (nxtE n xs err) ∧ Touch w wr (fun k => k = G)
def NAt32 (w : World) (G : Nat) (D : Nat → Prop) (xs : List Nat) (err : Int) (l i : Value) (wr : World) : Prop :=
 (i = .int .i64 0 ∧ NumS w G D xs err 24 [] 0 l wr) ∨ (i = .int .i64 1 ∧ NumS w G D xs err 24 [.int .u32 (valN 4 xs : Nat)] 4 l wr) ∨ (i = .int .i64 2 ∧ NumS w G D xs err 24 [.int .u32 (valN 4 xs : Nat), .int .u32 (valN 4 (nxtX 4 xs) : Nat)] 8 l wr)
def NAt64 (w : World) (G : Nat) (D : Nat → Prop) (xs : List Nat) (err : Int) (l i : Value) (wr : World) : Prop :=
 (i = .int .i64 0 ∧ NumS w G D xs err 3 [] 0 l wr) ∨ (i = .int .i64 1 ∧ NumS w G D xs err 3 [.int .i64 (valN 1 xs : Nat)] 1 l wr) ∨ (i = .int .i64 2 ∧ NumS w G D xs err 3 [.int .i64 (valN 1 xs : Nat), .int .i64 (valN 2 (nxtX 1 xs) : Nat)] 3 l wr) ∨ (i = .int .i64 3 ∧ NumS w G D xs err 3 [.int .i64 (valN 1 xs : Nat), .int .i64 (valN 2 (nxtX 1 xs) : Nat), .int .i64 (valN 2 (nxtX 3 xs) : Nat)] 5 l wr)
end Go.Proofs.YtpjdcgjoepjmcaaGreat
end
section
namespace Go.Proofs.YtpjdcgjoepjmcaaGreat
open Go.RowKit
def TReadIs (w : World) (G : Nat) (D : Nat → Prop) (xs : List Nat) (err : Int) (e : Ending) (w' : World) : Prop :=
 e = .returned (.tuple #[.agg (tcs (rtF xs)), .bool (rtB xs)]) ∧ RdD w' G D (nxtX 13 xs) (nxtE 13 xs err) ∧ Touch w w' (fun k => k = G)
end Go.Proofs.YtpjdcgjoepjmcaaGreat
end
section
namespace Go.Proofs.YtpjdcgjoepjmcaaGreat
open Go.RowKit
def bytesT (ts : List TupD) : List Nat := ts.flatMap tbF
end Go.Proofs.YtpjdcgjoepjmcaaGreat
end
