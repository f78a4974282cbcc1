/- HB: MagW, SumWalk, SumWalk2, SumWalk3, MagR. -/
import Derived.Test.YtgmimdnebgncoaaGreatHAZ
import Derived.Test.YtgmimdnebgncoaaGreatGAZ
import Derived.Deep.LoopGhost
import Derived.StillTailTactics
import Derived.WalkKit
import Derived.WalkLawsBesides
import Derived.LoopTactic
import Derived.Outline
import Derived.Below
import Derived.Lib.Hide
import Derived.Deep.QuietTactic
import Derived.BigQuiet
import Derived.Test.YtgmimdnebgncoaaGreatGCZ
section
/- The slots, the rows as cells; a row takes the next free slot; all slots are filled. -/
set_option linter.unusedVariables false
namespace Go.Proofs.YtgmimdnebgncoaaGreat
open Go.RowKit

def cI (x : Int) : List Value := [.int .i64 x]
def Rw.cells (r : Rw) : List Value := [.int .i64 r.id, .int .i64 r.wt, .int .i64 r.pos, .int .i64 r.sk]
/-- The slots, of the call's own. -/
def OwnT (w : World) (base : Nat) (v : Value) (T : List Int) : Prop := OwnS w base 3 1 v (T.map cI)
section
variable {w w' : World} {B G n c : Nat} {T : List Int} {rs : List Rw} {v : Value}
theorem OwnT.touch {S : Nat → Prop} (h : OwnT w B v T) (t : Touch w w' S) (h1 : ∀ x, v.ownBlock = some x → ¬ S x) : OwnT w' B v T := OwnS.touch h t h1
theorem OwnT.drew1 (h : OwnT w B v T) : OwnT w.drew B v T := h.touch (Touch.refl w (fun _ => False)).drew (fun _ _ h => h)
theorem OwnT.len (h : OwnT w B (.slice (some ⟨G, 0, none⟩) n c) T) : T.length = n := by have := (OwnS.row' h).1; simpa using this
theorem OwnT.at_ (h : OwnT w B (.slice (some ⟨G, 0, none⟩) n c) T) (i : Nat) (hi : i < T.length) : w.cell? ⟨G, i, none⟩ = some (.int .i64 T[i]) := by
  have := (OwnS.row' h).2.1.cell i (by simpa using hi) 0 (.int .i64 T[i]) (by simp [cI])
  simpa using this
theorem OwnT.free (h : OwnT w B (.slice (some ⟨G, 0, none⟩) n c) T) (i : Nat) : w.frozen? ⟨G, i, none⟩ = false := OwnS.free h i
theorem OwnT.stored (h : OwnT w B (.slice (some ⟨G, 0, none⟩) n c) T) (i : Nat) (hi : i < T.length) (x : Int) : OwnT (w.setCell ⟨G, i, none⟩ (.int .i64 x)) B (.slice (some ⟨G, 0, none⟩) n c) (T.set i x) := by
  have := OwnS.stored h i (by simpa using hi) 0 (by omega) (.int .i64 x)
  simp only [Nat.mul_one, Nat.add_zero] at this
  unfold OwnT
  rw [List.map_set]
  simpa [cI] using this
theorem OwnT.lt (h : OwnT w B (.slice (some ⟨G, 0, none⟩) n c) T) : B ≤ G ∧ G < w.heap.size := (OwnS.row' h).2.2 _ rfl
end

theorem mod_turn {q all x : Nat} (h : x < all) : (q * all + x) % all = x := by
  rw [Nat.mul_comm, Nat.mul_add_mod, Nat.mod_eq_of_lt h]

end Go.Proofs.YtgmimdnebgncoaaGreat

end

section
/- What the functions of package sum answer: low, Fold, Part, Net, Fix, and the reference's own. Conditions: the numbers lie within their kinds; the bytes are read as a row of bytes. -/
set_option linter.unusedVariables false
namespace Go.Proofs.YtgmimdnebgncoaaGreat
open Go.RowKit

end Go.Proofs.YtgmimdnebgncoaaGreat

end

section
/- What the other functions of package sum answer: Fold, Net, Fix, Crc, Mix, and the reference's own. -/
set_option linter.unusedVariables false
namespace Go.Proofs.YtgmimdnebgncoaaGreat
open Go.RowKit

theorem xor_ones16 (a : Nat) (h : a < 65536) : 65535 ^^^ a = 65535 - a := by
  have e : 65535 ^^^ a = (BitVec.allOnes 16 ^^^ BitVec.ofNat 16 a).toNat := by
    rw [BitVec.toNat_xor, BitVec.toNat_allOnes, BitVec.toNat_ofNat, Nat.mod_eq_of_lt h]
  rw [e, BitVec.allOnes_xor, BitVec.toNat_not, BitVec.toNat_ofNat, Nat.mod_eq_of_lt h]
theorem xor_ones32 (a : Nat) (h : a < 4294967296) : 4294967295 ^^^ a = 4294967295 - a := by
  have e : 4294967295 ^^^ a = (BitVec.allOnes 32 ^^^ BitVec.ofNat 32 a).toNat := by
    rw [BitVec.toNat_xor, BitVec.toNat_allOnes, BitVec.toNat_ofNat, Nat.mod_eq_of_lt h]
  rw [e, BitVec.allOnes_xor, BitVec.toNat_not, BitVec.toNat_ofNat, Nat.mod_eq_of_lt h]
theorem not16 (s : Int) (h : 0 ≤ s) (h2 : s ≤ 65535) : bits BinOp.xor IntKind.u16 IntKind.u16.max s = 65535 - s := by
  obtain ⟨a, rfl⟩ := Int.eq_ofNat_of_zero_le h
  have e : IntKind.u16.max = ((65535 : Nat) : Int) := rfl
  rw [e, u16_xor_nat 65535 a (by omega) (by omega), xor_ones16 a (by omega)]
  omega
theorem not32 (a : Nat) (h : a < 4294967296) : bits BinOp.xor IntKind.u32 IntKind.u32.max (a : Int) = 4294967295 - a := by
  have e : IntKind.u32.max = ((4294967295 : Nat) : Int) := rfl
  rw [e, u32_xor_nat 4294967295 a (by omega) (by omega), xor_ones32 a (by omega)]
  omega

end Go.Proofs.YtgmimdnebgncoaaGreat

end

section
/- What Net, Fix, Mix of package sum answer, and the reference's own. -/
set_option linter.unusedVariables false
namespace Go.Proofs.YtgmimdnebgncoaaGreat
open Go.RowKit

theorem or8 (x y : Nat) (hx : x < 256) (hy : y < 256) : bits BinOp.or IntKind.u32 ((x : Int) * 256) (y : Int) = (x : Int) * 256 + y :=
  bits_join .u32 32 (by decide) (fun n a b => by rw [IntKind.wrap_u32]; omega) 8 _ _ (by omega) (by omega) (by omega) (by omega) (by omega) (by omega)

def fixF (sum old now : Int) : Int := foldF (65535 - sum + (65535 - old) + now)

end Go.Proofs.YtgmimdnebgncoaaGreat

end

section
/- May a table have so many slots; a backend's row; may a set of backends be. -/
set_option linter.unusedVariables false
namespace Go.Proofs.YtgmimdnebgncoaaGreat
open Go.RowKit

def mayS (n : Nat) : Bool := (List.range 16).all (fun k => decide (¬ (2 ≤ k ∧ k * k ≤ n ∧ n % k = 0)))
theorem mayS_iff (n : Nat) : mayS n = true ↔ ∀ k, k < 16 → ¬ (2 ≤ k ∧ k * k ≤ n ∧ n % k = 0) := by
  unfold mayS; rw [List.all_eq_true]; simp only [List.mem_range, decide_eq_true_iff]
theorem prm_may {n : Nat} (h : Prm n) : mayS n = true := by
  rw [mayS_iff]
  rintro k hk ⟨h2, hkk, hm⟩
  have hlt : k < n := by
    have := Nat.mul_le_mul_right k h2
    have := h.lo
    omega
  obtain ⟨i, _, he⟩ := h.inv k hlt (by omega)
  have hd : k ∣ n := Nat.dvd_of_mod_eq_zero hm
  have h1 : k ∣ k * i % n := (Nat.dvd_mod_iff hd).2 ⟨i, rfl⟩
  rw [he] at h1
  have := Nat.le_of_dvd (by omega) h1
  omega

/-- One of a set may stand where it stands. -/
def okAt (bs : List BkD) (i : Nat) : Bool := match bs[i]? with
  | none => true
  | some b => mayKB b && (i == 0 || match bs[i - 1]? with | none => true | some a => decide (a.id < b.id))
def gmay (bs : List BkD) : Bool := decide (bs.length ≤ 16) && (List.range bs.length).all (okAt bs)
theorem gmay_iff (bs : List BkD) : gmay bs = true ↔ bs.length ≤ 16 ∧ ∀ i, i < bs.length → okAt bs i = true := by
  unfold gmay; rw [Bool.and_eq_true, decide_eq_true_iff, List.all_eq_true]; simp only [List.mem_range]
theorem okAt_zero {bs : List BkD} {b : BkD} (h : bs[0]? = some b) : okAt bs 0 = mayKB b := by unfold okAt; rw [h]; simp
theorem okAt_succ {bs : List BkD} {i : Nat} {a b : BkD} (h : bs[i + 1]? = some b) (h2 : bs[i]? = some a) : okAt bs (i + 1) = (mayKB b && decide (a.id < b.id)) := by unfold okAt; rw [h]; simp [h2]

end Go.Proofs.YtgmimdnebgncoaaGreat

end
