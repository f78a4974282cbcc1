/- GB: OctW, OctN, OctC, Gen, OctR, OctQ, OctS, OctRef, OctRfr, OctRfn, OctRaw, OctTwo, WrE, OctBackMath. -/
import Derived.Test.YtgpchkobjgglhaaGreatDoorGAZ
import Derived.Deep.RegionLaw
import Derived.Deep.AppendLies
import Derived.WalkSpells
section
/- What the calls of an octet.Writer answer and leave. -/
set_option linter.unusedVariables false
namespace Go.Proofs.YtgpchkobjgglhaaGreatDoor
open Go.RowKit

/-- The writer in block G has put the bytes xs; v is its slice. -/
structure WrB (w : World) (base : Nat) (G : Nat) (v : Value) (xs : List Nat) : Prop where
  head : ∃ T, w.heap[G]? = some (.cells #[v] T (0, 0))
  low : base ≤ G
  own : OwnB w base 5 v xs
  apart : v.ownBlock ≠ some G

theorem WrB.foot {w : World} {base G : Nat} {v : Value} {xs : List Nat} (h : WrB w base G v xs) : G < w.heap.size ∧ ∀ k, v.ownBlock = some k → base ≤ k ∧ k < w.heap.size :=
  ⟨by obtain ⟨T, e⟩ := h.head; exact (Array.getElem?_eq_some_iff.1 e).1, fun k hk => h.own.own.lt k hk⟩
theorem WrB.touch {w w' : World} {base G : Nat} {v : Value} {xs : List Nat} {S : Nat → Prop} (h : WrB w base G v xs) (t : Touch w w' S) (hG : ¬ S G) (hv : ∀ k, v.ownBlock = some k → ¬ S k) : WrB w' base G v xs :=
  ⟨h.head.imp fun _ e => (t.block G h.foot.1 hG).trans e, h.low, h.own.touch t hv, h.apart⟩
theorem WrB.drewN {w : World} {base G : Nat} {v : Value} {xs : List Nat} (h : WrB w base G v xs) (n : Nat) : WrB (w.drewN n) base G v xs := ⟨h.head, h.low, h.own.drewN n, h.apart⟩

/-- What a call leaves that puts bytes: the writer with more bytes, at most its own blocks touched. -/
def PutB (base G : Nat) (v : Value) (w : World) (zs : List Nat) (w' : World) : Prop :=
  ∃ v', WrB w' base G v' zs ∧ Touch w w' (fun k => k = G ∨ v.ownBlock = some k) ∧ (∀ k, v'.ownBlock = some k → v.ownBlock = some k ∨ w.heap.size ≤ k)

theorem PutB.refl {base G : Nat} {v : Value} {w : World} {xs : List Nat} (h : WrB w base G v xs) : PutB base G v w xs w :=
  ⟨v, h, Touch.refl _ _, fun k hk => .inl hk⟩
theorem PutB.trans {base G : Nat} {v v1 : Value} {w w1 w2 : World} {ys zs : List Nat} (h : WrB w1 base G v1 ys ∧ Touch w w1 (fun k => k = G ∨ v.ownBlock = some k) ∧ (∀ k, v1.ownBlock = some k → v.ownBlock = some k ∨ w.heap.size ≤ k))
    (g : PutB base G v1 w1 zs w2) : PutB base G v w zs w2 := by
  obtain ⟨h1, h2, h3⟩ := h
  obtain ⟨v2, g1, g2, g3⟩ := g
  refine ⟨v2, g1, h2.trans g2 (fun k hk ht => ?_), fun k hk => ?_⟩
  · rcases ht with rfl | ht
    · exact .inl rfl
    · rcases h3 k ht with h | h
      · exact .inr h
      · omega
  · rcases g3 k hk with h | h
    · exact h3 k h
    · exact .inr (Nat.le_trans h2.size h)

end Go.Proofs.YtgpchkobjgglhaaGreatDoor

end

section
/- What an octet.Writer's numbers leave: their bytes, the highest first. -/
set_option linter.unusedVariables false
namespace Go.Proofs.YtgpchkobjgglhaaGreatDoor
open Go.RowKit

/-- The lowest bytes of x, so many, the highest of these first. -/
def beB (width x : Nat) : List Nat := (List.range width).map fun i => x / 2 ^ (8 * (width - 1 - i)) % 256
theorem beB_length (width x : Nat) : (beB width x).length = width := by simp [beB]
theorem beB_small (width x : Nat) : ∀ y ∈ beB width x, y < 256 := by
  intro y hy
  simp only [beB, List.mem_map] at hy
  obtain ⟨i, _, rfl⟩ := hy
  omega
theorem beB_step (width x k : Nat) (h : k < width) : (beB width x).take (k + 1) = (beB width x).take k ++ [x / 2 ^ (8 * (width - 1 - k)) % 256] := by
  rw [List.take_succ_eq_append_getElem (by rw [beB_length]; exact h)]
  congr 1
  simp [beB]

end Go.Proofs.YtgpchkobjgglhaaGreatDoor

end

section
/- What the calls of an octet.Writer answer: U8, U16, U32, I64, Bytes, Len; of one that there isn't, too. -/
set_option linter.unusedVariables false
namespace Go.Proofs.YtgpchkobjgglhaaGreatDoor
open Go.RowKit

/-- A number as 64 bits. -/
def u64N (n : Int) : Nat := (n % 18446744073709551616).toNat
theorem u64N_lt (n : Int) : u64N n < 18446744073709551616 := by unfold u64N; omega
theorem u64N_wrap (n : Int) : IntKind.u64.wrap n = (u64N n : Nat) := by rw [IntKind.wrap_u64]; unfold u64N; omega

/-- A slice that is a row of its own, all of it new: what a call hands back. -/
def FreshB (w w' : World) (v : Value) (xs : List Nat) : Prop :=
  OwnB w' w.heap.size 5 v xs ∧ Touch w w' (fun _ => False)

theorem FreshB.touch {w w' : World} {v : Value} {xs : List Nat} (h : FreshB w w' v xs) : Touch w w' (fun _ => False) := h.2
theorem FreshB.row {w w' : World} {v : Value} {xs : List Nat} (h : FreshB w w' v xs) : ∃ a cap, v = .slice a xs.length cap ∧ RowB w' a xs.length cap xs := by
  obtain ⟨a, cap, hv, hr, _⟩ := h.1.row
  exact ⟨a, cap, hv, hr⟩

end Go.Proofs.YtgpchkobjgglhaaGreatDoor

end

section
/- Small words of many walks: rows of a constant's bytes, new rows, what a touch leaves. -/
set_option linter.unusedVariables false
namespace Go.Proofs.YtgpchkobjgglhaaGreatDoor
open Go.RowKit

/-- A row that was just laid, with the mark of a constant behind it. -/
theorem row_mark (w : World) (cs : Array Value) (m : Nat × Nat) (n : Nat) (xs : List Nat) (hcs : cs.toList = xs.map cellB) (hn : xs.length = n) (hx : ∀ x ∈ xs, x < 256) (hs : n ≤ 281474976710656) :
    RowB (w.alloc (.cells cs 5 m)) (some ⟨w.heap.size, 0, none⟩) n n xs := by
  refine RowB.new w _ rfl cs _ m n xs hn hs hx (fun i hi => ?_)
  have := congrArg (fun l : List Value => l[i]?) hcs
  simp only [List.getElem?_map, List.getElem?_eq_getElem hi] at this
  simpa [cellB] using this
theorem Touch.under {w w' : World} {B : Nat} (t : Touch w w' (fun _ => False)) (h : B ≤ w.heap.size) : Below B w w' := t.below (fun _ _ h => h.elim) h
theorem FreshB.row' {w w' : World} {a : Option Addr} {n c : Nat} {xs : List Nat} (h : FreshB w w' (.slice a n c) xs) : xs.length = n ∧ RowB w' a n c xs := by
  obtain ⟨a', c', hv, hr⟩ := h.row
  simp only [Value.slice.injEq] at hv
  obtain ⟨rfl, hn, rfl⟩ := hv
  rw [hn]
  exact ⟨rfl, hr⟩
theorem fresh_nil {w w' : World} (t : Touch w w' (fun _ => False)) : FreshB w w' (.slice none 0 0) [] := ⟨OwnB.nil _ _ _, t⟩

/-- A new row stays new where blocks are touched that are the call's own and were there before it. -/
theorem FreshB.past {w w7 w8 w9 : World} {v : Value} {ys : List Nat} {S : Nat → Prop} (h : FreshB w7 w8 v ys) (T : Touch w w7 (fun _ => False)) (t : Touch w8 w9 S) (hS : ∀ k, S k → w.heap.size ≤ k ∧ k < w7.heap.size) : FreshB w w9 v ys := by
  obtain ⟨ho, ht⟩ := h
  have hs := T.size
  refine ⟨(ho.base (fun k hk => ?_)).touch t (fun k hk hs2 => ?_), (T.trans ht (fun _ _ h => h)).trans t (fun k hk h => by have := (hS k h).1; omega)⟩
  · have := (ho.own.lt k hk).1; omega
  · have := (ho.own.lt k hk).1; have := (hS k hs2).2; omega
end Go.Proofs.YtgpchkobjgglhaaGreatDoor

end

section
/- What the calls of an octet.Reader answer and leave. -/
set_option linter.unusedVariables false
namespace Go.Proofs.YtgpchkobjgglhaaGreatDoor
open Go.RowKit

end Go.Proofs.YtgpchkobjgglhaaGreatDoor

end

section
/- What octet.whole answers: the number whose bytes a reader has taken. -/
set_option linter.unusedVariables false
namespace Go.Proofs.YtgpchkobjgglhaaGreatDoor
open Go.RowKit

/-- The number whose bytes these are, the highest first. -/
def beN (l : List Nat) : Nat := l.foldl (fun x c => x * 256 + c) 0
theorem beN_snoc (l : List Nat) (c : Nat) : beN (l ++ [c]) = beN l * 256 + c := by simp [beN]
theorem beN_step (l : List Nat) (k : Nat) (h : k < l.length) : beN (l.take (k + 1)) = beN (l.take k) * 256 + l[k] := by
  rw [List.take_succ_eq_append_getElem h, beN_snoc]
theorem beN_lt (l : List Nat) (h : ∀ x ∈ l, x < 256) : ∀ k, k ≤ l.length → beN (l.take k) < 256 ^ k
  | 0, _ => by simp [beN]
  | k + 1, hk => by
    have h1 := beN_lt l h k (by omega)
    rw [beN_step l k (by omega), Nat.pow_succ]
    have h2 := h _ (List.getElem_mem (show k < l.length by omega))
    have : (beN (l.take k) + 1) * 256 ≤ 256 ^ k * 256 := Nat.mul_le_mul_right _ h1
    omega
theorem or64 (x y : Nat) (hx : x < 72057594037927936) (hy : y < 256) : bits BinOp.or IntKind.u64 ((x : Int) * 256) (y : Int) = ((x * 256 + y : Nat) : Int) := by
  have e := bits_join .u64 64 (by decide) (fun n a b => by rw [IntKind.wrap_u64]; omega) 8 ((x : Int) * 256) (y : Int) (by omega) (by omega) (by omega) (by omega) (by omega) (by omega)
  rw [e]; omega

end Go.Proofs.YtgpchkobjgglhaaGreatDoor

end

section
/- What an octet.Reader's numbers, Raw, Left, End and NewReader answer. -/
set_option linter.unusedVariables false
namespace Go.Proofs.YtgpchkobjgglhaaGreatDoor
open Go.RowKit

/-- A number of 64 bits as a signed one. -/
def sgn (x : Nat) : Int := if x < 9223372036854775808 then x else (x : Int) - 18446744073709551616
theorem sgn_wrap (x : Nat) (h : x < 18446744073709551616) : IntKind.i64.wrap (x : Int) = sgn x := by
  rw [IntKind.wrap_i64]; unfold sgn; split <;> omega
theorem sgn_small (x : Nat) (h : x < 9223372036854775808) : sgn x = x := by unfold sgn; rw [if_pos h]
theorem sgn_w64 (x : Nat) (h : x < 18446744073709551616) : wrap64 (x : Int) = sgn x := by
  unfold wrap64 sgn; split <;> omega

/-- What End tells. -/
def endOf (len : Nat) (err : Int) : Int := if err = 0 then (if len = 0 then 0 else 3) else err
end Go.Proofs.YtgpchkobjgglhaaGreatDoor

end

section
/- What the reference's numbers as bytes are. -/
set_option linter.unusedVariables false
namespace Go.Proofs.YtgpchkobjgglhaaGreatDoor
open Go.RowKit

theorem be_two (n : Int) : [Value.int .u8 (n / 256 % 256), Value.int .u8 (n % 256)] = (beB 2 (u64N n)).map cellB := by
  simp [beB, List.range_succ, cellB, u64N]
  omega
theorem be_four (n : Int) (hn : 0 ≤ n ∧ n ≤ 4294967295) : [Value.int .u8 (n / 16777216), Value.int .u8 (n / 65536 % 256), Value.int .u8 (n / 256 % 256), Value.int .u8 (n % 256)] = (beB 4 (u64N n)).map cellB := by
  simp [beB, List.range_succ, cellB, u64N]
  omega
theorem be_eight (x : Nat) (hx : x < 18446744073709551616) : beB 4 (u64N ((x : Int) / 4294967296)) ++ beB 4 (u64N ((x : Int) % 4294967296)) = beB 8 x := by
  simp [beB, List.range_succ, u64N]
  omega

set_option maxHeartbeats 1000000 in
theorem ref_u32 (n : Int) (w : World) (hn : 0 ≤ n ∧ n ≤ 4294967295) :
    Calls Tryz.prog 55 #[.int .u32 n] w fun e w' => ∃ a' cap', e = .returned (.slice a' 4 cap') ∧ FreshB w w' (.slice a' 4 cap') (beB 4 (u64N n)) := by
  go_enter Tryz.func55, Tryz.ntmps55
  go_wp2_with fail
  go_ret
  exact ⟨_, _, rfl, OwnB.lit w _ rfl _ (Nat.le_refl _) _ _ _ _ (be_four n hn) (beB_length _ _) (beB_small _ _) (by decide), (Touch.refl _ _).alloc _⟩
end Go.Proofs.YtgpchkobjgglhaaGreatDoor

end

section
/- What the reference's reader answers and leaves. -/
set_option linter.unusedVariables false
namespace Go.Proofs.YtgpchkobjgglhaaGreatDoor
open Go.RowKit

end Go.Proofs.YtgpchkobjgglhaaGreatDoor

end

section
/- What the reference's reader's numbers and End answer; both readers' answers as one. -/
set_option linter.unusedVariables false
namespace Go.Proofs.YtgpchkobjgglhaaGreatDoor
open Go.RowKit

/-- The number of the first n bytes, if they are there; what is left, and the error, behind that. -/
def valN (n : Nat) (xs : List Nat) : Nat := if n ≤ xs.length then beN (xs.take n) else 0
def rawN (n : Nat) (xs : List Nat) : List Nat := if n ≤ xs.length then xs.take n else []
def nxtX (n : Nat) (xs : List Nat) : List Nat := if n ≤ xs.length then xs.drop n else []
def nxtE (n : Nat) (xs : List Nat) (err : Int) : Int := if n ≤ xs.length then err else 2
theorem valN_lt (n : Nat) (xs : List Nat) (h : ∀ x ∈ xs, x < 256) : valN n xs < 256 ^ n := by
  unfold valN; split
  · exact beN_lt xs h n (by assumption)
  · exact Nat.pow_pos (by omega)
theorem nxt_small (n : Nat) (xs : List Nat) (h : ∀ x ∈ xs, x < 256) : ∀ x ∈ nxtX n xs, x < 256 := by
  unfold nxtX; split
  · exact fun x hx => h x (List.mem_of_mem_drop hx)
  · simp
theorem nxt_short (n : Nat) (xs : List Nat) : (nxtX n xs).length ≤ xs.length := by
  unfold nxtX; split <;> simp
theorem nxt_err (n : Nat) (xs : List Nat) (err : Int) (h : err = 0 ∨ xs = []) : nxtE n xs err = 0 ∨ nxtX n xs = [] := by
  unfold nxtE nxtX; split
  · rcases h with h | h
    · exact .inl h
    · right; subst h; simp
  · exact .inr rfl

theorem nxt_bad {n : Nat} {xs : List Nat} {err : Int} (hn : ¬ n ≤ xs.length) : nxtX n xs = [] ∧ nxtE n xs err = 2 ∧ valN n xs = 0 ∧ rawN n xs = [] := by
  unfold nxtX nxtE valN rawN; simp [hn]


end Go.Proofs.YtgpchkobjgglhaaGreatDoor

end

section
/- Raw of both readers as one. -/
set_option linter.unusedVariables false
namespace Go.Proofs.YtgpchkobjgglhaaGreatDoor
open Go.RowKit

/-- A new row that a call hands back. -/
def GotR (w w' : World) (v : Value) (ys : List Nat) : Prop := ∃ a3 c3, v = .slice a3 ys.length c3 ∧ RowB w' a3 ys.length c3 ys ∧ ∀ x, a3 = some x → w.heap.size ≤ x.block
theorem GotR.none (w w' : World) : GotR w w' (.slice Option.none 0 0) [] := ⟨Option.none, 0, rfl, RowB.nil _ _ _ (by omega), fun x hx => by cases hx⟩
theorem GotR.touch {w w1 w2 : World} {v : Value} {ys : List Nat} {M : Nat} (h : GotR w w1 v ys) (t : Touch w1 w2 (fun k => k = M)) (hM : M < w.heap.size) : GotR w w2 v ys := by
  obtain ⟨a, c, h1, h2, h3⟩ := h
  exact ⟨a, c, h1, h2.touch t (fun x hx => .inr (fun e => by have := h3 x hx; omega)), h3⟩

end Go.Proofs.YtgpchkobjgglhaaGreatDoor

end

section
/- A writer, and a row of its own beside it. -/
set_option linter.unusedVariables false
namespace Go.Proofs.YtgpchkobjgglhaaGreatDoor
open Go.RowKit

/-- A writer that has put xs, and beside it a row of one's own, ys. -/
structure Two (w : World) (base G : Nat) (v vw : Value) (xs ys : List Nat) : Prop where
  wr : WrB w base G v xs
  own : OwnB w base 5 vw ys
  apG : vw.ownBlock ≠ some G
  ap : ∀ k, v.ownBlock = some k → vw.ownBlock ≠ some k

theorem Two.touch {w w' : World} {base G : Nat} {v vw : Value} {xs ys : List Nat} {S : Nat → Prop} (h : Two w base G v vw xs ys) (t : Touch w w' S) (hG : ¬ S G) (h1 : ∀ k, v.ownBlock = some k → ¬ S k) (h2 : ∀ k, vw.ownBlock = some k → ¬ S k) : Two w' base G v vw xs ys :=
  ⟨h.wr.touch t hG h1, h.own.touch t h2, h.apG, h.ap⟩
theorem Two.still {w w' : World} {base G : Nat} {v vw : Value} {xs ys : List Nat} (h : Two w base G v vw xs ys) (t : Touch w w' (fun _ => False)) : Two w' base G v vw xs ys :=
  h.touch t (fun h => h) (fun _ _ h => h) (fun _ _ h => h)
theorem Two.lt {w : World} {base G : Nat} {v vw : Value} {xs ys : List Nat} (h : Two w base G v vw xs ys) : ∀ k, vw.ownBlock = some k → k < w.heap.size := fun k hk => (h.own.own.lt k hk).2
theorem Two.put {w w' : World} {base G : Nat} {v vw : Value} {xs ys zs : List Nat} (h : Two w base G v vw xs ys) (p : PutB base G v w zs w') :
    ∃ v', Two w' base G v' vw zs ys ∧ Touch w w' (fun k => k = G ∨ v.ownBlock = some k) := by
  obtain ⟨v', hw, t, hv⟩ := p
  refine ⟨v', ⟨hw, h.own.touch t ?_, h.apG, ?_⟩, t⟩
  · rintro k hk (rfl | hk2)
    · exact h.apG hk
    · exact h.ap k hk2 hk
  · intro k hk hk2
    rcases hv k hk with h1 | h1
    · exact h.ap k h1 hk2
    · have := h.lt k hk2; omega
theorem Two.add {w w' : World} {base G : Nat} {v vw vw' : Value} {xs ys zs : List Nat} (h : Two w base G v vw xs ys) (ho : OwnB w' base 5 vw' zs) (hg : w.grownBy w' vw.ownBlock) (hp : ∀ k, vw'.ownBlock = some k → vw.ownBlock = some k ∨ w.heap.size ≤ k) :
    Two w' base G v vw' xs zs := by
  have t : Touch w w' (fun k => vw.ownBlock = some k) := (Touch.refl _ _).grown hg (fun k hk _ => hk)
  refine ⟨h.wr.touch t h.apG h.ap, ho, ?_, ?_⟩
  · intro hk
    rcases hp G hk with h1 | h1
    · exact h.apG h1
    · have := h.wr.foot.1; omega
  · intro k hk hk2
    rcases hp k hk2 with h1 | h1
    · exact h.ap k hk h1
    · have := (h.wr.foot.2 k hk).2; omega
/-- A row that was just laid, its length written out. -/
theorem row_lit (w : World) (cs : Array Value) (n : Nat) (xs : List Nat) (hcs : cs.toList = xs.map cellB) (hn : xs.length = n) (hx : ∀ x ∈ xs, x < 256) (hs : n ≤ 281474976710656) :
    RowB (w.alloc (.cells cs 5)) (some ⟨w.heap.size, 0, none⟩) n n xs := by
  obtain ⟨a, c, hv, hr, _⟩ := (OwnB.lit w _ rfl _ (Nat.le_refl _) 5 cs n xs hcs hn hx hs).row
  subst hn
  simp only [Value.slice.injEq, true_and] at hv
  obtain ⟨rfl, rfl⟩ := hv
  exact hr
theorem be_one (n : Int) : [Value.int .u8 (n % 256)] = (beB 1 (u64N n)).map cellB := by
  simp [beB, List.range_succ, cellB, u64N]
  omega
end Go.Proofs.YtgpchkobjgglhaaGreatDoor

end

section
/- A writer by what it has put: what its calls leave. -/
set_option linter.unusedVariables false
namespace Go.Proofs.YtgpchkobjgglhaaGreatDoor
open Go.RowKit

theorem PutB.under {base G : Nat} {v : Value} {w w' : World} {xs zs : List Nat} (h : WrB w base G v xs) (p : PutB base G v w zs w') (hb : base ≤ w.heap.size) : Below base w w' := by
  obtain ⟨v', _, ht, _⟩ := p
  exact ht.below (fun k _ hk => by rcases hk with rfl | hk; exact h.low; exact (h.foot.2 k hk).1) hb

/-- The writer in block G has put xs; all that is its own lies from base on. -/
def WrE (w : World) (base G : Nat) (xs : List Nat) : Prop := base ≤ w.heap.size ∧ ∃ v, WrB w base G v xs
theorem WrE.lt {w : World} {base G : Nat} {xs : List Nat} (h : WrE w base G xs) : base ≤ G ∧ G < w.heap.size := by obtain ⟨_, _, h⟩ := h; exact ⟨h.low, h.foot.1⟩
theorem WrE.still {w w' : World} {base G : Nat} {xs : List Nat} (h : WrE w base G xs) (t : Touch w w' (fun _ => False)) : WrE w' base G xs := by
  obtain ⟨hb, v, h⟩ := h
  exact ⟨Nat.le_trans hb t.size, v, h.touch t (fun h => h) (fun _ _ h => h)⟩
theorem WrE.put {base G : Nat} {v : Value} {w w' : World} {xs zs : List Nat} (hb : base ≤ w.heap.size) (h : WrB w base G v xs) (p : PutB base G v w zs w') : WrE w' base G zs ∧ Below base w w' := by
  have hb' := p.under h hb
  obtain ⟨v', h', _, _⟩ := p
  exact ⟨⟨Nat.le_trans hb hb'.size, v', h'⟩, hb'⟩
end Go.Proofs.YtgpchkobjgglhaaGreatDoor

end

section
/- What calls write, and what is left behind calls that read. -/
set_option linter.unusedVariables false
namespace Go.Proofs.YtgpchkobjgglhaaGreatDoor
open Go.RowKit

def wid (c : CallD) : Nat := if c.act = 0 then 1 else if c.act = 1 then 2 else if c.act = 2 then 4 else if c.act = 3 then 8 else c.rl
def enc (c : CallD) : List Nat := if c.act = 0 then beB 1 (u64N c.num) else if c.act = 1 then beB 2 (u64N c.num) else if c.act = 2 then beB 4 (u64N (c.num % 4294967296)) else if c.act = 3 then beB 8 (u64N c.num) else c.raw
def encs : List CallD → List Nat
  | [] => []
  | c :: r => enc c ++ encs r
def wsum : List CallD → Nat
  | [] => 0
  | c :: r => wid c + wsum r
def runs : List CallD → List Nat → Int → List Nat × Int
  | [], zs, e => (zs, e)
  | c :: r, zs, e => runs r (nxtX (wid c) zs) (nxtE (wid c) zs e)
theorem encs_append (a b : List CallD) : encs (a ++ b) = encs a ++ encs b := by
  induction a with
  | nil => rfl
  | cons x r ih => simp [encs, ih]
theorem wsum_append (a b : List CallD) : wsum (a ++ b) = wsum a + wsum b := by
  induction a with
  | nil => simp [wsum]
  | cons x r ih => simp [wsum, ih]; omega
theorem runs_append (a b : List CallD) : ∀ zs e, runs (a ++ b) zs e = runs b (runs a zs e).1 (runs a zs e).2 := by
  induction a with
  | nil => intro zs e; rfl
  | cons x r ih => intro zs e; simp [runs, ih]
theorem runs_take (l : List CallD) (k : Nat) (h : k < l.length) (zs : List Nat) (e : Int) :
    runs (l.take (k + 1)) zs e = (nxtX (wid l[k]) (runs (l.take k) zs e).1, nxtE (wid l[k]) (runs (l.take k) zs e).1 (runs (l.take k) zs e).2) := by
  rw [List.take_succ_eq_append_getElem h, runs_append]; rfl
theorem encs_take (l : List CallD) (k : Nat) (h : k < l.length) : encs (l.take (k + 1)) = encs (l.take k) ++ enc l[k] := by
  rw [List.take_succ_eq_append_getElem h, encs_append]; simp [encs]
theorem runs_ok : ∀ (l : List CallD) (zs : List Nat) (e : Int), wsum l ≤ zs.length → runs l zs e = (zs.drop (wsum l), e)
  | [], zs, e, _ => by simp [runs, wsum]
  | c :: r, zs, e, h => by
    have h1 : wid c ≤ zs.length := by simp [wsum] at h; omega
    have h2 : wsum r ≤ (zs.drop (wid c)).length := by simp [wsum] at h ⊢; omega
    simp only [runs, nxtX, nxtE, if_pos h1]
    rw [runs_ok r _ _ h2, List.drop_drop]
    simp [wsum]
theorem runs_over : ∀ (l : List CallD), runs l [] 2 = ([], 2)
  | [] => rfl
  | c :: r => by
    have e1 : nxtX (wid c) [] = [] := by unfold nxtX; split <;> simp
    have e2 : nxtE (wid c) [] 2 = 2 := by unfold nxtE; split <;> rfl
    simp only [runs, e1, e2]; exact runs_over r
theorem runs_bad : ∀ (l : List CallD) (zs : List Nat) (e : Int), zs.length < wsum l → runs l zs e = ([], 2)
  | [], zs, e, h => by simp [wsum] at h
  | c :: r, zs, e, h => by
    by_cases h1 : wid c ≤ zs.length
    · have h2 : (zs.drop (wid c)).length < wsum r := by simp [wsum] at h ⊢; omega
      simp only [runs, nxtX, nxtE, if_pos h1]
      exact runs_bad r _ _ h2
    · simp only [runs, nxtX, nxtE, if_neg h1]
      exact runs_over r
theorem enc_length (c : CallD) (h : c.raw.length = c.rl) : (enc c).length = wid c := by
  unfold enc wid
  split
  · exact beB_length _ _
  split
  · exact beB_length _ _
  split
  · exact beB_length _ _
  split
  · exact beB_length _ _
  exact h
theorem encs_length : ∀ (l : List CallD), (∀ c ∈ l, c.raw.length = c.rl) → (encs l).length = wsum l
  | [], _ => rfl
  | c :: r, h => by
    simp only [encs, wsum, List.length_append]
    rw [enc_length c (h c (by simp)), encs_length r (fun x hx => h x (by simp [hx]))]
theorem wid_le (c : CallD) : wid c ≤ 8 + c.rl := by
  unfold wid; repeat (first | omega | split)
theorem wsum_le : ∀ (l : List CallD), wsum l ≤ 8 * l.length + rawSum l
  | [] => by simp [wsum]
  | c :: r => by have := wsum_le r; have := wid_le c; simp [wsum, rawSum]; omega
/-- Where all was written, what is left behind k calls begins with the next call's bytes. -/
theorem runs_pref (l : List CallD) (k : Nat) (h : k < l.length) (hr : ∀ c ∈ l, c.raw.length = c.rl) (tail : List Nat) :
    ∃ rest, runs (l.take k) (encs l ++ tail) 0 = (enc l[k] ++ rest, 0) := by
  have e : l = l.take k ++ l.drop k := (List.take_append_drop k l).symm
  have hk : encs l = encs (l.take k) ++ encs (l.drop k) := by rw [← encs_append, ← e]
  have hl : (encs (l.take k)).length = wsum (l.take k) := encs_length _ (fun c hc => hr c (List.mem_of_mem_take hc))
  have hd : l.drop k = l[k] :: l.drop (k + 1) := (List.getElem_cons_drop h).symm
  refine ⟨encs (l.drop (k + 1)) ++ tail, ?_⟩
  rw [runs_ok _ _ _ (by rw [hk]; simp; omega), hk, ← hl, List.append_assoc, List.drop_left]
  rw [hd]; simp [encs]

theorem beN_two (x : Nat) : beN (beB 1 x) = x % 256 ∧ beN (beB 2 x) = x % 65536 ∧ beN (beB 4 x) = x % 4294967296 := by
  simp [beN, beB, List.range_succ]
  omega
theorem beN_eight (x : Nat) (h : x < 18446744073709551616) : beN (beB 8 x) = x := by
  simp [beN, beB, List.range_succ]
  omega
theorem valN_pref (n : Nat) (a b : List Nat) (h : a.length = n) : valN n (a ++ b) = beN a := by
  unfold valN
  rw [if_pos (by simp; omega), ← h, List.take_left]
theorem rawN_pref (n : Nat) (a b : List Nat) (h : a.length = n) : rawN n (a ++ b) = a := by
  unfold rawN
  rw [if_pos (by simp; omega), ← h, List.take_left]
theorem back1 (num : Int) (rest : List Nat) : ((valN 1 (beB 1 (u64N num) ++ rest) : Nat) : Int) = num % 256 := by
  rw [valN_pref 1 _ _ (beB_length _ _), (beN_two _).1]; unfold u64N; omega
theorem back2 (num : Int) (rest : List Nat) : ((valN 2 (beB 2 (u64N num) ++ rest) : Nat) : Int) = num % 65536 := by
  rw [valN_pref 2 _ _ (beB_length _ _), (beN_two _).2.1]; unfold u64N; omega
theorem back4 (num : Int) (rest : List Nat) : ((valN 4 (beB 4 (u64N (num % 4294967296)) ++ rest) : Nat) : Int) = num % 4294967296 := by
  rw [valN_pref 4 _ _ (beB_length _ _), (beN_two _).2.2]; unfold u64N; omega
theorem back8 (num : Int) (rest : List Nat) (h : -9223372036854775808 ≤ num ∧ num ≤ 9223372036854775807) : sgn (valN 8 (beB 8 (u64N num) ++ rest)) = num := by
  rw [valN_pref 8 _ _ (beB_length _ _), beN_eight _ (u64N_lt _)]; unfold u64N sgn; split <;> omega
end Go.Proofs.YtgpchkobjgglhaaGreatDoor

end
