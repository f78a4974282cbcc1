/- A disk in memory. -/
import Derived.Test.YtmokcfmlolohaaaDskRangeZ
import Derived.Test.YtmokcfmlolohaaaHAZ
import Derived.Carry
import Derived.Deep.DeepCutAuto
import Derived.Deep.CutBlock
set_option linter.unusedVariables false
set_option linter.unusedSimpArgs false
namespace Go.Proofs.Ytmokcfmlolohaaa
open Go.RowKit

/-- A change of names. -/
structure DkCh where
  k : Int
  n : ByteArray
  tn : ByteArray
  f : Option Nat
def dkl (c : DkCh) : List Value := [.int .i64 c.k, .string c.n, .string c.tn, pvN c.f]
def dka (c : DkCh) : Array Value := #[.int .i64 c.k, .string c.n, .string c.tn, pvN c.f]
def dkDo (M : List NmD) (c : DkCh) : List NmD :=
  if c.k = 0 then putN M c.n c.f else if c.k = 1 then delN (putN M c.tn (getN M c.n)) c.n else if c.k = 2 then delN M c.n else M
def dkAll (M : List NmD) (C : List DkCh) : List NmD := C.foldl dkDo M
theorem dkAll_nil (M : List NmD) : dkAll M [] = M := rfl
theorem dkAll_append (M : List NmD) (C D : List DkCh) : dkAll M (C ++ D) = dkAll (dkAll M C) D := List.foldl_append
theorem dkAll_snoc (M : List NmD) (C : List DkCh) (c : DkCh) : dkAll M (C ++ [c]) = dkDo (dkAll M C) c := by rw [dkAll_append]; rfl
/-- What a file has. -/
structure DkFc where
  b : List Nat
  s : Nat
/-- A disk, said of rows. -/
structure DkS where
  q : Int
  ops : Int
  fail : Int
  S : List NmD
  C : List DkCh
  F : Nat → DkFc
def DkS.N (st : DkS) : List NmD := dkAll st.S st.C
inductive DkTg where
  | out | head | nm | sm | ch | fb
  | fa (g : Nat)
/-- Where a disk lies: T says whose each block is. -/
structure DkH where
  mn : Nat
  ms : Nat
  ac : Option Addr
  cc : Nat
  ao : Nat → Option Addr
  co : Nat → Nat
  T : Nat → DkTg
structure DkGood (T : Nat → DkTg) (M : List NmD) : Prop where
  len : M.length ≤ 200
  nd : (M.map NmD.n).Nodup
  ref : ∀ x ∈ M, 1 ≤ x.n.size ∧ x.n.size ≤ 16 ∧ ∃ g, x.f = some g ∧ T g = .fb
structure DkFile (w : World) (g : Nat) (f : DkFc) (a : Option Addr) (c : Nat) (T : Nat → DkTg) : Prop where
  head : w.heap[g]? = some (.cells #[.slice a f.b.length c, .int .i64 f.s] 74 (0, 0))
  own : OwnB w 0 5 (.slice a f.b.length c) f.b
  len : f.b.length ≤ 1048576
  sure : f.s ≤ f.b.length
  arr : ∀ x, a = some x → T x.block = .fa g
structure DkM (w : World) (d : Nat) (h : DkH) (st : DkS) : Prop where
  head : w.heap[d]? = some (.cells #[.int .i64 st.q, .map (some h.mn), .map (some h.ms), .slice h.ac st.C.length h.cc, .int .i64 st.ops, .int .i64 st.fail] 65 (0, 0))
  nm : OwnN w h.mn st.N
  sm : OwnN w h.ms st.S
  ch : OwnS w 0 88 4 (.slice h.ac st.C.length h.cc) (st.C.map dkl)
  files : ∀ g, h.T g = .fb → DkFile w g (st.F g) (h.ao g) (h.co g) h.T
  td : h.T d = .head
  tn : h.T h.mn = .nm
  ts : h.T h.ms = .sm
  tc : ∀ x, h.ac = some x → h.T x.block = .ch
  lt : ∀ k, h.T k ≠ .out → k < w.heap.size
  good : ∀ k, k ≤ st.C.length → DkGood h.T (dkAll st.S (st.C.take k))
  chok : ∀ c ∈ st.C, szN c.n ∧ szN c.tn
  kinds : ∀ c ∈ st.C, c.k = 0 ∨ c.k = 1 ∨ c.k = 2
  quota : 0 ≤ st.q ∧ st.q ≤ 67108864
  fails : 0 ≤ st.fail ∧ st.fail ≤ 9223372036854775807
/-- The blocks of a disk. -/
def footK (h : DkH) (k : Nat) : Prop := h.T k ≠ .out
def DkStep (w w' : World) (d : Nat) (h : DkH) (st' : DkS) : Prop :=
  ∃ h', DkM w' d h' st' ∧ Touch w w' (footK h) ∧ (∀ k, h.T k = .fb → h'.T k = .fb) ∧ ∀ k, footK h' k → footK h k ∨ w.heap.size ≤ k
section
variable {w w' w2 : World} {d : Nat} {h : DkH} {st st' : DkS}
theorem bown_block {a : Option Addr} {n c k : Nat} (h : (Value.slice a n c).ownBlock = some k) : ∃ x, a = some x ∧ x.block = k := by
  cases a with
  | none => simp [Value.ownBlock] at h
  | some x => exact ⟨x, rfl, by simpa [Value.ownBlock] using h⟩
theorem DkFile.touch {S : Nat → Prop} {g : Nat} {f : DkFc} {a : Option Addr} {c : Nat} {T : Nat → DkTg} (x : DkFile w g f a c T) (t : Touch w w' S) (h1 : ¬ S g) (h2 : ∀ y, a = some y → ¬ S y.block) : DkFile w' g f a c T :=
  ⟨t.keeps x.head h1, x.own.touch t (fun k hk => by obtain ⟨y, hy, rfl⟩ := bown_block hk; exact h2 y hy), x.len, x.sure, x.arr⟩
theorem DkM.touch {S : Nat → Prop} (m : DkM w d h st) (t : Touch w w' S) (hn : ∀ k, footK h k → ¬ S k) : DkM w' d h st where
  head := t.keeps m.head (hn d (by unfold footK; rw [m.td]; simp))
  nm := m.nm.touch t (hn _ (by unfold footK; rw [m.tn]; simp))
  sm := m.sm.touch t (hn _ (by unfold footK; rw [m.ts]; simp))
  ch := m.ch.touch t (fun k hk => by obtain ⟨y, hy, rfl⟩ := bown_block hk; exact hn _ (by unfold footK; rw [m.tc y hy]; simp))
  files := fun g hg => (m.files g hg).touch t (hn g (by unfold footK; rw [hg]; simp)) (fun y hy => hn _ (by unfold footK; rw [(m.files g hg).arr y hy]; simp))
  td := m.td
  tn := m.tn
  ts := m.ts
  tc := m.tc
  lt := fun k hk => Nat.lt_of_lt_of_le (m.lt k hk) t.size
  good := m.good
  chok := m.chok
  kinds := m.kinds
  quota := m.quota
  fails := m.fails
theorem DkM.still (m : DkM w d h st) (t : Touch w w' (fun _ => False)) : DkM w' d h st := m.touch t (fun _ _ h => h)
theorem DkM.cells (m : DkM w d h st) : w.cell? ⟨d, 0, none⟩ = some (.int .i64 st.q) ∧ w.cell? ⟨d, 1, none⟩ = some (.map (some h.mn)) ∧ w.cell? ⟨d, 2, none⟩ = some (.map (some h.ms)) ∧ w.cell? ⟨d, 3, none⟩ = some (.slice h.ac st.C.length h.cc) ∧ w.cell? ⟨d, 4, none⟩ = some (.int .i64 st.ops) ∧ w.cell? ⟨d, 5, none⟩ = some (.int .i64 st.fail) :=
  ⟨cell_of_cells m.head 0, cell_of_cells m.head 1, cell_of_cells m.head 2, cell_of_cells m.head 3, cell_of_cells m.head 4, cell_of_cells m.head 5⟩
theorem DkFile.cells {g : Nat} {f : DkFc} {a : Option Addr} {c : Nat} {T : Nat → DkTg} (x : DkFile w g f a c T) : w.cell? ⟨g, 0, none⟩ = some (.slice a f.b.length c) ∧ w.cell? ⟨g, 1, none⟩ = some (.int .i64 f.s) := ⟨cell_of_cells x.head 0, cell_of_cells x.head 1⟩
theorem DkM.goodN (m : DkM w d h st) : DkGood h.T st.N := by
  have := m.good st.C.length (Nat.le_refl _)
  rwa [List.take_length] at this
theorem DkM.goodS (m : DkM w d h st) : DkGood h.T st.S := m.good 0 (Nat.zero_le _)
theorem DkM.get (m : DkM w d h st) {k : ByteArray} {g : Nat} (e : getN st.N k = some g) : h.T g = .fb := by
  obtain ⟨_, _, g', h1, h2⟩ := m.goodN.ref _ (getN_mem e)
  simp only [Option.some.injEq] at h1
  exact h1 ▸ h2
theorem DkM.hasget (m : DkM w d h st) (k : ByteArray) : hasN st.N k = (getN st.N k).isSome := by
  cases hh : hasN st.N k with
  | false => rw [getN_none hh]; rfl
  | true =>
    obtain ⟨x, hx, rfl⟩ := List.mem_map.1 ((hasN_iff _ _).1 hh)
    obtain ⟨_, _, g, h1, _⟩ := m.goodN.ref x hx
    rw [getN_of m.goodN.nd hx, h1]; rfl
/-- The head's block is written. -/
theorem DkM.turn {q ops fail : Int} (m : DkM w d h st) (t : Touch w w' (fun k => k = d)) (hq : 0 ≤ q ∧ q ≤ 67108864) (hf : 0 ≤ fail ∧ fail ≤ 9223372036854775807)
    (hh : w'.heap[d]? = some (.cells #[.int .i64 q, .map (some h.mn), .map (some h.ms), .slice h.ac st.C.length h.cc, .int .i64 ops, .int .i64 fail] 65 (0, 0))) : DkM w' d h { st with q := q, ops := ops, fail := fail } where
  head := hh
  nm := m.nm.touch t (fun e => by have := m.tn; rw [e, m.td] at this; cases this)
  sm := m.sm.touch t (fun e => by have := m.ts; rw [e, m.td] at this; cases this)
  ch := m.ch.touch t (fun k hk e => by obtain ⟨y, hy, rfl⟩ := bown_block hk; have := m.tc y hy; rw [e, m.td] at this; cases this)
  files := fun g hg => (m.files g hg).touch t (fun e => by rw [e, m.td] at hg; cases hg) (fun y hy e => by have := (m.files g hg).arr y hy; rw [e, m.td] at this; cases this)
  td := m.td
  tn := m.tn
  ts := m.ts
  tc := m.tc
  lt := fun k hk => Nat.lt_of_lt_of_le (m.lt k hk) t.size
  good := m.good
  chok := m.chok
  kinds := m.kinds
  quota := hq
  fails := hf
theorem DkStep.refl (m : DkM w d h st) : DkStep w w d h st := ⟨h, m, Touch.refl _ _, fun _ h => h, fun _ hk => .inl hk⟩
theorem DkStep.same (m : DkM w' d h st) (t : Touch w w' (footK h)) : DkStep w w' d h st := ⟨h, m, t, fun _ h => h, fun _ hk => .inl hk⟩
theorem DkStep.trans {h1 : DkH} (m : DkM w' d h1 st) (t : Touch w w' (footK h)) (mo : ∀ k, h.T k = .fb → h1.T k = .fb) (ne : ∀ k, footK h1 k → footK h k ∨ w.heap.size ≤ k) (s : DkStep w' w2 d h1 st') : DkStep w w2 d h st' := by
  obtain ⟨h2, m2, t2, mo2, ne2⟩ := s
  refine ⟨h2, m2, t.trans t2 (fun k hk hf => ?_), fun k hk => mo2 k (mo k hk), fun k hk => ?_⟩
  · rcases ne k hf with h1 | h1
    · exact h1
    · omega
  · rcases ne2 k hk with h1 | h1
    · exact ne k h1
    · exact .inr (Nat.le_trans t.size h1)
end
/-- A disk that was made since w. -/
structure DkN (w w1 : World) (d : Nat) (h : DkH) (st : DkS) : Prop where
  m : DkM w1 d h st
  t : Touch w w1 (fun _ => False)
  f : ∀ k, footK h k → w.heap.size ≤ k
section
variable {w w1 w2 : World} {d : Nat} {h : DkH} {st st' : DkS}
theorem DkN.still (n : DkN w w1 d h st) (t : Touch w1 w2 (fun _ => False)) : DkN w w2 d h st := ⟨n.m.still t, n.t.trans t (fun _ _ h => h), n.f⟩
theorem DkN.step (n : DkN w w1 d h st) (s : DkStep w1 w2 d h st') : ∃ h', DkN w w2 d h' st' ∧ ∀ k, h.T k = .fb → h'.T k = .fb := by
  obtain ⟨h', m', t', mo, ne⟩ := s
  refine ⟨h', ⟨m', n.t.trans t' (fun k hk hf => by have := n.f k hf; omega), fun k hk => ?_⟩, mo⟩
  rcases ne k hk with h1 | h1
  · exact n.f k h1
  · exact Nat.le_trans n.t.size h1
/-- Bytes that were there before are there. -/
theorem DkN.rowB (n : DkN w w1 d h st) {a : Option Addr} {len cap : Nat} {xs : List Nat} (r : RowB w a len cap xs) : RowB w1 a len cap xs := r.touch n.t (fun _ _ => .inr (fun h => h))
end
end Go.Proofs.Ytmokcfmlolohaaa
