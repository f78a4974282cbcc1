import Derived.Test.YtpjdcgjoepjmcaaGreatGFZ
import Derived.Maps.RangeWalk
import Derived.Test.YtpjdcgjoepjmcaaGreatShelf
set_option linter.unusedVariables false
set_option linter.unusedSimpArgs false
section
namespace Go.Proofs.YtpjdcgjoepjmcaaGreat
open Go.RowKit
theorem key_u32 {n : Nat} {a : Value} {ls : List Lit} (h : Tryz.prog.keyLits (n + 1) 24 [a] = some ls) : ∃ x, a = .int .u32 x ∧ (Lit.int .u32 x).wf = true := by
 unfold Program.keyLits at h
 simp only [Tryz.underlying24] at h
 cases a <;> simp at h
 obtain ⟨⟨rfl, h2⟩, _⟩ := h
 exact ⟨_, rfl, h2⟩
theorem key_int {n : Nat} {a : Value} {ls : List Lit} (h : Tryz.prog.keyLits (n + 1) 3 [a] = some ls) : ∃ x, a = .int .i64 x ∧ (Lit.int .i64 x).wf = true := by
 unfold Program.keyLits at h
 simp only [Tryz.underlying3] at h
 cases a <;> simp at h
 obtain ⟨⟨rfl, h2⟩, _⟩ := h
 exact ⟨_, rfl, h2⟩
theorem wf_u32 {x : Int} (h : (Lit.int .u32 x).wf = true) : 0 ≤ x ∧ x ≤ 4294967295 := by
 simp [Lit.wf, IntKind.min, IntKind.max, IntKind.signed, IntKind.bits] at h
 omega
theorem wf_i64 {x : Int} (h : (Lit.int .i64 x).wf = true) : -9223372036854775808 ≤ x ∧ x ≤ 9223372036854775807 := by
 simp [Lit.wf, IntKind.min, IntKind.max, IntKind.signed, IntKind.bits] at h
 omega
set_option maxRecDepth 20000 in
theorem keyT_inv {v : Value} {kl : Lit} (h : keyOf Tryz.prog 37 v = some kl) : ∃ t : TupD, v = .agg (tcs t) ∧ TupOk t := by
 obtain ⟨m, hm⟩ : ∃ m, Tryz.prog.types.size = m + 1 := ⟨Tryz.prog.types.size - 1, by kernel_rfl⟩
 have h1 : Tryz.prog.cellsOf 24 = 1 := by kernel_rfl
 have h2 : Tryz.prog.cellsOf 3 = 1 := by kernel_rfl
 have h3 : Tryz.prog.cellsOf 37 = 5 := by kernel_rfl
 unfold keyOf at h
 simp only [Tryz.underlying37] at h
 split at h
 ·rename_i hf
  rw [Bool.and_eq_true] at hf
  obtain ⟨_, hf⟩ := hf
  cases v with
  | agg cs =>
    rw [hm] at h
    unfold Program.keyLits at h
    simp only [Tryz.underlying37, Value.cells] at h
    split at h
    ·rename_i hc
     have hl : cs.toList.length = 5 := by rw [hc.1, h3]
     obtain ⟨a, b, c, d, e, hl⟩ := listFive hl
     rw [hl] at h
     simp only [List.mapM_cons, List.mapM_nil, h1, h2, Option.bind_eq_bind, Option.map_eq_some_iff, Option.bind_eq_some_iff, List.take, List.drop, Option.pure_def] at h
     obtain ⟨_, ⟨_, ⟨_, e0, _, ⟨_, e1, _, ⟨_, e2, _, ⟨_, e3, _, ⟨_, e4, _⟩, _⟩, _⟩, _⟩, _⟩, _⟩, _⟩ := h
     obtain ⟨x0, rfl, k0⟩ := key_u32 e0
     obtain ⟨x1, rfl, k1⟩ := key_u32 e1
     obtain ⟨x2, rfl, k2⟩ := key_int e2
     obtain ⟨x3, rfl, k3⟩ := key_int e3
     obtain ⟨x4, rfl, k4⟩ := key_int e4
     refine ⟨⟨x0, x1, x2, x3, x4⟩, ?_, ⟨wf_u32 k0, wf_u32 k1, wf_i64 k2, wf_i64 k3, wf_i64 k4⟩⟩
     rw [show cs = tcs ⟨x0, x1, x2, x3, x4⟩ from Array.ext' hl]
    ·simp at h
  | _ => simp [Value.formed, Tryz.underlying37] at hf
 ·cases h
theorem klT_self (t : TupD) : Lit.sameKey (klT t) (klT t) = true := by unfold klT; simp [Lit.sameKey]
theorem same_klT {a b : TupD} (h : Lit.sameKey (klT a) (klT b) = true) : klT a = klT b := by
 unfold klT at *
 simpa [Lit.sameKey] using h
def RangesF (w : World) (mb r : Nat) (M : List FlD) (left : Lit → Bool) (cnt : Nat) : Prop :=
 (M.map FlD.t).Nodup ∧ ∃ D : DataW Unit, w.ranges Tryz.prog 37 readF mb r M.length D left cnt ∧ PFl D M ∧ ∀ kl, left kl = true → Maps.has D kl = true
def seenF (M : List FlD) (left : Lit → Bool) : List FlD := M.filter (fun f => !left (klT f.t))
section
variable {w w' : World} {mb r cnt : Nat} {M : List FlD} {left : Lit → Bool}
theorem RangesF.touch {S : Nat → Prop} (h : RangesF w mb r M left cnt) (t : Touch w w' S) (h1 : ¬ S mb) (h2 : ¬ S r) : RangesF w' mb r M left cnt := by
 obtain ⟨hn, D, ⟨es, clock, since, seen, c0, e1, e2, e3, e4, e5, e6⟩, hp, hl⟩ := h
 exact ⟨hn, D, ⟨es, clock, since, seen, c0, t.keeps e1 h1, e2, e3, e4, t.keeps e5 h2, e6⟩, hp, hl⟩
theorem RangesF.still (h : RangesF w mb r M left cnt) (t : Touch w w' (fun _ => False)) : RangesF w' mb r M left cnt := h.touch t (fun h => h) (fun h => h)
theorem RangesF.left_eq (h : RangesF w mb r M left cnt) : w.rangeLeft mb r = cnt := by
 obtain ⟨_, D, h, _⟩ := h
 exact h.left_eq
theorem RangesF.lt (h : RangesF w mb r M left cnt) : r < w.heap.size := by
 obtain ⟨_, D, h, _⟩ := h
 exact h.lt
theorem seen_none (M : List FlD) (h : ∀ kl, left kl = false) : seenF M left = M := by
 unfold seenF
 exact List.filter_eq_self.2 (fun f _ => by rw [h]; rfl)
theorem seen_step {f : FlD} (hn : (M.map FlD.t).Nodup) (ok : ∀ f ∈ M, TupOk f.t) (hf : f ∈ M) (hl : left (klT f.t) = true) :
 (seenF M (fun z => left z && !z.sameKey (klT f.t))).Perm (f :: seenF M left) := by
 obtain ⟨s, t, rfl⟩ := List.append_of_mem hf
 have hne : ∀ x ∈ s ++ t, x.t ≠ f.t := by
  intro x hx e
  have h1 := (List.perm_middle (a := f) (l₁ := s) (l₂ := t)).map FlD.t
  have h2 := h1.nodup_iff.1 hn
  rw [List.map_cons, List.nodup_cons] at h2
  exact h2.1 (List.mem_map.2 ⟨x, hx, e⟩)
 have hk : ∀ x ∈ s ++ t, (Lit.sameKey (klT x.t) (klT f.t)) = false := by
  intro x hx
  have hm : x ∈ s ++ f :: t := by
   rcases List.mem_append.1 hx with h | h
   ·exact List.mem_append_left _ h
   ·exact List.mem_append_right _ (List.mem_cons_of_mem _ h)
  cases hs : Lit.sameKey (klT x.t) (klT f.t) with
  | false => rfl
  | true => exact absurd (klT_inj (ok x hm) (ok f hf) (same_klT hs)) (hne x hx)
 have hself : Lit.sameKey (klT f.t) (klT f.t) = true := klT_self _
 have e1 : ∀ L : List FlD, (∀ x ∈ L, x ∈ s ++ t) → seenF L (fun z => left z && !z.sameKey (klT f.t)) = seenF L left := by
  intro L hL
  unfold seenF
  refine List.filter_congr fun x hx => ?_
  simp [hk x (hL x hx)]
 unfold seenF at e1 ⊢
 rw [List.filter_append, List.filter_cons, if_pos (by simp [hself]), e1 s (fun x hx => List.mem_append_left _ hx), e1 t (fun x hx => List.mem_append_right _ hx), List.filter_append, List.filter_cons, if_neg (by simp [hl])]
 exact List.perm_middle
end
section
variable {w : World} {ops : Array Oper} {rest : List Oper} {o : Oper} {a : Act} {Q : Exit → Act → World → Prop}
theorem wp_rangeF (hg : o.guard = none) (m : Operand) (hop : o.op = Op.range 93 m) (mb : Nat) (M : List FlD) (hm : a.eval m = .map (some mb)) (h : OwnFl w mb M)
 (hK : ∀ w' left cnt, RangesF w' mb w.heap.size M left cnt → seenF M left = [] → Touch w w' (fun _ => False) → wpList Tryz.prog ops Q rest (a.put o.dst (.pointer (some ⟨w.heap.size, 0, none⟩))) w') : wpList Tryz.prog ops Q (o :: rest) a w := by
 obtain ⟨hn, D, hD, hP⟩ := h
 refine wpList_range_own _ hg m _ hop 37 83 tupKeyed mapTF readF mb M.length D hm hD ?_
 intro w' r1 r2 r3
 refine hK w' _ _ ⟨hn, D, r1, hP, fun _ h => h⟩ ?_ ((Touch.refl w _).grown r2 (fun _ h _ => by cases h))
 unfold seenF
 refine List.filter_eq_nil_iff.2 fun f hf => ?_
 rw [hP.has _ (hP.ok f hf), (hasF_iff _ _).2 (List.mem_map.2 ⟨f, hf, rfl⟩)]
 simp
set_option maxRecDepth 20000 in
theorem wp_nextF (hg : o.guard = none) (it : Operand) (hop : o.op = Op.next it false) (mb r : Nat) (M : List FlD) (left : Lit → Bool) (cnt : Nat) (hit : a.eval it = .pointer (some ⟨r, 0, none⟩)) (h : RangesF w mb r M left cnt)
 (hDone : seenF M left = M → wpList Tryz.prog ops Q rest (a.put o.dst (.tuple #[.bool false])) w)
 (hMore : ∀ (x : Value) (f : FlD) (left' : Lit → Bool) (w' : World) (cnt' : Nat), f ∈ M → (seenF M left').Perm (f :: seenF M left) → RangesF w' mb r M left' cnt' → cnt' < cnt → Touch w w' (fun k => k = r) →
  (Instr.entry (.pointer (some ⟨r, 0, none⟩))).run Tryz.prog w' = .ok (.tuple #[x, .agg (fca f)]) w' → wpList Tryz.prog ops Q rest (a.put o.dst (.tuple #[.bool true, x, .agg (fca f)])) w') :
 wpList Tryz.prog ops Q (o :: rest) a w := by
 obtain ⟨hn, D, hr, hP, hL⟩ := h
 refine wpList_next_ranges _ hg it hop 37 tupKeyed readF (fun v : Value => v) (fun f : FlD => .agg (fca f)) (fun key kl _ => ⟨key, rfl⟩) (fun v y hv => by obtain ⟨f, rfl, _⟩ := readF_inv hv; exact ⟨f, rfl⟩) mb r M.length D left cnt hit hr (fun _ hl => hDone (seen_none M hl)) ?_
 intro x c kl y w' cnt' hkey hlk hv hat hrg hlt hgr hsz hen
 obtain ⟨t, rfl, ot⟩ := keyT_inv hkey
 have ek : kl = klT t := by rw [keyT ot] at hkey; exact (Option.some.inj hkey).symm
 subst ek
 have hhas : hasF M t = true := by rw [← hP.has t ot]; exact hL _ hlk
 obtain ⟨f, hf, rfl⟩ := List.mem_map.1 ((hasF_iff _ _).1 hhas)
 have hc : c = f := by
  obtain ⟨c', e1, e2⟩ := readF_inv hv
  have e3 := hat (.lit (.bool true))
  rw [hP.at_ f hf] at e3
  rw [readF_mk] at hv
  injection hv with hv
  rw [← hv] at e3
  exact (encF_inj e3).symm
 subst hc
 exact hMore _ c _ w' cnt' hf (seen_step hn hP.ok hf hlk) ⟨hn, D, hrg, hP, fun kl h => hL kl (by simp only [Bool.and_eq_true] at h; exact h.1)⟩ hlt ((Touch.refl w (fun k => k = r)).grown hgr (fun k hk _ => by simp only [Option.some.injEq] at hk; exact hk.symm)) hen
end
end Go.Proofs.YtpjdcgjoepjmcaaGreat
end
section
namespace Go.Proofs.YtpjdcgjoepjmcaaGreat
open Go.RowKit
def isOf (n : Int) (f : FlD) : Bool := decide (f.fb = n)
def SortsF (P : List FlD → List FlD → Prop) (K : List FlD) : Prop := ∀ (W : World) (base bx : Nat) (a : Option Addr) (c : Nat) (L : List FlD), L.Perm K → OwnS W base 83 8 (.slice a L.length c) (L.map fcl) → bx < base → W.heap[bx]? = some (.cells #[.slice a L.length c] 61 (0, 0)) →
 Calls Tryz.prog 93 #[.iface 61 (.slice a L.length c), .func (.func 94) #[] #[.pointer (some ⟨bx, 0, none⟩)]] W fun e w' => e = .returned (.tuple #[]) ∧ ∃ L', L'.Perm L ∧ P L L' ∧ OwnS w' base 83 8 (.slice a L.length c) (L'.map fcl) ∧ Touch W w' (fun k => (Value.slice a L.length c).ownBlock = some k)
end Go.Proofs.YtpjdcgjoepjmcaaGreat
end
section
namespace Go.Proofs.YtpjdcgjoepjmcaaGreat
open Go.RowKit
theorem touch_grow (w : World) (os : Array Obj) : Touch w (Go.Sort.grow w os) (fun _ => False) := by
 refine ⟨rfl, rfl, rfl, ?_, fun k hk _ => ?_⟩
 ·simp [Go.Sort.grow]
 ·simp only [Go.Sort.grow]
  rw [Array.getElem?_append_left hk]
set_option maxRecDepth 20000 in
theorem sort_tiny (a : Option Addr) (n c : Nat) (hn : n ≤ 1) (lf : Fn) (la lb : Array Value) (w : World) :
 Calls Tryz.prog 93 #[.iface 61 (.slice a n c), .func lf la lb] w fun e w' => e = .returned (.tuple #[]) ∧ ∃ os, w' = Go.Sort.grow w os := by
 obtain ⟨i, hi⟩ := Option.isSome_iff_exists.1 (show (Tryz.prog.info? 61).isSome = true by kernel_rfl)
 obtain ⟨ie, hie⟩ := Option.isSome_iff_exists.1 (show (Tryz.prog.info? 83).isSome = true by kernel_rfl)
 have hd : i.desc = .slice 83 := by
  have h1 : (Tryz.prog.info? 61).map (·.desc) = some (.slice 83) := by kernel_rfl
  rw [hi] at h1
  exact Option.some.inj h1
 have h01 : n = 0 ∨ n = 1 := by omega
 rcases h01 with rfl | rfl
 ·have e1 : Lib.swapperK 0 ie 25 = 1 := rfl
  obtain ⟨f, hf⟩ := Option.isSome_iff_exists.1 (show (Tryz.prog.funcs.findIdx? (·.name == "internal/reflectlite" ++ ".Swapper$" ++ toString (1 : Nat))).isSome = true by kernel_rfl)
  exact Any.sort_Slice_tiny Tryz.laysGg6 61 83 i ie hi hd (by kernel_rfl) hie 25 (fun w => by kernel_rfl) a 0 c hn f (by rw [e1]; exact hf) lf la lb w
 ·have e1 : Lib.swapperK 1 ie 25 = 2 := rfl
  obtain ⟨f, hf⟩ := Option.isSome_iff_exists.1 (show (Tryz.prog.funcs.findIdx? (·.name == "internal/reflectlite" ++ ".Swapper$" ++ toString (2 : Nat))).isSome = true by kernel_rfl)
  exact Any.sort_Slice_tiny Tryz.laysGg6 61 83 i ie hi hd (by kernel_rfl) hie 25 (fun w => by kernel_rfl) a 1 c hn f (by rw [e1]; exact hf) lf la lb w
end Go.Proofs.YtpjdcgjoepjmcaaGreat
end
