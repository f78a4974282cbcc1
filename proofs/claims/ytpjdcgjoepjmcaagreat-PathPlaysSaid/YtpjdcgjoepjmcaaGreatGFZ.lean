import Derived.Test.YtpjdcgjoepjmcaaGreatHCZ
import Derived.Maps.OwnSet
import Derived.Maps.OwnOps
import Derived.WideKeyEntry
import Derived.DeepKeys4
import Derived.Test.YtpjdcgjoepjmcaaGreatHDZ
import Derived.Test.YtpjdcgjoepjmcaaGreatHAZ
import Derived.Carry
import Derived.Test.YtpjdcgjoepjmcaaGreatHEZ
import Derived.Lib.ConvBytes
import Derived.Test.YtpjdcgjoepjmcaaGreatGCZ
set_option linter.unusedVariables false
set_option linter.unusedSimpArgs false
section
namespace Go.Proofs.YtpjdcgjoepjmcaaGreat
open Go.RowKit
structure FlD where
 t : TupD
 fb : Int
 fg : Int
 fs : Int
theorem FlD.ext' {f g : FlD} (h1 : f.t = g.t) (h2 : f.fb = g.fb) (h3 : f.fg = g.fg) (h4 : f.fs = g.fs) : f = g := by
 cases f; cases g; simp only at h1 h2 h3 h4; subst h1 h2 h3 h4; rfl
instance : DecidableEq TupD := fun a b => by
 cases a; cases b
 rename_i a1 a2 a3 a4 a5 b1 b2 b3 b4 b5
 exact decidable_of_iff (a1 = b1 ∧ a2 = b2 ∧ a3 = b3 ∧ a4 = b4 ∧ a5 = b5) (by simp)
structure FlOk (f : FlD) : Prop where
 t : TupOk f.t
 fb : i64 f.fb
 fg : i64 f.fg
 fs : i64 f.fs
def fca (f : FlD) : Array Value := #[.int .u32 f.t.src, .int .u32 f.t.dst, .int .i64 f.t.proto, .int .i64 f.t.sport, .int .i64 f.t.dport, .int .i64 f.fb, .int .i64 f.fg, .int .i64 f.fs]
def fcl (f : FlD) : List Value := [.int .u32 f.t.src, .int .u32 f.t.dst, .int .i64 f.t.proto, .int .i64 f.t.sport, .int .i64 f.t.dport, .int .i64 f.fb, .int .i64 f.fg, .int .i64 f.fs]
def noF : FlD := ⟨noT, 0, 0, 0⟩
def encF (f : FlD) : DataW Unit := .agg [.lit (.int .u32 f.t.src), .lit (.int .u32 f.t.dst), .lit (.int .i64 f.t.proto), .lit (.int .i64 f.t.sport), .lit (.int .i64 f.t.dport), .lit (.int .i64 f.fb), .lit (.int .i64 f.fg), .lit (.int .i64 f.fs)]
def readF : Value → Option (DataW Unit × List MemPlace)
 | .agg cs =>
   match cs.toList with
   | [.int .u32 a, .int .u32 b, .int .i64 c, .int .i64 d, .int .i64 e, .int .i64 f, .int .i64 g, .int .i64 h] => some (encF ⟨⟨a, b, c, d, e⟩, f, g, h⟩, [])
   | _ => none
 | _ => none
theorem readF_mk (f : FlD) : readF (.agg (fca f)) = some (encF f, []) := rfl
theorem encF_inj {f g : FlD} (h : encF f = encF g) : f = g := by
 unfold encF at h
 injection h with h
 simp only [List.cons.injEq, DataW.lit.injEq, Lit.int.injEq, true_and, and_true] at h
 obtain ⟨h1, h2, h3, h4, h5, h6, h7, h8⟩ := h
 obtain ⟨⟨a1, a2, a3, a4, a5⟩, a6, a7, a8⟩ := f
 obtain ⟨⟨b1, b2, b3, b4, b5⟩, b6, b7, b8⟩ := g
 simp only at h1 h2 h3 h4 h5 h6 h7 h8
 subst h1 h2 h3 h4 h5 h6 h7 h8
 rfl
theorem readF_inv {v : Value} {z : DataW Unit × List MemPlace} (h : readF v = some z) : ∃ f : FlD, v = .agg (fca f) ∧ z = (encF f, []) := by
 unfold readF at h
 split at h
 ·rename_i cs
  split at h
  ·rename_i a b c d e f g h' he
   injection h with h
   refine ⟨⟨⟨a, b, c, d, e⟩, f, g, h'⟩, ?_, h.symm⟩
   have : cs = (fca ⟨⟨a, b, c, d, e⟩, f, g, h'⟩) := Array.ext' he
   rw [this]
  ·cases h
 ·cases h
def klT (t : TupD) : Lit := .string (keyBytes [.int .u32 t.src, .int .u32 t.dst, .int .i64 t.proto, .int .i64 t.sport, .int .i64 t.dport])
theorem tupLaw : WideMaps.KeyLaw Tryz.prog 37 :=
 deep_law_laid (P := Tryz.prog) (by kernel_rfl) (m := 8) (by decide) (of_decide_eq_true (by kernel_rfl)) (by kernel_rfl) (by kernel_rfl)
theorem tupKeyed : Maps.Keyed Tryz.prog 37 := Maps.Keyed.of_law tupLaw
set_option maxRecDepth 20000 in
theorem keyT {t : TupD} (ok : TupOk t) : keyOf Tryz.prog 37 (.agg (tcs t)) = some (klT t) := by
 have hkt : Tryz.prog.keyType 37 = true := by kernel_rfl
 obtain ⟨m, hm⟩ : ∃ m, Tryz.prog.types.size = m + 1 := ⟨Tryz.prog.types.size - 1, by kernel_rfl⟩
 have h1 : Tryz.prog.cellsOf 24 = 1 := by kernel_rfl
 have h2 : Tryz.prog.cellsOf 3 = 1 := by kernel_rfl
 have h3 : Tryz.prog.cellsOf 37 = 5 := by kernel_rfl
 have w1 : (Lit.int .u32 t.src).wf = true := by have h := ok.src; unfold u32 at h; simp [Lit.wf, IntKind.min, IntKind.max, IntKind.signed, IntKind.bits]; omega
 have w2 : (Lit.int .u32 t.dst).wf = true := by have h := ok.dst; unfold u32 at h; simp [Lit.wf, IntKind.min, IntKind.max, IntKind.signed, IntKind.bits]; omega
 have w3 : (Lit.int .i64 t.proto).wf = true := by have h := ok.proto; unfold i64 at h; simp [Lit.wf, IntKind.min, IntKind.max, IntKind.signed, IntKind.bits]; omega
 have w4 : (Lit.int .i64 t.sport).wf = true := by have h := ok.sport; unfold i64 at h; simp [Lit.wf, IntKind.min, IntKind.max, IntKind.signed, IntKind.bits]; omega
 have w5 : (Lit.int .i64 t.dport).wf = true := by have h := ok.dport; unfold i64 at h; simp [Lit.wf, IntKind.min, IntKind.max, IntKind.signed, IntKind.bits]; omega
 unfold keyOf
 simp only [Tryz.underlying37]
 rw [if_pos (by simp [hkt, Value.formed, Tryz.underlying37, h3, tcs]), hm]
 unfold Program.keyLits
 simp only [Tryz.underlying37, Value.cells, tcs]
 rw [if_pos ⟨by rw [h3]; rfl, by kernel_rfl⟩]
 simp [Program.keyLits, Tryz.underlying24, Tryz.underlying3, h1, h2, w1, w2, w3, w4, w5, klT]
theorem klT_inj {a b : TupD} (ha : TupOk a) (hb : TupOk b) (h : klT a = klT b) : a = b := by
 have h1 := keyT ha
 have h2 := keyT hb
 rw [← h] at h2
 have := tupKeyed.inj h1 h2
 unfold tcs at this
 simp only [Value.agg.injEq, Array.mk.injEq, List.cons.injEq, Value.int.injEq, true_and, and_true] at this
 obtain ⟨e1, e2, e3, e4, e5⟩ := this
 cases a; cases b
 simp only at e1 e2 e3 e4 e5
 subst e1 e2 e3 e4 e5
 rfl
theorem isKeyT (t : TupD) : WideAt.IsKeyLit (klT t) := trivial
def hasF (M : List FlD) (t : TupD) : Bool := M.any (fun f => decide (f.t = t))
def delF (M : List FlD) (t : TupD) : List FlD := M.filter (fun f => !decide (f.t = t))
def getF : List FlD → TupD → FlD
 | [], _ => noF
 | f :: M, t => if f.t = t then f else getF M t
theorem hasF_iff (M : List FlD) (t : TupD) : hasF M t = true ↔ t ∈ M.map FlD.t := by
 unfold hasF; rw [List.any_eq_true, List.mem_map]
 constructor
 ·rintro ⟨d, hd, h⟩; exact ⟨d, hd, of_decide_eq_true h⟩
 ·rintro ⟨d, hd, h⟩; exact ⟨d, hd, decide_eq_true h⟩
theorem hasF_perm {M M' : List FlD} (h : M.Perm M') (t : TupD) : hasF M t = hasF M' t := by
 rw [Bool.eq_iff_iff, hasF_iff, hasF_iff, (h.map _).mem_iff]
theorem ndF_perm {M M' : List FlD} (h : M.Perm M') (hn : (M.map FlD.t).Nodup) : (M'.map FlD.t).Nodup := (h.map _).nodup_iff.1 hn
theorem delF_not (M : List FlD) (t : TupD) : t ∉ (delF M t).map FlD.t := by
 intro h
 obtain ⟨d, hd, e⟩ := List.mem_map.1 h
 have := (List.mem_filter.1 hd).2
 simp [e] at this
theorem delF_none {M : List FlD} {t : TupD} (h : t ∉ M.map FlD.t) : delF M t = M := by
 unfold delF
 rw [List.filter_eq_self]
 intro d hd
 have : d.t ≠ t := fun e => h (List.mem_map.2 ⟨d, hd, e⟩)
 simp [this]
theorem delF_nd {M : List FlD} (hn : (M.map FlD.t).Nodup) (t : TupD) : ((delF M t).map FlD.t).Nodup := hn.sublist (List.filter_sublist.map _)
theorem delF_len {M : List FlD} (hn : (M.map FlD.t).Nodup) (t : TupD) : (delF M t).length + (if hasF M t then 1 else 0) = M.length := by
 induction M with
 | nil => rfl
 | cons d M ih =>
   rw [List.map_cons, List.nodup_cons] at hn
   have ih := ih hn.2
   unfold delF hasF at ih ⊢
   rw [List.filter_cons, List.any_cons]
   by_cases h : d.t = t
   ·have hm : M.any (fun d => decide (d.t = t)) = false := by
     rw [Bool.eq_false_iff]; intro hm
     have := (hasF_iff M t).1 hm
     exact hn.1 (h ▸ this)
    rw [hm] at ih
    simp only [h, decide_true, Bool.not_true, Bool.false_eq_true, if_false, Bool.true_or, if_true, List.length_cons] at ih ⊢
    omega
   ·simp only [h, decide_false, Bool.not_false, if_true, Bool.false_or, List.length_cons] at ih ⊢
    omega
theorem getF_of {M : List FlD} (hn : (M.map FlD.t).Nodup) {d : FlD} (hd : d ∈ M) : getF M d.t = d := by
 induction M with
 | nil => cases hd
 | cons x M ih =>
   rw [List.map_cons, List.nodup_cons] at hn
   unfold getF
   rcases List.mem_cons.1 hd with rfl | h
   ·rw [if_pos rfl]
   ·rw [if_neg (fun e => hn.1 (by rw [e]; exact List.mem_map.2 ⟨d, h, rfl⟩))]
    exact ih hn.2 h
theorem getF_none {M : List FlD} {t : TupD} (h : hasF M t = false) : getF M t = noF := by
 induction M with
 | nil => rfl
 | cons x M ih =>
   unfold hasF at h
   rw [List.any_cons, Bool.or_eq_false_iff] at h
   unfold getF
   rw [if_neg (by simpa using h.1)]
   exact ih h.2
structure PFl (D : DataW Unit) (M : List FlD) : Prop where
 tidy : Maps.Tidy D
 size : Maps.size D = M.length
 ok : ∀ f ∈ M, TupOk f.t
 at_ : ∀ f ∈ M, ∀ z, D.atKey (klT f.t) z = encF f
 has : ∀ t, TupOk t → Maps.has D (klT t) = hasF M t
theorem PFl.nil : PFl (.map []) [] := ⟨Maps.tidy_empty, rfl, by simp, by simp, fun _ _ => rfl⟩
theorem PFl.perm {D : DataW Unit} {M M' : List FlD} (p : PFl D M) (h : M.Perm M') : PFl D M' :=
 ⟨p.tidy, by rw [p.size, h.length_eq], fun d hd => p.ok d (h.mem_iff.2 hd), fun d hd => p.at_ d (h.mem_iff.2 hd), fun b ok => by rw [p.has b ok, hasF_perm h]⟩
theorem PFl.put {D : DataW Unit} {M : List FlD} (p : PFl D M) (hn : (M.map FlD.t).Nodup) (r : FlD) (hr : TupOk r.t) : PFl (D.put (klT r.t) (encF r)) (r :: delF M r.t) := by
 refine ⟨Maps.Tidy.put p.tidy (isKeyT _) _, ?_, fun d hd => ?_, fun d hd z => ?_, fun t ht => ?_⟩
 ·rw [Maps.size_put p.tidy, p.has _ hr, p.size, List.length_cons]
  have := delF_len hn r.t
  cases hh : hasF M r.t <;> rw [hh] at this <;> simp at this ⊢ <;> omega
 ·rcases List.mem_cons.1 hd with rfl | hd
  ·exact hr
  ·exact p.ok d (List.mem_filter.1 hd).1
 ·rcases List.mem_cons.1 hd with rfl | hd
  ·exact Maps.atKey_put_same p.tidy.isMap (isKeyT _) _ _
  ·have h2 := List.mem_filter.1 hd
   have hne : klT d.t ≠ klT r.t := fun e => by have := klT_inj (p.ok d h2.1) hr e; simp [this] at h2
   rw [Maps.atKey_put_other hne]
   exact p.at_ d h2.1 z
 ·by_cases e : t = r.t
  ·subst e
   rw [Maps.has_put_same p.tidy.isMap (isKeyT _)]
   simp [hasF]
  ·rw [Maps.has_put_other (fun h => e (klT_inj ht hr h)), p.has t ht]
   unfold hasF delF
   rw [List.any_cons, List.any_filter]
   have e2 : decide (r.t = t) = false := decide_eq_false (fun h => e h.symm)
   rw [e2, Bool.false_or]
   congr 1
   funext d
   by_cases h : d.t = t
   ·simp [h, e]
   ·simp [h]
theorem PFl.del {D : DataW Unit} {M : List FlD} (p : PFl D M) (hn : (M.map FlD.t).Nodup) (t : TupD) (ht : TupOk t) : PFl (D.del (klT t)) (delF M t) := by
 refine ⟨Maps.Tidy.del p.tidy _, ?_, fun d hd => p.ok d (List.mem_filter.1 hd).1, fun d hd z => ?_, fun c hc => ?_⟩
 ·have h1 := Maps.size_del (k := klT t) p.tidy
  rw [p.has t ht, p.size] at h1
  have h2 := delF_len hn t
  omega
 ·have h2 := List.mem_filter.1 hd
  have hne : klT d.t ≠ klT t := fun e => by have := klT_inj (p.ok d h2.1) ht e; simp [this] at h2
  rw [Maps.atKey_del_other hne]
  exact p.at_ d h2.1 z
 ·by_cases e : c = t
  ·subst e
   rw [Maps.has_del_same]
   refine (Bool.eq_false_iff.2 fun h => ?_).symm
   exact delF_not M c ((hasF_iff _ _).1 h)
  ·rw [Maps.has_del_other (fun h => e (klT_inj hc ht h)), p.has c hc]
   unfold hasF delF
   rw [List.any_filter]
   congr 1
   funext d
   by_cases h : d.t = c
   ·simp [h, e]
   ·simp [h]
structure OwnFl (w : World) (mb : Nat) (M : List FlD) : Prop where
 nd : (M.map FlD.t).Nodup
 own : ∃ D : DataW Unit, w.ownsMap Tryz.prog 37 readF mb M.length D ∧ PFl D M
section
variable {w w' : World} {mb : Nat} {M M' : List FlD}
theorem ownsMapF_touch {H : Type} {P : Program} {k : TypeId} {R : Value → Option (DataW H × List MemPlace)} {mb n : Nat} {D : DataW H} {S : Nat → Prop} (h : w.ownsMap P k R mb n D) (t : Touch w w' S) (hn : ¬ S mb) : w'.ownsMap P k R mb n D := by
 obtain ⟨es, clock, hb, r⟩ := h
 exact ⟨es, clock, t.keeps hb hn, r⟩
theorem ownsMapF_tight {H : Type} {P : Program} {k : TypeId} {R : Value → Option (DataW H × List MemPlace)} {mb n : Nat} {D : DataW H} (h : w.ownsMap P k R mb n D) : w.ownsMap P k R mb (Maps.size D) D := by
 obtain ⟨es, clock, hb, F, hs, rfl⟩ := h
 exact ⟨es, clock, hb, F, by simp [Maps.size, length_sorted], rfl⟩
theorem OwnFl.touch {S : Nat → Prop} (h : OwnFl w mb M) (t : Touch w w' S) (hn : ¬ S mb) : OwnFl w' mb M := by
 obtain ⟨h0, D, h1, h2⟩ := h
 exact ⟨h0, D, ownsMapF_touch h1 t hn, h2⟩
theorem OwnFl.still (h : OwnFl w mb M) (t : Touch w w' (fun _ => False)) : OwnFl w' mb M := h.touch t (fun h => h)
theorem OwnFl.lt (h : OwnFl w mb M) : mb < w.heap.size := by
 obtain ⟨_, D, h1, _⟩ := h
 exact h1.lt
theorem OwnFl.perm (h : OwnFl w mb M) (p : M.Perm M') : OwnFl w mb M' := by
 obtain ⟨h0, D, h1, h2⟩ := h
 exact ⟨ndF_perm p h0, D, p.length_eq ▸ h1, h2.perm p⟩
theorem OwnFl.made (w : World) : OwnFl (w.alloc (.map #[] 0)) w.heap.size [] :=
 ⟨List.nodup_nil, _, World.ownsMap_made (H := Unit) w Tryz.prog _ readF, PFl.nil⟩
theorem zeroFl (w : World) : (zeroValue 83).run Tryz.prog w = .ok (.agg (fca noF)) w := by kernel_rfl
theorem mapTF : Tryz.prog.underlying 93 = some (.map 37 83) := Tryz.underlying93
set_option maxRecDepth 20000 in
theorem OwnFl.ok' (h : OwnFl w mb M) {t : TupD} (ht : TupOk t) :
 (Instr.lookup 93 (.map (some mb)) (.agg (tcs t)) true).run Tryz.prog w = .ok (.tuple #[.agg (fca (getF M t)), .bool (hasF M t)]) w := by
 obtain ⟨hn, D, hD, hP⟩ := h
 obtain ⟨v, ps, hrun, hv⟩ := World.ownsMap.look_ok hD tupKeyed mapTF (zeroFl w) (readF_mk noF) (keyT ht)
 obtain ⟨g, rfl, hg⟩ := readF_inv hv
 have hg := congrArg Prod.fst hg
 simp only at hg
 rw [hP.has t ht] at hrun
 cases hh : hasF M t with
 | false =>
   have h1 := hP.has t ht
   rw [hh] at h1
   rw [Maps.atKey_of_not_has h1] at hg
   rw [getF_none hh, encF_inj hg]
   rw [hh] at hrun; exact hrun
 | true =>
   obtain ⟨d, hd, rfl⟩ := List.mem_map.1 ((hasF_iff _ _).1 hh)
   rw [hP.at_ d hd] at hg
   rw [getF_of hn hd]
   rw [hh, ← encF_inj hg] at hrun; exact hrun
theorem OwnFl.len (h : OwnFl w mb M) (ty : TypeId) : (Builtin.len_ #[93] ty #[.map (some mb)]).run Tryz.prog w = .ok (.int .i64 M.length) w := by
 obtain ⟨_, D, h1, h2⟩ := h
 have := h1.len mapTF ty
 rwa [h2.size] at this
theorem turnedF {w w' : World} {mb : Nat} (h : w.mapTurned w' mb) : Touch w w' (fun k => k = mb) := (Touch.refl w (fun k => k = mb)).grown h.grown (fun k hk _ => by simp only [Option.some.injEq] at hk; exact hk.symm)
set_option maxRecDepth 20000 in
theorem OwnFl.store (h : OwnFl w mb M) (hl : M.length ≤ 1000000) (r : FlD) (hr : TupOk r.t) :
 ∃ w', (Instr.mapUpdate 93 (.map (some mb)) (.agg (tcs r.t)) (.agg (fca r))).run Tryz.prog w = .ok () w' ∧ OwnFl w' mb (r :: delF M r.t) ∧ Touch w w' (fun k => k = mb) := by
 obtain ⟨hn, D, hD, hP⟩ := h
 obtain ⟨w5, r1, r2, r3⟩ := World.ownsMap.store hD tupKeyed mapTF (by simp only [maxLen]; omega) (keyT hr) (readF_mk r)
 have hp := hP.put hn r hr
 have r4 := ownsMapF_tight r2
 rw [hp.size] at r4
 refine ⟨w5, r1, ⟨?_, _, r4, hp⟩, turnedF r3⟩
 rw [List.map_cons, List.nodup_cons]
 exact ⟨delF_not M r.t, delF_nd hn _⟩
set_option maxRecDepth 20000 in
theorem OwnFl.drop (h : OwnFl w mb M) (t : TupD) (ht : TupOk t) (ty : TypeId) :
 ∃ w', (Builtin.delete_ #[93, 37] ty #[.map (some mb), .agg (tcs t)]).run Tryz.prog w = .ok (.tuple #[]) w' ∧ OwnFl w' mb (delF M t) ∧ Touch w w' (fun k => k = mb) := by
 obtain ⟨hn, D, hD, hP⟩ := h
 obtain ⟨w5, r1, r2, r3⟩ := World.ownsMap.drop hD tupKeyed mapTF (keyT ht) ty
 have hp := hP.del hn t ht
 have r4 := ownsMapF_tight r2
 rw [hp.size] at r4
 exact ⟨w5, r1, ⟨delF_nd hn t, _, r4, hp⟩, turnedF r3⟩
end
end Go.Proofs.YtpjdcgjoepjmcaaGreat
end
section
namespace Go.Proofs.YtpjdcgjoepjmcaaGreat
open Go.RowKit
def kT (t : TupD) : ByteArray := strB (tbF t)
theorem kT_size (t : TupD) : (kT t).size ≤ 281474976710656 := by
 have h1 : (kT t).size = (tbF t).length := by
  show ((tbF t).map UInt8.ofNat).toArray.size = _
  simp
 rw [h1, tbF_length]; decide
theorem tbF_lt (t : TupD) : ∀ x ∈ tbF t, x < 256 := by
 intro x hx
 unfold tbF at hx
 simp only [List.mem_append] at hx
 rcases hx with (((hx | hx) | hx) | hx) | hx <;> exact beB_small _ _ x hx
theorem kT_inj {a b : TupD} (oa : TupOk a) (ob : TupOk b) (ma : mayTB a = true) (mb : mayTB b = true) (h : kT a = kT b) : a = b := by
 obtain ⟨h1, h2, h3, h4, h5⟩ := tbF_inj (strB_inj _ _ (tbF_lt a) (tbF_lt b) h) oa ob ma mb
 cases a; cases b
 simp only at h1 h2 h3 h4 h5
 subst h1 h2 h3 h4 h5
 rfl
set_option maxRecDepth 20000 in
set_option maxHeartbeats 2000000 in
theorem fkey_any (t : TupD) (ok : TupOk t) (w : World) :
 Calls Tryz.prog 143 #[.agg (tcs t)] w fun e w' => e = .returned (.string (kT t)) ∧ Touch w w' (fun _ => False) := by
 have HOK := Lib.hid ok
 obtain ⟨t1', t2', t3', t4', t5'⟩ := t
 obtain ⟨K, hK⟩ : ∃ K, kT ⟨t1', t2', t3', t4', t5'⟩ = K := ⟨_, rfl⟩
 rw [hK]
 have HKK := Lib.hid hK
 obtain ⟨W1, hW1⟩ : ∃ W, w.alloc (.cells (tcs ⟨t1', t2', t3', t4', t5'⟩) 37) = W := ⟨_, rfl⟩
 have t1 : Touch w W1 (fun _ => False) := hW1 ▸ (Touch.refl w _).alloc _
 have HWE := Lib.hid (WrE.fresh W1).toD
 have t2 := t1.alloc (.cells #[.slice none 0 0] 176)
 have HT := Lib.hid t2
 have hs : W1.heap.size = w.heap.size + 1 := by rw [← hW1]; simp
 have HS := Lib.hid hs
 have HW1 := Lib.hid hW1
 simp only [tcs] at HW1 ⊢
 clear hW1 t1 t2 hs ok hK
 go_enter Tryz.func143, Tryz.ntmps143
 go_wp2_with fail
 rw [HW1.out]
 rw [HS.out] at HWE
 refine (tWrite_any (w.heap.size + 1) (w.heap.size + 1) _ [] ⟨t1', t2', t3', t4', t5'⟩ _ HWE.out HOK.out (by simp)).mono ?_
 rintro e w3 ⟨rfl, hw3, t3⟩
 obtain ⟨xs, hxs⟩ : ∃ xs, [] ++ tbF ⟨t1', t2', t3', t4', t5'⟩ = xs := ⟨_, rfl⟩
 have hxl : xs.length ≤ 100 := by rw [← hxs]; simp [tbF, beB_length]
 have hxK : strB xs = K := by rw [← hxs, List.nil_append]; exact HKK.out
 rw [hxs] at hw3
 obtain ⟨n, hn⟩ : ∃ n, xs.length = n := ⟨_, rfl⟩
 have HT3 := Lib.hid (HT.out.trans t3 (fun k hk h => by omega))
 have HBY := Lib.hid (e_wBytes (w.heap.size + 1) (w.heap.size + 1) xs w3 hw3.toE (by omega) n hn)
 clear hw3 t3 hxs hn HWE
 go_wp2_with fail
 (with_reducible refine HBY.out.mono ?_)
 rintro e w4 ⟨a4, c4, rfl, hf4⟩
 have hcv := run_string_of (P := Tryz.prog) hf4.row'.2 38 9 5 Tryz.underlying38 Tryz.underlying5 Tryz.underlying9
 rw [hxK] at hcv
 have HT4 := Lib.hid (HT3.out.trans hf4.2 (fun _ _ h => h))
 clear hf4
 go_wp2_with fail
 go_ret
 exact ⟨rfl, HT4.out⟩
end Go.Proofs.YtpjdcgjoepjmcaaGreat
end
section
namespace Go.Proofs.YtpjdcgjoepjmcaaGreat
open Go.RowKit
def rngF (f : FlD) : Bool := decide ((0 ≤ f.fb ∧ f.fb ≤ 65535) ∧ (0 ≤ f.fg ∧ f.fg ≤ 1000000) ∧ 0 ≤ f.fs ∧ f.fs ≤ 1099511627776)
def mayFB (f : FlD) : Bool := mayTB f.t && rngF f
theorem infoFlow : (Tryz.prog.info? 83).map (·.size) = some 8 := by kernel_rfl
theorem infoFlowB : (Tryz.prog.info? 83).map (fun i => (i.zero, i.size, i.bytes)) = some (some (.agg (fca noF)), 8, 56) := by kernel_rfl
theorem fcells_of {w : World} {B : Nat} {f : FlD} {T : TypeId} (hb : w.heap[B]? = some (.cells (fca f) T (0, 0))) :
 w.cell? ⟨B, 0, none⟩ = some (.int .u32 f.t.src) ∧ w.cell? ⟨B, 1, none⟩ = some (.int .u32 f.t.dst) ∧ w.cell? ⟨B, 2, none⟩ = some (.int .i64 f.t.proto) ∧ w.cell? ⟨B, 3, none⟩ = some (.int .i64 f.t.sport) ∧ w.cell? ⟨B, 4, none⟩ = some (.int .i64 f.t.dport) ∧ w.cell? ⟨B, 5, none⟩ = some (.int .i64 f.fb) ∧ w.cell? ⟨B, 6, none⟩ = some (.int .i64 f.fg) ∧ w.cell? ⟨B, 7, none⟩ = some (.int .i64 f.fs) :=
 ⟨cell_of_cells hb 0, cell_of_cells hb 1, cell_of_cells hb 2, cell_of_cells hb 3, cell_of_cells hb 4, cell_of_cells hb 5, cell_of_cells hb 6, cell_of_cells hb 7⟩
theorem ftime_any (w : World) (n : Int) : Calls Tryz.prog 144 #[.int .i64 n] w fun e w' => e = .returned (.bool (timB n)) ∧ w = w' := by
 unfold timB
 by_cases h0 : 0 ≤ n
 ·by_cases h1 : n ≤ 1099511627776
  ·have hd : decide (0 ≤ n ∧ n ≤ 1099511627776) = true := by simp [h0, h1]
   rw [hd]
   go_enter Tryz.func144, Tryz.ntmps144
   go_wp2_with fail
   go_ret
   exact ⟨rfl, rfl⟩
  ·have hd : decide (0 ≤ n ∧ n ≤ 1099511627776) = false := by simp [h1]
   rw [hd]
   go_enter Tryz.func144, Tryz.ntmps144
   go_wp2_with fail
   go_ret
   exact ⟨rfl, rfl⟩
 ·have hd : decide (0 ≤ n ∧ n ≤ 1099511627776) = false := by simp [h0]
  rw [hd]
  go_enter Tryz.func144, Tryz.ntmps144
  go_wp2_with fail
  go_ret
  exact ⟨rfl, rfl⟩
set_option maxRecDepth 20000 in
set_option maxHeartbeats 4000000 in
theorem fmay_any (f : FlD) (w : World) :
 Calls Tryz.prog 146 #[.agg (fca f)] w fun e w' => e = .returned (.bool (mayFB f)) ∧ Touch w w' (fun _ => False) := by
 obtain ⟨W1, hW1⟩ : ∃ W, w.alloc (.cells (fca f) 83) = W := ⟨_, rfl⟩
 have t1 : Touch w W1 (fun _ => False) := hW1 ▸ (Touch.refl w _).alloc _
 have g1 : W1.heap[w.heap.size]? = some (.cells (fca f) 83 (0, 0)) := hW1 ▸ heap_alloc_new ..
 have HG : RowKit.Hid (∀ W, Touch W1 W (fun _ => False) → W.cell? ⟨w.heap.size, 5, none⟩ = some (.int .i64 f.fb) ∧ W.cell? ⟨w.heap.size, 6, none⟩ = some (.int .i64 f.fg) ∧ W.cell? ⟨w.heap.size, 7, none⟩ = some (.int .i64 f.fs)) := Lib.hid (fun W t => (fcells_of (t.keeps g1 (fun h => h))).2.2.2.2.2)
 obtain ⟨c0, c1, c2, c3, c4, -, -, -⟩ := fcells_of g1
 have HT1 := Lib.hid t1
 have HMT := Lib.hid (fun W => mayT_any f.t W)
 have HTM := Lib.hid (fun W => ftime_any W f.fs)
 have HW1 := Lib.hid hW1
 obtain ⟨⟨a1, a2, a3, a4, a5⟩, fb, fg, fs⟩ := f
 simp only [fca, tcs] at *
 clear hW1 t1 g1
 obtain ⟨m, hm⟩ : ∃ m, mayTB ⟨a1, a2, a3, a4, a5⟩ = m := ⟨_, rfl⟩
 rw [hm] at HMT
 cases m with
 | false =>
   have e : mayFB ⟨⟨a1, a2, a3, a4, a5⟩, fb, fg, fs⟩ = false := by unfold mayFB; rw [hm]; rfl
   rw [e]
   clear e hm
   go_enter Tryz.func146, Tryz.ntmps146
   go_upto_region 1 with (fail)
   rw [HW1.out]
   go_wp2_with fail
   (with_reducible refine (HMT.out _).mono ?_)
   rintro e w2 ⟨rfl, t2⟩
   have HT2 := Lib.hid (HT1.out.trans t2 (fun _ _ h => h))
   clear t2
   go_wp2_with fail
   go_ret
   exact ⟨rfl, HT2.out⟩
 | true =>
   have e : mayFB ⟨⟨a1, a2, a3, a4, a5⟩, fb, fg, fs⟩ = decide ((0 ≤ fb ∧ fb ≤ 65535) ∧ (0 ≤ fg ∧ fg ≤ 1000000) ∧ 0 ≤ fs ∧ fs ≤ 1099511627776) := by unfold mayFB; rw [hm]; rfl
   rw [e]
   clear e hm
   unfold timB at HTM
   by_cases hb0 : 0 ≤ fb
   case neg =>
    have e : decide ((0 ≤ fb ∧ fb ≤ 65535) ∧ (0 ≤ fg ∧ fg ≤ 1000000) ∧ 0 ≤ fs ∧ fs ≤ 1099511627776) = false := by simp [hb0]
    rw [e]
    clear e
    go_enter Tryz.func146, Tryz.ntmps146
    go_upto_region 1 with (fail)
    rw [HW1.out]
    go_wp2_with fail
    (with_reducible refine (HMT.out _).mono ?_)
    rintro e w2 ⟨rfl, t2⟩
    obtain ⟨d5, d6, d7⟩ := HG.out w2 t2
    have HT2 := Lib.hid (HT1.out.trans t2 (fun _ _ h => h))
    clear t2 c0 c1 c2 c3 c4
    go_wp2_with fail
    go_ret
    exact ⟨rfl, HT2.out⟩
   by_cases hb1 : fb ≤ 65535
   case neg =>
    have e : decide ((0 ≤ fb ∧ fb ≤ 65535) ∧ (0 ≤ fg ∧ fg ≤ 1000000) ∧ 0 ≤ fs ∧ fs ≤ 1099511627776) = false := by simp [hb1]
    rw [e]
    clear e
    go_enter Tryz.func146, Tryz.ntmps146
    go_upto_region 1 with (fail)
    rw [HW1.out]
    go_wp2_with fail
    (with_reducible refine (HMT.out _).mono ?_)
    rintro e w2 ⟨rfl, t2⟩
    obtain ⟨d5, d6, d7⟩ := HG.out w2 t2
    have HT2 := Lib.hid (HT1.out.trans t2 (fun _ _ h => h))
    clear t2 c0 c1 c2 c3 c4
    go_wp2_with fail
    go_ret
    exact ⟨rfl, HT2.out⟩
   by_cases hg0 : 0 ≤ fg
   case neg =>
    have e : decide ((0 ≤ fb ∧ fb ≤ 65535) ∧ (0 ≤ fg ∧ fg ≤ 1000000) ∧ 0 ≤ fs ∧ fs ≤ 1099511627776) = false := by simp [hg0]
    rw [e]
    clear e
    go_enter Tryz.func146, Tryz.ntmps146
    go_upto_region 1 with (fail)
    rw [HW1.out]
    go_wp2_with fail
    (with_reducible refine (HMT.out _).mono ?_)
    rintro e w2 ⟨rfl, t2⟩
    obtain ⟨d5, d6, d7⟩ := HG.out w2 t2
    have HT2 := Lib.hid (HT1.out.trans t2 (fun _ _ h => h))
    clear t2 c0 c1 c2 c3 c4
    go_wp2_with fail
    go_ret
    exact ⟨rfl, HT2.out⟩
   by_cases hg1 : fg ≤ 1000000
   case neg =>
    have e : decide ((0 ≤ fb ∧ fb ≤ 65535) ∧ (0 ≤ fg ∧ fg ≤ 1000000) ∧ 0 ≤ fs ∧ fs ≤ 1099511627776) = false := by simp [hg1]
    rw [e]
    clear e
    go_enter Tryz.func146, Tryz.ntmps146
    go_upto_region 1 with (fail)
    rw [HW1.out]
    go_wp2_with fail
    (with_reducible refine (HMT.out _).mono ?_)
    rintro e w2 ⟨rfl, t2⟩
    obtain ⟨d5, d6, d7⟩ := HG.out w2 t2
    have HT2 := Lib.hid (HT1.out.trans t2 (fun _ _ h => h))
    clear t2 c0 c1 c2 c3 c4
    go_wp2_with fail
    go_ret
    exact ⟨rfl, HT2.out⟩
   have e : decide ((0 ≤ fb ∧ fb ≤ 65535) ∧ (0 ≤ fg ∧ fg ≤ 1000000) ∧ 0 ≤ fs ∧ fs ≤ 1099511627776) = decide (0 ≤ fs ∧ fs ≤ 1099511627776) := by simp [hb0, hb1, hg0, hg1]
   rw [e]
   clear e
   generalize decide (0 ≤ fs ∧ fs ≤ 1099511627776) = tb at *
   go_enter Tryz.func146, Tryz.ntmps146
   go_upto_region 1 with (fail)
   rw [HW1.out]
   go_wp2_with fail
   (with_reducible refine (HMT.out _).mono ?_)
   rintro e w2 ⟨rfl, t2⟩
   obtain ⟨d5, d6, d7⟩ := HG.out w2 t2
   have HT2 := Lib.hid (HT1.out.trans t2 (fun _ _ h => h))
   clear t2 c0 c1 c2 c3 c4
   go_wp2_with fail
   (with_reducible refine (HTM.out _).mono ?_)
   rintro e w3 ⟨rfl, rfl⟩
   go_wp2_with fail
   go_ret
   exact ⟨rfl, HT2.out⟩
theorem may_ok {f : FlD} (h : mayFB f = true) : mayTB f.t = true ∧ (0 ≤ f.fb ∧ f.fb ≤ 65535) ∧ (0 ≤ f.fg ∧ f.fg ≤ 1000000) ∧ 0 ≤ f.fs ∧ f.fs ≤ 1099511627776 := by
 unfold mayFB rngF at h
 rw [Bool.and_eq_true, decide_eq_true_iff] at h
 exact h
def qf (f : FlD) : QR := ⟨kT f.t, f.fs⟩
def MayF (M : List FlD) : Prop := ∀ f ∈ M, TupOk f.t ∧ mayFB f = true
theorem del_qf {M : List FlD} (ok : MayF M) {t : TupD} (ot : TupOk t) (mt : mayTB t = true) : delQ (M.map qf) (kT t) = (delF M t).map qf := by
 unfold delQ delF
 rw [List.filter_map]
 congr 1
 apply List.filter_congr
 intro d hd
 by_cases e : d.t = t
 ·simp [e, qf]
 ·have : ¬ kT d.t = kT t := fun h => e (kT_inj (ok d hd).1 ot (may_ok (ok d hd).2).1 mt h)
  simp [e, qf, this]
theorem perm_mapF {α β : Type} (f : α → β) : ∀ {L : List β} {M : List α}, L.Perm (M.map f) → ∃ M1 : List α, M1.Perm M ∧ L = M1.map f
 | [], M, h => ⟨[], by have := h.length_eq; simp at this; rw [List.eq_nil_of_length_eq_zero this.symm], rfl⟩
 | x :: L, M, h => by
   obtain ⟨d, hd, e⟩ := List.mem_map.1 (h.mem_iff.1 List.mem_cons_self)
   obtain ⟨s, t, rfl⟩ := List.append_of_mem hd
   have h2 : (x :: L).Perm (f d :: (s ++ t).map f) := h.trans (List.perm_middle.map f)
   rw [e] at h2
   obtain ⟨M1, p1, e1⟩ := perm_mapF f (h2.cons_inv)
   exact ⟨d :: M1, (p1.cons d).trans List.perm_middle.symm, by rw [List.map_cons, e1, e]⟩
theorem set_qf {M : List FlD} (ok : MayF M) {f : FlD} (of : TupOk f.t) (mf : mayFB f = true) (hl : M.length < 1024) : ∃ M1 : List FlD, M1.Perm (f :: delF M f.t) ∧ setQ (M.map qf) (kT f.t) f.fs = M1.map qf ∧ setE (M.map qf) (kT f.t) f.fs = 0 := by
 obtain ⟨m1, _, _, m4, m5⟩ := may_ok mf
 have he : setE (M.map qf) (kT f.t) f.fs = 0 := by
  unfold setE
  rw [if_neg (by omega)]
  split
  ·rfl
  ·rw [if_neg (by simp; omega)]
 obtain ⟨M1, p1, e1⟩ := perm_mapF qf (L := setQ (M.map qf) (kT f.t) f.fs) (M := f :: delF M f.t) (by
  unfold setQ
  rw [if_pos he, del_qf ok of m1]
  exact ins_perm _ _)
 exact ⟨M1, p1, e1, he⟩
structure FH where
 mb : Nat
 bq : Nat
 hq : QH
def footF (g : Nat) (h : FH) (k : Nat) : Prop := k = g ∨ k = h.mb ∨ footQ h.bq h.hq k
structure FS (w : World) (g : Nat) (h : FH) (most idle : Int) (M : List FlD) : Prop where
 head : w.heap[g]? = some (.cells #[.int .i64 most, .int .i64 idle, .map (some h.mb), .pointer (some ⟨h.bq, 0, none⟩)] 97 (0, 0))
 q : QL w h.bq h.hq (M.map qf)
 map : OwnFl w h.mb M
 n1 : g ≠ h.mb
 n2 : ¬ footQ h.bq h.hq g
 n3 : ¬ footQ h.bq h.hq h.mb
 ok : MayF M
 len : (M.length : Int) ≤ most ∧ 0 ≤ most ∧ most ≤ 256
 idl : 1 ≤ idle ∧ idle ≤ 1099511627776
def FStep (w w' : World) (g : Nat) (h : FH) (most idle : Int) (M' : List FlD) : Prop :=
 ∃ h' M1, M1.Perm M' ∧ FS w' g h' most idle M1 ∧ Touch w w' (footF g h) ∧ ∀ k, footF g h' k → footF g h k ∨ w.heap.size ≤ k
section
variable {w w' : World} {g : Nat} {h : FH} {most idle : Int} {M : List FlD}
theorem FS.touch {S : Nat → Prop} (d : FS w g h most idle M) (t : Touch w w' S) (hn : ∀ k, footF g h k → ¬ S k) : FS w' g h most idle M :=
 ⟨t.keeps d.head (hn g (.inl rfl)), d.q.touch t (fun k hk => hn k (.inr (.inr hk))), d.map.touch t (hn _ (.inr (.inl rfl))), d.n1, d.n2, d.n3, d.ok, d.len, d.idl⟩
theorem FS.still (d : FS w g h most idle M) (t : Touch w w' (fun _ => False)) : FS w' g h most idle M := d.touch t (fun _ _ h => h)
theorem FS.footlt (d : FS w g h most idle M) : ∀ k, footF g h k → k < w.heap.size := by
 rintro k (rfl | rfl | hk)
 ·exact heap_lt d.head
 ·exact d.map.lt
 ·exact d.q.footlt k hk
theorem FS.nd (d : FS w g h most idle M) : (M.map FlD.t).Nodup := d.map.nd
theorem FS.cells (d : FS w g h most idle M) : w.cell? ⟨g, 0, none⟩ = some (.int .i64 most) ∧ w.cell? ⟨g, 1, none⟩ = some (.int .i64 idle) ∧ w.cell? ⟨g, 2, none⟩ = some (.map (some h.mb)) ∧ w.cell? ⟨g, 3, none⟩ = some (.pointer (some ⟨h.bq, 0, none⟩)) := ⟨cell_of_cells d.head 0, cell_of_cells d.head 1, cell_of_cells d.head 2, cell_of_cells d.head 3⟩
end
set_option maxRecDepth 20000 in
theorem flen_any (w : World) (g : Nat) (h : FH) (most idle : Int) (M : List FlD) (d : FS w g h most idle M) :
 Calls Tryz.prog 32 #[.pointer (some ⟨g, 0, none⟩)] w fun e w' => e = .returned (.int .i64 M.length) ∧ w = w' := by
 obtain ⟨c0, c1, c2, c3⟩ := d.cells
 have hrun := d.map.len 3
 go_enter Tryz.func32, Tryz.ntmps32
 go_wp2_with fail
 go_ret
 exact ⟨rfl, rfl⟩
set_option maxRecDepth 20000 in
set_option maxHeartbeats 4000000 in
theorem fnew_any (w : World) (most idle : Int) :
 Calls Tryz.prog 10 #[.int .i64 most, .int .i64 idle] w fun e w' => ∃ g h, e = .returned (.pointer (some ⟨g, 0, none⟩)) ∧ FS w' g h (min (max most 0) 256) (min (max idle 1) 1099511627776) [] ∧ Touch w w' (fun _ => False) ∧ ∀ k, footF g h k → w.heap.size ≤ k := by
 obtain ⟨W1, hW1⟩ : ∃ W, w.alloc (.map #[] 0) = W := ⟨_, rfl⟩
 have t1 : Touch w W1 (fun _ => False) := hW1 ▸ (Touch.refl w _).alloc _
 have hmo : OwnFl W1 w.heap.size [] := hW1 ▸ OwnFl.made w
 have hs1 : W1.heap.size = w.heap.size + 1 := by rw [← hW1]; simp
 have hmk := run_makeMap (P := Tryz.prog) 93 w
 rw [hW1] at hmk
 obtain ⟨mo, hmost⟩ : ∃ mo, min (max most 0) 256 = mo := ⟨_, rfl⟩
 obtain ⟨id, hidle⟩ : ∃ id, min (max idle 1) 1099511627776 = id := ⟨_, rfl⟩
 have hmo1 : 0 ≤ mo ∧ mo ≤ 256 := by omega
 have hid1 : 1 ≤ id ∧ id ≤ 1099511627776 := by omega
 rw [hmost, hidle]
 have HMO1 := Lib.hid hmost
 have HID1 := Lib.hid hidle
 have HT1 := Lib.hid t1
 have HMO := Lib.hid hmo
 have HR := Lib.hid (And.intro hmo1 hid1)
 have x1 : (most < 0 ∧ mo = 0) ∨ (0 ≤ most ∧ most ≤ 256 ∧ most = mo) ∨ (256 < most ∧ mo = 256) := by omega
 have x2 : (idle < 1 ∧ id = 1) ∨ (1 ≤ idle ∧ idle ≤ 1099511627776 ∧ idle = id) ∨ (1099511627776 < idle ∧ id = 1099511627776) := by omega
 clear t1 hmo hmost hidle hmo1 hid1
 rcases x1 with ⟨y1, rfl⟩ | ⟨y1, y2, rfl⟩ | ⟨y1, rfl⟩ <;> rcases x2 with ⟨z1, rfl⟩ | ⟨z1, z2, rfl⟩ | ⟨z1, rfl⟩
 ·  go_enter Tryz.func10, Tryz.ntmps10
    go_wp2_with fail
    refine (qnew_any W1).mono ?_
    rintro e w2 ⟨rfl, q2, t2, f2⟩
    have hsz := t2.size
    have hlt := q2.footlt _ (.inl rfl)
    obtain ⟨W3, hW3⟩ : ∃ W, w2.alloc (.cells #[.int .i64 0, .int .i64 1, .map (some w.heap.size), .pointer (some ⟨W1.heap.size, 0, none⟩)] 97) = W := ⟨_, rfl⟩
    have t3 : Touch w2 W3 (fun _ => False) := hW3 ▸ (Touch.refl w2 _).alloc _
    have h3 : W3.heap[w2.heap.size]? = some (.cells #[.int .i64 0, .int .i64 1, .map (some w.heap.size), .pointer (some ⟨W1.heap.size, 0, none⟩)] 97 (0, 0)) := hW3 ▸ heap_alloc_new ..
    have HDS : RowKit.Hid (FS W3 w2.heap.size ⟨w.heap.size, W1.heap.size, ⟨none, 0, none⟩⟩ 0 1 [] ∧ Touch w W3 (fun _ => False) ∧ ∀ k, footF w2.heap.size ⟨w.heap.size, W1.heap.size, ⟨none, 0, none⟩⟩ k → w.heap.size ≤ k) := Lib.hid (by
     refine ⟨⟨h3, q2.still t3, HMO.out.still (t2.trans t3 (fun _ _ h => h)), by dsimp only; omega, fun hf => ?_, fun hf => ?_, (fun f hf => by cases hf), ⟨HR.out.1.1, HR.out.1⟩, HR.out.2⟩, (HT1.out.trans t2 (fun _ _ h => h)).trans t3 (fun _ _ h => h), ?_⟩
     ·have := q2.footlt _ hf; omega
     ·have := f2 _ hf; dsimp only at this; omega
     ·rintro k (rfl | rfl | hf)
      ·omega
      ·exact Nat.le_refl _
      ·have := f2 _ hf; omega)
    clear q2 t2 f2 t3 h3 hmk hsz hlt hs1
    go_wp2_with fail
    go_ret
    exact ⟨_, _, rfl, HDS.out⟩
 ·  go_enter Tryz.func10, Tryz.ntmps10
    go_wp2_with fail
    refine (qnew_any W1).mono ?_
    rintro e w2 ⟨rfl, q2, t2, f2⟩
    have hsz := t2.size
    have hlt := q2.footlt _ (.inl rfl)
    obtain ⟨W3, hW3⟩ : ∃ W, w2.alloc (.cells #[.int .i64 0, .int .i64 idle, .map (some w.heap.size), .pointer (some ⟨W1.heap.size, 0, none⟩)] 97) = W := ⟨_, rfl⟩
    have t3 : Touch w2 W3 (fun _ => False) := hW3 ▸ (Touch.refl w2 _).alloc _
    have h3 : W3.heap[w2.heap.size]? = some (.cells #[.int .i64 0, .int .i64 idle, .map (some w.heap.size), .pointer (some ⟨W1.heap.size, 0, none⟩)] 97 (0, 0)) := hW3 ▸ heap_alloc_new ..
    have HDS : RowKit.Hid (FS W3 w2.heap.size ⟨w.heap.size, W1.heap.size, ⟨none, 0, none⟩⟩ 0 idle [] ∧ Touch w W3 (fun _ => False) ∧ ∀ k, footF w2.heap.size ⟨w.heap.size, W1.heap.size, ⟨none, 0, none⟩⟩ k → w.heap.size ≤ k) := Lib.hid (by
     refine ⟨⟨h3, q2.still t3, HMO.out.still (t2.trans t3 (fun _ _ h => h)), by dsimp only; omega, fun hf => ?_, fun hf => ?_, (fun f hf => by cases hf), ⟨HR.out.1.1, HR.out.1⟩, HR.out.2⟩, (HT1.out.trans t2 (fun _ _ h => h)).trans t3 (fun _ _ h => h), ?_⟩
     ·have := q2.footlt _ hf; omega
     ·have := f2 _ hf; dsimp only at this; omega
     ·rintro k (rfl | rfl | hf)
      ·omega
      ·exact Nat.le_refl _
      ·have := f2 _ hf; omega)
    clear q2 t2 f2 t3 h3 hmk hsz hlt hs1
    go_wp2_with fail
    go_ret
    exact ⟨_, _, rfl, HDS.out⟩
 ·  go_enter Tryz.func10, Tryz.ntmps10
    go_wp2_with fail
    refine (qnew_any W1).mono ?_
    rintro e w2 ⟨rfl, q2, t2, f2⟩
    have hsz := t2.size
    have hlt := q2.footlt _ (.inl rfl)
    obtain ⟨W3, hW3⟩ : ∃ W, w2.alloc (.cells #[.int .i64 0, .int .i64 1099511627776, .map (some w.heap.size), .pointer (some ⟨W1.heap.size, 0, none⟩)] 97) = W := ⟨_, rfl⟩
    have t3 : Touch w2 W3 (fun _ => False) := hW3 ▸ (Touch.refl w2 _).alloc _
    have h3 : W3.heap[w2.heap.size]? = some (.cells #[.int .i64 0, .int .i64 1099511627776, .map (some w.heap.size), .pointer (some ⟨W1.heap.size, 0, none⟩)] 97 (0, 0)) := hW3 ▸ heap_alloc_new ..
    have HDS : RowKit.Hid (FS W3 w2.heap.size ⟨w.heap.size, W1.heap.size, ⟨none, 0, none⟩⟩ 0 1099511627776 [] ∧ Touch w W3 (fun _ => False) ∧ ∀ k, footF w2.heap.size ⟨w.heap.size, W1.heap.size, ⟨none, 0, none⟩⟩ k → w.heap.size ≤ k) := Lib.hid (by
     refine ⟨⟨h3, q2.still t3, HMO.out.still (t2.trans t3 (fun _ _ h => h)), by dsimp only; omega, fun hf => ?_, fun hf => ?_, (fun f hf => by cases hf), ⟨HR.out.1.1, HR.out.1⟩, HR.out.2⟩, (HT1.out.trans t2 (fun _ _ h => h)).trans t3 (fun _ _ h => h), ?_⟩
     ·have := q2.footlt _ hf; omega
     ·have := f2 _ hf; dsimp only at this; omega
     ·rintro k (rfl | rfl | hf)
      ·omega
      ·exact Nat.le_refl _
      ·have := f2 _ hf; omega)
    clear q2 t2 f2 t3 h3 hmk hsz hlt hs1
    go_wp2_with fail
    go_ret
    exact ⟨_, _, rfl, HDS.out⟩
 ·  go_enter Tryz.func10, Tryz.ntmps10
    go_wp2_with fail
    refine (qnew_any W1).mono ?_
    rintro e w2 ⟨rfl, q2, t2, f2⟩
    have hsz := t2.size
    have hlt := q2.footlt _ (.inl rfl)
    obtain ⟨W3, hW3⟩ : ∃ W, w2.alloc (.cells #[.int .i64 most, .int .i64 1, .map (some w.heap.size), .pointer (some ⟨W1.heap.size, 0, none⟩)] 97) = W := ⟨_, rfl⟩
    have t3 : Touch w2 W3 (fun _ => False) := hW3 ▸ (Touch.refl w2 _).alloc _
    have h3 : W3.heap[w2.heap.size]? = some (.cells #[.int .i64 most, .int .i64 1, .map (some w.heap.size), .pointer (some ⟨W1.heap.size, 0, none⟩)] 97 (0, 0)) := hW3 ▸ heap_alloc_new ..
    have HDS : RowKit.Hid (FS W3 w2.heap.size ⟨w.heap.size, W1.heap.size, ⟨none, 0, none⟩⟩ most 1 [] ∧ Touch w W3 (fun _ => False) ∧ ∀ k, footF w2.heap.size ⟨w.heap.size, W1.heap.size, ⟨none, 0, none⟩⟩ k → w.heap.size ≤ k) := Lib.hid (by
     refine ⟨⟨h3, q2.still t3, HMO.out.still (t2.trans t3 (fun _ _ h => h)), by dsimp only; omega, fun hf => ?_, fun hf => ?_, (fun f hf => by cases hf), ⟨HR.out.1.1, HR.out.1⟩, HR.out.2⟩, (HT1.out.trans t2 (fun _ _ h => h)).trans t3 (fun _ _ h => h), ?_⟩
     ·have := q2.footlt _ hf; omega
     ·have := f2 _ hf; dsimp only at this; omega
     ·rintro k (rfl | rfl | hf)
      ·omega
      ·exact Nat.le_refl _
      ·have := f2 _ hf; omega)
    clear q2 t2 f2 t3 h3 hmk hsz hlt hs1
    go_wp2_with fail
    go_ret
    exact ⟨_, _, rfl, HDS.out⟩
 ·  go_enter Tryz.func10, Tryz.ntmps10
    go_wp2_with fail
    refine (qnew_any W1).mono ?_
    rintro e w2 ⟨rfl, q2, t2, f2⟩
    have hsz := t2.size
    have hlt := q2.footlt _ (.inl rfl)
    obtain ⟨W3, hW3⟩ : ∃ W, w2.alloc (.cells #[.int .i64 most, .int .i64 idle, .map (some w.heap.size), .pointer (some ⟨W1.heap.size, 0, none⟩)] 97) = W := ⟨_, rfl⟩
    have t3 : Touch w2 W3 (fun _ => False) := hW3 ▸ (Touch.refl w2 _).alloc _
    have h3 : W3.heap[w2.heap.size]? = some (.cells #[.int .i64 most, .int .i64 idle, .map (some w.heap.size), .pointer (some ⟨W1.heap.size, 0, none⟩)] 97 (0, 0)) := hW3 ▸ heap_alloc_new ..
    have HDS : RowKit.Hid (FS W3 w2.heap.size ⟨w.heap.size, W1.heap.size, ⟨none, 0, none⟩⟩ most idle [] ∧ Touch w W3 (fun _ => False) ∧ ∀ k, footF w2.heap.size ⟨w.heap.size, W1.heap.size, ⟨none, 0, none⟩⟩ k → w.heap.size ≤ k) := Lib.hid (by
     refine ⟨⟨h3, q2.still t3, HMO.out.still (t2.trans t3 (fun _ _ h => h)), by dsimp only; omega, fun hf => ?_, fun hf => ?_, (fun f hf => by cases hf), ⟨HR.out.1.1, HR.out.1⟩, HR.out.2⟩, (HT1.out.trans t2 (fun _ _ h => h)).trans t3 (fun _ _ h => h), ?_⟩
     ·have := q2.footlt _ hf; omega
     ·have := f2 _ hf; dsimp only at this; omega
     ·rintro k (rfl | rfl | hf)
      ·omega
      ·exact Nat.le_refl _
      ·have := f2 _ hf; omega)
    clear q2 t2 f2 t3 h3 hmk hsz hlt hs1
    go_wp2_with fail
    go_ret
    exact ⟨_, _, rfl, HDS.out⟩
 ·  go_enter Tryz.func10, Tryz.ntmps10
    go_wp2_with fail
    refine (qnew_any W1).mono ?_
    rintro e w2 ⟨rfl, q2, t2, f2⟩
    have hsz := t2.size
    have hlt := q2.footlt _ (.inl rfl)
    obtain ⟨W3, hW3⟩ : ∃ W, w2.alloc (.cells #[.int .i64 most, .int .i64 1099511627776, .map (some w.heap.size), .pointer (some ⟨W1.heap.size, 0, none⟩)] 97) = W := ⟨_, rfl⟩
    have t3 : Touch w2 W3 (fun _ => False) := hW3 ▸ (Touch.refl w2 _).alloc _
    have h3 : W3.heap[w2.heap.size]? = some (.cells #[.int .i64 most, .int .i64 1099511627776, .map (some w.heap.size), .pointer (some ⟨W1.heap.size, 0, none⟩)] 97 (0, 0)) := hW3 ▸ heap_alloc_new ..
    have HDS : RowKit.Hid (FS W3 w2.heap.size ⟨w.heap.size, W1.heap.size, ⟨none, 0, none⟩⟩ most 1099511627776 [] ∧ Touch w W3 (fun _ => False) ∧ ∀ k, footF w2.heap.size ⟨w.heap.size, W1.heap.size, ⟨none, 0, none⟩⟩ k → w.heap.size ≤ k) := Lib.hid (by
     refine ⟨⟨h3, q2.still t3, HMO.out.still (t2.trans t3 (fun _ _ h => h)), by dsimp only; omega, fun hf => ?_, fun hf => ?_, (fun f hf => by cases hf), ⟨HR.out.1.1, HR.out.1⟩, HR.out.2⟩, (HT1.out.trans t2 (fun _ _ h => h)).trans t3 (fun _ _ h => h), ?_⟩
     ·have := q2.footlt _ hf; omega
     ·have := f2 _ hf; dsimp only at this; omega
     ·rintro k (rfl | rfl | hf)
      ·omega
      ·exact Nat.le_refl _
      ·have := f2 _ hf; omega)
    clear q2 t2 f2 t3 h3 hmk hsz hlt hs1
    go_wp2_with fail
    go_ret
    exact ⟨_, _, rfl, HDS.out⟩
 ·  go_enter Tryz.func10, Tryz.ntmps10
    go_wp2_with fail
    refine (qnew_any W1).mono ?_
    rintro e w2 ⟨rfl, q2, t2, f2⟩
    have hsz := t2.size
    have hlt := q2.footlt _ (.inl rfl)
    obtain ⟨W3, hW3⟩ : ∃ W, w2.alloc (.cells #[.int .i64 256, .int .i64 1, .map (some w.heap.size), .pointer (some ⟨W1.heap.size, 0, none⟩)] 97) = W := ⟨_, rfl⟩
    have t3 : Touch w2 W3 (fun _ => False) := hW3 ▸ (Touch.refl w2 _).alloc _
    have h3 : W3.heap[w2.heap.size]? = some (.cells #[.int .i64 256, .int .i64 1, .map (some w.heap.size), .pointer (some ⟨W1.heap.size, 0, none⟩)] 97 (0, 0)) := hW3 ▸ heap_alloc_new ..
    have HDS : RowKit.Hid (FS W3 w2.heap.size ⟨w.heap.size, W1.heap.size, ⟨none, 0, none⟩⟩ 256 1 [] ∧ Touch w W3 (fun _ => False) ∧ ∀ k, footF w2.heap.size ⟨w.heap.size, W1.heap.size, ⟨none, 0, none⟩⟩ k → w.heap.size ≤ k) := Lib.hid (by
     refine ⟨⟨h3, q2.still t3, HMO.out.still (t2.trans t3 (fun _ _ h => h)), by dsimp only; omega, fun hf => ?_, fun hf => ?_, (fun f hf => by cases hf), ⟨HR.out.1.1, HR.out.1⟩, HR.out.2⟩, (HT1.out.trans t2 (fun _ _ h => h)).trans t3 (fun _ _ h => h), ?_⟩
     ·have := q2.footlt _ hf; omega
     ·have := f2 _ hf; dsimp only at this; omega
     ·rintro k (rfl | rfl | hf)
      ·omega
      ·exact Nat.le_refl _
      ·have := f2 _ hf; omega)
    clear q2 t2 f2 t3 h3 hmk hsz hlt hs1
    go_wp2_with fail
    go_ret
    exact ⟨_, _, rfl, HDS.out⟩
 ·  go_enter Tryz.func10, Tryz.ntmps10
    go_wp2_with fail
    refine (qnew_any W1).mono ?_
    rintro e w2 ⟨rfl, q2, t2, f2⟩
    have hsz := t2.size
    have hlt := q2.footlt _ (.inl rfl)
    obtain ⟨W3, hW3⟩ : ∃ W, w2.alloc (.cells #[.int .i64 256, .int .i64 idle, .map (some w.heap.size), .pointer (some ⟨W1.heap.size, 0, none⟩)] 97) = W := ⟨_, rfl⟩
    have t3 : Touch w2 W3 (fun _ => False) := hW3 ▸ (Touch.refl w2 _).alloc _
    have h3 : W3.heap[w2.heap.size]? = some (.cells #[.int .i64 256, .int .i64 idle, .map (some w.heap.size), .pointer (some ⟨W1.heap.size, 0, none⟩)] 97 (0, 0)) := hW3 ▸ heap_alloc_new ..
    have HDS : RowKit.Hid (FS W3 w2.heap.size ⟨w.heap.size, W1.heap.size, ⟨none, 0, none⟩⟩ 256 idle [] ∧ Touch w W3 (fun _ => False) ∧ ∀ k, footF w2.heap.size ⟨w.heap.size, W1.heap.size, ⟨none, 0, none⟩⟩ k → w.heap.size ≤ k) := Lib.hid (by
     refine ⟨⟨h3, q2.still t3, HMO.out.still (t2.trans t3 (fun _ _ h => h)), by dsimp only; omega, fun hf => ?_, fun hf => ?_, (fun f hf => by cases hf), ⟨HR.out.1.1, HR.out.1⟩, HR.out.2⟩, (HT1.out.trans t2 (fun _ _ h => h)).trans t3 (fun _ _ h => h), ?_⟩
     ·have := q2.footlt _ hf; omega
     ·have := f2 _ hf; dsimp only at this; omega
     ·rintro k (rfl | rfl | hf)
      ·omega
      ·exact Nat.le_refl _
      ·have := f2 _ hf; omega)
    clear q2 t2 f2 t3 h3 hmk hsz hlt hs1
    go_wp2_with fail
    go_ret
    exact ⟨_, _, rfl, HDS.out⟩
 ·  go_enter Tryz.func10, Tryz.ntmps10
    go_wp2_with fail
    refine (qnew_any W1).mono ?_
    rintro e w2 ⟨rfl, q2, t2, f2⟩
    have hsz := t2.size
    have hlt := q2.footlt _ (.inl rfl)
    obtain ⟨W3, hW3⟩ : ∃ W, w2.alloc (.cells #[.int .i64 256, .int .i64 1099511627776, .map (some w.heap.size), .pointer (some ⟨W1.heap.size, 0, none⟩)] 97) = W := ⟨_, rfl⟩
    have t3 : Touch w2 W3 (fun _ => False) := hW3 ▸ (Touch.refl w2 _).alloc _
    have h3 : W3.heap[w2.heap.size]? = some (.cells #[.int .i64 256, .int .i64 1099511627776, .map (some w.heap.size), .pointer (some ⟨W1.heap.size, 0, none⟩)] 97 (0, 0)) := hW3 ▸ heap_alloc_new ..
    have HDS : RowKit.Hid (FS W3 w2.heap.size ⟨w.heap.size, W1.heap.size, ⟨none, 0, none⟩⟩ 256 1099511627776 [] ∧ Touch w W3 (fun _ => False) ∧ ∀ k, footF w2.heap.size ⟨w.heap.size, W1.heap.size, ⟨none, 0, none⟩⟩ k → w.heap.size ≤ k) := Lib.hid (by
     refine ⟨⟨h3, q2.still t3, HMO.out.still (t2.trans t3 (fun _ _ h => h)), by dsimp only; omega, fun hf => ?_, fun hf => ?_, (fun f hf => by cases hf), ⟨HR.out.1.1, HR.out.1⟩, HR.out.2⟩, (HT1.out.trans t2 (fun _ _ h => h)).trans t3 (fun _ _ h => h), ?_⟩
     ·have := q2.footlt _ hf; omega
     ·have := f2 _ hf; dsimp only at this; omega
     ·rintro k (rfl | rfl | hf)
      ·omega
      ·exact Nat.le_refl _
      ·have := f2 _ hf; omega)
    clear q2 t2 f2 t3 h3 hmk hsz hlt hs1
    go_wp2_with fail
    go_ret
    exact ⟨_, _, rfl, HDS.out⟩
end Go.Proofs.YtpjdcgjoepjmcaaGreat
end
section
namespace Go.Proofs.YtpjdcgjoepjmcaaGreat
open Go.RowKit
theorem infoTupF : (Tryz.prog.info? 37).map (·.size) = some 5 := by kernel_rfl
theorem enter_fkey (a : Value) (w : World) : (callFunc 143 #[a]).run Tryz.prog w = .ok (.enter 143 #[a]) w := by kernel_rfl
theorem enter_qsetF (a b c : Value) (w : World) : (callFunc 173 #[a, b, c]).run Tryz.prog w = .ok (.enter 173 #[a, b, c]) w := by kernel_rfl
set_option maxRecDepth 20000 in
set_option maxHeartbeats 4000000 in
theorem fget_any (w : World) (g : Nat) (h : FH) (most idle : Int) (M : List FlD) (d : FS w g h most idle M) (t : TupD) (ot : TupOk t) :
 Calls Tryz.prog 33 #[.pointer (some ⟨g, 0, none⟩), .agg (tcs t)] w fun e w' => e = .returned (.tuple #[.agg (fca (getF M t)), .bool (hasF M t)]) ∧ Touch w w' (fun _ => False) := by
 have HD := Lib.hid d
 obtain ⟨W1, hW1⟩ : ∃ W, w.alloc (.cells (tcs t) 37) = W := ⟨_, rfl⟩
 have t1 : Touch w W1 (fun _ => False) := hW1 ▸ (Touch.refl w _).alloc _
 have g1 : W1.heap[w.heap.size]? = some (.cells (tcs t) 37 (0, 0)) := hW1 ▸ heap_alloc_new ..
 have s1 : W1.heap.size = w.heap.size + 1 := by rw [← hW1]; simp
 obtain ⟨W2, hW2⟩ : ∃ W, W1.alloc (.cells (fca noF) 83) = W := ⟨_, rfl⟩
 have t2 : Touch W1 W2 (fun _ => False) := hW2 ▸ (Touch.refl W1 _).alloc _
 have g2 : W2.heap[w.heap.size + 1]? = some (.cells (fca noF) 83 (0, 0)) := by
  rw [← s1]; exact hW2 ▸ heap_alloc_new ..
 have s2 : W2.heap.size = w.heap.size + 2 := by rw [← hW2]; simp [s1]
 have HT2 := Lib.hid (t1.trans t2 (fun _ _ h => h))
 have HG1 : RowKit.Hid (∀ W, Touch W2 W (fun _ => False) → W.heap[w.heap.size]? = some (.cells (tcs t) 37 (0, 0))) := Lib.hid (fun W x => x.keeps (t2.keeps g1 (fun h => h)) (fun h => h))
 have HG2 : RowKit.Hid (∀ W, Touch W2 W (fun _ => False) → W.heap[w.heap.size + 1]? = some (.cells (fca noF) 83 (0, 0))) := Lib.hid (fun W x => x.keeps g2 (fun h => h))
 have HCC : RowKit.Hid (∀ W, Touch W2 W (fun _ => False) → W.cell? ⟨g, 2, none⟩ = some (.map (some h.mb))) := Lib.hid (fun W x => (d.still ((t1.trans t2 (fun _ _ h => h)).trans x (fun _ _ h => h))).cells.2.2.1)
 have HLK : RowKit.Hid (∀ W, Touch W2 W (fun _ => False) → (Instr.lookup 93 (.map (some h.mb)) (.agg (tcs t)) true).run Tryz.prog W = .ok (.tuple #[.agg (fca (getF M t)), .bool (hasF M t)]) W) := Lib.hid (fun W x => (d.still ((t1.trans t2 (fun _ _ h => h)).trans x (fun _ _ h => h))).map.ok' ot)
 have HI5 := Lib.hid infoTupF
 have HI8 := Lib.hid infoFlow
 have HW2 := Lib.hid (And.intro hW1 hW2)
 have HS2 := Lib.hid s2
 generalize getF M t = F at *
 generalize hasF M t = b at *
 obtain ⟨⟨a1, a2, a3, a4, a5⟩, fb, fg, fs⟩ := F
 obtain ⟨k1, k2, k3, k4, k5⟩ := t
 simp only [tcs, fca, noF, noT] at *
 clear d hW1 t1 g1 s1 hW2 t2 g2 s2
 go_enter Tryz.func33, Tryz.ntmps33
 go_upto_region 3 with (fail)
 rw [HW2.out.1, HW2.out.2]
 have hS := (Touch.refl W2 (fun _ => False)).drew
 refine wp_region_tree (fun w' => Touch W2 w' (fun _ => False)) (.take 0 (.take 1 (.take 2 (.take 3 (.take 4 (.take 5 (.take 6 (.take 7 (.take 8 (.one 9 (.one 10 (.take 11 .fin)))))))))))) (by kernel_rfl) (by kernel_rfl) (by kernel_rfl) (by kernel_rfl) hS ?_
 repeat' (first
  | (with_reducible refine walkT_take ?_)
  | (with_reducible refine walkT_one ?_)
  | (with_reducible refine walkT_two ?_ ?_)
  | (with_reducible refine walkT_fin ?_)
  | ((with_reducible show TakeN _ _ _ _ 4 _ _ _); ((refine takeN_row (some 16) rfl rfl 37 (.tmp 3) rfl (w.heap.size) rfl _ _ _ _ (fun w' h => HG1.out w' h) Tryz.underlying37 rfl HI5.out (fun _ _ _ h => h) (by rfl) ?_; (try simp only [Act.put, List.setIfInBounds_toArray, List.set_cons_zero, List.set_cons_succ]))))
  | ((with_reducible show TakeN _ _ _ _ _ _ _ _); ((refine takeN_take (v := ?_) (some _) rfl rfl (fun _ _ _ h => h) (by rfl) ?_ ?_; rotate_left; (focus (intro w' hw'; have y0 := HCC.out w' hw'; have y1 := HLK.out w' hw'; go_simp; (try with_reducible rfl))); (try simp only [Act.put, List.setIfInBounds_toArray, List.set_cons_zero, List.set_cons_succ]))))
  | ((with_reducible show RunN _ _ _ _ 9 _ _ _); ((refine runN_new 6 (fun W => .pointer (some ⟨W.heap.size, 0, none⟩)) #[.int .u32 0, .int .u32 0, .int .i64 0, .int .i64 0, .int .i64 0, .int .i64 0, .int .i64 0, .int .i64 0] 83 rfl rfl (by rfl) (by intro W; go_simp <;> first | with_reducible rfl | rfl | exact ⟨rfl, rfl⟩) ?_; intro w7 hw7 hM7 hs7 t9; have hS := hS.trans t9 (fun _ _ h => h.elim); have HM7 := Lib.hid hM7; refine ⟨hS, fun _ => ?_⟩; clear hw7 hM7 hs7 t9; (try simp only [Act.put, List.setIfInBounds_toArray, List.set_cons_zero, List.set_cons_succ]))))
  | ((with_reducible show RunN _ _ _ _ 10 _ _ _); ((refine runN_store rfl rfl (by rfl) 83 _ _ rfl _ #[.int .u32 a1, .int .u32 a2, .int .i64 a3, .int .i64 a4, .int .i64 a5, .int .i64 fb, .int .i64 fg, .int .i64 fs] rfl rfl _ _ HM7.out HI8.out rfl rfl ?_; intro w8 h8 t8; have H8 := Lib.hid h8; have hS := hS.trans t8 (fun k hk h => by have h : k = W2.heap.size := h; omega); refine ⟨hS, fun _ => ?_⟩; clear h8 t8; (try simp only [Act.put, List.setIfInBounds_toArray, List.set_cons_zero, List.set_cons_succ])))))
 all_goals
  have HG6 := Lib.hid (hS.keeps (HG2.out _ (Touch.refl _ _)) (fun h => h))
  have HT8 := Lib.hid (HT2.out.trans hS (fun _ _ h => h))
  have h8' : w8.heap[W2.heap.size]? = some (.cells (fca ⟨⟨a1, a2, a3, a4, a5⟩, fb, fg, fs⟩) 83 (0, 0)) := H8.out
  obtain ⟨x0, x1, x2, x3, x4, x5, x6, x7⟩ := fcells_of h8'
  go_wp2_with (refine store_row rfl 83 (.tmp 4) (.tmp 20) rfl (w.heap.size + 1) _ rfl rfl _ _ HG6.out HI8.out rfl rfl ?_)
  refine ret_row1 rfl rfl (w.heap.size + 1) _ #[.int .u32 a1, .int .u32 a2, .int .i64 a3, .int .i64 a4, .int .i64 a5, .int .i64 fb, .int .i64 fg, .int .i64 fs] _ _ rfl (setRow_heap _ _ _ _ _ _ HG6.out) Tryz.underlying83 rfl HI8.out (.bool b) rfl ?_
  exact ⟨rfl, HT8.out.setRow _ _ (fun h => absurd h (by omega))⟩
end Go.Proofs.YtpjdcgjoepjmcaaGreat
end
section
namespace Go.Proofs.YtpjdcgjoepjmcaaGreat
open Go.RowKit
theorem FS.step {w w1 wz w2 w3 : World} {g : Nat} {h : FH} {most idle : Int} {M M1 M' : List FlD} (d : FS w g h most idle M) (t : Touch w w1 (fun _ => False)) (m : OwnFl wz h.mb M') (tz : Touch w1 wz (fun k => k = h.mb)) (t2 : Touch wz w2 (fun _ => False))
 (q : QLStep w2 w3 h.bq h.hq (M1.map qf)) (hp : M1.Perm M') (ok : MayF M') (hl : (M'.length : Int) ≤ most) : FStep w w3 g h most idle M' := by
 obtain ⟨hq', q2, t3, f2⟩ := q
 have hs := heap_lt d.head
 have hm := d.map.lt
 have hz := t.size
 have hz2 := tz.size
 have hz3 := t2.size
 have n2' : ¬ footQ h.bq hq' g := fun hf => by
  rcases f2 _ hf with h1 | h1
  ·exact d.n2 h1
  ·omega
 have n3' : ¬ footQ h.bq hq' h.mb := fun hf => by
  rcases f2 _ hf with h1 | h1
  ·exact d.n3 h1
  ·omega
 refine ⟨⟨h.mb, h.bq, hq'⟩, M1, hp, ⟨t3.keeps (t2.keeps (tz.keeps (t.keeps d.head (fun h => h)) d.n1) (fun h => h)) d.n2, q2, ((m.still t2).touch t3 d.n3).perm hp.symm, d.n1, n2', n3', fun x hx => ok x (hp.mem_iff.1 hx), ⟨by rw [hp.length_eq]; exact hl, d.len.2⟩, d.idl⟩, ?_, ?_⟩
 ·refine (((t.mono (T := footF g h) (fun _ _ h => h.elim)).trans tz (fun k _ hk => .inr (.inl hk))).trans t2 (fun _ _ h => h.elim)).trans t3 (fun k _ hk => .inr (.inr hk))
 ·rintro k (rfl | rfl | hk)
  ·exact .inl (.inl rfl)
  ·exact .inl (.inr (.inl rfl))
  ·rcases f2 k hk with h1 | h1
   ·exact .inl (.inr (.inr h1))
   ·exact .inr (by omega)
theorem keep_len {M : List FlD} (hn : (M.map FlD.t).Nodup) {f : FlD} {most : Int} (hr : hasF M f.t = true ∨ (M.length : Int) < most) (hl : (M.length : Int) ≤ most) : ((f :: delF M f.t).length : Int) ≤ most := by
 have := delF_len hn f.t
 rw [List.length_cons]
 rcases hr with hr | hr
 ·rw [hr] at this; simp at this; omega
 ·omega
theorem keep_ok {M : List FlD} (ok : MayF M) {f : FlD} (of : TupOk f.t) (mf : mayFB f = true) : MayF (f :: delF M f.t) := fun x hx => by
 rcases List.mem_cons.1 hx with rfl | hx
 ·exact ⟨of, mf⟩
 ·exact ok x (List.mem_filter.1 hx).1
set_option maxRecDepth 20000 in
set_option maxHeartbeats 8000000 in
theorem fkeep_any (w : World) (g : Nat) (h : FH) (most idle : Int) (M : List FlD) (d : FS w g h most idle M) (f : FlD) (of : TupOk f.t) (mf : mayFB f = true) (hr : hasF M f.t = true ∨ (M.length : Int) < most) :
 Calls Tryz.prog 145 #[.pointer (some ⟨g, 0, none⟩), .agg (fca f)] w fun e w' => e = .returned (.tuple #[]) ∧ FStep w w' g h most idle (f :: delF M f.t) := by
 have HD := Lib.hid d
 obtain ⟨W1, hW1⟩ : ∃ W, w.alloc (.cells (fca f) 83) = W := ⟨_, rfl⟩
 have t1 : Touch w W1 (fun _ => False) := hW1 ▸ (Touch.refl w _).alloc _
 have g1 : W1.heap[w.heap.size]? = some (.cells (fca f) 83 (0, 0)) := hW1 ▸ heap_alloc_new ..
 have d1 := d.still t1
 have hM : M.length ≤ 256 := by have := d.len; omega
 obtain ⟨wz, hz1, hz2, hz3⟩ := (d1.map.still ((Touch.refl W1 (fun _ => False)).drew)).store (by omega) f of
 obtain ⟨M1, p1, e1, e2⟩ := set_qf d.ok of mf (by omega)
 have HZ2 := Lib.hid hz2
 have HZ3 := Lib.hid hz3
 have HUP := Lib.hid hz1
 have HT1 := Lib.hid t1
 have HP1 := Lib.hid p1
 have HKL := Lib.hid (keep_len d.nd hr d.len.1)
 have HKO := Lib.hid (keep_ok d.ok of mf)
 have hnb : h.mb ≠ w.heap.size := fun e => by have := d.map.lt; omega
 have HC1m : RowKit.Hid (∀ W, Touch W1 W (fun k => k = h.mb) → W.cell? ⟨g, 2, none⟩ = some (.map (some h.mb)) ∧ W.cell? ⟨w.heap.size, 0, none⟩ = some (.int .u32 f.t.src) ∧ W.cell? ⟨w.heap.size, 1, none⟩ = some (.int .u32 f.t.dst) ∧ W.cell? ⟨w.heap.size, 2, none⟩ = some (.int .i64 f.t.proto) ∧ W.cell? ⟨w.heap.size, 3, none⟩ = some (.int .i64 f.t.sport) ∧ W.cell? ⟨w.heap.size, 4, none⟩ = some (.int .i64 f.t.dport) ∧ W.cell? ⟨w.heap.size, 5, none⟩ = some (.int .i64 f.fb) ∧ W.cell? ⟨w.heap.size, 6, none⟩ = some (.int .i64 f.fg) ∧ W.cell? ⟨w.heap.size, 7, none⟩ = some (.int .i64 f.fs)) := Lib.hid (fun W x => ⟨cell_of_cells (x.keeps d1.head d.n1) 2, fcells_of (x.keeps g1 (fun e => hnb e.symm))⟩)
 have HQZ : RowKit.Hid (QL wz h.bq h.hq (M.map qf)) := Lib.hid ((d1.q.still ((Touch.refl W1 (fun _ => False)).drew)).touch hz3 (fun k hk e => d.n3 (e ▸ hk)))
 have HC2 : RowKit.Hid (∀ W, Touch wz W (footQ h.bq h.hq) → W.cell? ⟨g, 3, none⟩ = some (.pointer (some ⟨h.bq, 0, none⟩)) ∧ W.cell? ⟨w.heap.size, 0, none⟩ = some (.int .u32 f.t.src) ∧ W.cell? ⟨w.heap.size, 1, none⟩ = some (.int .u32 f.t.dst) ∧ W.cell? ⟨w.heap.size, 2, none⟩ = some (.int .i64 f.t.proto) ∧ W.cell? ⟨w.heap.size, 3, none⟩ = some (.int .i64 f.t.sport) ∧ W.cell? ⟨w.heap.size, 4, none⟩ = some (.int .i64 f.t.dport) ∧ W.cell? ⟨w.heap.size, 7, none⟩ = some (.int .i64 f.fs)) := Lib.hid (fun W x => by
  have h1 := hz3.keeps (((Touch.refl W1 (fun _ => False)).drew).keeps d1.head (fun h => h)) d.n1
  have h2 := hz3.keeps (((Touch.refl W1 (fun _ => False)).drew).keeps g1 (fun h => h)) (fun e => hnb e.symm)
  have h3 := x.keeps h1 d.n2
  have h4 := x.keeps h2 (fun hf => by have := d.q.footlt _ hf; omega)
  obtain ⟨x0, x1, x2, x3, x4, _, _, x7⟩ := fcells_of h4
  exact ⟨cell_of_cells h3 3, x0, x1, x2, x3, x4, x7⟩)
 have HKEY := Lib.hid (fun W => fkey_any f.t of W)
 have HSET : RowKit.Hid (∀ W, QL W h.bq h.hq (M.map qf) → Calls Tryz.prog 173 #[.pointer (some ⟨h.bq, 0, none⟩), .string (kT f.t), .int .i64 f.fs] W fun e w' => e = .returned (.int .i64 0) ∧ QLStep W w' h.bq h.hq (M1.map qf)) := Lib.hid (fun W q => by
  have := qset_any W h.bq h.hq (M.map qf) q (kT f.t) (kT_size _) f.fs
  rwa [e2, e1] at this)
 have HW1 := Lib.hid hW1
 obtain ⟨K, hK⟩ : ∃ K, kT f.t = K := ⟨_, rfl⟩
 rw [hK] at HKEY HSET
 clear d hW1 t1 g1 d1 hz1 hz2 hz3 p1 e1 e2 hK hr mf of
 obtain ⟨⟨a1, a2, a3, a4, a5⟩, fb, fg, fs⟩ := f
 simp only [tcs, fca] at *
 go_enter Tryz.func145, Tryz.ntmps145
 go_upto_region 1 with (fail)
 rw [HW1.out]
 have hS := (Touch.refl W1 (fun k => k = h.mb)).drew
 refine wp_region_tree (fun w' => Touch W1 w' (fun k => k = h.mb)) (.take 0 (.take 1 (.take 2 (.take 3 (.take 4 (.take 5 (.take 6 (.one 7 .fin)))))))) (by kernel_rfl) (by kernel_rfl) (by kernel_rfl) (by kernel_rfl) hS ?_
 repeat' (first
  | (with_reducible refine walkT_take ?_)
  | (with_reducible refine walkT_one ?_)
  | (with_reducible refine walkT_two ?_ ?_)
  | (with_reducible refine walkT_fin ?_)
  | ((with_reducible show TakeN _ _ _ _ _ _ _ _); ((refine takeN_take (v := ?_) (some _) rfl rfl (fun _ _ _ h => h) (by rfl) ?_ ?_; rotate_left; (focus (intro w' hw'; obtain ⟨y0, y1, y2, y3, y4, y5, y6, y7, y8⟩ := HC1m.out w' hw'; go_simp; (try with_reducible rfl))); (try simp only [Act.put, List.setIfInBounds_toArray, List.set_cons_zero, List.set_cons_succ]))))
  | ((with_reducible show RunN _ _ _ _ 7 _ _ _); ((refine runN_skip0 none rfl rfl (by rfl) (w' := wz) (by have q := HUP.out; go_simp; (try with_reducible rfl)) ?_ ?_; (exact ((Touch.refl W1 (fun k => k = h.mb)).drew).trans HZ3.out (fun _ _ h => h)); intro hS; (try simp only [Act.put, List.setIfInBounds_toArray, List.set_cons_zero, List.set_cons_succ])))))
 all_goals
  go_upto_region 2 with (fail)
  have hS := (Touch.refl wz (footQ h.bq h.hq)).drew
  refine wp_region_sched (fun w' => Touch wz w' (footQ h.bq h.hq)) [(0, true), (1, true), (2, true), (3, true), (4, true), (5, true), (7, true), (8, true), (6, false), (9, false)] (by kernel_rfl) (by kernel_rfl) rfl (by kernel_rfl) hS ?_
  (refine walkS_take (v := ?_) (some 11) rfl rfl (fun _ _ _ h => h) (by rfl) ?_ ?_; rotate_left; (focus (intro w' hw'; obtain ⟨y0, y1, y2, y3, y4, y5, y6⟩ := HC2.out w' hw'; go_simp; (try with_reducible rfl))); (try simp only [Act.put, List.setIfInBounds_toArray, List.set_cons_zero, List.set_cons_succ]))
  (refine walkS_take (v := ?_) (some 12) rfl rfl (fun _ _ _ h => h) (by rfl) ?_ ?_; rotate_left; (focus (intro w' hw'; obtain ⟨y0, y1, y2, y3, y4, y5, y6⟩ := HC2.out w' hw'; go_simp; (try with_reducible rfl))); (try simp only [Act.put, List.setIfInBounds_toArray, List.set_cons_zero, List.set_cons_succ]))
  (refine walkS_take (v := ?_) (some 13) rfl rfl (fun _ _ _ h => h) (by rfl) ?_ ?_; rotate_left; (focus (intro w' hw'; obtain ⟨y0, y1, y2, y3, y4, y5, y6⟩ := HC2.out w' hw'; go_simp; (try with_reducible rfl))); (try simp only [Act.put, List.setIfInBounds_toArray, List.set_cons_zero, List.set_cons_succ]))
  (refine walkS_take (v := ?_) (some 14) rfl rfl (fun _ _ _ h => h) (by rfl) ?_ ?_; rotate_left; (focus (intro w' hw'; obtain ⟨y0, y1, y2, y3, y4, y5, y6⟩ := HC2.out w' hw'; go_simp; (try with_reducible rfl))); (try simp only [Act.put, List.setIfInBounds_toArray, List.set_cons_zero, List.set_cons_succ]))
  (refine walkS_take (v := ?_) (some 15) rfl rfl (fun _ _ _ h => h) (by rfl) ?_ ?_; rotate_left; (focus (intro w' hw'; obtain ⟨y0, y1, y2, y3, y4, y5, y6⟩ := HC2.out w' hw'; go_simp; (try with_reducible rfl))); (try simp only [Act.put, List.setIfInBounds_toArray, List.set_cons_zero, List.set_cons_succ]))
  (refine walkS_take (v := ?_) (some 16) rfl rfl (fun _ _ _ h => h) (by rfl) ?_ ?_; rotate_left; (focus (intro w' hw'; obtain ⟨y0, y1, y2, y3, y4, y5, y6⟩ := HC2.out w' hw'; go_simp; (try with_reducible rfl))); (try simp only [Act.put, List.setIfInBounds_toArray, List.set_cons_zero, List.set_cons_succ]))
  (refine walkS_take (v := ?_) (some 18) rfl rfl (fun _ _ _ h => h) (by rfl) ?_ ?_; rotate_left; (focus (intro w' hw'; obtain ⟨y0, y1, y2, y3, y4, y5, y6⟩ := HC2.out w' hw'; go_simp; (try with_reducible rfl))); (try simp only [Act.put, List.setIfInBounds_toArray, List.set_cons_zero, List.set_cons_succ]))
  (refine walkS_take (v := ?_) (some 19) rfl rfl (fun _ _ _ h => h) (by rfl) ?_ ?_; rotate_left; (focus (intro w' hw'; obtain ⟨y0, y1, y2, y3, y4, y5, y6⟩ := HC2.out w' hw'; go_simp; (try with_reducible rfl))); (try simp only [Act.put, List.setIfInBounds_toArray, List.set_cons_zero, List.set_cons_succ]))
  (refine walkS_call 17 _ _ _ _ (HKEY.out _) rfl rfl rfl (by rfl) rfl (enter_fkey _ _) ?_; rintro e w5 ⟨rfl, t5⟩; have HTK := Lib.hid (((Touch.refl wz (fun _ => False)).drew).trans t5 (fun _ _ h => h)); refine ⟨_, rfl, hS.trans t5 (fun _ _ h => h.elim), fun hS => ?_⟩; clear t5; (try simp only [Act.put, List.setIfInBounds_toArray, List.set_cons_zero, List.set_cons_succ]))
  (refine walkS_call 20 _ _ _ _ (HSET.out _ (HQZ.out.still HTK.out)) rfl rfl rfl (by rfl) rfl (enter_qsetF _ _ _ _) ?_; rintro e w6 ⟨rfl, s2⟩; have HS2 := Lib.hid s2; obtain ⟨_, _, t6, _⟩ := s2; refine ⟨_, rfl, hS.trans t6 (fun _ _ h => h), fun hS => ?_⟩; clear t6; (try simp only [Act.put, List.setIfInBounds_toArray, List.set_cons_zero, List.set_cons_succ]))
  refine walkS_done ?_
  go_wp2_with fail
  go_end0
  exact ⟨rfl, HD.out.step (HT1.out.trans ((Touch.refl W1 (fun _ => False)).drew) (fun _ _ h => h)) HZ2.out HZ3.out HTK.out HS2.out HP1.out HKO.out HKL.out⟩
end Go.Proofs.YtpjdcgjoepjmcaaGreat
end
section
namespace Go.Proofs.YtpjdcgjoepjmcaaGreat
open Go.RowKit
def putB (M : List FlD) (most : Int) (f : FlD) : Bool := mayFB f && (hasF M f.t || decide ((M.length : Int) < most))
def putE (M : List FlD) (most : Int) (f : FlD) : Value := if mayFB f = false then .tuple #[.bool false, .int .i64 1] else if putB M most f = false then .tuple #[.bool false, .int .i64 9] else .tuple #[.bool (!hasF M f.t), .int .i64 0]
def putF (M : List FlD) (most : Int) (f : FlD) : List FlD := if putB M most f = true then f :: delF M f.t else M
set_option maxRecDepth 20000 in
set_option maxHeartbeats 8000000 in
theorem fput_any (w : World) (g : Nat) (h : FH) (most idle : Int) (M : List FlD) (d : FS w g h most idle M) (f : FlD) (of : TupOk f.t) :
 Calls Tryz.prog 124 #[.pointer (some ⟨g, 0, none⟩), .agg (fca f)] w fun e w' => e = .returned (putE M most f) ∧ FStep w w' g h most idle (putF M most f) := by
 obtain ⟨W1, hW1⟩ : ∃ W, w.alloc (.cells (fca f) 83) = W := ⟨_, rfl⟩
 have t1 : Touch w W1 (fun _ => False) := hW1 ▸ (Touch.refl w _).alloc _
 have g1 : W1.heap[w.heap.size]? = some (.cells (fca f) 83 (0, 0)) := hW1 ▸ heap_alloc_new ..
 have HG1 := Lib.hid g1
 have HD := Lib.hid d
 have HMAY := Lib.hid (fun W => fmay_any f W)
 have HW1 := Lib.hid hW1
 have HT1 := Lib.hid t1
 have HI8 := Lib.hid infoFlow
 cases hm : mayFB f with
 | false =>
   have e1 : putE M most f = .tuple #[.bool false, .int .i64 1] := by unfold putE; rw [if_pos hm]
   have e2 : putF M most f = M := by unfold putF putB; rw [hm]; rfl
   rw [e1, e2]
   rw [hm] at HMAY
   obtain ⟨x0, x1, x2, x3, x4, x5, x6, x7⟩ := fcells_of g1
   have HOF := Lib.hid of
   obtain ⟨⟨a1, a2, a3, a4, a5⟩, fb, fg, fs⟩ := f
   simp only [fca] at *
   clear d hm e1 e2 hW1 t1 g1 of
   go_enter Tryz.func124, Tryz.ntmps124
   go_upto_region 1 with (fail)
   rw [HW1.out]
   go_wp2_with fail
   (with_reducible refine (HMAY.out _).mono ?_)
   rintro e w2 ⟨rfl, t2⟩
   have HT2 := Lib.hid (HT1.out.trans t2 (fun _ _ h => h))
   clear t2 x0 x1 x2 x3 x4 x5 x6 x7
   go_wp2_with fail
   go_ret2
   exact ⟨rfl, ⟨h, M, .refl _, HD.out.still HT2.out, HT2.out.mono (fun _ _ h => h.elim), fun _ hk => .inl hk⟩⟩
 | true =>
   rw [hm] at HMAY
   have e1 : putE M most f = if putB M most f = false then .tuple #[.bool false, .int .i64 9] else .tuple #[.bool (!hasF M f.t), .int .i64 0] := by unfold putE; rw [if_neg (by rw [hm]; decide)]
   rw [e1]
   clear e1
   have HC1 : RowKit.Hid (∀ W, Touch W1 W (fun _ => False) → (W.cell? ⟨g, 0, none⟩ = some (.int .i64 most) ∧ W.cell? ⟨g, 2, none⟩ = some (.map (some h.mb))) ∧ W.cell? ⟨w.heap.size, 0, none⟩ = some (.int .u32 f.t.src) ∧ W.cell? ⟨w.heap.size, 1, none⟩ = some (.int .u32 f.t.dst) ∧ W.cell? ⟨w.heap.size, 2, none⟩ = some (.int .i64 f.t.proto) ∧ W.cell? ⟨w.heap.size, 3, none⟩ = some (.int .i64 f.t.sport) ∧ W.cell? ⟨w.heap.size, 4, none⟩ = some (.int .i64 f.t.dport) ∧ W.cell? ⟨w.heap.size, 5, none⟩ = some (.int .i64 f.fb) ∧ W.cell? ⟨w.heap.size, 6, none⟩ = some (.int .i64 f.fg) ∧ W.cell? ⟨w.heap.size, 7, none⟩ = some (.int .i64 f.fs)) := Lib.hid (fun W x => ⟨⟨(HD.out.still (HT1.out.trans x (fun _ _ h => h))).cells.1, (HD.out.still (HT1.out.trans x (fun _ _ h => h))).cells.2.2.1⟩, fcells_of (x.keeps HG1.out (fun h => h))⟩)
   have HLK : RowKit.Hid (∀ W, Touch W1 W (fun _ => False) → (Instr.lookup 93 (.map (some h.mb)) (.agg (tcs f.t)) true).run Tryz.prog W = .ok (.tuple #[.agg (fca (getF M f.t)), .bool (hasF M f.t)]) W) := Lib.hid (fun W x => (HD.out.still (HT1.out.trans x (fun _ _ h => h))).map.ok' of)
   have HLN : RowKit.Hid (∀ W, Touch W1 W (fun _ => False) → (Builtin.len_ #[93] 3 #[.map (some h.mb)]).run Tryz.prog W = .ok (.int .i64 M.length) W) := Lib.hid (fun W x => (HD.out.still (HT1.out.trans x (fun _ _ h => h))).map.len _)
   have HKEEP : RowKit.Hid (hasF M f.t = true ∨ (M.length : Int) < most → ∀ W, Touch W1 W (fun _ => False) → Calls Tryz.prog 145 #[.pointer (some ⟨g, 0, none⟩), .agg (fca f)] W fun e w' => e = .returned (.tuple #[]) ∧ FStep w w' g h most idle (f :: delF M f.t)) := Lib.hid (fun hr W x => by
    refine (fkeep_any W g h most idle M (HD.out.still (HT1.out.trans x (fun _ _ h => h))) f of hm hr).mono ?_
    rintro e w' ⟨rfl, h', M1, p1, q1, t2, f2⟩
    have tx := HT1.out.trans x (fun _ _ h => h)
    exact ⟨rfl, h', M1, p1, q1, (tx.mono (T := footF g h) (fun _ _ h => h.elim)).trans t2 (fun _ _ h => h), fun k hk => (f2 k hk).imp (fun h => h) (fun h => Nat.le_trans tx.size h)⟩)
   obtain ⟨b, hb⟩ : ∃ b, hasF M f.t = b := ⟨_, rfl⟩
   obtain ⟨F, hF⟩ : ∃ F, getF M f.t = F := ⟨_, rfl⟩
   obtain ⟨n, hn⟩ : ∃ n, M.length = n := ⟨_, rfl⟩
   rw [hb, hF] at HLK
   rw [hn] at HLN
   rw [hb, hn] at HKEEP
   have ep : putB M most f = (b || decide ((n : Int) < most)) := by unfold putB; rw [hm, hb, hn]; rfl
   have eq : putF M most f = if (b || decide ((n : Int) < most)) = true then f :: delF M f.t else M := by unfold putF; rw [ep]
   rw [ep, eq, hb]
   obtain ⟨M2, hM2⟩ : ∃ M2, f :: delF M f.t = M2 := ⟨_, rfl⟩
   rw [hM2] at HKEEP ⊢
   obtain ⟨x0, x1, x2, x3, x4, x5, x6, x7⟩ := fcells_of g1
   obtain ⟨⟨a1, a2, a3, a4, a5⟩, fb, fg, fs⟩ := f
   obtain ⟨⟨b1, b2, b3, b4, b5⟩, gb, gg, gs⟩ := F
   simp only [fca, tcs] at *
   clear d hW1 t1 g1 of hm hb hF hn ep eq hM2
   cases b with
   | true =>
     have hr := HKEEP.out (.inl rfl)
     have HKP := Lib.hid hr
     clear hr HKEEP
     rw [Bool.true_or, if_pos rfl, if_neg (by decide)]
     go_enter Tryz.func124, Tryz.ntmps124
     go_upto_region 1 with (fail)
     rw [HW1.out]
     go_wp2_with fail
     (with_reducible refine (HMAY.out _).mono ?_)
     rintro e w3 ⟨rfl, t3⟩
     have HT3 := Lib.hid t3
     have HZ3 := Lib.hid t3.size
     clear t3 x0 x1 x2 x3 x4 x5 x6 x7
     go_upto_region 3 with (fail)
     have hS := (HT3.out.trans ((Touch.refl w3 (fun _ => False)).drew) (fun _ _ h => h))
     refine wp_region_tree (fun w' => Touch W1 w' (fun _ => False)) (.take 0 (.take 1 (.take 2 (.take 3 (.take 4 (.take 5 (.take 6 (.take 7 (.take 8 (.take 9 (.one 10 (.one 11 (.take 12 .fin))))))))))))) (by kernel_rfl) (by kernel_rfl) (by kernel_rfl) (by kernel_rfl) hS ?_
     repeat' (first
      | (with_reducible refine walkT_take ?_)
      | (with_reducible refine walkT_one ?_)
      | (with_reducible refine walkT_two ?_ ?_)
      | (with_reducible refine walkT_fin ?_)
      | ((with_reducible show TakeN _ _ _ _ _ _ _ _); ((refine takeN_take (v := ?_) (some _) rfl rfl (fun _ _ _ h => h) (by rfl) ?_ ?_; rotate_left; (focus (intro w' hw'; obtain ⟨⟨y0, y1⟩, y2, y3, y4, y5, y6, y7, y8, y9⟩ := HC1.out w' hw'; have y10 := HLK.out w' hw'; have y11 := HLN.out w' hw'; go_simp; (try with_reducible rfl))); (try simp only [Act.put, List.setIfInBounds_toArray, List.set_cons_zero, List.set_cons_succ]))))
      | ((with_reducible show RunN _ _ _ _ 10 _ _ _); ((refine runN_new 6 (fun W => .pointer (some ⟨W.heap.size, 0, none⟩)) #[.int .u32 0, .int .u32 0, .int .i64 0, .int .i64 0, .int .i64 0, .int .i64 0, .int .i64 0, .int .i64 0] 83 rfl rfl (by rfl) (by intro W; go_simp <;> first | with_reducible rfl | rfl | exact ⟨rfl, rfl⟩) ?_; intro w7 hw7 hM7 hs7 t9; have hS := hS.trans t9 (fun _ _ h => h.elim); have HM7 := Lib.hid hM7; have HS7 := Lib.hid hs7; refine ⟨hS, fun _ => ?_⟩; clear hw7 hM7 hs7 t9; (try simp only [Act.put, List.setIfInBounds_toArray, List.set_cons_zero, List.set_cons_succ]))))
      | ((with_reducible show RunN _ _ _ _ 11 _ _ _); ((refine runN_store rfl rfl (by rfl) 83 _ _ rfl _ #[.int .u32 b1, .int .u32 b2, .int .i64 b3, .int .i64 b4, .int .i64 b5, .int .i64 gb, .int .i64 gg, .int .i64 gs] rfl rfl _ _ HM7.out HI8.out rfl rfl ?_; intro w8 h8 t8; have hS := hS.trans t8 (fun k hk h => by have h : k = w3.heap.size := h; have := HZ3.out; omega); refine ⟨hS, fun _ => ?_⟩; clear h8 t8; (try simp only [Act.put, List.setIfInBounds_toArray, List.set_cons_zero, List.set_cons_succ])))))
     all_goals
      have HS8 := Lib.hid hS
      go_upto_region 4 with (fail)
      have hS := HS8.out.drew
      refine wp_region_sched (fun w' => Touch W1 w' (fun _ => False)) [(0, true), (1, true), (2, true), (3, true), (4, true), (5, true), (6, true), (7, true), (8, true), (9, true), (10, true), (11, true), (12, true), (13, true)] (by kernel_rfl) (by kernel_rfl) rfl (by kernel_rfl) hS ?_
      (refine walkS_take (v := ?_) (some 25) rfl rfl (fun _ _ _ h => h) (by rfl) ?_ ?_; rotate_left; (focus (intro w' hw'; obtain ⟨⟨y0, y1⟩, y2, y3, y4, y5, y6, y7, y8, y9⟩ := HC1.out w' hw'; have y10 := HLK.out w' hw'; have y11 := HLN.out w' hw'; go_simp; (try with_reducible rfl))); (try simp only [Act.put, List.setIfInBounds_toArray, List.set_cons_zero, List.set_cons_succ]))
      (refine walkS_take (v := ?_) (some 26) rfl rfl (fun _ _ _ h => h) (by rfl) ?_ ?_; rotate_left; (focus (intro w' hw'; obtain ⟨⟨y0, y1⟩, y2, y3, y4, y5, y6, y7, y8, y9⟩ := HC1.out w' hw'; have y10 := HLK.out w' hw'; have y11 := HLN.out w' hw'; go_simp; (try with_reducible rfl))); (try simp only [Act.put, List.setIfInBounds_toArray, List.set_cons_zero, List.set_cons_succ]))
      (refine walkS_take (v := ?_) (some 27) rfl rfl (fun _ _ _ h => h) (by rfl) ?_ ?_; rotate_left; (focus (intro w' hw'; obtain ⟨⟨y0, y1⟩, y2, y3, y4, y5, y6, y7, y8, y9⟩ := HC1.out w' hw'; have y10 := HLK.out w' hw'; have y11 := HLN.out w' hw'; go_simp; (try with_reducible rfl))); (try simp only [Act.put, List.setIfInBounds_toArray, List.set_cons_zero, List.set_cons_succ]))
      first | (refine walkS_skip (some 28) rfl rfl (by rfl) (fun _ _ _ h => h) hS ?_; (try simp only [Act.put, List.setIfInBounds_toArray, List.set_cons_zero, List.set_cons_succ])) | (refine walkS_take (v := ?_) (some 28) rfl rfl (fun _ _ _ h => h) (by rfl) ?_ ?_; rotate_left; (focus (intro w' hw'; obtain ⟨⟨y0, y1⟩, y2, y3, y4, y5, y6, y7, y8, y9⟩ := HC1.out w' hw'; have y10 := HLK.out w' hw'; have y11 := HLN.out w' hw'; go_simp; (try with_reducible rfl))); (try simp only [Act.put, List.setIfInBounds_toArray, List.set_cons_zero, List.set_cons_succ]))
      first | (refine walkS_skip (some 29) rfl rfl (by rfl) (fun _ _ _ h => h) hS ?_; (try simp only [Act.put, List.setIfInBounds_toArray, List.set_cons_zero, List.set_cons_succ])) | (refine walkS_take (v := ?_) (some 29) rfl rfl (fun _ _ _ h => h) (by rfl) ?_ ?_; rotate_left; (focus (intro w' hw'; obtain ⟨⟨y0, y1⟩, y2, y3, y4, y5, y6, y7, y8, y9⟩ := HC1.out w' hw'; have y10 := HLK.out w' hw'; have y11 := HLN.out w' hw'; go_simp; (try with_reducible rfl))); (try simp only [Act.put, List.setIfInBounds_toArray, List.set_cons_zero, List.set_cons_succ]))
      first | (refine walkS_skip (some 30) rfl rfl (by rfl) (fun _ _ _ h => h) hS ?_; (try simp only [Act.put, List.setIfInBounds_toArray, List.set_cons_zero, List.set_cons_succ])) | (refine walkS_take (v := ?_) (some 30) rfl rfl (fun _ _ _ h => h) (by rfl) ?_ ?_; rotate_left; (focus (intro w' hw'; obtain ⟨⟨y0, y1⟩, y2, y3, y4, y5, y6, y7, y8, y9⟩ := HC1.out w' hw'; have y10 := HLK.out w' hw'; have y11 := HLN.out w' hw'; go_simp; (try with_reducible rfl))); (try simp only [Act.put, List.setIfInBounds_toArray, List.set_cons_zero, List.set_cons_succ]))
      first | (refine walkS_skip (some 31) rfl rfl (by rfl) (fun _ _ _ h => h) hS ?_; (try simp only [Act.put, List.setIfInBounds_toArray, List.set_cons_zero, List.set_cons_succ])) | (refine walkS_take (v := ?_) (some 31) rfl rfl (fun _ _ _ h => h) (by rfl) ?_ ?_; rotate_left; (focus (intro w' hw'; obtain ⟨⟨y0, y1⟩, y2, y3, y4, y5, y6, y7, y8, y9⟩ := HC1.out w' hw'; have y10 := HLK.out w' hw'; have y11 := HLN.out w' hw'; go_simp; (try with_reducible rfl))); (try simp only [Act.put, List.setIfInBounds_toArray, List.set_cons_zero, List.set_cons_succ]))
      first | (refine walkS_skip (some 32) rfl rfl (by rfl) (fun _ _ _ h => h) hS ?_; (try simp only [Act.put, List.setIfInBounds_toArray, List.set_cons_zero, List.set_cons_succ])) | (refine walkS_take (v := ?_) (some 32) rfl rfl (fun _ _ _ h => h) (by rfl) ?_ ?_; rotate_left; (focus (intro w' hw'; obtain ⟨⟨y0, y1⟩, y2, y3, y4, y5, y6, y7, y8, y9⟩ := HC1.out w' hw'; have y10 := HLK.out w' hw'; have y11 := HLN.out w' hw'; go_simp; (try with_reducible rfl))); (try simp only [Act.put, List.setIfInBounds_toArray, List.set_cons_zero, List.set_cons_succ]))
      first | (refine walkS_skip (some 33) rfl rfl (by rfl) (fun _ _ _ h => h) hS ?_; (try simp only [Act.put, List.setIfInBounds_toArray, List.set_cons_zero, List.set_cons_succ])) | (refine walkS_take (v := ?_) (some 33) rfl rfl (fun _ _ _ h => h) (by rfl) ?_ ?_; rotate_left; (focus (intro w' hw'; obtain ⟨⟨y0, y1⟩, y2, y3, y4, y5, y6, y7, y8, y9⟩ := HC1.out w' hw'; have y10 := HLK.out w' hw'; have y11 := HLN.out w' hw'; go_simp; (try with_reducible rfl))); (try simp only [Act.put, List.setIfInBounds_toArray, List.set_cons_zero, List.set_cons_succ]))
      first | (refine walkS_skip (some 34) rfl rfl (by rfl) (fun _ _ _ h => h) hS ?_; (try simp only [Act.put, List.setIfInBounds_toArray, List.set_cons_zero, List.set_cons_succ])) | (refine walkS_take (v := ?_) (some 34) rfl rfl (fun _ _ _ h => h) (by rfl) ?_ ?_; rotate_left; (focus (intro w' hw'; obtain ⟨⟨y0, y1⟩, y2, y3, y4, y5, y6, y7, y8, y9⟩ := HC1.out w' hw'; have y10 := HLK.out w' hw'; have y11 := HLN.out w' hw'; go_simp; (try with_reducible rfl))); (try simp only [Act.put, List.setIfInBounds_toArray, List.set_cons_zero, List.set_cons_succ]))
      first | (refine walkS_skip (some 35) rfl rfl (by rfl) (fun _ _ _ h => h) hS ?_; (try simp only [Act.put, List.setIfInBounds_toArray, List.set_cons_zero, List.set_cons_succ])) | (refine walkS_take (v := ?_) (some 35) rfl rfl (fun _ _ _ h => h) (by rfl) ?_ ?_; rotate_left; (focus (intro w' hw'; obtain ⟨⟨y0, y1⟩, y2, y3, y4, y5, y6, y7, y8, y9⟩ := HC1.out w' hw'; have y10 := HLK.out w' hw'; have y11 := HLN.out w' hw'; go_simp; (try with_reducible rfl))); (try simp only [Act.put, List.setIfInBounds_toArray, List.set_cons_zero, List.set_cons_succ]))
      first | (refine walkS_skip (some 36) rfl rfl (by rfl) (fun _ _ _ h => h) hS ?_; (try simp only [Act.put, List.setIfInBounds_toArray, List.set_cons_zero, List.set_cons_succ])) | (refine walkS_take (v := ?_) (some 36) rfl rfl (fun _ _ _ h => h) (by rfl) ?_ ?_; rotate_left; (focus (intro w' hw'; obtain ⟨⟨y0, y1⟩, y2, y3, y4, y5, y6, y7, y8, y9⟩ := HC1.out w' hw'; have y10 := HLK.out w' hw'; have y11 := HLN.out w' hw'; go_simp; (try with_reducible rfl))); (try simp only [Act.put, List.setIfInBounds_toArray, List.set_cons_zero, List.set_cons_succ]))
      first | (refine walkS_skip (some 37) rfl rfl (by rfl) (fun _ _ _ h => h) hS ?_; (try simp only [Act.put, List.setIfInBounds_toArray, List.set_cons_zero, List.set_cons_succ])) | (refine walkS_take (v := ?_) (some 37) rfl rfl (fun _ _ _ h => h) (by rfl) ?_ ?_; rotate_left; (focus (intro w' hw'; obtain ⟨⟨y0, y1⟩, y2, y3, y4, y5, y6, y7, y8, y9⟩ := HC1.out w' hw'; have y10 := HLK.out w' hw'; have y11 := HLN.out w' hw'; go_simp; (try with_reducible rfl))); (try simp only [Act.put, List.setIfInBounds_toArray, List.set_cons_zero, List.set_cons_succ]))
      (refine walkS_take (v := ?_) (some 38) rfl rfl (fun _ _ _ h => h) (by rfl) ?_ ?_; rotate_left; (focus (intro w' hw'; obtain ⟨⟨y0, y1⟩, y2, y3, y4, y5, y6, y7, y8, y9⟩ := HC1.out w' hw'; have y10 := HLK.out w' hw'; have y11 := HLN.out w' hw'; go_simp; (try with_reducible rfl))); (try simp only [Act.put, List.setIfInBounds_toArray, List.set_cons_zero, List.set_cons_succ]))
      refine walkS_done ?_
      obtain ⟨⟨z0, z1⟩, z2, z3, z4, z5, z6, z7, z8, z9⟩ := HC1.out _ hS
      go_wp2_with fail
      (with_reducible refine (HKP.out _ hS).mono ?_)
      rintro e w9 ⟨rfl, s9⟩
      have HS9 := Lib.hid s9
      clear s9
      go_wp2_with fail
      go_ret2
      exact ⟨rfl, HS9.out⟩
   | false =>
     by_cases hc : (n : Int) < most
     ·have hr := HKEEP.out (.inr hc)
      have HKP := Lib.hid hr
      clear hr HKEEP
      have hc2 : ¬ most ≤ (n : Int) := by omega
      have e : (false || decide ((n : Int) < most)) = true := by simp [hc]
      rw [e, if_pos rfl, if_neg (by decide)]
      clear e
      go_enter Tryz.func124, Tryz.ntmps124
      go_upto_region 1 with (fail)
      rw [HW1.out]
      go_wp2_with fail
      (with_reducible refine (HMAY.out _).mono ?_)
      rintro e w3 ⟨rfl, t3⟩
      have HT3 := Lib.hid t3
      have HZ3 := Lib.hid t3.size
      clear t3 x0 x1 x2 x3 x4 x5 x6 x7
      go_upto_region 3 with (fail)
      have hS := (HT3.out.trans ((Touch.refl w3 (fun _ => False)).drew) (fun _ _ h => h))
      refine wp_region_tree (fun w' => Touch W1 w' (fun _ => False)) (.take 0 (.take 1 (.take 2 (.take 3 (.take 4 (.take 5 (.take 6 (.take 7 (.take 8 (.take 9 (.one 10 (.one 11 (.take 12 .fin))))))))))))) (by kernel_rfl) (by kernel_rfl) (by kernel_rfl) (by kernel_rfl) hS ?_
      repeat' (first
       | (with_reducible refine walkT_take ?_)
       | (with_reducible refine walkT_one ?_)
       | (with_reducible refine walkT_two ?_ ?_)
       | (with_reducible refine walkT_fin ?_)
       | ((with_reducible show TakeN _ _ _ _ _ _ _ _); ((refine takeN_take (v := ?_) (some _) rfl rfl (fun _ _ _ h => h) (by rfl) ?_ ?_; rotate_left; (focus (intro w' hw'; obtain ⟨⟨y0, y1⟩, y2, y3, y4, y5, y6, y7, y8, y9⟩ := HC1.out w' hw'; have y10 := HLK.out w' hw'; have y11 := HLN.out w' hw'; go_simp; (try with_reducible rfl))); (try simp only [Act.put, List.setIfInBounds_toArray, List.set_cons_zero, List.set_cons_succ]))))
       | ((with_reducible show RunN _ _ _ _ 10 _ _ _); ((refine runN_new 6 (fun W => .pointer (some ⟨W.heap.size, 0, none⟩)) #[.int .u32 0, .int .u32 0, .int .i64 0, .int .i64 0, .int .i64 0, .int .i64 0, .int .i64 0, .int .i64 0] 83 rfl rfl (by rfl) (by intro W; go_simp <;> first | with_reducible rfl | rfl | exact ⟨rfl, rfl⟩) ?_; intro w7 hw7 hM7 hs7 t9; have hS := hS.trans t9 (fun _ _ h => h.elim); have HM7 := Lib.hid hM7; have HS7 := Lib.hid hs7; refine ⟨hS, fun _ => ?_⟩; clear hw7 hM7 hs7 t9; (try simp only [Act.put, List.setIfInBounds_toArray, List.set_cons_zero, List.set_cons_succ]))))
       | ((with_reducible show RunN _ _ _ _ 11 _ _ _); ((refine runN_store rfl rfl (by rfl) 83 _ _ rfl _ #[.int .u32 b1, .int .u32 b2, .int .i64 b3, .int .i64 b4, .int .i64 b5, .int .i64 gb, .int .i64 gg, .int .i64 gs] rfl rfl _ _ HM7.out HI8.out rfl rfl ?_; intro w8 h8 t8; have hS := hS.trans t8 (fun k hk h => by have h : k = w3.heap.size := h; have := HZ3.out; omega); refine ⟨hS, fun _ => ?_⟩; clear h8 t8; (try simp only [Act.put, List.setIfInBounds_toArray, List.set_cons_zero, List.set_cons_succ])))))
      all_goals
       have HS8 := Lib.hid hS
       go_upto_region 4 with (fail)
       have hS := HS8.out.drew
       refine wp_region_sched (fun w' => Touch W1 w' (fun _ => False)) [(0, true), (1, true), (2, true), (3, true), (4, true), (5, true), (6, true), (7, true), (8, true), (9, true), (10, true), (11, true), (12, true), (13, true)] (by kernel_rfl) (by kernel_rfl) rfl (by kernel_rfl) hS ?_
       (refine walkS_take (v := ?_) (some 25) rfl rfl (fun _ _ _ h => h) (by rfl) ?_ ?_; rotate_left; (focus (intro w' hw'; obtain ⟨⟨y0, y1⟩, y2, y3, y4, y5, y6, y7, y8, y9⟩ := HC1.out w' hw'; have y10 := HLK.out w' hw'; have y11 := HLN.out w' hw'; go_simp; (try with_reducible rfl))); (try simp only [Act.put, List.setIfInBounds_toArray, List.set_cons_zero, List.set_cons_succ]))
       (refine walkS_take (v := ?_) (some 26) rfl rfl (fun _ _ _ h => h) (by rfl) ?_ ?_; rotate_left; (focus (intro w' hw'; obtain ⟨⟨y0, y1⟩, y2, y3, y4, y5, y6, y7, y8, y9⟩ := HC1.out w' hw'; have y10 := HLK.out w' hw'; have y11 := HLN.out w' hw'; go_simp; (try with_reducible rfl))); (try simp only [Act.put, List.setIfInBounds_toArray, List.set_cons_zero, List.set_cons_succ]))
       (refine walkS_take (v := ?_) (some 27) rfl rfl (fun _ _ _ h => h) (by rfl) ?_ ?_; rotate_left; (focus (intro w' hw'; obtain ⟨⟨y0, y1⟩, y2, y3, y4, y5, y6, y7, y8, y9⟩ := HC1.out w' hw'; have y10 := HLK.out w' hw'; have y11 := HLN.out w' hw'; go_simp; (try with_reducible rfl))); (try simp only [Act.put, List.setIfInBounds_toArray, List.set_cons_zero, List.set_cons_succ]))
       first | (refine walkS_skip (some 28) rfl rfl (by rfl) (fun _ _ _ h => h) hS ?_; (try simp only [Act.put, List.setIfInBounds_toArray, List.set_cons_zero, List.set_cons_succ])) | (refine walkS_take (v := ?_) (some 28) rfl rfl (fun _ _ _ h => h) (by rfl) ?_ ?_; rotate_left; (focus (intro w' hw'; obtain ⟨⟨y0, y1⟩, y2, y3, y4, y5, y6, y7, y8, y9⟩ := HC1.out w' hw'; have y10 := HLK.out w' hw'; have y11 := HLN.out w' hw'; go_simp; (try with_reducible rfl))); (try simp only [Act.put, List.setIfInBounds_toArray, List.set_cons_zero, List.set_cons_succ]))
       first | (refine walkS_skip (some 29) rfl rfl (by rfl) (fun _ _ _ h => h) hS ?_; (try simp only [Act.put, List.setIfInBounds_toArray, List.set_cons_zero, List.set_cons_succ])) | (refine walkS_take (v := ?_) (some 29) rfl rfl (fun _ _ _ h => h) (by rfl) ?_ ?_; rotate_left; (focus (intro w' hw'; obtain ⟨⟨y0, y1⟩, y2, y3, y4, y5, y6, y7, y8, y9⟩ := HC1.out w' hw'; have y10 := HLK.out w' hw'; have y11 := HLN.out w' hw'; go_simp; (try with_reducible rfl))); (try simp only [Act.put, List.setIfInBounds_toArray, List.set_cons_zero, List.set_cons_succ]))
       first | (refine walkS_skip (some 30) rfl rfl (by rfl) (fun _ _ _ h => h) hS ?_; (try simp only [Act.put, List.setIfInBounds_toArray, List.set_cons_zero, List.set_cons_succ])) | (refine walkS_take (v := ?_) (some 30) rfl rfl (fun _ _ _ h => h) (by rfl) ?_ ?_; rotate_left; (focus (intro w' hw'; obtain ⟨⟨y0, y1⟩, y2, y3, y4, y5, y6, y7, y8, y9⟩ := HC1.out w' hw'; have y10 := HLK.out w' hw'; have y11 := HLN.out w' hw'; go_simp; (try with_reducible rfl))); (try simp only [Act.put, List.setIfInBounds_toArray, List.set_cons_zero, List.set_cons_succ]))
       first | (refine walkS_skip (some 31) rfl rfl (by rfl) (fun _ _ _ h => h) hS ?_; (try simp only [Act.put, List.setIfInBounds_toArray, List.set_cons_zero, List.set_cons_succ])) | (refine walkS_take (v := ?_) (some 31) rfl rfl (fun _ _ _ h => h) (by rfl) ?_ ?_; rotate_left; (focus (intro w' hw'; obtain ⟨⟨y0, y1⟩, y2, y3, y4, y5, y6, y7, y8, y9⟩ := HC1.out w' hw'; have y10 := HLK.out w' hw'; have y11 := HLN.out w' hw'; go_simp; (try with_reducible rfl))); (try simp only [Act.put, List.setIfInBounds_toArray, List.set_cons_zero, List.set_cons_succ]))
       first | (refine walkS_skip (some 32) rfl rfl (by rfl) (fun _ _ _ h => h) hS ?_; (try simp only [Act.put, List.setIfInBounds_toArray, List.set_cons_zero, List.set_cons_succ])) | (refine walkS_take (v := ?_) (some 32) rfl rfl (fun _ _ _ h => h) (by rfl) ?_ ?_; rotate_left; (focus (intro w' hw'; obtain ⟨⟨y0, y1⟩, y2, y3, y4, y5, y6, y7, y8, y9⟩ := HC1.out w' hw'; have y10 := HLK.out w' hw'; have y11 := HLN.out w' hw'; go_simp; (try with_reducible rfl))); (try simp only [Act.put, List.setIfInBounds_toArray, List.set_cons_zero, List.set_cons_succ]))
       first | (refine walkS_skip (some 33) rfl rfl (by rfl) (fun _ _ _ h => h) hS ?_; (try simp only [Act.put, List.setIfInBounds_toArray, List.set_cons_zero, List.set_cons_succ])) | (refine walkS_take (v := ?_) (some 33) rfl rfl (fun _ _ _ h => h) (by rfl) ?_ ?_; rotate_left; (focus (intro w' hw'; obtain ⟨⟨y0, y1⟩, y2, y3, y4, y5, y6, y7, y8, y9⟩ := HC1.out w' hw'; have y10 := HLK.out w' hw'; have y11 := HLN.out w' hw'; go_simp; (try with_reducible rfl))); (try simp only [Act.put, List.setIfInBounds_toArray, List.set_cons_zero, List.set_cons_succ]))
       first | (refine walkS_skip (some 34) rfl rfl (by rfl) (fun _ _ _ h => h) hS ?_; (try simp only [Act.put, List.setIfInBounds_toArray, List.set_cons_zero, List.set_cons_succ])) | (refine walkS_take (v := ?_) (some 34) rfl rfl (fun _ _ _ h => h) (by rfl) ?_ ?_; rotate_left; (focus (intro w' hw'; obtain ⟨⟨y0, y1⟩, y2, y3, y4, y5, y6, y7, y8, y9⟩ := HC1.out w' hw'; have y10 := HLK.out w' hw'; have y11 := HLN.out w' hw'; go_simp; (try with_reducible rfl))); (try simp only [Act.put, List.setIfInBounds_toArray, List.set_cons_zero, List.set_cons_succ]))
       first | (refine walkS_skip (some 35) rfl rfl (by rfl) (fun _ _ _ h => h) hS ?_; (try simp only [Act.put, List.setIfInBounds_toArray, List.set_cons_zero, List.set_cons_succ])) | (refine walkS_take (v := ?_) (some 35) rfl rfl (fun _ _ _ h => h) (by rfl) ?_ ?_; rotate_left; (focus (intro w' hw'; obtain ⟨⟨y0, y1⟩, y2, y3, y4, y5, y6, y7, y8, y9⟩ := HC1.out w' hw'; have y10 := HLK.out w' hw'; have y11 := HLN.out w' hw'; go_simp; (try with_reducible rfl))); (try simp only [Act.put, List.setIfInBounds_toArray, List.set_cons_zero, List.set_cons_succ]))
       first | (refine walkS_skip (some 36) rfl rfl (by rfl) (fun _ _ _ h => h) hS ?_; (try simp only [Act.put, List.setIfInBounds_toArray, List.set_cons_zero, List.set_cons_succ])) | (refine walkS_take (v := ?_) (some 36) rfl rfl (fun _ _ _ h => h) (by rfl) ?_ ?_; rotate_left; (focus (intro w' hw'; obtain ⟨⟨y0, y1⟩, y2, y3, y4, y5, y6, y7, y8, y9⟩ := HC1.out w' hw'; have y10 := HLK.out w' hw'; have y11 := HLN.out w' hw'; go_simp; (try with_reducible rfl))); (try simp only [Act.put, List.setIfInBounds_toArray, List.set_cons_zero, List.set_cons_succ]))
       first | (refine walkS_skip (some 37) rfl rfl (by rfl) (fun _ _ _ h => h) hS ?_; (try simp only [Act.put, List.setIfInBounds_toArray, List.set_cons_zero, List.set_cons_succ])) | (refine walkS_take (v := ?_) (some 37) rfl rfl (fun _ _ _ h => h) (by rfl) ?_ ?_; rotate_left; (focus (intro w' hw'; obtain ⟨⟨y0, y1⟩, y2, y3, y4, y5, y6, y7, y8, y9⟩ := HC1.out w' hw'; have y10 := HLK.out w' hw'; have y11 := HLN.out w' hw'; go_simp; (try with_reducible rfl))); (try simp only [Act.put, List.setIfInBounds_toArray, List.set_cons_zero, List.set_cons_succ]))
       (refine walkS_take (v := ?_) (some 38) rfl rfl (fun _ _ _ h => h) (by rfl) ?_ ?_; rotate_left; (focus (intro w' hw'; obtain ⟨⟨y0, y1⟩, y2, y3, y4, y5, y6, y7, y8, y9⟩ := HC1.out w' hw'; have y10 := HLK.out w' hw'; have y11 := HLN.out w' hw'; go_simp; (try with_reducible rfl))); (try simp only [Act.put, List.setIfInBounds_toArray, List.set_cons_zero, List.set_cons_succ]))
       refine walkS_done ?_
       obtain ⟨⟨z0, z1⟩, z2, z3, z4, z5, z6, z7, z8, z9⟩ := HC1.out _ hS
       go_wp2_with fail
       (with_reducible refine (HKP.out _ hS).mono ?_)
       rintro e w9 ⟨rfl, s9⟩
       have HS9 := Lib.hid s9
       clear s9
       go_wp2_with fail
       go_ret2
       exact ⟨rfl, HS9.out⟩
     ·have hc2 : most ≤ (n : Int) := by omega
      have e : (false || decide ((n : Int) < most)) = false := by simp [hc]
      rw [e, if_pos (rfl : false = false), if_neg (by decide : ¬ (false = true))]
      clear e HKEEP
      go_enter Tryz.func124, Tryz.ntmps124
      go_upto_region 1 with (fail)
      rw [HW1.out]
      go_wp2_with fail
      (with_reducible refine (HMAY.out _).mono ?_)
      rintro e w3 ⟨rfl, t3⟩
      have HT3 := Lib.hid t3
      have HZ3 := Lib.hid t3.size
      clear t3 x0 x1 x2 x3 x4 x5 x6 x7
      go_upto_region 3 with (fail)
      have hS := (HT3.out.trans ((Touch.refl w3 (fun _ => False)).drew) (fun _ _ h => h))
      refine wp_region_tree (fun w' => Touch W1 w' (fun _ => False)) (.take 0 (.take 1 (.take 2 (.take 3 (.take 4 (.take 5 (.take 6 (.take 7 (.take 8 (.take 9 (.one 10 (.one 11 (.take 12 .fin))))))))))))) (by kernel_rfl) (by kernel_rfl) (by kernel_rfl) (by kernel_rfl) hS ?_
      repeat' (first
       | (with_reducible refine walkT_take ?_)
       | (with_reducible refine walkT_one ?_)
       | (with_reducible refine walkT_two ?_ ?_)
       | (with_reducible refine walkT_fin ?_)
       | ((with_reducible show TakeN _ _ _ _ _ _ _ _); ((refine takeN_take (v := ?_) (some _) rfl rfl (fun _ _ _ h => h) (by rfl) ?_ ?_; rotate_left; (focus (intro w' hw'; obtain ⟨⟨y0, y1⟩, y2, y3, y4, y5, y6, y7, y8, y9⟩ := HC1.out w' hw'; have y10 := HLK.out w' hw'; have y11 := HLN.out w' hw'; go_simp; (try with_reducible rfl))); (try simp only [Act.put, List.setIfInBounds_toArray, List.set_cons_zero, List.set_cons_succ]))))
       | ((with_reducible show RunN _ _ _ _ 10 _ _ _); ((refine runN_new 6 (fun W => .pointer (some ⟨W.heap.size, 0, none⟩)) #[.int .u32 0, .int .u32 0, .int .i64 0, .int .i64 0, .int .i64 0, .int .i64 0, .int .i64 0, .int .i64 0] 83 rfl rfl (by rfl) (by intro W; go_simp <;> first | with_reducible rfl | rfl | exact ⟨rfl, rfl⟩) ?_; intro w7 hw7 hM7 hs7 t9; have hS := hS.trans t9 (fun _ _ h => h.elim); have HM7 := Lib.hid hM7; have HS7 := Lib.hid hs7; refine ⟨hS, fun _ => ?_⟩; clear hw7 hM7 hs7 t9; (try simp only [Act.put, List.setIfInBounds_toArray, List.set_cons_zero, List.set_cons_succ]))))
       | ((with_reducible show RunN _ _ _ _ 11 _ _ _); ((refine runN_store rfl rfl (by rfl) 83 _ _ rfl _ #[.int .u32 b1, .int .u32 b2, .int .i64 b3, .int .i64 b4, .int .i64 b5, .int .i64 gb, .int .i64 gg, .int .i64 gs] rfl rfl _ _ HM7.out HI8.out rfl rfl ?_; intro w8 h8 t8; have hS := hS.trans t8 (fun k hk h => by have h : k = w3.heap.size := h; have := HZ3.out; omega); refine ⟨hS, fun _ => ?_⟩; clear h8 t8; (try simp only [Act.put, List.setIfInBounds_toArray, List.set_cons_zero, List.set_cons_succ])))))
      all_goals
       have HS8 := Lib.hid hS
       go_upto_region 4 with (fail)
       have hS := HS8.out.drew
       refine wp_region_sched (fun w' => Touch W1 w' (fun _ => False)) [(0, true), (1, true), (2, true), (3, true), (4, true), (5, true), (6, true), (7, true), (8, true), (9, true), (10, true), (11, true), (12, true), (13, true)] (by kernel_rfl) (by kernel_rfl) rfl (by kernel_rfl) hS ?_
       (refine walkS_take (v := ?_) (some 25) rfl rfl (fun _ _ _ h => h) (by rfl) ?_ ?_; rotate_left; (focus (intro w' hw'; obtain ⟨⟨y0, y1⟩, y2, y3, y4, y5, y6, y7, y8, y9⟩ := HC1.out w' hw'; have y10 := HLK.out w' hw'; have y11 := HLN.out w' hw'; go_simp; (try with_reducible rfl))); (try simp only [Act.put, List.setIfInBounds_toArray, List.set_cons_zero, List.set_cons_succ]))
       (refine walkS_take (v := ?_) (some 26) rfl rfl (fun _ _ _ h => h) (by rfl) ?_ ?_; rotate_left; (focus (intro w' hw'; obtain ⟨⟨y0, y1⟩, y2, y3, y4, y5, y6, y7, y8, y9⟩ := HC1.out w' hw'; have y10 := HLK.out w' hw'; have y11 := HLN.out w' hw'; go_simp; (try with_reducible rfl))); (try simp only [Act.put, List.setIfInBounds_toArray, List.set_cons_zero, List.set_cons_succ]))
       (refine walkS_take (v := ?_) (some 27) rfl rfl (fun _ _ _ h => h) (by rfl) ?_ ?_; rotate_left; (focus (intro w' hw'; obtain ⟨⟨y0, y1⟩, y2, y3, y4, y5, y6, y7, y8, y9⟩ := HC1.out w' hw'; have y10 := HLK.out w' hw'; have y11 := HLN.out w' hw'; go_simp; (try with_reducible rfl))); (try simp only [Act.put, List.setIfInBounds_toArray, List.set_cons_zero, List.set_cons_succ]))
       first | (refine walkS_skip (some 28) rfl rfl (by rfl) (fun _ _ _ h => h) hS ?_; (try simp only [Act.put, List.setIfInBounds_toArray, List.set_cons_zero, List.set_cons_succ])) | (refine walkS_take (v := ?_) (some 28) rfl rfl (fun _ _ _ h => h) (by rfl) ?_ ?_; rotate_left; (focus (intro w' hw'; obtain ⟨⟨y0, y1⟩, y2, y3, y4, y5, y6, y7, y8, y9⟩ := HC1.out w' hw'; have y10 := HLK.out w' hw'; have y11 := HLN.out w' hw'; go_simp; (try with_reducible rfl))); (try simp only [Act.put, List.setIfInBounds_toArray, List.set_cons_zero, List.set_cons_succ]))
       first | (refine walkS_skip (some 29) rfl rfl (by rfl) (fun _ _ _ h => h) hS ?_; (try simp only [Act.put, List.setIfInBounds_toArray, List.set_cons_zero, List.set_cons_succ])) | (refine walkS_take (v := ?_) (some 29) rfl rfl (fun _ _ _ h => h) (by rfl) ?_ ?_; rotate_left; (focus (intro w' hw'; obtain ⟨⟨y0, y1⟩, y2, y3, y4, y5, y6, y7, y8, y9⟩ := HC1.out w' hw'; have y10 := HLK.out w' hw'; have y11 := HLN.out w' hw'; go_simp; (try with_reducible rfl))); (try simp only [Act.put, List.setIfInBounds_toArray, List.set_cons_zero, List.set_cons_succ]))
       first | (refine walkS_skip (some 30) rfl rfl (by rfl) (fun _ _ _ h => h) hS ?_; (try simp only [Act.put, List.setIfInBounds_toArray, List.set_cons_zero, List.set_cons_succ])) | (refine walkS_take (v := ?_) (some 30) rfl rfl (fun _ _ _ h => h) (by rfl) ?_ ?_; rotate_left; (focus (intro w' hw'; obtain ⟨⟨y0, y1⟩, y2, y3, y4, y5, y6, y7, y8, y9⟩ := HC1.out w' hw'; have y10 := HLK.out w' hw'; have y11 := HLN.out w' hw'; go_simp; (try with_reducible rfl))); (try simp only [Act.put, List.setIfInBounds_toArray, List.set_cons_zero, List.set_cons_succ]))
       first | (refine walkS_skip (some 31) rfl rfl (by rfl) (fun _ _ _ h => h) hS ?_; (try simp only [Act.put, List.setIfInBounds_toArray, List.set_cons_zero, List.set_cons_succ])) | (refine walkS_take (v := ?_) (some 31) rfl rfl (fun _ _ _ h => h) (by rfl) ?_ ?_; rotate_left; (focus (intro w' hw'; obtain ⟨⟨y0, y1⟩, y2, y3, y4, y5, y6, y7, y8, y9⟩ := HC1.out w' hw'; have y10 := HLK.out w' hw'; have y11 := HLN.out w' hw'; go_simp; (try with_reducible rfl))); (try simp only [Act.put, List.setIfInBounds_toArray, List.set_cons_zero, List.set_cons_succ]))
       first | (refine walkS_skip (some 32) rfl rfl (by rfl) (fun _ _ _ h => h) hS ?_; (try simp only [Act.put, List.setIfInBounds_toArray, List.set_cons_zero, List.set_cons_succ])) | (refine walkS_take (v := ?_) (some 32) rfl rfl (fun _ _ _ h => h) (by rfl) ?_ ?_; rotate_left; (focus (intro w' hw'; obtain ⟨⟨y0, y1⟩, y2, y3, y4, y5, y6, y7, y8, y9⟩ := HC1.out w' hw'; have y10 := HLK.out w' hw'; have y11 := HLN.out w' hw'; go_simp; (try with_reducible rfl))); (try simp only [Act.put, List.setIfInBounds_toArray, List.set_cons_zero, List.set_cons_succ]))
       first | (refine walkS_skip (some 33) rfl rfl (by rfl) (fun _ _ _ h => h) hS ?_; (try simp only [Act.put, List.setIfInBounds_toArray, List.set_cons_zero, List.set_cons_succ])) | (refine walkS_take (v := ?_) (some 33) rfl rfl (fun _ _ _ h => h) (by rfl) ?_ ?_; rotate_left; (focus (intro w' hw'; obtain ⟨⟨y0, y1⟩, y2, y3, y4, y5, y6, y7, y8, y9⟩ := HC1.out w' hw'; have y10 := HLK.out w' hw'; have y11 := HLN.out w' hw'; go_simp; (try with_reducible rfl))); (try simp only [Act.put, List.setIfInBounds_toArray, List.set_cons_zero, List.set_cons_succ]))
       first | (refine walkS_skip (some 34) rfl rfl (by rfl) (fun _ _ _ h => h) hS ?_; (try simp only [Act.put, List.setIfInBounds_toArray, List.set_cons_zero, List.set_cons_succ])) | (refine walkS_take (v := ?_) (some 34) rfl rfl (fun _ _ _ h => h) (by rfl) ?_ ?_; rotate_left; (focus (intro w' hw'; obtain ⟨⟨y0, y1⟩, y2, y3, y4, y5, y6, y7, y8, y9⟩ := HC1.out w' hw'; have y10 := HLK.out w' hw'; have y11 := HLN.out w' hw'; go_simp; (try with_reducible rfl))); (try simp only [Act.put, List.setIfInBounds_toArray, List.set_cons_zero, List.set_cons_succ]))
       first | (refine walkS_skip (some 35) rfl rfl (by rfl) (fun _ _ _ h => h) hS ?_; (try simp only [Act.put, List.setIfInBounds_toArray, List.set_cons_zero, List.set_cons_succ])) | (refine walkS_take (v := ?_) (some 35) rfl rfl (fun _ _ _ h => h) (by rfl) ?_ ?_; rotate_left; (focus (intro w' hw'; obtain ⟨⟨y0, y1⟩, y2, y3, y4, y5, y6, y7, y8, y9⟩ := HC1.out w' hw'; have y10 := HLK.out w' hw'; have y11 := HLN.out w' hw'; go_simp; (try with_reducible rfl))); (try simp only [Act.put, List.setIfInBounds_toArray, List.set_cons_zero, List.set_cons_succ]))
       first | (refine walkS_skip (some 36) rfl rfl (by rfl) (fun _ _ _ h => h) hS ?_; (try simp only [Act.put, List.setIfInBounds_toArray, List.set_cons_zero, List.set_cons_succ])) | (refine walkS_take (v := ?_) (some 36) rfl rfl (fun _ _ _ h => h) (by rfl) ?_ ?_; rotate_left; (focus (intro w' hw'; obtain ⟨⟨y0, y1⟩, y2, y3, y4, y5, y6, y7, y8, y9⟩ := HC1.out w' hw'; have y10 := HLK.out w' hw'; have y11 := HLN.out w' hw'; go_simp; (try with_reducible rfl))); (try simp only [Act.put, List.setIfInBounds_toArray, List.set_cons_zero, List.set_cons_succ]))
       first | (refine walkS_skip (some 37) rfl rfl (by rfl) (fun _ _ _ h => h) hS ?_; (try simp only [Act.put, List.setIfInBounds_toArray, List.set_cons_zero, List.set_cons_succ])) | (refine walkS_take (v := ?_) (some 37) rfl rfl (fun _ _ _ h => h) (by rfl) ?_ ?_; rotate_left; (focus (intro w' hw'; obtain ⟨⟨y0, y1⟩, y2, y3, y4, y5, y6, y7, y8, y9⟩ := HC1.out w' hw'; have y10 := HLK.out w' hw'; have y11 := HLN.out w' hw'; go_simp; (try with_reducible rfl))); (try simp only [Act.put, List.setIfInBounds_toArray, List.set_cons_zero, List.set_cons_succ]))
       (refine walkS_take (v := ?_) (some 38) rfl rfl (fun _ _ _ h => h) (by rfl) ?_ ?_; rotate_left; (focus (intro w' hw'; obtain ⟨⟨y0, y1⟩, y2, y3, y4, y5, y6, y7, y8, y9⟩ := HC1.out w' hw'; have y10 := HLK.out w' hw'; have y11 := HLN.out w' hw'; go_simp; (try with_reducible rfl))); (try simp only [Act.put, List.setIfInBounds_toArray, List.set_cons_zero, List.set_cons_succ]))
       refine walkS_done ?_
       obtain ⟨⟨z0, z1⟩, z2, z3, z4, z5, z6, z7, z8, z9⟩ := HC1.out _ hS
       go_wp2_with fail
       go_ret2
       exact ⟨rfl, ⟨h, M, .refl _, HD.out.still (HT1.out.trans hS (fun _ _ h => h)), (HT1.out.trans hS (fun _ _ h => h)).mono (fun _ _ h => h.elim), fun _ hk => .inl hk⟩⟩
end Go.Proofs.YtpjdcgjoepjmcaaGreat
end
section
namespace Go.Proofs.YtpjdcgjoepjmcaaGreat
open Go.RowKit
def goneF (M : List FlD) (c : Int) : List FlD := M.takeWhile (fun d => decide (d.fs ≤ c))
def leftF (M : List FlD) (c : Int) : List FlD := M.dropWhile (fun d => decide (d.fs ≤ c))
def idleA (M : List FlD) (idle now : Int) : List FlD := if now < idle then [] else goneF M (now - idle)
def idleR (M : List FlD) (idle now : Int) : List FlD := if now < idle then M else leftF M (now - idle)
def FIdle (w w' : World) (g : Nat) (h : FH) (most idle : Int) (A R : List FlD) (v : Value) : Prop :=
 ∃ a c h', v = .slice a A.length c ∧ OwnS w' w.heap.size 83 8 (.slice a A.length c) (A.map fcl) ∧ FS w' g h' most idle R ∧ Touch w w' (footF g h) ∧ (∀ k, footF g h' k → footF g h k ∨ w.heap.size ≤ k) ∧ ∀ x, a = some x → ¬ footF g h' x.block
def gf (M : List FlD) (i : Nat) : FlD := M.getD i noF
theorem gf_get (M : List FlD) (i : Nat) (h : i < M.length) : gf M i = M[i] := by unfold gf; rw [List.getD_eq_getElem?_getD, List.getElem?_eq_getElem h]; rfl
theorem one_fcl (x : FlD) : ∀ l ∈ [fcl x], ∀ u ∈ l, u.oneCell' = true := by simp [fcl, Value.oneCell']
end Go.Proofs.YtpjdcgjoepjmcaaGreat
end
section
namespace Go.Proofs.YtpjdcgjoepjmcaaGreat
open Go.RowKit
end Go.Proofs.YtpjdcgjoepjmcaaGreat
end
section
namespace Go.Proofs.YtpjdcgjoepjmcaaGreat
open Go.RowKit
structure FN (w w' : World) (g : Nat) (h : FH) (most idle : Int) (M : List FlD) : Prop where
 q : FS w' g h most idle M
 t : Touch w w' (fun _ => False)
 f : ∀ k, footF g h k → w.heap.size ≤ k
section
variable {w w1 w2 : World} {g : Nat} {h : FH} {most idle : Int} {M M' A R : List FlD} {v : Value}
theorem FN.step (n : FN w w1 g h most idle M) (x : FStep w1 w2 g h most idle M') : ∃ h' M1, M1.Perm M' ∧ FN w w2 g h' most idle M1 ∧ (∀ k, footF g h' k → footF g h k ∨ w1.heap.size ≤ k) ∧ Touch w1 w2 (footF g h) := by
 obtain ⟨h', M1, p, q, t, f⟩ := x
 refine ⟨h', M1, p, ⟨q, n.t.trans t (fun k hk hf => by have := n.f k hf; omega), fun k hk => ?_⟩, f, t⟩
 rcases f k hk with h | h
 ·exact n.f k h
 ·exact Nat.le_trans n.t.size h
theorem FN.touch {S : Nat → Prop} (n : FN w w1 g h most idle M) (t : Touch w1 w2 S) (h1 : ∀ k, footF g h k → ¬ S k) (h2 : ∀ k, k < w.heap.size → ¬ S k) : FN w w2 g h most idle M :=
 ⟨n.q.touch t h1, n.t.trans t (fun k hk hs => h2 k hk hs), n.f⟩
theorem FN.still (n : FN w w1 g h most idle M) (t : Touch w1 w2 (fun _ => False)) : FN w w2 g h most idle M := n.touch t (fun _ _ h => h) (fun _ _ h => h)
end
def flN (n s : Int) : FlD := ⟨⟨n, 0, 17, 0, 0⟩, 0, 0, s⟩
instance : DecidableEq FlD := fun a b =>
 decidable_of_iff (a.t = b.t ∧ a.fb = b.fb ∧ a.fg = b.fg ∧ a.fs = b.fs) ⟨fun h => FlD.ext' h.1 h.2.1 h.2.2.1 h.2.2.2, fun h => by subst h; exact ⟨rfl, rfl, rfl, rfl⟩⟩
end Go.Proofs.YtpjdcgjoepjmcaaGreat
end
section
namespace Go.Proofs.YtpjdcgjoepjmcaaGreat
open Go.RowKit
variable {H : Type} {enc : TypeId × Value → H} {W : World} {base : Nat} {v : Value} {d : DataW H} {p : List MemPlace} {cs : List Value}
end Go.Proofs.YtpjdcgjoepjmcaaGreat
end
