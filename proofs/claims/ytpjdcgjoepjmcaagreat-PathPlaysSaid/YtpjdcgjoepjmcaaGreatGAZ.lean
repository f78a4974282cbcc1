import Derived.Test.YtpjdcgjoepjmcaaGreatRows
import Derived.WalkKit
import Derived.WalkLawsBesides
import Derived.LoopTactic
import Derived.Outline
import Derived.Below
import Derived.Lib.Hide
import Derived.Deep.QuietTactic
import Derived.BigQuiet
import Derived.Laws.OwnMore
import Derived.OwnWalk
import Derived.Lib.Strings
import Derived.OneCell
import Derived.Laws.Rows
import Derived.Laws.Tables
import Derived.Great.BuildSlice
import Derived.ProofKit
import Derived.OpenShut
import Derived.ShutString
import Derived.ChangeOld
import Derived.SizedLaws
import Derived.Deep.Slices
import Derived.Deep.Fields
import Derived.Deep.RegionLaw
set_option linter.unusedVariables false
set_option linter.unusedSimpArgs false
section
namespace Go.Proofs.YtpjdcgjoepjmcaaGreat
open Go.RowKit
def RowB (w : World) (a : Option Addr) (len cap : Nat) (xs : List Nat) : Prop :=
 xs.length = len ∧ len ≤ cap ∧ cap ≤ 9223372036854775807 ∧ len ≤ 281474976710656 ∧ (∀ x ∈ xs, x < 256) ∧
  (len = 0 ∨ ∃ b off, a = some ⟨b, off, none⟩ ∧ ∀ i, (h : i < xs.length) → w.cell? ⟨b, off + i, none⟩ = some (.int .u8 (xs[i] : Nat)))
def Drew (w w' : World) : Prop := ∃ n, w' = w.drewN n
theorem Drew.mk (w : World) (n : Nat) : Drew w (w.drewN n) := ⟨n, rfl⟩
theorem Drew.more {w w' : World} (h : Drew w w') (n : Nat) : Drew w (w'.drewN n) := by
 obtain ⟨m, rfl⟩ := h; exact ⟨m + n, by rw [World.drewN_drewN]⟩
theorem RowB.drewN {w : World} {a : Option Addr} {len cap : Nat} {xs : List Nat} (h : RowB w a len cap xs) (n : Nat) : RowB (w.drewN n) a len cap xs := by
 obtain ⟨h1, h2, h3, h6, h4, h5⟩ := h
 refine ⟨h1, h2, h3, h6, h4, ?_⟩
 rcases h5 with h5 | ⟨b, off, ha, hc⟩
 ·exact .inl h5
 ·exact .inr ⟨b, off, ha, fun i hi => by have := hc i hi; simpa using this⟩
theorem RowB.drew {w w' : World} {a : Option Addr} {len cap : Nat} {xs : List Nat} (h : RowB w a len cap xs) (hd : Drew w w') : RowB w' a len cap xs := by
 obtain ⟨n, rfl⟩ := hd; exact h.drewN n
theorem RowB.drop {w : World} {b off : Nat} {len cap : Nat} {xs : List Nat} (h : RowB w (some ⟨b, off, none⟩) len cap xs) (k : Nat) (hk : k ≤ len) :
 RowB w (if cap = k then some ⟨b, off, none⟩ else some ⟨b, off + k, none⟩) (len - k) (cap - k) (xs.drop k) := by
 obtain ⟨h1, h2, h3, h6, h4, h5⟩ := h
 refine ⟨by simp [h1], by omega, by omega, by omega, fun x hx => h4 x (List.mem_of_mem_drop hx), ?_⟩
 rcases h5 with h5 | ⟨b', off', ha, hc⟩
 ·exact .inl (by omega)
 ·simp only [Option.some.injEq, Addr.mk.injEq] at ha
  obtain ⟨rfl, rfl, _⟩ := ha
  by_cases hl : len = k
  ·exact .inl (by omega)
  ·refine .inr ⟨b, off + k, by rw [if_neg (by omega)], fun i hi => ?_⟩
   simp at hi
   have := hc (k + i) (by omega)
   rw [List.getElem_drop]; rw [Nat.add_assoc]; exact this
theorem RowB.dropMap {w : World} {a : Option Addr} {len cap : Nat} {xs : List Nat} (h : RowB w a len cap xs) (k : Nat) (hk : k ≤ len) :
 RowB w (a.map (fun x => x.add k)) (len - k) (cap - k) (xs.drop k) := by
 obtain ⟨h1, h2, h3, h6, h4, h5⟩ := h
 refine ⟨by simp [h1], by omega, by omega, by omega, fun x hx => h4 x (List.mem_of_mem_drop hx), ?_⟩
 rcases h5 with h5 | ⟨b, off, ha, hc⟩
 ·exact .inl (by omega)
 ·subst ha
  refine .inr ⟨b, off + k, ?_, fun i hi => ?_⟩
  ·simp only [Option.map_some, Addr.add]
   split <;> simp_all
  ·simp at hi
   have := hc (k + i) (by omega)
   rw [List.getElem_drop]; rw [Nat.add_assoc]; exact this
theorem RowB.take {w : World} {a : Option Addr} {len cap : Nat} {xs : List Nat} (h : RowB w a len cap xs) (k : Nat) (hk : k ≤ len) : RowB w a k cap (xs.take k) := by
 obtain ⟨h1, h2, h3, h6, h4, h5⟩ := h
 refine ⟨by simp; omega, by omega, h3, by omega, fun x hx => h4 x (List.mem_of_mem_take hx), ?_⟩
 rcases h5 with h5 | ⟨b, off, ha, hc⟩
 ·exact .inl (by omega)
 ·refine .inr ⟨b, off, ha, fun i hi => ?_⟩
  simp at hi
  rw [List.getElem_take]
  exact hc i (by omega)
def lenOf : Value → Nat | .slice _ n _ => n | _ => 0
theorem RowB.below {w w' : World} {B : Nat} {a : Option Addr} {len cap : Nat} {xs : List Nat} (h : RowB w a len cap xs) (hb : Below B w w') (hB : ∀ x, a = some x → len = 0 ∨ x.block < B) : RowB w' a len cap xs := by
 obtain ⟨h1, h2, h3, h6, h4, h5⟩ := h
 refine ⟨h1, h2, h3, h6, h4, ?_⟩
 rcases h5 with h5 | ⟨b, off, ha, hc⟩
 ·exact .inl h5
 ·rcases hB _ ha with h0 | h0
  ·exact .inl h0
  ·exact .inr ⟨b, off, ha, fun i hi => by rw [hb.cell (p := ⟨b, off + i, none⟩) h0]; exact hc i hi⟩
theorem cell_lt {w : World} {p : Addr} {v : Value} (h : w.cell? p = some v) : p.block < w.heap.size := by
 unfold World.cell? at h
 cases hb : w.heap[p.block]? with
 | none => rw [hb] at h; cases h
 | some o => exact (Array.getElem?_eq_some_iff.1 hb).1
theorem RowB.lt {w : World} {a : Option Addr} {len cap : Nat} {xs : List Nat} (h : RowB w a len cap xs) : ∀ x, a = some x → len = 0 ∨ x.block < w.heap.size := by
 obtain ⟨h1, h2, h3, h6, h4, h5⟩ := h
 intro x hx
 rcases h5 with h5 | ⟨b, off, ha, hc⟩
 ·exact .inl h5
 ·by_cases h0 : len = 0
  ·exact .inl h0
  ·right
   rw [ha] at hx; cases hx
   have := hc 0 (by omega)
   exact cell_lt (p := ⟨b, off + 0, none⟩) this
theorem RowB.old {w w' : World} {a : Option Addr} {len cap : Nat} {xs : List Nat} (h : RowB w a len cap xs) (hb : Below w.heap.size w w') : RowB w' a len cap xs := h.below hb h.lt
theorem RowB.new (w : World) (g : Nat) (hg : g = w.heap.size) (cs : Array Value) (t : TypeId) (m : Nat × Nat) (len : Nat) (xs : List Nat) (hl : xs.length = len) (hn : len ≤ 281474976710656) (hx : ∀ x ∈ xs, x < 256)
 (hc : ∀ i, (h : i < xs.length) → cs[i]? = some (.int .u8 (xs[i] : Nat))) : RowB (w.alloc (.cells cs t m)) (some ⟨g, 0, none⟩) len len xs := by
 subst hg
 refine ⟨hl, Nat.le_refl _, by omega, hn, hx, .inr ⟨w.heap.size, 0, rfl, fun i hi => ?_⟩⟩
 have e : (w.alloc (.cells cs t m)).heap[w.heap.size]? = some (.cells cs t m) := by
  show (w.heap.push (.cells cs t m))[w.heap.size]? = _
  simp
 unfold World.cell?
 rw [e]
 simp only [Nat.zero_add]
 simpa using hc i hi
theorem RowB.nil (w : World) (a : Option Addr) (cap : Nat) (h : cap ≤ 9223372036854775807) : RowB w a 0 cap [] :=
 ⟨rfl, Nat.zero_le _, h, Nat.zero_le _, by simp, .inl rfl⟩
end Go.Proofs.YtpjdcgjoepjmcaaGreat
end
section
namespace Go.Proofs.YtpjdcgjoepjmcaaGreat
open Go.RowKit
theorem infoB : (Tryz.prog.info? 5).map (fun i => (i.zero, i.size, i.bytes)) = some (some (.int .u8 0), 1, 1) := by kernel_rfl
def cellB (x : Nat) : Value := .int .u8 (x : Nat)
structure OwnB (w : World) (base : Nat) (E : TypeId) (v : Value) (xs : List Nat) : Prop where
 own : w.ownsRow base E 1 v xs.length (xs.map cellB)
 small : ∀ x ∈ xs, x < 256
 short : xs.length ≤ 281474976710656
section
variable {w : World} {base : Nat} {E : TypeId} {v : Value} {xs : List Nat}
theorem OwnB.row (h : OwnB w base E v xs) : ∃ a cap, v = .slice a xs.length cap ∧ RowB w a xs.length cap xs ∧ (a = none ∨ ∃ g, a = some ⟨g, 0, none⟩ ∧ base ≤ g ∧ g < w.heap.size) := by
 rcases h.own.2 with ⟨rfl, hn⟩ | ⟨g, cap, cur, rfl, hb, hg, hnc, hcm, hcs, htake⟩
 ·have : xs = [] := List.length_eq_zero_iff.1 hn
  subst this
  exact ⟨none, 0, rfl, RowB.nil _ _ _ (by omega), .inl rfl⟩
 ·refine ⟨_, cap, rfl, ⟨rfl, hnc, by simpa [maxLen] using hcm, h.short, h.small, .inr ⟨g, 0, rfl, fun i hi => ?_⟩⟩, .inr ⟨g, rfl, hb, (Array.getElem?_eq_some_iff.1 hg).1⟩⟩
  have e := World.ownsRow.cellAt h.own i (by omega)
  rw [Nat.zero_add, e]
  simp [hi, cellB]
theorem OwnB.drewN (h : OwnB w base E v xs) (n : Nat) : OwnB (w.drewN n) base E v xs := ⟨h.own, h.small, h.short⟩
theorem OwnB.drew (h : OwnB w base E v xs) {w' : World} (hd : Drew w w') : OwnB w' base E v xs := by obtain ⟨n, rfl⟩ := hd; exact h.drewN n
theorem OwnB.nil (w : World) (base : Nat) (E : TypeId) : OwnB w base E (.slice none 0 0) [] := ⟨World.ownsRow_nil w base E 1, by simp, by simp⟩
theorem OwnB.lit (w : World) (g : Nat) (hg : g = w.heap.size) (base : Nat) (hb : base ≤ g) (E : TypeId) (cs : Array Value) (n : Nat) (xs : List Nat) (hcs : cs.toList = xs.map cellB) (hn : xs.length = n) (hx : ∀ x ∈ xs, x < 256) (hs : n ≤ 281474976710656) :
 OwnB (w.alloc (.cells cs E)) base E (.slice (some ⟨g, 0, none⟩) n n) xs := by
 subst hg; subst hn
 have h := World.ownsRow_lit (base := base) (e := E) (size := 1) w cs xs.length hb (by simp only [maxLen]; omega) (by have := congrArg List.length hcs; simpa using this)
 rw [hcs] at h
 exact ⟨h, hx, hs⟩
theorem OwnB.stored {g n cap : Nat} (h : OwnB w base E (.slice (some ⟨g, 0, none⟩) n cap) xs) (hn : xs.length = n) (j x : Nat) (hx : x < 256) :
 OwnB (w.setCell ⟨g, j, none⟩ (.int .u8 (x : Nat))) base E (.slice (some ⟨g, 0, none⟩) n cap) (xs.set j x) := by
 subst hn
 have := (World.ownsRow.stored h.own j (.int .u8 (x : Nat))).1
 refine ⟨?_, fun y hy => ?_, by simpa using h.short⟩
 ·simpa [List.map_set, cellB] using this
 ·rcases List.mem_or_eq_of_mem_set hy with h1 | h1
  ·exact h.small y h1
  ·omega
theorem OwnB.free {g n cap : Nat} (h : OwnB w base E (.slice (some ⟨g, 0, none⟩) n cap) xs) (hn : xs.length = n) (j : Nat) : w.frozen? ⟨g, j, none⟩ = false := by
 subst hn; exact World.ownsRow.frozenAt h.own j
theorem OwnB.at {g n cap : Nat} (h : OwnB w base E (.slice (some ⟨g, 0, none⟩) n cap) xs) (hn : xs.length = n) (j : Nat) (hj : j < n) (hj' : j < xs.length) : w.cell? ⟨g, j, none⟩ = some (.int .u8 (xs[j] : Nat)) := by
 subst hn
 rw [World.ownsRow.cellAt h.own j (by omega)]
 simp [hj', cellB]
theorem OwnB.where {g n cap : Nat} (h : OwnB w base E (.slice (some ⟨g, 0, none⟩) n cap) xs) : base ≤ g ∧ g < w.heap.size := h.own.lt g rfl
theorem below_grown {W : World} {w' : World} {B : Nat} (h : Below B W w) (hg : w.grownBy w' v.ownBlock) (hB : B ≤ w.heap.size) (ho : OwnB w base E v xs) (hBb : B ≤ base) : Below B W w' :=
 h.grown hg hB (fun k hk => Nat.le_trans hBb (ho.own.lt k hk).1)
end
def strB (xs : List Nat) : ByteArray := ⟨(xs.map UInt8.ofNat).toArray⟩
theorem strB_inj (xs ys : List Nat) (hx : ∀ x ∈ xs, x < 256) (hy : ∀ y ∈ ys, y < 256) (h : strB xs = strB ys) : xs = ys := by
 have h1 : (xs.map UInt8.ofNat).toArray = (ys.map UInt8.ofNat).toArray := congrArg ByteArray.data h
 have h2 : xs.map UInt8.ofNat = ys.map UInt8.ofNat := by simpa using congrArg Array.toList h1
 have h3 := congrArg (List.map UInt8.toNat) h2
 simp only [List.map_map] at h3
 have e : ∀ l : List Nat, (∀ x ∈ l, x < 256) → l.map (UInt8.toNat ∘ UInt8.ofNat) = l := by
  intro l hl
  conv => rhs; rw [← List.map_id l]
  apply List.map_congr_left
  intro x hx
  have := hl x hx
  show (UInt8.ofNat x).toNat = x
  rw [UInt8.toNat_ofNat']; omega
 rw [e xs hx, e ys hy] at h3
 exact h3
theorem run_string_of {P : Program} {w : World} {a : Option Addr} {len cap : Nat} {xs : List Nat} (hr : RowB w a len cap xs) (src dst e : TypeId) (hs : P.underlying src = some (.slice e)) (he : P.underlying e = some (.int .u8)) (hd : P.underlying dst = some .string) :
 (convert src dst (.slice a len cap)).run P w = .ok (.string (strB xs)) w := by
 obtain ⟨h1, h2, h3, h6, h4, h5⟩ := hr
 cases a with
 | none =>
   rcases h5 with h5 | ⟨b, off, ha, _⟩
   ·subst h5
    have : xs = [] := List.length_eq_zero_iff.1 h1
    subst this
    rw [run_convert_bytes_nil (w := w) src e hs he 0 cap dst hd]; rfl
   ·cases ha
 | some a =>
   have hc : ∀ j (hj : j < (xs.map UInt8.ofNat).length), w.cell? (a.add j) = some (.int .u8 ((xs.map UInt8.ofNat)[j].toNat : Int)) := by
    intro j hj
    simp at hj
    rcases h5 with h5 | ⟨b, off, ha, hc⟩
    ·omega
    ·simp only [Option.some.injEq] at ha
     subst ha
     have ea : (⟨b, off, none⟩ : Addr).add j = ⟨b, off + j, none⟩ := by simp only [Addr.add]; split <;> simp_all
     rw [ea, hc j hj]
     have := h4 _ (List.getElem_mem hj)
     simp; omega
   have := run_convert_bytes_back (P := P) w src dst e a cap (xs.map UInt8.ofNat) hs he hd hc
   rw [List.length_map, h1] at this
   exact this
theorem append_place {P : Program} (w : World) (t ty E : TypeId) (ht : P.underlying t = some (.slice E)) (i : TypeInfo) (hi : P.info? E = some i) (hz0 : i.zero = some (.int .u8 0)) (hz1 : i.size = 1) (hz2 : i.bytes = 1)
 (base : Nat) (v : Value) (n : Nat) (xs : List Value) (hown : w.ownsRow base E 1 v n xs) (a : Addr) (m c : Nat) (news : List Value) (hl : news.length = m * 1) (hnews : ∀ j u, news[j]? = some u → w.cell? (a.add j) = some u) (h1 : ∀ u ∈ news, u.oneCell' = true)
 (h63 : n + m ≤ maxLen) (hbytes : (n + m) * 1 ≤ 140737488355328) {v' : Value} {w' : World} (hr : (Builtin.append_ #[t, t] ty #[v, .slice (some a) m c]).run P w = .ok v' w') :
 ∀ k, v'.ownBlock = some k → v.ownBlock = some k ∨ w.heap.size ≤ k := by
 rcases hown.2 with ⟨rfl, hn⟩ | ⟨g, cap, cur, rfl, hbg, hg, hnc, hcm, hcs, htake⟩
 ·subst hn
  have hx : xs = [] := List.eq_nil_of_length_eq_zero (by simpa using hown.1)
  subst hx
  obtain ⟨v2, w2, r1, r2, _, _⟩ := run_append_own (P := P) w w.heap.size t ty E i (.int .u8 0) 1 1 ht hi hz0 hz1 hz2 rfl (by decide) (.slice none 0 0) 0 [] (World.ownsRow_nil w _ _ _) a m c news hl hnews h1 (by simpa using h63) (by simpa using hbytes) (Nat.le_refl _)
  rw [hr] at r1
  simp only [Result.ok.injEq] at r1
  obtain ⟨rfl, rfl⟩ := r1
  intro k hk
  exact .inr (r2.lt k hk).1
 ·by_cases hroom : n + m ≤ cap
  ·obtain ⟨w2, r1, _, _⟩ := run_append_fits (P := P) w base t ty E i 1 ht hi hz1 g n cap xs hown a m c news hl hnews h1 hroom
   rw [hr] at r1
   simp only [Result.ok.injEq] at r1
   obtain ⟨rfl, rfl⟩ := r1
   intro k hk
   exact .inl hk
  ·have holds : ∀ j u, xs[j]? = some u → w.cell? ((⟨g, 0, none⟩ : Addr).add j) = some u := hown.cells (g := g) rfl
   have r1 := run_append_grow (P := P) w t ty E i (.int .u8 0) ht hi hz0 ⟨g, 0, none⟩ n cap xs (by rw [hz1]; exact hown.1) holds a m c news (by rw [hz1]; exact hl) hnews (by omega) (by simp only [maxLen] at h63; omega) (growslice_fits (by omega) (by rw [hz2]; exact hbytes))
   rw [hr] at r1
   simp only [Result.ok.injEq] at r1
   obtain ⟨rfl, rfl⟩ := r1
   intro k hk
   simp [Value.ownBlock] at hk
   exact .inr (by omega)
theorem run_appendB {P : Program} (w : World) (t ty E : TypeId) (ht : P.underlying t = some (.slice E)) (hin : (P.info? E).map (fun i => (i.zero, i.size, i.bytes)) = some (some (.int .u8 0), 1, 1))
 (base : Nat) (v : Value) (xs : List Nat) (hown : OwnB w base E v xs) (ad : Option Addr) (len cap : Nat) (ys : List Nat) (hr : RowB w ad len cap ys)
 (hlen : xs.length + len ≤ 140737488355328) (hbase : base ≤ w.heap.size) :
 ∃ v' w', (Builtin.append_ #[t, t] ty #[v, .slice ad len cap]).run P w = .ok v' w' ∧ OwnB w' base E v' (xs ++ ys) ∧ w.grownBy w' v.ownBlock ∧ (∀ k, v'.ownBlock = some k → v.ownBlock = some k ∨ w.heap.size ≤ k) := by
 obtain ⟨i, hi, hz0, hz1, hz2⟩ := info_parts hin
 obtain ⟨h1, h2, h3, h6, h4, h5⟩ := hr
 have hsm : ∀ x ∈ xs ++ ys, x < 256 := fun x hx => by
  rcases List.mem_append.1 hx with h | h
  ·exact hown.small x h
  ·exact h4 x h
 have hlen' : (xs ++ ys).length = xs.length + len := by simp [h1]
 rcases h5 with h0 | ⟨b, off, ha, hc⟩
 ·subst h0
  have hy : ys = [] := List.length_eq_zero_iff.1 h1
  subst hy
  cases ad with
  | none =>
    obtain ⟨a0, c0, hv, _⟩ := hown.row
    refine ⟨v, w, ?_, by simpa using hown, ⟨rfl, rfl, rfl, Nat.le_refl _, fun _ _ _ => rfl⟩, fun k hk => .inl hk⟩
    have := run_append_owned_none (P := P) (w := w) base t ty E i 1 ht hi v _ _ hown.own
    rcases hown.own.2 with ⟨rfl, hn⟩ | ⟨g, cap', cur, rfl, hb, hg, hnc, hcm, hcs, htake⟩
    ·simp [Builtin.append_, run_underlying ht, sizeOf, typeInfo, hi, Builtin.lenOf, Builtin.firstCells]
    ·simp [Builtin.append_, run_underlying ht, sizeOf, typeInfo, hi, Builtin.lenOf, Builtin.firstCells, hnc, storeCells]
  | some ad =>
    obtain ⟨v', w', r1, r2, r3, r4⟩ := run_append_own (P := P) w base t ty E i (.int .u8 0) 1 1 ht hi hz0 hz1 hz2 rfl (by decide) v _ _ hown.own ad 0 cap [] rfl (by simp) (by simp) (by simp only [maxLen]; omega) (by omega) hbase
    exact ⟨v', w', r1, ⟨by simpa using r2, by simpa using hown.small, by simpa using hown.short⟩, r3, append_place w t ty E ht i hi hz0 hz1 hz2 base v _ _ hown.own ad 0 cap [] rfl (by simp) (by simp) (by simp only [maxLen]; omega) (by omega) r1⟩
 ·subst ha
  have hnews : ∀ j u, (ys.map cellB)[j]? = some u → w.cell? ((⟨b, off, none⟩ : Addr).add j) = some u := by
   intro j u hu
   simp only [List.getElem?_map, Option.map_eq_some_iff] at hu
   obtain ⟨y, hy, rfl⟩ := hu
   obtain ⟨hj, rfl⟩ := List.getElem?_eq_some_iff.1 hy
   have := hc j hj
   have ea : (⟨b, off, none⟩ : Addr).add j = ⟨b, off + j, none⟩ := by simp only [Addr.add]; split <;> simp_all
   rw [ea]; exact this
  obtain ⟨v', w', r1, r2, r3, r4⟩ := run_append_own (P := P) w base t ty E i (.int .u8 0) 1 1 ht hi hz0 hz1 hz2 rfl (by decide) v _ _ hown.own ⟨b, off, none⟩ len cap (ys.map cellB) (by simp [h1]) hnews (by intro u hu; obtain ⟨y, _, rfl⟩ := List.mem_map.1 hu; rfl) (by simp only [maxLen]; omega) (by omega) hbase
  exact ⟨v', w', r1, ⟨by rw [hlen', List.map_append]; exact r2, hsm, by rw [hlen']; omega⟩, r3, append_place w t ty E ht i hi hz0 hz1 hz2 base v _ _ hown.own ⟨b, off, none⟩ len cap (ys.map cellB) (by simp [h1]) hnews (by intro u hu; obtain ⟨y, _, rfl⟩ := List.mem_map.1 hu; rfl) (by simp only [maxLen]; omega) (by omega) r1⟩
theorem wpList_appendB {P : Program} {w : World} {ops : Array Oper} {rest : List Oper} {o : Oper} {a : Act} {Q : Exit → Act → World → Prop} (hgd : Region.wanted o (yielded ops a.tmps) = true) (s x : Operand) (t : TypeId)
 (ho : o.op = .call { callee := .builtin .append, args := #[s, x], argTypes := #[t, t] })
 (E : TypeId) (ht : P.underlying t = some (.slice E)) (hin : (P.info? E).map (fun i => (i.zero, i.size, i.bytes)) = some (some (.int .u8 0), 1, 1))
 (base : Nat) (v : Value) (xs : List Nat) (hs : a.eval s = v) (hown : OwnB w base E v xs) (ad : Option Addr) (len cap : Nat) (ys : List Nat) (hx : a.eval x = .slice ad len cap) (hr : RowB w ad len cap ys)
 (n : Nat) (zs : List Nat) (hz : xs ++ ys = zs) (hn : zs.length = n) (hlen : n ≤ 140737488355328) (hbase : base ≤ w.heap.size)
 (B : Nat) (W : World) (hbel : Below B W w) (hB : B ≤ base)
 (h : ∀ a' cap' w', OwnB w' base E (.slice a' n cap') zs → RowB w' a' n cap' zs → w.grownBy w' v.ownBlock → Below B W w' → w.heap.size ≤ w'.heap.size → (a' = none ∨ ∃ g, a' = some ⟨g, 0, none⟩ ∧ base ≤ g ∧ g < w'.heap.size) → (∀ k, (Value.slice a' n cap').ownBlock = some k → v.ownBlock = some k ∨ w.heap.size ≤ k) → wpList P ops Q rest (a.put o.dst (.slice a' n cap')) w') : wpList P ops Q (o :: rest) a w := by
 refine BigFrame.wpList_want hgd fun K hK => ?_
 have hl2 := hr.1
 obtain ⟨v', w', hrun, h1, h2, hpl⟩ := run_appendB (P := P) w t o.type E ht hin base v xs hown ad len cap ys hr (by have := congrArg List.length hz; simp at this; omega) hbase
 obtain ⟨a', cap', hv, hr', hp⟩ := h1.row
 rw [hz] at h1 hv hr'
 rw [hn] at hv hr'
 subst hv
 unfold Oper.wp execOp
 simp only [ho, resolve, invoke, builtin, Sem.run_bind, Sem.run_pure, Result.andThen_ok, List.map_toArray, List.map_cons, List.map_nil, hs, hx, hrun]
 exact hK _ _ (h a' cap' w' h1 hr' h2 (below_grown hbel h2 (by omega) hown hB) h2.size hp hpl)
end Go.Proofs.YtpjdcgjoepjmcaaGreat
end
section
namespace Go.Proofs.YtpjdcgjoepjmcaaGreat
open Go.RowKit
structure Touch (w w' : World) (S : Nat → Prop) : Prop where
 os : w'.os = w.os
 tape : w'.tape = w.tape
 output : w'.output = w.output
 size : w.heap.size ≤ w'.heap.size
 block : ∀ k, k < w.heap.size → ¬ S k → w'.heap[k]? = w.heap[k]?
section
variable {a b c w w' : World} {S T : Nat → Prop}
theorem Touch.refl (w : World) (S : Nat → Prop) : Touch w w S := ⟨rfl, rfl, rfl, Nat.le_refl _, fun _ _ _ => rfl⟩
theorem Touch.mono (h : Touch a b S) (hs : ∀ k, k < a.heap.size → S k → T k) : Touch a b T :=
 ⟨h.os, h.tape, h.output, h.size, fun k hk hn => h.block k hk (fun hS => hn (hs k hk hS))⟩
theorem Touch.trans (h : Touch a b S) (g : Touch b c T) (hT : ∀ k, k < a.heap.size → T k → S k) : Touch a c S :=
 ⟨g.os.trans h.os, g.tape.trans h.tape, g.output.trans h.output, Nat.le_trans h.size g.size, fun k hk hn =>
  (g.block k (Nat.lt_of_lt_of_le hk h.size) (fun hT' => hn (hT k hk hT'))).trans (h.block k hk hn)⟩
theorem Touch.drewN (h : Touch a b S) (n : Nat) : Touch a (b.drewN n) S := ⟨h.os, h.tape, h.output, h.size, h.block⟩
theorem Touch.drew (h : Touch a b S) : Touch a b.drew S := ⟨h.os, h.tape, h.output, h.size, h.block⟩
theorem Touch.alloc (h : Touch a b S) (o : Obj) : Touch a (b.alloc o) S :=
 ⟨h.os, h.tape, h.output, by have := h.size; simp; omega, fun k hk hn => (Below.heap_alloc b o k (Nat.lt_of_lt_of_le hk h.size)).trans (h.block k hk hn)⟩
theorem Touch.setCell (h : Touch a b S) (p : Addr) (u : Value) (hp : p.block < a.heap.size → S p.block) : Touch a (b.setCell p u) S :=
 ⟨h.os, h.tape, h.output, by have := h.size; simp [World.setCell]; exact this, fun k hk hn =>
  (Below.heap_setCell b p u k (fun e => hn (e ▸ hp (e ▸ hk)))).trans (h.block k hk hn)⟩
theorem Touch.grown {r : Option Nat} (h : Touch a b S) (g : b.grownBy c r) (hr : ∀ k, r = some k → k < a.heap.size → S k) : Touch a c S :=
 ⟨g.os.trans h.os, g.tape.trans h.tape, g.output.trans h.output, Nat.le_trans h.size g.size, fun k hk hn =>
  (g.block k (Nat.lt_of_lt_of_le hk h.size) (fun e => hn (hr k e.symm hk))).trans (h.block k hk hn)⟩
theorem Touch.ofBelow {B : Nat} (h : Below B w w') (hS : ∀ k, B ≤ k → k < w.heap.size → S k) : Touch w w' S :=
 ⟨h.os, h.tape, h.output, h.size, fun k hk hn => h.block k (Nat.lt_of_not_le fun hb => hn (hS k hb hk))⟩
theorem Touch.below {B : Nat} (h : Touch w w' S) (hS : ∀ k, k < w.heap.size → S k → B ≤ k) (hB : B ≤ w.heap.size) : Below B w w' :=
 ⟨h.os, h.tape, h.output, h.size, fun k hk => h.block k (by omega) (fun hs => by have := hS k (by omega) hs; omega)⟩
theorem Touch.cell (h : Touch w w' S) {p : Addr} (hp : p.block < w.heap.size) (hn : ¬ S p.block) : w'.cell? p = w.cell? p := World.cell?_of_block (w := w) (h.block p.block hp hn)
theorem ownsRow_touch {base : Nat} {E : TypeId} {size : Nat} {v : Value} {n : Nat} {xs : List Value} (h : w.ownsRow base E size v n xs) (t : Touch w w' S) (hn : ∀ k, v.ownBlock = some k → ¬ S k) : w'.ownsRow base E size v n xs := by
 refine ⟨h.1, ?_⟩
 rcases h.2 with h2 | ⟨g, cap, cur, rfl, hb, hg, rest⟩
 ·exact .inl h2
 ·exact .inr ⟨g, cap, cur, rfl, hb, by rw [t.block g (Array.getElem?_eq_some_iff.1 hg).1 (hn g rfl)]; exact hg, rest⟩
theorem OwnB.touch {base : Nat} {E : TypeId} {v : Value} {xs : List Nat} (h : OwnB w base E v xs) (t : Touch w w' S) (hn : ∀ k, v.ownBlock = some k → ¬ S k) : OwnB w' base E v xs :=
 ⟨ownsRow_touch h.own t hn, h.small, h.short⟩
theorem RowB.touch {ad : Option Addr} {len cap : Nat} {xs : List Nat} (h : RowB w ad len cap xs) (t : Touch w w' S) (hn : ∀ x, ad = some x → len = 0 ∨ ¬ S x.block) : RowB w' ad len cap xs := by
 have hlt := h.lt
 obtain ⟨h1, h2, h3, h6, h4, h5⟩ := h
 refine ⟨h1, h2, h3, h6, h4, ?_⟩
 rcases h5 with h5 | ⟨b, off, ha, hc⟩
 ·exact .inl h5
 ·rcases hlt _ ha with h0 | h0
  ·exact .inl h0
  ·rcases hn _ ha with h9 | h9
   ·exact .inl h9
   ·exact .inr ⟨b, off, ha, fun i hi => by rw [t.cell (p := ⟨b, off + i, none⟩) h0 h9]; exact hc i hi⟩
end
theorem OwnB.base {w : World} {base base' : Nat} {E : TypeId} {v : Value} {xs : List Nat} (h : OwnB w base E v xs) (hb : ∀ k, v.ownBlock = some k → base' ≤ k) : OwnB w base' E v xs := by
 refine ⟨⟨h.own.1, ?_⟩, h.small, h.short⟩
 rcases h.own.2 with h2 | ⟨g, cap, cur, rfl, _, rest⟩
 ·exact .inl h2
 ·exact .inr ⟨g, cap, cur, rfl, hb g rfl, rest⟩
theorem cell_of_cells {w : World} {G : Nat} {cs : Array Value} {T : TypeId} {m : Nat × Nat} (h : w.heap[G]? = some (.cells cs T m)) (j : Nat) : w.cell? ⟨G, j, none⟩ = cs[j]? := by
 unfold World.cell?; rw [h]; rfl
theorem free_of_cells {w : World} {G : Nat} {cs : Array Value} {T : TypeId} (h : w.heap[G]? = some (.cells cs T (0, 0))) (j : Nat) : w.frozen? ⟨G, j, none⟩ = false :=
 frozen_of_row w G j cs T h
end Go.Proofs.YtpjdcgjoepjmcaaGreat
end
section
namespace Go.Proofs.YtpjdcgjoepjmcaaGreat
open Go.RowKit
theorem run_appR {P : Program} (w : World) (t ty E : TypeId) (ht : P.underlying t = some (.slice E)) (z : Value) (k bytes : Nat) (hin : (P.info? E).map (fun i => (i.zero, i.size, i.bytes)) = some (some z, k, bytes)) (hzs : z.cells.size = k) (hk : 0 < k)
 (base : Nat) (v : Value) (n : Nat) (xs : List Value) (hown : w.ownsRow base E k v n xs) (a : Addr) (m c : Nat) (news : List Value) (hl : news.length = m * k) (hnews : ∀ j u, news[j]? = some u → w.cell? (a.add j) = some u) (h1 : ∀ u ∈ news, u.oneCell' = true)
 (h63 : n + m ≤ maxLen) (hbytes : (n + m) * bytes ≤ 140737488355328) (hbase : base ≤ w.heap.size) :
 ∃ a' cap' w', (Builtin.append_ #[t, t] ty #[v, .slice (some a) m c]).run P w = .ok (.slice a' (n + m) cap') w' ∧ w'.ownsRow base E k (.slice a' (n + m) cap') (n + m) (xs ++ news) ∧ w.grownBy w' v.ownBlock ∧ (∀ b, (Value.slice a' (n + m) cap').ownBlock = some b → v.ownBlock = some b ∨ w.heap.size ≤ b) := by
 obtain ⟨i, hi, hz0, hz1, hz2⟩ := info_parts hin
 obtain ⟨v', w', r1, r2, r3, r4⟩ := run_append_own (P := P) w base t ty E i z k bytes ht hi hz0 hz1 hz2 hzs hk v n xs hown a m c news hl hnews h1 h63 hbytes hbase
 have hv' : ∃ a' cap', v' = .slice a' (n + m) cap' := by
  rcases r2.2 with ⟨h, h2⟩ | ⟨g, cap, cur, h, _⟩
  ·exact ⟨none, 0, by rw [h, h2]⟩
  ·exact ⟨_, cap, h⟩
 obtain ⟨a', cap', rfl⟩ := hv'
 refine ⟨a', cap', w', r1, r2, r3, ?_⟩
 rcases hown.2 with ⟨rfl, hn⟩ | ⟨g, cap, cur, rfl, hbg, hg, hnc, hcm, hcs, htake⟩
 ·subst hn
  have hx : xs = [] := List.eq_nil_of_length_eq_zero (by simpa using hown.1)
  subst hx
  obtain ⟨v2, w2, s1, s2, _, _⟩ := run_append_own (P := P) w w.heap.size t ty E i z k bytes ht hi hz0 hz1 hz2 hzs hk (.slice none 0 0) 0 [] (World.ownsRow_nil w _ _ _) a m c news hl hnews h1 h63 hbytes (Nat.le_refl _)
  rw [r1] at s1
  simp only [Result.ok.injEq] at s1
  obtain ⟨rfl, rfl⟩ := s1
  intro b hb
  exact .inr (s2.lt b hb).1
 ·by_cases hroom : n + m ≤ cap
  ·obtain ⟨w2, s1, _, _⟩ := run_append_fits (P := P) w base t ty E i k ht hi hz1 g n cap xs hown a m c news hl hnews h1 hroom
   rw [r1] at s1
   simp only [Result.ok.injEq] at s1
   obtain ⟨h9, rfl⟩ := s1
   intro b hb
   rw [h9] at hb
   exact .inl hb
  ·have holds : ∀ j u, xs[j]? = some u → w.cell? ((⟨g, 0, none⟩ : Addr).add j) = some u := hown.cells (g := g) rfl
   have s1 := run_append_grow (P := P) w t ty E i z ht hi hz0 ⟨g, 0, none⟩ n cap xs (by rw [hz1]; exact hown.1) holds a m c news (by rw [hz1]; exact hl) hnews (by omega) (by simp only [maxLen] at h63; omega) (growslice_fits (by omega) (by rw [hz2]; exact hbytes))
   rw [r1] at s1
   simp only [Result.ok.injEq] at s1
   obtain ⟨h9, rfl⟩ := s1
   intro b hb
   rw [h9] at hb
   simp [Value.ownBlock] at hb
   exact .inr (by omega)
theorem wp_appR {P : Program} {w : World} {ops : Array Oper} {rest : List Oper} {o : Oper} {a : Act} {Q : Exit → Act → World → Prop} {base k n : Nat} {v : Value} {E : TypeId} {xs : List Value}
 (hown : w.ownsRow base E k v n xs) (t : TypeId) (ht : P.underlying t = some (.slice E)) (z : Value) (bytes : Nat) (hin : (P.info? E).map (fun i => (i.zero, i.size, i.bytes)) = some (some z, k, bytes)) (hzs : z.cells.size = k) (hk : 0 < k)
 (a0 : Addr) (m c : Nat) (news : List Value) (hl : news.length = m * k) (hnews : ∀ j u, news[j]? = some u → w.cell? (a0.add j) = some u) (h1 : ∀ u ∈ news, u.oneCell' = true)
 (h63 : n + m ≤ maxLen) (hbytes : (n + m) * bytes ≤ 140737488355328) {B : Nat} {W : World} (hbel : Below B W w) (hB : B ≤ base) (hbase : base ≤ w.heap.size)
 (hgd : Region.wanted o (yielded ops a.tmps) = true) (s x : Operand) (ho : o.op = .call { callee := .builtin .append, args := #[s, x], argTypes := #[t, t] })
 (hs : a.eval s = v) (hx : a.eval x = .slice (some a0) m c)
 (h : ∀ a' cap' w', w'.ownsRow base E k (.slice a' (n + m) cap') (n + m) (xs ++ news) → w.grownBy w' v.ownBlock → Below B W w' → (∀ b, (Value.slice a' (n + m) cap').ownBlock = some b → v.ownBlock = some b ∨ w.heap.size ≤ b) → wpList P ops Q rest (a.put o.dst (.slice a' (n + m) cap')) w') : wpList P ops Q (o :: rest) a w := by
 refine BigFrame.wpList_want hgd fun K hK => ?_
 obtain ⟨a', cap', w', hrun, h1', h2, hpl⟩ := run_appR (P := P) w t o.type E ht z k bytes hin hzs hk base v n xs hown a0 m c news hl hnews h1 h63 hbytes hbase
 unfold Oper.wp execOp
 simp only [ho, resolve, invoke, builtin, Sem.run_bind, Sem.run_pure, Result.andThen_ok, List.map_toArray, List.map_cons, List.map_nil, hs, hx, hrun]
 exact hK _ _ (h a' cap' w' h1' h2 (hbel.grown h2 (by omega) (fun b hb => Nat.le_trans hB (hown.lt b hb).1)) hpl)
theorem news_of {w : World} {g : Nat} {cs : Array Value} {t : TypeId} {fr : Nat × Nat} (h : w.heap[g]? = some (.cells cs t fr)) : ∀ j u, cs.toList[j]? = some u → w.cell? ((⟨g, 0, none⟩ : Addr).add j) = some u := by
 intro j u hu
 have ea : (⟨g, 0, none⟩ : Addr).add j = ⟨g, j, none⟩ := by simp only [Addr.add]; split <;> simp_all
 rw [ea, cell_of_cells h j]
 simpa using hu
end Go.Proofs.YtpjdcgjoepjmcaaGreat
end
section
namespace Go.Proofs.YtpjdcgjoepjmcaaGreat
open Go.RowKit
structure RowS (w : World) (a : Option Addr) (len cap k : Nat) (L : List (List Value)) : Prop where
 hlen : L.length = len
 hcap : len ≤ cap
 hmax : cap ≤ 9223372036854775807
 each : ∀ l ∈ L, l.length = k
 at_ : len = 0 ∨ ∃ b off, a = some ⟨b, off, none⟩ ∧ b < w.heap.size ∧ ∀ i (h : i < L.length) j u, L[i][j]? = some u → w.cell? ⟨b, off + i * k + j, none⟩ = some u
theorem RowS.nil (w : World) (a : Option Addr) (cap k : Nat) (h : cap ≤ 9223372036854775807) : RowS w a 0 cap k [] := ⟨rfl, Nat.zero_le _, h, by simp, .inl rfl⟩
theorem RowS.touch {w w' : World} {a : Option Addr} {len cap k : Nat} {L : List (List Value)} {S : Nat → Prop} (h : RowS w a len cap k L) (t : Touch w w' S) (h1 : ∀ x, a = some x → len = 0 ∨ ¬ S x.block) : RowS w' a len cap k L := by
 refine ⟨h.hlen, h.hcap, h.hmax, h.each, ?_⟩
 rcases h.at_ with h0 | ⟨b, off, ha, hlt, hc⟩
 ·exact .inl h0
 ·by_cases h0 : len = 0
  ·exact .inl h0
  ·rcases h1 _ ha with h9 | h9
   ·exact .inl h9
   ·exact .inr ⟨b, off, ha, Nat.lt_of_lt_of_le hlt t.size, fun i hi j u hu => (t.cell (p := ⟨b, off + i * k + j, none⟩) hlt h9).trans (hc i hi j u hu)⟩
theorem RowS.still {w w' : World} {a : Option Addr} {len cap k : Nat} {L : List (List Value)} (h : RowS w a len cap k L) (t : Touch w w' (fun _ => False)) : RowS w' a len cap k L := h.touch t (fun _ _ => .inr (fun h => h))
theorem RowS.lt {w : World} {a : Option Addr} {len cap k : Nat} {L : List (List Value)} (h : RowS w a len cap k L) : ∀ x, a = some x → len = 0 ∨ x.block < w.heap.size := by
 intro x hx
 rcases h.at_ with h0 | ⟨b, off, ha, hlt, _⟩
 ·exact .inl h0
 ·rw [ha] at hx; cases hx; exact .inr hlt
theorem RowS.take {w : World} {a : Option Addr} {len cap k : Nat} {L : List (List Value)} (h : RowS w a len cap k L) (n : Nat) (hn : n ≤ len) : RowS w a n cap k (L.take n) := by
 obtain ⟨h1, h2, h3, h4, h5⟩ := h
 refine ⟨by simp; omega, by omega, h3, fun l hl => h4 l (List.mem_of_mem_take hl), ?_⟩
 rcases h5 with h0 | ⟨b, off, ha, hlt, hc⟩
 ·exact .inl (by omega)
 ·refine .inr ⟨b, off, ha, hlt, fun i hi j u hu => ?_⟩
  simp at hi
  rw [List.getElem_take] at hu
  exact hc i (by omega) j u hu
theorem RowS.some {w : World} {a : Option Addr} {len cap k : Nat} {L : List (List Value)} (h : RowS w a len cap k L) (h0 : 0 < len) : ∃ b off, a = .some ⟨b, off, none⟩ := by
 rcases h.at_ with h5 | ⟨b, off, ha, _⟩
 ·omega
 ·exact ⟨b, off, ha⟩
theorem RowS.cell {w : World} {b off len cap k : Nat} {L : List (List Value)} (h : RowS w (.some ⟨b, off, none⟩) len cap k L) (i : Nat) (hi : i < L.length) (j : Nat) (u : Value) (hu : L[i][j]? = Option.some u) : w.cell? ⟨b, off + i * k + j, none⟩ = Option.some u := by
 rcases h.at_ with h5 | ⟨b', off', ha, _, hc⟩
 ·have := h.hlen; omega
 ·simp only [Option.some.injEq, Addr.mk.injEq] at ha
  obtain ⟨rfl, rfl, _⟩ := ha
  exact hc i hi j u hu
theorem flatten_length {k : Nat} : ∀ (L : List (List Value)), (∀ l ∈ L, l.length = k) → L.flatten.length = L.length * k
 | [], _ => by simp
 | l :: r, h => by
   have := flatten_length r (fun m hm => h m (List.mem_cons_of_mem _ hm))
   have h1 := h l (List.mem_cons_self ..)
   simp only [List.flatten_cons, List.length_append, this, h1, List.length_cons, Nat.add_mul]; omega
theorem flatten_get {k : Nat} : ∀ (L : List (List Value)), (∀ l ∈ L, l.length = k) → ∀ i (h : i < L.length) j u, L[i][j]? = some u → L.flatten[i * k + j]? = some u
 | [], _, i, h, _, _, _ => by simp at h
 | l :: r, he, 0, h, j, u, hu => by
   have h1 := he l (List.mem_cons_self ..)
   simp at hu
   have hj := (List.getElem?_eq_some_iff.1 hu).1
   simp only [List.flatten_cons, Nat.zero_mul, Nat.zero_add]
   rw [List.getElem?_append_left hj]; exact hu
 | l :: r, he, i + 1, h, j, u, hu => by
   have h1 := he l (List.mem_cons_self ..)
   have ih := flatten_get r (fun m hm => he m (List.mem_cons_of_mem _ hm)) i (by simpa using h) j u (by simpa using hu)
   simp only [List.flatten_cons]
   rw [List.getElem?_append_right (by rw [h1, Nat.add_mul]; omega)]
   rw [show (i + 1) * k + j - l.length = i * k + j from by rw [h1, Nat.add_mul]; omega]
   exact ih
theorem flatten_set {k : Nat} : ∀ (L : List (List Value)), (∀ l ∈ L, l.length = k) → ∀ i (h : i < L.length) j (hj : j < k) u, L.flatten.set (i * k + j) u = (L.set i (L[i].set j u)).flatten
 | [], _, i, h, _, _, _ => by simp at h
 | l :: r, he, 0, h, j, hj, u => by
   have h1 := he l (List.mem_cons_self ..)
   simp only [List.flatten_cons, Nat.zero_mul, Nat.zero_add, List.set_cons_zero, List.getElem_cons_zero]
   rw [List.set_append_left _ _ (by omega)]
 | l :: r, he, i + 1, h, j, hj, u => by
   have h1 := he l (List.mem_cons_self ..)
   have ih := flatten_set r (fun m hm => he m (List.mem_cons_of_mem _ hm)) i (by simpa using h) j hj u
   simp only [List.flatten_cons, List.set_cons_succ, List.getElem_cons_succ]
   rw [List.set_append_right _ _ (by rw [h1, Nat.add_mul]; omega)]
   rw [show (i + 1) * k + j - l.length = i * k + j from by rw [h1, Nat.add_mul]; omega, ih]
structure OwnS (w : World) (base : Nat) (E : TypeId) (k : Nat) (v : Value) (L : List (List Value)) : Prop where
 own : w.ownsRow base E k v L.length L.flatten
 each : ∀ l ∈ L, l.length = k
section
variable {w w' : World} {base k : Nat} {E : TypeId} {v : Value} {L : List (List Value)}
theorem OwnS.nil (w : World) (base : Nat) (E : TypeId) (k : Nat) : OwnS w base E k (.slice none 0 0) [] := ⟨World.ownsRow_nil w _ _ _, by simp⟩
theorem OwnS.touch {S : Nat → Prop} (h : OwnS w base E k v L) (t : Touch w w' S) (h1 : ∀ x, v.ownBlock = some x → ¬ S x) : OwnS w' base E k v L := ⟨ownsRow_touch h.own t h1, h.each⟩
theorem OwnS.still (h : OwnS w base E k v L) (t : Touch w w' (fun _ => False)) : OwnS w' base E k v L := h.touch t (fun _ _ h => h)
theorem OwnS.row (h : OwnS w base E k v L) : ∃ a cap, v = .slice a L.length cap ∧ RowS w a L.length cap k L ∧ (∀ x, a = some x → base ≤ x.block ∧ x.block < w.heap.size) := by
 rcases h.own.2 with ⟨rfl, hn⟩ | ⟨g, cap, cur, rfl, hb, hg, hnc, hcm, hcs, htake⟩
 ·have : L = [] := List.length_eq_zero_iff.1 hn
  subst this
  exact ⟨none, 0, rfl, RowS.nil _ _ _ _ (by omega), fun x hx => by cases hx⟩
 ·have hlt : g < w.heap.size := (Array.getElem?_eq_some_iff.1 hg).1
  refine ⟨_, cap, rfl, ⟨rfl, hnc, by simpa [maxLen] using hcm, h.each, .inr ⟨g, 0, rfl, hlt, fun i hi j u hu => ?_⟩⟩, fun x hx => by cases hx; exact ⟨hb, hlt⟩⟩
  have := h.own.cells (g := g) rfl (i * k + j) u (flatten_get L h.each i hi j u hu)
  have ea : (⟨g, 0, none⟩ : Addr).add (i * k + j) = ⟨g, i * k + j, none⟩ := by simp only [Addr.add]; split <;> simp_all
  rw [ea] at this
  rw [Nat.zero_add]; exact this
theorem OwnS.row' {a : Option Addr} {n c : Nat} (h : OwnS w base E k (.slice a n c) L) : L.length = n ∧ RowS w a n c k L ∧ (∀ x, a = some x → base ≤ x.block ∧ x.block < w.heap.size) := by
 obtain ⟨a', c', hv, hr, hb⟩ := h.row
 simp only [Value.slice.injEq] at hv
 obtain ⟨rfl, rfl, rfl⟩ := hv
 exact ⟨rfl, hr, hb⟩
theorem OwnS.rebase {base' : Nat} (h : OwnS w base E k v L) (hb : ∀ x, v.ownBlock = some x → base' ≤ x) : OwnS w base' E k v L := by
 refine ⟨⟨h.own.1, ?_⟩, h.each⟩
 rcases h.own.2 with h2 | ⟨g, cap, cur, rfl, _, rest⟩
 ·exact .inl h2
 ·exact .inr ⟨g, cap, cur, rfl, hb g rfl, rest⟩
theorem OwnS.stored {g n cap : Nat} (h : OwnS w base E k (.slice (some ⟨g, 0, none⟩) n cap) L) (i : Nat) (hi : i < L.length) (j : Nat) (hj : j < k) (u : Value) :
 OwnS (w.setCell ⟨g, i * k + j, none⟩ u) base E k (.slice (some ⟨g, 0, none⟩) n cap) (L.set i (L[i].set j u)) := by
 obtain ⟨hn, _, _⟩ := h.row'
 subst hn
 have := (World.ownsRow.stored h.own (i * k + j) u).1
 refine ⟨?_, fun l hl => ?_⟩
 ·rw [flatten_set L h.each i hi j hj u] at this
  rw [List.length_set]; exact this
 ·rcases List.mem_or_eq_of_mem_set hl with h1 | h1
  ·exact h.each l h1
  ·rw [h1, List.length_set]; exact h.each _ (List.getElem_mem hi)
theorem OwnS.free {g n cap : Nat} (h : OwnS w base E k (.slice (some ⟨g, 0, none⟩) n cap) L) (j : Nat) : w.frozen? ⟨g, j, none⟩ = false := by
 obtain ⟨hn, _, _⟩ := h.row'
 subst hn; exact World.ownsRow.frozenAt h.own j
theorem OwnS.add {v' : Value} {L2 : List (List Value)} (h : OwnS w base E k v L) (he : ∀ l ∈ L2, l.length = k) (ho : w'.ownsRow base E k v' (L.length + L2.length) (L.flatten ++ L2.flatten)) : OwnS w' base E k v' (L ++ L2) := by
 refine ⟨by simpa using ho, fun l hl => ?_⟩
 rcases List.mem_append.1 hl with h1 | h1
 ·exact h.each l h1
 ·exact he l h1
end
theorem OwnS.lit (w : World) (base : Nat) (hb : base ≤ w.heap.size) (E : TypeId) (k n : Nat) (L : List (List Value)) (cs : Array Value) (hcs : cs.toList = L.flatten) (hn : L.length = n) (he : ∀ l ∈ L, l.length = k) (hs : n ≤ 281474976710656) :
 OwnS (w.alloc (.cells cs E)) base E k (.slice (some ⟨w.heap.size, 0, none⟩) n n) L := by
 subst hn
 have hl := flatten_length L he
 have hsz : cs.size = L.length * k := by rw [← hl, ← hcs]; simp
 have h := World.ownsRow_lit (base := base) (e := E) (size := k) w cs L.length hb (by simp only [maxLen]; omega) hsz
 rw [hcs] at h
 exact ⟨h, he⟩
theorem appNone {P : Program} (w : World) (t ty E : TypeId) (ht : P.underlying t = some (.slice E)) (k : Nat) (hin : (P.info? E).map (·.size) = some k) (base : Nat) (v : Value) (n : Nat) (xs : List Value) (hown : w.ownsRow base E k v n xs) (c : Nat) :
 (Builtin.append_ #[t, t] ty #[v, .slice none 0 c]).run P w = .ok v w := by
 obtain ⟨i, hi, hk⟩ : ∃ i, P.info? E = some i ∧ i.size = k := by
  cases h : P.info? E with
  | none => rw [h] at hin; cases hin
  | some i => rw [h] at hin; exact ⟨i, rfl, by simpa using hin⟩
 rcases hown.2 with ⟨rfl, hn⟩ | ⟨g, cap', cur, rfl, hb, hg, hnc, hcm, hcs, htake⟩
 ·simp [Builtin.append_, run_underlying ht, sizeOf, typeInfo, hi, Builtin.lenOf, Builtin.firstCells]
 ·simp [Builtin.append_, run_underlying ht, sizeOf, typeInfo, hi, Builtin.lenOf, Builtin.firstCells, hnc, storeCells]
theorem RowS.news {w : World} {b off len cap k : Nat} {L : List (List Value)} (h : RowS w (Option.some ⟨b, off, none⟩) len cap k L) : ∀ j u, L.flatten[j]? = Option.some u → w.cell? ((⟨b, off, none⟩ : Addr).add j) = Option.some u := by
 intro j u hu
 have hl := flatten_length L h.each
 have hj : j < L.length * k := by rw [← hl]; exact (List.getElem?_eq_some_iff.1 hu).1
 have hk : 0 < k := by rcases Nat.eq_zero_or_pos k with h0 | h0; (subst h0; omega); exact h0
 have hi : j / k < L.length := Nat.div_lt_of_lt_mul (by rw [Nat.mul_comm]; exact hj)
 have hm : j % k < k := Nat.mod_lt _ hk
 have hle : (L[j / k]).length = k := h.each _ (List.getElem_mem hi)
 have e : j / k * k + j % k = j := by rw [Nat.mul_comm]; exact Nat.div_add_mod j k
 have h1 := flatten_get L h.each (j / k) hi (j % k) _ (List.getElem?_eq_getElem (by omega))
 rw [e, hu] at h1
 have h2 := h.cell (j / k) hi (j % k) _ (List.getElem?_eq_getElem (by omega))
 have ea : (⟨b, off, none⟩ : Addr).add j = ⟨b, off + j, none⟩ := by simp only [Addr.add]; split <;> simp_all
 rw [ea]
 rw [Nat.add_assoc, e] at h2
 rw [h2, h1]
theorem run_appS {P : Program} (w : World) (t ty E : TypeId) (ht : P.underlying t = some (.slice E)) (z : Value) (k bytes : Nat) (hin : (P.info? E).map (fun i => (i.zero, i.size, i.bytes)) = some (some z, k, bytes)) (hzs : z.cells.size = k) (hk : 0 < k)
 (base : Nat) (v : Value) (L : List (List Value)) (ho : OwnS w base E k v L) (ad : Option Addr) (len cap : Nat) (L2 : List (List Value)) (hr : RowS w ad len cap k L2) (h1 : ∀ l ∈ L2, ∀ u ∈ l, u.oneCell' = true)
 (hlen : L.length + len ≤ maxLen) (hbytes : (L.length + len) * bytes ≤ 140737488355328) (hbase : base ≤ w.heap.size) :
 ∃ a' cap' w', (Builtin.append_ #[t, t] ty #[v, .slice ad len cap]).run P w = .ok (.slice a' (L.length + len) cap') w' ∧ OwnS w' base E k (.slice a' (L.length + len) cap') (L ++ L2) ∧ w.grownBy w' v.ownBlock ∧ (∀ b, (Value.slice a' (L.length + len) cap').ownBlock = some b → v.ownBlock = some b ∨ w.heap.size ≤ b) := by
 have hgl := hr.hlen
 have hsz : (P.info? E).map (·.size) = some k := by
  cases h : P.info? E with
  | none => rw [h] at hin; cases hin
  | some i => rw [h] at hin; simp only [Option.map_some, Option.some.injEq, Prod.mk.injEq] at hin ⊢; exact hin.2.1
 have h2 : ∀ u ∈ L2.flatten, u.oneCell' = true := fun u hu => by
  obtain ⟨l, hl, hul⟩ := List.mem_flatten.1 hu
  exact h1 l hl u hul
 cases ad with
 | none =>
   have h0 : len = 0 := by
    rcases hr.at_ with h0 | ⟨b, off, ha, _⟩
    ·exact h0
    ·cases ha
   subst h0
   have hg : L2 = [] := List.length_eq_zero_iff.1 hgl
   subst hg
   obtain ⟨a0, c0, hv, _, _⟩ := ho.row
   have := appNone w t ty E ht k hsz base v _ _ ho.own cap
   subst hv
   exact ⟨a0, c0, w, this, by simpa using ho, ⟨rfl, rfl, rfl, Nat.le_refl _, fun _ _ _ => rfl⟩, fun b hb => .inl hb⟩
 | some ad =>
   by_cases h0 : len = 0
   ·subst h0
    have hg : L2 = [] := List.length_eq_zero_iff.1 hgl
    subst hg
    obtain ⟨a', c', w', r1, r2, r3, r4⟩ := run_appR (P := P) w t ty E ht z k bytes hin hzs hk base v _ _ ho.own ad 0 cap [] (by simp) (by simp) (by simp) hlen hbytes hbase
    exact ⟨a', c', w', r1, ho.add (L2 := []) (by simp) (by simpa using r2), r3, r4⟩
   ·obtain ⟨b, off, hb⟩ := hr.some (by omega)
    simp only [Option.some.injEq] at hb
    subst hb
    obtain ⟨a', c', w', r1, r2, r3, r4⟩ := run_appR (P := P) w t ty E ht z k bytes hin hzs hk base v _ _ ho.own ⟨b, off, none⟩ len cap L2.flatten (by rw [flatten_length L2 hr.each, hgl]) hr.news h2 hlen hbytes hbase
    exact ⟨a', c', w', r1, ho.add hr.each (by rw [hgl]; exact r2), r3, r4⟩
theorem wp_appS {P : Program} {w : World} {ops : Array Oper} {rest : List Oper} {o : Oper} {a : Act} {Q : Exit → Act → World → Prop} {base k : Nat} {v : Value} {E : TypeId} {L : List (List Value)} {ad : Option Addr} {len cap : Nat} {L2 : List (List Value)} {B : Nat} {W : World}
 (ho : OwnS w base E k v L) (hr : RowS w ad len cap k L2) (h1 : ∀ l ∈ L2, ∀ u ∈ l, u.oneCell' = true) (t : TypeId) (ht : P.underlying t = some (.slice E)) (z : Value) (bytes : Nat) (hin : (P.info? E).map (fun i => (i.zero, i.size, i.bytes)) = some (some z, k, bytes)) (hzs : z.cells.size = k) (hk : 0 < k)
 (hlen : L.length + len ≤ maxLen) (hbytes : (L.length + len) * bytes ≤ 140737488355328) (hbel : Below B W w) (hB : B ≤ base) (hbase : base ≤ w.heap.size)
 (hgd : Region.wanted o (yielded ops a.tmps) = true) (s x : Operand) (ho2 : o.op = .call { callee := .builtin .append, args := #[s, x], argTypes := #[t, t] })
 (hs : a.eval s = v) (hx : a.eval x = .slice ad len cap) (n : Nat) (Z : List (List Value)) (hn : L.length + len = n) (hz : L ++ L2 = Z)
 (h : ∀ a' cap' w', OwnS w' base E k (.slice a' n cap') Z → w.grownBy w' v.ownBlock → Below B W w' → (∀ b, (Value.slice a' n cap').ownBlock = some b → v.ownBlock = some b ∨ w.heap.size ≤ b) → wpList P ops Q rest (a.put o.dst (.slice a' n cap')) w') : wpList P ops Q (o :: rest) a w := by
 subst hn hz
 refine BigFrame.wpList_want hgd fun K hK => ?_
 obtain ⟨a', cap', w', hrun, h1', h2, hpl⟩ := run_appS (P := P) w t o.type E ht z k bytes hin hzs hk base v L ho ad len cap L2 hr h1 hlen hbytes hbase
 unfold Oper.wp execOp
 simp only [ho2, resolve, invoke, builtin, Sem.run_bind, Sem.run_pure, Result.andThen_ok, List.map_toArray, List.map_cons, List.map_nil, hs, hx, hrun]
 exact hK _ _ (h a' cap' w' h1' h2 (hbel.grown h2 (by omega) (fun b hb => Nat.le_trans hB (ho.own.lt b hb).1)) hpl)
end Go.Proofs.YtpjdcgjoepjmcaaGreat
end
section
namespace Go.Proofs.YtpjdcgjoepjmcaaGreat
open Go.RowKit
theorem Touch.into {a b : World} {B : Nat} (h : Touch a b (fun k => k = B)) (j : Nat) (v : Value) : Touch a (b.setCell ⟨B, j, none⟩ v) (fun k => k = B) := h.setCell ⟨B, j, none⟩ v (fun _ => rfl)
theorem Touch.setRow {a b : World} {S : Nat → Prop} (h : Touch a b S) (g : Nat) (cs : Array Value) (hg : g < a.heap.size → S g) : Touch a (b.setRow g cs) S :=
 ⟨h.os, h.tape, h.output, by have := h.size; simp; omega, fun k hk hn => by
  have hne : k ≠ g := fun e => hn (e ▸ hg (e ▸ hk))
  rw [setRow_other _ _ _ _ hne]; exact h.block k hk hn⟩
theorem Touch.keeps {a b : World} {S : Nat → Prop} (h : Touch a b S) {g : Nat} {o : Obj} (hg : a.heap[g]? = some o) (hn : ¬ S g) : b.heap[g]? = some o :=
 (h.block g (Array.getElem?_eq_some_iff.1 hg).1 hn).trans hg
theorem heap_lt {w : World} {g : Nat} {o : Obj} (h : w.heap[g]? = some o) : g < w.heap.size := (Array.getElem?_eq_some_iff.1 h).1
theorem store_row {P : Program} {ops : Array Oper} {rest : List Oper} {o : Oper} {a : Act} {w : World} {Q : Exit → Act → World → Prop} (hgd : o.guard = none) (ty : TypeId) (x y : Operand) (ho : o.op = .store ty x y)
 (g : Nat) (cells : Array Value) (hx : a.eval x = .pointer (some ⟨g, 0, none⟩)) (hy : a.eval y = .agg cells)
 (t : TypeId) (old : Array Value) (hg : w.heap[g]? = some (.cells old t (0, 0))) (hi : (P.info? ty).map (·.size) = some cells.size)
 (hold : old.size = cells.size) (h1 : cells.toList.all (·.oneCell') = true)
 (h : wpList P ops Q rest (a.put o.dst undef) (w.setRow g cells)) : wpList P ops Q (o :: rest) a w :=
 wpList_store_row hgd ty x y ho g cells hx hy t old hg hi hold (by rw [← Array.all_toList]; exact h1) h
theorem load_at {P : Program} {w : World} {g : Nat} {t ty : TypeId} {cs : Array Value} {fr : Nat × Nat} {d : TypeDesc} (hg : w.heap[g]? = some (.cells cs t fr))
 (hu : P.underlying ty = some d) (hd : (match d with | .struct _ | .array _ _ => true | _ => false) = true) (hi : (P.info? ty).map (·.size) = some cs.size) :
 (Instr.loadAt ty (.pointer (some ⟨g, 0, none⟩))).run P w = .ok (.agg cs) w := by
 simp only [Instr.loadAt, Instr.sureAddr, Sem.run_bind, Sem.run_pure, Result.andThen_ok, run_loadVar_row w g t ty cs fr d hg hu hd hi]
theorem store_at {P : Program} {w : World} {g : Nat} {t ty : TypeId} {old cells : Array Value} (hg : w.heap[g]? = some (.cells old t (0, 0))) (hi : (P.info? ty).map (·.size) = some cells.size)
 (hold : old.size = cells.size) (h1 : cells.toList.all (·.oneCell') = true) :
 (Instr.storeAt ty (.pointer (some ⟨g, 0, none⟩)) (.agg cells)).run P w = .ok () (w.setRow g cells) := by
 simp only [Instr.storeAt, Instr.sureAddr, Sem.run_bind, Sem.run_pure, Result.andThen_ok, run_storeVar_row w g t ty old cells hg hi hold (by rw [← Array.all_toList]; exact h1)]
theorem ret_row {P : Program} {fn : Func} {R : Ending → World → Prop} {a : Act} {w : World} {p : Tmp} {ty : TypeId} (h : fn.results = #[.cell p ty]) (hdf : a.defers = []) (g : Nat) (t : TypeId) (cs : Array Value) (fr : Nat × Nat) (d : TypeDesc)
 (hp : a.tmps.getD p undef = .pointer (some ⟨g, 0, none⟩)) (hg : w.heap[g]? = some (.cells cs t fr))
 (hu : P.underlying ty = some d) (hd : (match d with | .struct _ | .array _ _ => true | _ => false) = true) (hi : (P.info? ty).map (·.size) = some cs.size)
 (hR : R (.returned (.agg cs)) w) : bodyPost P fn R .ret a w :=
 bodyPost_ret (results_cell_row h a.tmps w g t cs fr d hp hg hu hd hi) hdf hR
theorem ret_row1 {P : Program} {fn : Func} {R : Ending → World → Prop} {a : Act} {w : World} {p q : Tmp} {ty : TypeId} (h : fn.results = #[.cell p ty, .tmp q]) (hdf : a.defers = []) (g : Nat) (t : TypeId) (cs : Array Value) (fr : Nat × Nat) (d : TypeDesc)
 (hp : a.tmps.getD p undef = .pointer (some ⟨g, 0, none⟩)) (hg : w.heap[g]? = some (.cells cs t fr))
 (hu : P.underlying ty = some d) (hd : (match d with | .struct _ | .array _ _ => true | _ => false) = true) (hi : (P.info? ty).map (·.size) = some cs.size)
 (v : Value) (hq : a.tmps.getD q undef = v)
 (hR : R (.returned (.tuple #[.agg cs, v])) w) : bodyPost P fn R .ret a w := by
 refine bodyPost_ret (v := .tuple #[.agg cs, v]) ?_ hdf hR
 have hp' : a.tmps[p]?.getD undef = .pointer (some ⟨g, 0, none⟩) := by simpa using hp
 have hq' : a.tmps[q]?.getD undef = v := by simpa using hq
 simp [results, h, hp', hq', asAddr, run_loadVar_row w g t ty cs fr d hg hu hd hi]
theorem ret_row2 {P : Program} {fn : Func} {R : Ending → World → Prop} {a : Act} {w : World} {p q r : Tmp} {ty : TypeId} (h : fn.results = #[.cell p ty, .tmp q, .tmp r]) (hdf : a.defers = []) (g : Nat) (t : TypeId) (cs : Array Value) (fr : Nat × Nat) (d : TypeDesc)
 (hp : a.tmps.getD p undef = .pointer (some ⟨g, 0, none⟩)) (hg : w.heap[g]? = some (.cells cs t fr))
 (hu : P.underlying ty = some d) (hd : (match d with | .struct _ | .array _ _ => true | _ => false) = true) (hi : (P.info? ty).map (·.size) = some cs.size)
 (u v : Value) (hq : a.tmps.getD q undef = u) (hr : a.tmps.getD r undef = v)
 (hR : R (.returned (.tuple #[.agg cs, u, v])) w) : bodyPost P fn R .ret a w := by
 refine bodyPost_ret (v := .tuple #[.agg cs, u, v]) ?_ hdf hR
 have hp' : a.tmps[p]?.getD undef = .pointer (some ⟨g, 0, none⟩) := by simpa using hp
 have hq' : a.tmps[q]?.getD undef = u := by simpa using hq
 have hr' : a.tmps[r]?.getD undef = v := by simpa using hr
 simp [results, h, hp', hq', hr', asAddr, run_loadVar_row w g t ty cs fr d hg hu hd hi]
theorem ret_rows1 {P : Program} {fn : Func} {R : Ending → World → Prop} {a : Act} {w : World} {p p2 q : Tmp} {ty ty2 : TypeId} (h : fn.results = #[.cell p ty, .cell p2 ty2, .tmp q]) (hdf : a.defers = [])
 (g : Nat) (t : TypeId) (cs : Array Value) (fr : Nat × Nat) (d : TypeDesc)
 (hp : a.tmps.getD p undef = .pointer (some ⟨g, 0, none⟩)) (hg : w.heap[g]? = some (.cells cs t fr))
 (hu : P.underlying ty = some d) (hd : (match d with | .struct _ | .array _ _ => true | _ => false) = true) (hi : (P.info? ty).map (·.size) = some cs.size)
 (g2 : Nat) (t2 : TypeId) (cs2 : Array Value) (fr2 : Nat × Nat) (d2 : TypeDesc)
 (hp2 : a.tmps.getD p2 undef = .pointer (some ⟨g2, 0, none⟩)) (hg2 : w.heap[g2]? = some (.cells cs2 t2 fr2))
 (hu2 : P.underlying ty2 = some d2) (hd2 : (match d2 with | .struct _ | .array _ _ => true | _ => false) = true) (hi2 : (P.info? ty2).map (·.size) = some cs2.size)
 (v : Value) (hq : a.tmps.getD q undef = v)
 (hR : R (.returned (.tuple #[.agg cs, .agg cs2, v])) w) : bodyPost P fn R .ret a w := by
 refine bodyPost_ret (v := .tuple #[.agg cs, .agg cs2, v]) ?_ hdf hR
 have hp' : a.tmps[p]?.getD undef = .pointer (some ⟨g, 0, none⟩) := by simpa using hp
 have hp2' : a.tmps[p2]?.getD undef = .pointer (some ⟨g2, 0, none⟩) := by simpa using hp2
 have hq' : a.tmps[q]?.getD undef = v := by simpa using hq
 simp [results, h, hp', hp2', hq', asAddr, run_loadVar_row w g t ty cs fr d hg hu hd hi, run_loadVar_row w g2 t2 ty2 cs2 fr2 d2 hg2 hu2 hd2 hi2]
end Go.Proofs.YtpjdcgjoepjmcaaGreat
end
section
namespace Go.Proofs.YtpjdcgjoepjmcaaGreat
open Go.ChangeShapes Go.WideShapes Go.ChangeAt Go.RowKit
open Go.ChangeMaps (open_string shut_string)
structure ArgIn {H : Type} (enc : TypeId × Value → H) (P : Program) (W : World) (base : Nat) (T : TypeId) (v : Value) (d : DataW H) (p : List MemPlace) : Prop where
 ok : Value.okWide P W .any base T v
 trod : DataW.Trod enc P W 0 (fun _ => true) true T v d p
 sized : ∀ n ∈ d.weights P T, n ≤ reachBytes
section
variable {H : Type} {enc : TypeId × Value → H} {P : Program} {W : World} {base : Nat} {T : TypeId} {v : Value} {d : DataW H} {p : List MemPlace}
theorem ArgIn.int {k : IntKind} (h : ArgIn enc P W base T v d p) (ht : P.underlying T = some (.int k)) : ∃ x : Int, v = .int k x ∧ (Lit.int k x).wf = true ∧ d = .lit (.int k x) := by
 obtain ⟨x, h1, h2, h3, wx⟩ := open_int ht h.ok h.trod
 exact ⟨x, h1, wx, h2⟩
theorem reach_num : reachBytes = 140737488351232 := by decide
theorem four {α : Type} {cs : Array α} (h : cs.size = 4) : ∃ a b c d, cs = #[a, b, c, d] := by
 obtain ⟨l⟩ := cs
 match l, h with
 | [a, b, c, d], _ => exact ⟨a, b, c, d, rfl⟩
end
end Go.Proofs.YtpjdcgjoepjmcaaGreat
end
section
namespace Go.Proofs.YtpjdcgjoepjmcaaGreat
open Go.ChangeShapes Go.WideShapes Go.ChangeAt Go.RowKit
section
variable {H : Type} {enc : TypeId × Value → H} {P : Program} {W : World} {base : Nat} {T : TypeId} {v : Value} {d : DataW H} {p : List MemPlace}
end
def RowI (w : World) (a : Option Addr) (len cap : Nat) (zs : List Int) : Prop :=
 zs.length = len ∧ len ≤ cap ∧ cap ≤ 9223372036854775807 ∧ (∀ z ∈ zs, -9223372036854775808 ≤ z ∧ z ≤ 9223372036854775807) ∧
  (len = 0 ∨ ∃ b off, a = some ⟨b, off, none⟩ ∧ b < w.heap.size ∧ ∀ i, (h : i < zs.length) → w.cell? ⟨b, off + i, none⟩ = some (.int .i64 zs[i]))
section
variable {H : Type} {enc : TypeId × Value → H} {P : Program} {W : World} {base : Nat} {T : TypeId} {v : Value} {d : DataW H} {p : List MemPlace}
end
end Go.Proofs.YtpjdcgjoepjmcaaGreat
end
section
namespace Go.Proofs.YtpjdcgjoepjmcaaGreat
open Go.ChangeShapes Go.WideShapes Go.ChangeAt Go.RowKit Go.Deep
structure CallD where
 act : Int
 num : Int
 ra : Option Addr
 rl : Nat
 rc : Nat
 raw : List Nat
structure CallAt (w : World) (a : Addr) (i : Nat) (c : CallD) : Prop where
 act : w.cell? (a.add (i * 3 + 0)) = some (.int .i64 c.act)
 num : w.cell? (a.add (i * 3 + 1)) = some (.int .i64 c.num)
 raw : w.cell? (a.add (i * 3 + 2)) = some (.slice c.ra c.rl c.rc)
 row : RowB w c.ra c.rl c.rc c.raw
 act64 : -9223372036854775808 ≤ c.act ∧ c.act ≤ 9223372036854775807
 num64 : -9223372036854775808 ≤ c.num ∧ c.num ≤ 9223372036854775807
def rawSum : List CallD → Nat
 | [] => 0
 | c :: r => c.rl + rawSum r
section
variable {H : Type} {enc : TypeId × Value → H} {P : Program} {W : World} {base : Nat} {T : TypeId} {v : Value} {d : DataW H} {p : List MemPlace}
theorem bulk_one (d : DataW H) : 1 ≤ Rows.uptoBulk d := by
 cases d with
 | lit l => cases l <;> simp [Rows.uptoBulk]
 | nil => simp [Rows.uptoBulk]
 | ptr d => simp [Rows.uptoBulk]
 | slice elems spare => simp [Rows.uptoBulk]
 | agg parts => simp [Rows.uptoBulk]
 | iface t d => simp [Rows.uptoBulk]
 | map entries => simp [Rows.uptoBulk]
 | held h => simp [Rows.uptoBulk]
theorem bulk_length (l : List (DataW H)) : l.length ≤ Rows.uptoBulkAll l := by
 induction l with
 | nil => simp [Rows.uptoBulkAll]
 | cons x r ih => have := bulk_one x; simp only [Rows.uptoBulkAll, List.length_cons]; omega
structure CallIn (w : World) (b off i : Nat) (z0 z1 : Int) (u : Value) : Prop where
 act : w.cell? ⟨b, off + i * 3, none⟩ = some (.int .i64 z0)
 num : w.cell? ⟨b, off + i * 3 + 1, none⟩ = some (.int .i64 z1)
 raw : w.cell? ⟨b, off + i * 3 + 2, none⟩ = some u
 act64 : -9223372036854775808 ≤ z0 ∧ z0 ≤ 9223372036854775807
 num64 : -9223372036854775808 ≤ z1 ∧ z1 ≤ 9223372036854775807
 slice : ∃ ra rl rc, u = .slice ra rl rc
end
end Go.Proofs.YtpjdcgjoepjmcaaGreat
end
section
namespace Go.Proofs.YtpjdcgjoepjmcaaGreat
open Go.ChangeShapes Go.WideShapes Go.ChangeAt Go.RowKit
structure Tr {H : Type} (enc : TypeId × Value → H) (P : Program) (W : World) (T : TypeId) (cs : List Value) (d : DataW H) : Prop where
 trod : ∃ fuel ps, DataW.trod enc P W 0 (fun _ => true) true fuel T cs = some (d, ps)
 sized : ∀ n ∈ d.weights P T, n ≤ reachBytes
section
variable {H : Type} {enc : TypeId × Value → H} {P : Program} {W : World} {base : Nat} {T : TypeId} {v : Value} {cs : List Value} {d : DataW H} {p : List MemPlace}
theorem ArgIn.tr (h : ArgIn enc P W base T v d p) : Tr enc P W T v.cells.toList d := by
 obtain ⟨fuel, hf⟩ := h.trod
 exact ⟨⟨fuel, p, hf⟩, h.sized⟩
theorem Tr.int {k : IntKind} (h : Tr enc P W T cs d) (ht : P.underlying T = some (.int k)) : ∃ x : Int, cs = [.int k x] ∧ (Lit.int k x).wf = true ∧ d = .lit (.int k x) := by
 obtain ⟨⟨fuel, ps, h1⟩, _⟩ := h
 obtain ⟨n, h3, h4, hw⟩ := DataW.trod_int ht h1
 simp only [Prod.mk.injEq] at h4
 exact ⟨n, h3, hw, h4.1⟩
theorem Tr.i64 (h : Tr enc P W T cs d) (ht : P.underlying T = some (.int .i64)) : ∃ x : Int, cs = [.int .i64 x] ∧ -9223372036854775808 ≤ x ∧ x ≤ 9223372036854775807 ∧ d = .lit (.int .i64 x) := by
 obtain ⟨x, h1, wx, h2⟩ := h.int ht
 have := bounds_i64 wx
 exact ⟨x, h1, this.1, this.2, h2⟩
theorem Tr.u32 (h : Tr enc P W T cs d) (ht : P.underlying T = some (.int .u32)) : ∃ x : Int, cs = [.int .u32 x] ∧ 0 ≤ x ∧ x ≤ 4294967295 ∧ d = .lit (.int .u32 x) := by
 obtain ⟨x, h1, wx, h2⟩ := h.int ht
 have := bounds_u32 wx
 exact ⟨x, h1, this.1, this.2, h2⟩
theorem Tr.bytes {E : TypeId} (h : Tr enc P W T cs d) (ht : P.underlying T = some (.slice E)) (he : P.underlying E = some (.int .u8)) (hc : P.cellsOf E = 1) (hb : P.bytesOf E = 1) :
 ∃ (a : Option Addr) (len cap : Nat) (xs : List Nat), cs = [.slice a len cap] ∧ RowB W a len cap xs ∧ cap ≤ 140737488351232 ∧ len + 1 ≤ Rows.uptoBulk d := by
 obtain ⟨⟨fuel, ps, hf⟩, hz⟩ := h
 rcases open_ints ht he hc hf with ⟨hcs, hd⟩ | ⟨x, l, c, zs, hcs, _, hl, hm, hzz, hd, hcell, hwz⟩
 ·exact ⟨_, _, _, [], hcs, RowB.nil _ _ _ (by omega), by omega, by have := bulk_one d; omega⟩
 ·simp only [Prod.mk.injEq] at hd
  obtain ⟨hd, _⟩ := hd
  simp only [if_true] at hzz
  have hs := hz ((lits (H := H) .u8 (zs.take l)).length + (lits (H := H) .u8 (zs.drop l)).length * 1) (by
   rw [hd]; simp [DataW.weights, ht, hb])
  rw [reach_num] at hs
  simp [lits] at hs
  have hbk : l + 1 ≤ Rows.uptoBulk d := by
   rw [hd]
   have h1 := bulk_length (H := H) (lits .u8 (zs.take l))
   simp only [Rows.uptoBulk]
   simp only [lits, List.length_map, List.length_take] at h1
   simp only [lits]
   omega
  refine ⟨_, l, c, (zs.take l).map Int.toNat, hcs, ⟨by simp; omega, hl, by omega, by omega, ?_, ?_⟩, by omega, hbk⟩
  ·intro n hn
   obtain ⟨z, hz1, rfl⟩ := List.mem_map.1 hn
   have := bounds_u8 (hwz z (List.mem_of_mem_take hz1))
   omega
  ·by_cases h0 : l = 0
   ·exact .inl h0
   ·right
    obtain ⟨b, off, spot⟩ := x
    have hc0 := hcell 0 (by omega)
    have hspot : spot = none := by simpa [Addr.add] using World.cell?_spot hc0
    subst hspot
    refine ⟨b, off, rfl, fun i hi => ?_⟩
    simp at hi
    have := hcell i (by omega)
    have ea : (⟨b, off, none⟩ : Addr).add i = ⟨b, off + i, none⟩ := by simp only [Addr.add]; split <;> simp_all
    rw [ea] at this
    rw [List.getElem_map, List.getElem_take]
    have hb := bounds_u8 (hwz zs[i] (List.getElem_mem (by omega)))
    have e : zs.getD i 0 = zs[i] := by rw [List.getD_eq_getElem?_getD, List.getElem?_eq_getElem (by omega)]; rfl
    rw [e] at this
    rw [Int.toNat_of_nonneg hb.1]
    simpa using this
theorem weightsEach_mem {P : Program} : ∀ (ts : List TypeId) (ds : List (DataW H)) (i : Nat) (t : TypeId) (e : DataW H) (n : Nat), ts[i]? = some t → ds[i]? = some e → n ∈ e.weights P t → n ∈ DataW.weightsEach P ts ds
 | [], _, i, t, e, n, h, _, _ => by simp at h
 | _ :: _, [], i, t, e, n, _, h, _ => by simp at h
 | t0 :: ts, d0 :: ds, 0, t, e, n, h1, h2, h3 => by
   simp at h1 h2; subst h1; subst h2
   simp only [DataW.weightsEach, List.mem_append]; exact .inl h3
 | t0 :: ts, d0 :: ds, i + 1, t, e, n, h1, h2, h3 => by
   simp at h1 h2
   simp only [DataW.weightsEach, List.mem_append]; exact .inr (weightsEach_mem ts ds i t e n h1 h2 h3)
theorem weightsAll_mem {P : Program} {t : TypeId} : ∀ (ds : List (DataW H)) (i : Nat) (e : DataW H) (n : Nat), ds[i]? = some e → n ∈ e.weights P t → n ∈ DataW.weightsAll P t ds
 | [], i, e, n, h, _ => by simp at h
 | d0 :: ds, 0, e, n, h2, h3 => by
   simp at h2; subst h2
   simp only [DataW.weightsAll, List.mem_append]; exact .inl h3
 | d0 :: ds, i + 1, e, n, h2, h3 => by
   simp at h2
   simp only [DataW.weightsAll, List.mem_append]; exact .inr (weightsAll_mem ds i e n h2 h3)
theorem Tr.struct {fs : Array Field} (h : Tr enc P W T cs d) (ht : P.underlying T = some (.struct fs)) :
 ∃ ds : List (DataW H), d = .agg ds ∧ ds.length = fs.size ∧ cs.length = P.cellsOf T ∧ ∀ (i : Nat) (f : Field) (e : DataW H), fs[i]? = some f → ds[i]? = some e → Tr enc P W f.type ((cs.drop f.offset).take (P.cellsOf f.type)) e := by
 obtain ⟨⟨fuel, ps, hf⟩, hz⟩ := h
 obtain ⟨ys, n', _, hy, hlen', hyl, hfs⟩ := DataW.trod_struct ht hf
 simp only [Prod.mk.injEq] at hy
 refine ⟨_, hy.1, by simpa using hyl, hlen', fun i f e hi he => ⟨?_, fun n hn => hz n ?_⟩⟩
 ·have := hfs i f hi
  simp only [List.getElem?_map, Option.map_eq_some_iff] at he
  obtain ⟨y, hy1, rfl⟩ := he
  rw [hy1] at this
  exact ⟨_, y.2, this⟩
 ·rw [hy.1]
  simp only [DataW.weights, ht]
  exact weightsEach_mem _ _ i f.type e n (by simp [hi]) he hn
theorem Tr.slice {E : TypeId} (h : Tr enc P W T cs d) (ht : P.underlying T = some (.slice E)) :
 (cs = [.slice none 0 0] ∧ d = .nil) ∨
 ∃ (a : Addr) (len cap : Nat) (es rest : List (DataW H)), cs = [.slice (some a) len cap] ∧ d = .slice es rest ∧ es.length = len ∧ es.length + rest.length = cap ∧ len ≤ cap ∧ cap ≤ 9223372036854775807 ∧ cap * P.bytesOf E ≤ 140737488351232 ∧
   ∀ (i : Nat) (e : DataW H), es[i]? = some e → ∃ us : List Value, us.length = P.cellsOf E ∧ (∀ j (hj : j < us.length), W.cell? (a.add (i * P.cellsOf E + j)) = some us[j]) ∧ Tr enc P W E us e := by
 obtain ⟨⟨fuel, ps, hf⟩, hz⟩ := h
 rcases DataW.trod_slice ht hf with ⟨h1, h2⟩ | ⟨a, len, cap, elems, rest, n, _, hcs, hx, _, hl, hm, hel, hread, hsp, _⟩
 ·simp only [Prod.mk.injEq] at h2
  exact .inl ⟨h1, h2.1⟩
 ·simp only [Prod.mk.injEq] at hx
  obtain ⟨hd, _⟩ := hx
  obtain ⟨hrl, _⟩ := hsp rfl
  refine .inr ⟨a, len, cap, _, _, hcs, hd, by simpa using hel, by simp; omega, hl, by simpa [maxLen] using hm, ?_, fun i e he => ?_⟩
  ·have := hz ((elems.length + rest.length) * P.bytesOf E) (by rw [hd]; simp [DataW.weights, ht])
   rw [reach_num] at this
   have e : elems.length + rest.length = cap := by omega
   rw [e] at this; exact this
  ·simp only [List.getElem?_map, Option.map_eq_some_iff] at he
   obtain ⟨y, hy1, rfl⟩ := he
   have hi : i < len := by rw [← hel]; exact (List.getElem?_eq_some_iff.1 hy1).1
   have hr := hread i hi
   rw [hy1] at hr
   obtain ⟨us, hc', ht'⟩ := Option.bind_eq_some_iff.1 hr
   obtain ⟨_, hcl, hat⟩ := World.cells?_some hc'
   refine ⟨us, hcl, fun j hj => ?_, ⟨⟨_, y.2, ht'⟩, fun m hm => hz m ?_⟩⟩
   ·have := hat j (by omega)
    rw [Go.Deep.add_add] at this
    rw [this, List.getElem?_eq_getElem hj]
   ·rw [hd]
    simp only [DataW.weights, ht, List.mem_cons, List.mem_append]
    exact .inr (.inl (weightsAll_mem _ i y.1 m (by simp [hy1]) hm))
end
theorem one {α : Type} {l : List α} (h : l.length = 1) : ∃ a, l = [a] := by
 match l, h with
 | [a], _ => exact ⟨a, rfl⟩
theorem three {α : Type} {l : List α} (h : l.length = 3) : ∃ a b c, l = [a, b, c] := by
 match l, h with
 | [a, b, c], _ => exact ⟨a, b, c, rfl⟩
end Go.Proofs.YtpjdcgjoepjmcaaGreat
end
section
namespace Go.Proofs.YtpjdcgjoepjmcaaGreat
open Go.RowKit
end Go.Proofs.YtpjdcgjoepjmcaaGreat
end
section
namespace Go.Proofs.YtpjdcgjoepjmcaaGreat
open Go.RowKit
end Go.Proofs.YtpjdcgjoepjmcaaGreat
end
section
namespace Go.Proofs.YtpjdcgjoepjmcaaGreat
open Go.RowKit
end Go.Proofs.YtpjdcgjoepjmcaaGreat
end
section
namespace Go.Proofs.YtpjdcgjoepjmcaaGreat
open Go.RowKit
theorem cells14 {w : World} {B : Nat} {o0 o1 o2 o3 o4 o5 o6 o7 o8 o9 o10 o11 o12 o13 : Value} {T : TypeId} (hb : w.heap[B]? = some (.cells #[o0, o1, o2, o3, o4, o5, o6, o7, o8, o9, o10, o11, o12, o13] T (0, 0))) (v0 v1 v2 v3 v4 v5 v6 v7 v8 v9 v10 v11 v12 v13 : Value) :
 ((((((((((((((w.setCell ⟨B, 0, none⟩ v0).setCell ⟨B, 1, none⟩ v1).setCell ⟨B, 2, none⟩ v2).setCell ⟨B, 3, none⟩ v3).setCell ⟨B, 4, none⟩ v4).setCell ⟨B, 5, none⟩ v5).setCell ⟨B, 6, none⟩ v6).setCell ⟨B, 7, none⟩ v7).setCell ⟨B, 8, none⟩ v8).setCell ⟨B, 9, none⟩ v9).setCell ⟨B, 10, none⟩ v10).setCell ⟨B, 11, none⟩ v11).setCell ⟨B, 12, none⟩ v12).setCell ⟨B, 13, none⟩ v13).heap[B]? = some (.cells #[v0, v1, v2, v3, v4, v5, v6, v7, v8, v9, v10, v11, v12, v13] T (0, 0)) := by
 have := (heap_setCell_same _ B 13 _ _ v13 (heap_setCell_same _ B 12 _ _ v12 (heap_setCell_same _ B 11 _ _ v11 (heap_setCell_same _ B 10 _ _ v10 (heap_setCell_same _ B 9 _ _ v9 (heap_setCell_same _ B 8 _ _ v8 (heap_setCell_same _ B 7 _ _ v7 (heap_setCell_same _ B 6 _ _ v6 (heap_setCell_same _ B 5 _ _ v5 (heap_setCell_same _ B 4 _ _ v4 (heap_setCell_same _ B 3 _ _ v3 (heap_setCell_same _ B 2 _ _ v2 (heap_setCell_same _ B 1 _ _ v1 (heap_setCell_same _ B 0 _ _ v0 hb))))))))))))))
 simpa using this
theorem touch14 (w : World) (B : Nat) (v0 v1 v2 v3 v4 v5 v6 v7 v8 v9 v10 v11 v12 v13 : Value) : Touch w ((((((((((((((w.setCell ⟨B, 0, none⟩ v0).setCell ⟨B, 1, none⟩ v1).setCell ⟨B, 2, none⟩ v2).setCell ⟨B, 3, none⟩ v3).setCell ⟨B, 4, none⟩ v4).setCell ⟨B, 5, none⟩ v5).setCell ⟨B, 6, none⟩ v6).setCell ⟨B, 7, none⟩ v7).setCell ⟨B, 8, none⟩ v8).setCell ⟨B, 9, none⟩ v9).setCell ⟨B, 10, none⟩ v10).setCell ⟨B, 11, none⟩ v11).setCell ⟨B, 12, none⟩ v12).setCell ⟨B, 13, none⟩ v13) (fun k => k = B) :=
 (((((((((((((((Touch.refl w (fun k => k = B)).into 0 v0).into 1 v1).into 2 v2).into 3 v3).into 4 v4).into 5 v5).into 6 v6).into 7 v7).into 8 v8).into 9 v9).into 10 v10).into 11 v11).into 12 v12).into 13 v13)
end Go.Proofs.YtpjdcgjoepjmcaaGreat
end
section
namespace Go.Proofs.YtpjdcgjoepjmcaaGreat
open Go.RowKit
theorem step_appendB {P : Program} {ops : Array Oper} {o : Oper} {a : Act} {w : World} {K : Act → World → Prop} {Q : Exit → Act → World → Prop} {X : Prop} (hg : o.guard = none) (s x : Operand) (t : TypeId)
 (ho : o.op = .call { callee := .builtin .append, args := #[s, x], argTypes := #[t, t] })
 (E : TypeId) (ht : P.underlying t = some (.slice E)) (hin : (P.info? E).map (fun i => (i.zero, i.size, i.bytes)) = some (some (.int .u8 0), 1, 1))
 (base : Nat) (v : Value) (xs : List Nat) (hs : a.eval s = v) (hown : OwnB w base E v xs) (ad : Option Addr) (len cap : Nat) (ys : List Nat) (hx : a.eval x = .slice ad len cap) (hr : RowB w ad len cap ys)
 (n : Nat) (zs : List Nat) (hz : xs ++ ys = zs) (hn : zs.length = n) (hlen : n ≤ 140737488355328) (hbase : base ≤ w.heap.size)
 (h : ∀ a' cap' w', OwnB w' base E (.slice a' n cap') zs → RowB w' a' n cap' zs → w.grownBy w' v.ownBlock → (∀ k, (Value.slice a' n cap').ownBlock = some k → v.ownBlock = some k ∨ w.heap.size ≤ k) → K (a.put o.dst (.slice a' n cap')) w') :
 if Region.wanted o (yielded ops a.tmps) = true then Oper.wp P o a w K Q else X := by
 have hw : Region.wanted o (yielded ops a.tmps) = true := by simp [Region.wanted, hg]
 rw [if_pos hw]
 have hl2 := hr.1
 obtain ⟨v', w', hrun, h1, h2, hpl⟩ := run_appendB (P := P) w t o.type E ht hin base v xs hown ad len cap ys hr (by have := congrArg List.length hz; simp at this; omega) hbase
 obtain ⟨a', cap', hv, hr', hp⟩ := h1.row
 rw [hz] at h1 hv hr'
 rw [hn] at hv hr'
 subst hv
 unfold Oper.wp execOp
 simp only [ho, resolve, invoke, builtin, Sem.run_bind, Sem.run_pure, Result.andThen_ok, List.map_toArray, List.map_cons, List.map_nil, hs, hx, hrun]
 exact h a' cap' w' h1 hr' h2 hpl
end Go.Proofs.YtpjdcgjoepjmcaaGreat
end
section
namespace Go.Proofs.YtpjdcgjoepjmcaaGreat
open Go.RowKit
end Go.Proofs.YtpjdcgjoepjmcaaGreat
end
section
namespace Go.Proofs.YtpjdcgjoepjmcaaGreat
open Go.RowKit
theorem rtimeD_any (w : World) (t : Int) : Calls Tryz.prog 19 #[.int .i64 t] w fun e w' => e = .returned (.bool (decide (0 ≤ t ∧ t ≤ 1099511627776))) ∧ w = w' := by
 by_cases h0 : 0 ≤ t
 ·by_cases h1 : t ≤ 1099511627776
  ·have hd : decide (0 ≤ t ∧ t ≤ 1099511627776) = true := by simp [h0, h1]
   rw [hd]
   go_enter Tryz.func19, Tryz.ntmps19
   go_wp2_with fail
   go_ret
   exact ⟨rfl, rfl⟩
  ·have hd : decide (0 ≤ t ∧ t ≤ 1099511627776) = false := by simp [h1]
   rw [hd]
   go_enter Tryz.func19, Tryz.ntmps19
   go_wp2_with fail
   go_ret
   exact ⟨rfl, rfl⟩
 ·have hd : decide (0 ≤ t ∧ t ≤ 1099511627776) = false := by simp [h0]
  rw [hd]
  go_enter Tryz.func19, Tryz.ntmps19
  go_wp2_with fail
  go_ret
  exact ⟨rfl, rfl⟩
end Go.Proofs.YtpjdcgjoepjmcaaGreat
end
