/- Rows of bytes that the call itself makes: appended to, made, stored into. -/
import Derived.Test.YtmokcfmlolohaaaBase
import Derived.Laws.OwnMore
import Derived.OwnWalk
import Derived.Lib.Strings
set_option linter.unusedVariables false
namespace Go.Proofs.Ytmokcfmlolohaaa
open Go.RowKit

/-- The row of the type table for bytes. -/
theorem infoB : (Try.prog.info? 5).map (fun i => (i.zero, i.size, i.bytes)) = some (some (.int .u8 0), 1, 1) := by kernel_rfl

/-- A byte as a cell. -/
def cellB (x : Nat) : Value := .int .u8 (x : Nat)

/-- The slice v is a row of bytes of the call's own, in a block from base on. -/
structure OwnB (w : World) (base : Nat) (E : TypeId) (v : Value) (xs : List Nat) : Prop where
  own : w.ownsRow base E 1 v xs.length (xs.map cellB)
  small : ∀ x ∈ xs, x < 256
  short : xs.length ≤ 281474976710656

section
variable {w : World} {base : Nat} {E : TypeId} {v : Value} {xs : List Nat}

theorem OwnB.row (h : OwnB w base E v xs) : ∃ a cap, v = .slice a xs.length cap ∧ RowB w a xs.length cap xs ∧ (a = none ∨ ∃ g, a = some ⟨g, 0, none⟩ ∧ base ≤ g ∧ g < w.heap.size) := by
  rcases h.own.2 with ⟨rfl, hn⟩ | ⟨g, cap, cur, rfl, hb, hg, hnc, hcm, hcs, htake⟩
  · have : xs = [] := List.length_eq_zero_iff.1 hn
    subst this
    exact ⟨none, 0, rfl, RowB.nil _ _ _ (by omega), .inl rfl⟩
  · refine ⟨_, cap, rfl, ⟨rfl, hnc, by simpa [maxLen] using hcm, h.short, h.small, .inr ⟨g, 0, rfl, fun i hi => ?_⟩⟩, .inr ⟨g, rfl, hb, (Array.getElem?_eq_some_iff.1 hg).1⟩⟩
    have e := World.ownsRow.cellAt h.own i (by omega)
    rw [Nat.zero_add, e]
    simp [hi, cellB]

theorem OwnB.kept {w' : World} {r : Option Nat} (h : OwnB w base E v xs) (hg : w.grownBy w' r) (hne : v.ownBlock = none ∨ v.ownBlock ≠ r) : OwnB w' base E v xs :=
  ⟨h.own.kept hg hne, h.small, h.short⟩
theorem OwnB.alloc (h : OwnB w base E v xs) (o : Obj) : OwnB (w.alloc o) base E v xs := ⟨h.own.alloc o, h.small, h.short⟩
theorem OwnB.drewN (h : OwnB w base E v xs) (n : Nat) : OwnB (w.drewN n) base E v xs := ⟨h.own, h.small, h.short⟩
theorem OwnB.drew (h : OwnB w base E v xs) {w' : World} (hd : Drew w w') : OwnB w' base E v xs := by obtain ⟨n, rfl⟩ := hd; exact h.drewN n
theorem OwnB.nil (w : World) (base : Nat) (E : TypeId) : OwnB w base E (.slice none 0 0) [] := ⟨World.ownsRow_nil w base E 1, by simp, by simp⟩

/-- A literal row that was just laid. -/
theorem OwnB.lit (w : World) (g : Nat) (hg : g = w.heap.size) (base : Nat) (hb : base ≤ g) (E : TypeId) (cs : Array Value) (n : Nat) (xs : List Nat) (hcs : cs.toList = xs.map cellB) (hn : xs.length = n) (hx : ∀ x ∈ xs, x < 256) (hs : n ≤ 281474976710656) :
    OwnB (w.alloc (.cells cs E)) base E (.slice (some ⟨g, 0, none⟩) n n) xs := by
  subst hg; subst hn
  have h := World.ownsRow_lit (base := base) (e := E) (size := 1) w cs xs.length hb (by simp only [maxLen]; omega) (by have := congrArg List.length hcs; simpa using this)
  rw [hcs] at h
  exact ⟨h, hx, hs⟩

/-- A store into such a row. -/
theorem OwnB.stored {g n cap : Nat} (h : OwnB w base E (.slice (some ⟨g, 0, none⟩) n cap) xs) (hn : xs.length = n) (j x : Nat) (hx : x < 256) :
    OwnB (w.setCell ⟨g, j, none⟩ (.int .u8 (x : Nat))) base E (.slice (some ⟨g, 0, none⟩) n cap) (xs.set j x) := by
  subst hn
  have := (World.ownsRow.stored h.own j (.int .u8 (x : Nat))).1
  refine ⟨?_, fun y hy => ?_, by simpa using h.short⟩
  · simpa [List.map_set, cellB] using this
  · rcases List.mem_or_eq_of_mem_set hy with h1 | h1
    · exact h.small y h1
    · omega
theorem OwnB.free {g n cap : Nat} (h : OwnB w base E (.slice (some ⟨g, 0, none⟩) n cap) xs) (hn : xs.length = n) (j : Nat) : w.frozen? ⟨g, j, none⟩ = false := by
  subst hn; exact World.ownsRow.frozenAt h.own j
theorem OwnB.at {g n cap : Nat} (h : OwnB w base E (.slice (some ⟨g, 0, none⟩) n cap) xs) (hn : xs.length = n) (j : Nat) (hj : j < n) (hj' : j < xs.length) : w.cell? ⟨g, j, none⟩ = some (.int .u8 (xs[j] : Nat)) := by
  subst hn
  rw [World.ownsRow.cellAt h.own j (by omega)]
  simp [hj', cellB]
/-- The row's block is the call's own. -/
theorem OwnB.where {g n cap : Nat} (h : OwnB w base E (.slice (some ⟨g, 0, none⟩) n cap) xs) : base ≤ g ∧ g < w.heap.size := h.own.lt g rfl
/-- A row of noughts that make has laid. -/
theorem OwnB.made (n : Nat) {g : Nat} (h : w.ownsRow base E 1 (.slice (some ⟨g, 0, none⟩) n n) n (madeCells (Value.int .u8 0).cells (n * 1)).toList) (hn : n ≤ 281474976710656) :
    OwnB w base E (.slice (some ⟨g, 0, none⟩) n n) (List.replicate n 0) := by
  have e : (madeCells (Value.int .u8 0).cells (n * 1)).toList = (List.replicate n 0).map cellB := by
    rw [Nat.mul_one]; show (madeCells #[Value.int .u8 0] n).toList = _
    rw [toList_madeCells_one, List.map_replicate]; rfl
  rw [e] at h
  exact ⟨by simpa using h, by intro x hx; simp at hx; omega, by simpa using hn⟩

theorem OwnB.nonempty {n cap : Nat} (h : OwnB w base E (.slice none n cap) xs) (hn : xs.length = n) (h0 : 0 < n) : False := by
  rcases h.own.2 with ⟨h1, h2⟩ | ⟨g, cap', cur, h1, _⟩
  · omega
  · simp at h1

theorem below_grown {W : World} {w' : World} {B : Nat} (h : Below B W w) (hg : w.grownBy w' v.ownBlock) (hB : B ≤ w.heap.size) (ho : OwnB w base E v xs) (hBb : B ≤ base) : Below B W w' :=
  h.grown hg hB (fun k hk => Nat.le_trans hBb (ho.own.lt k hk).1)
end

/-- Bytes as a string. -/
def strB (xs : List Nat) : ByteArray := ⟨(xs.map UInt8.ofNat).toArray⟩
theorem strB_inj (xs ys : List Nat) (hx : ∀ x ∈ xs, x < 256) (hy : ∀ y ∈ ys, y < 256) (h : strB xs = strB ys) : xs = ys := by
  have h1 : (xs.map UInt8.ofNat).toArray = (ys.map UInt8.ofNat).toArray := congrArg ByteArray.data h
  have h2 : xs.map UInt8.ofNat = ys.map UInt8.ofNat := by simpa using congrArg Array.toList h1
  have h3 := congrArg (List.map UInt8.toNat) h2
  simp only [List.map_map] at h3
  have e : ∀ l : List Nat, (∀ x ∈ l, x < 256) → l.map (UInt8.toNat ∘ UInt8.ofNat) = l := by
    intro l hl
    conv => rhs; rw [← List.map_id l]
    apply List.map_congr_left
    intro x hx
    have := hl x hx
    show (UInt8.ofNat x).toNat = x
    rw [UInt8.toNat_ofNat']; omega
  rw [e xs hx, e ys hy] at h3
  exact h3
theorem strB_inj' (xs ys : List Nat) (hx : ∀ x ∈ xs, x < 256) (hy : ∀ y ∈ ys, y < 256) (h : (strB xs).toList = (strB ys).toList) : xs = ys := by
  rw [Lib.toList_data, Lib.toList_data] at h
  exact strB_inj xs ys hx hy (ByteArray.ext (by simpa using congrArg List.toArray h))
/-- 'string(b)' of a row of bytes. -/
theorem run_string_of {P : Program} {w : World} {a : Option Addr} {len cap : Nat} {xs : List Nat} (hr : RowB w a len cap xs) (src dst e : TypeId) (hs : P.underlying src = some (.slice e)) (he : P.underlying e = some (.int .u8)) (hd : P.underlying dst = some .string) :
    (convert src dst (.slice a len cap)).run P w = .ok (.string (strB xs)) w := by
  obtain ⟨h1, h2, h3, h6, h4, h5⟩ := hr
  cases a with
  | none =>
    rcases h5 with h5 | ⟨b, off, ha, _⟩
    · subst h5
      have : xs = [] := List.length_eq_zero_iff.1 h1
      subst this
      rw [run_convert_bytes_nil (w := w) src e hs he 0 cap dst hd]; rfl
    · cases ha
  | some a =>
    have hc : ∀ j (hj : j < (xs.map UInt8.ofNat).length), w.cell? (a.add j) = some (.int .u8 ((xs.map UInt8.ofNat)[j].toNat : Int)) := by
      intro j hj
      simp at hj
      rcases h5 with h5 | ⟨b, off, ha, hc⟩
      · omega
      · simp only [Option.some.injEq] at ha
        subst ha
        have ea : (⟨b, off, none⟩ : Addr).add j = ⟨b, off + j, none⟩ := by simp only [Addr.add]; split <;> simp_all
        rw [ea, hc j hj]
        have := h4 _ (List.getElem_mem hj)
        simp; omega
    have := run_convert_bytes_back (P := P) w src dst e a cap (xs.map UInt8.ofNat) hs he hd hc
    rw [List.length_map, h1] at this
    exact this

/-- Where the new value lies: where the old one lay, or in a new block. -/
theorem append_place {P : Program} (w : World) (t ty E : TypeId) (ht : P.underlying t = some (.slice E)) (i : TypeInfo) (hi : P.info? E = some i) (hz0 : i.zero = some (.int .u8 0)) (hz1 : i.size = 1) (hz2 : i.bytes = 1)
    (base : Nat) (v : Value) (n : Nat) (xs : List Value) (hown : w.ownsRow base E 1 v n xs) (a : Addr) (m c : Nat) (news : List Value) (hl : news.length = m * 1) (hnews : ∀ j u, news[j]? = some u → w.cell? (a.add j) = some u) (h1 : ∀ u ∈ news, u.oneCell' = true)
    (h63 : n + m ≤ maxLen) (hbytes : (n + m) * 1 ≤ 140737488355328) {v' : Value} {w' : World} (hr : (Builtin.append_ #[t, t] ty #[v, .slice (some a) m c]).run P w = .ok v' w') :
    ∀ k, v'.ownBlock = some k → v.ownBlock = some k ∨ w.heap.size ≤ k := by
  rcases hown.2 with ⟨rfl, hn⟩ | ⟨g, cap, cur, rfl, hbg, hg, hnc, hcm, hcs, htake⟩
  · subst hn
    have hx : xs = [] := List.eq_nil_of_length_eq_zero (by simpa using hown.1)
    subst hx
    obtain ⟨v2, w2, r1, r2, _, _⟩ := run_append_own (P := P) w w.heap.size t ty E i (.int .u8 0) 1 1 ht hi hz0 hz1 hz2 rfl (by decide) (.slice none 0 0) 0 [] (World.ownsRow_nil w _ _ _) a m c news hl hnews h1 (by simpa using h63) (by simpa using hbytes) (Nat.le_refl _)
    rw [hr] at r1
    simp only [Result.ok.injEq] at r1
    obtain ⟨rfl, rfl⟩ := r1
    intro k hk
    exact .inr (r2.lt k hk).1
  · by_cases hroom : n + m ≤ cap
    · obtain ⟨w2, r1, _, _⟩ := run_append_fits (P := P) w base t ty E i 1 ht hi hz1 g n cap xs hown a m c news hl hnews h1 hroom
      rw [hr] at r1
      simp only [Result.ok.injEq] at r1
      obtain ⟨rfl, rfl⟩ := r1
      intro k hk
      exact .inl hk
    · have holds : ∀ j u, xs[j]? = some u → w.cell? ((⟨g, 0, none⟩ : Addr).add j) = some u := hown.cells (g := g) rfl
      have r1 := run_append_grow (P := P) w t ty E i (.int .u8 0) ht hi hz0 ⟨g, 0, none⟩ n cap xs (by rw [hz1]; exact hown.1) holds a m c news (by rw [hz1]; exact hl) hnews (by omega) (by simp only [maxLen] at h63; omega) (growslice_fits (by omega) (by rw [hz2]; exact hbytes))
      rw [hr] at r1
      simp only [Result.ok.injEq] at r1
      obtain ⟨rfl, rfl⟩ := r1
      intro k hk
      simp [Value.ownBlock] at hk
      exact .inr (by omega)

theorem run_appendB {P : Program} (w : World) (t ty E : TypeId) (ht : P.underlying t = some (.slice E)) (hin : (P.info? E).map (fun i => (i.zero, i.size, i.bytes)) = some (some (.int .u8 0), 1, 1))
    (base : Nat) (v : Value) (xs : List Nat) (hown : OwnB w base E v xs) (ad : Option Addr) (len cap : Nat) (ys : List Nat) (hr : RowB w ad len cap ys)
    (hlen : xs.length + len ≤ 140737488355328) (hbase : base ≤ w.heap.size) :
    ∃ v' w', (Builtin.append_ #[t, t] ty #[v, .slice ad len cap]).run P w = .ok v' w' ∧ OwnB w' base E v' (xs ++ ys) ∧ w.grownBy w' v.ownBlock ∧ (∀ k, v'.ownBlock = some k → v.ownBlock = some k ∨ w.heap.size ≤ k) := by
  obtain ⟨i, hi, hz0, hz1, hz2⟩ := info_parts hin
  obtain ⟨h1, h2, h3, h6, h4, h5⟩ := hr
  have hsm : ∀ x ∈ xs ++ ys, x < 256 := fun x hx => by
    rcases List.mem_append.1 hx with h | h
    · exact hown.small x h
    · exact h4 x h
  have hlen' : (xs ++ ys).length = xs.length + len := by simp [h1]
  rcases h5 with h0 | ⟨b, off, ha, hc⟩
  · subst h0
    have hy : ys = [] := List.length_eq_zero_iff.1 h1
    subst hy
    cases ad with
    | none =>
      obtain ⟨a0, c0, hv, _⟩ := hown.row
      refine ⟨v, w, ?_, by simpa using hown, ⟨rfl, rfl, rfl, Nat.le_refl _, fun _ _ _ => rfl⟩, fun k hk => .inl hk⟩
      have := run_append_owned_none (P := P) (w := w) base t ty E i 1 ht hi v _ _ hown.own
      rcases hown.own.2 with ⟨rfl, hn⟩ | ⟨g, cap', cur, rfl, hb, hg, hnc, hcm, hcs, htake⟩
      · simp [Builtin.append_, run_underlying ht, sizeOf, typeInfo, hi, Builtin.lenOf, Builtin.firstCells]
      · simp [Builtin.append_, run_underlying ht, sizeOf, typeInfo, hi, Builtin.lenOf, Builtin.firstCells, hnc, storeCells]
    | some ad =>
      obtain ⟨v', w', r1, r2, r3, r4⟩ := run_append_own (P := P) w base t ty E i (.int .u8 0) 1 1 ht hi hz0 hz1 hz2 rfl (by decide) v _ _ hown.own ad 0 cap [] rfl (by simp) (by simp) (by simp only [maxLen]; omega) (by omega) hbase
      exact ⟨v', w', r1, ⟨by simpa using r2, by simpa using hown.small, by simpa using hown.short⟩, r3, append_place w t ty E ht i hi hz0 hz1 hz2 base v _ _ hown.own ad 0 cap [] rfl (by simp) (by simp) (by simp only [maxLen]; omega) (by omega) r1⟩
  · subst ha
    have hnews : ∀ j u, (ys.map cellB)[j]? = some u → w.cell? ((⟨b, off, none⟩ : Addr).add j) = some u := by
      intro j u hu
      simp only [List.getElem?_map, Option.map_eq_some_iff] at hu
      obtain ⟨y, hy, rfl⟩ := hu
      obtain ⟨hj, rfl⟩ := List.getElem?_eq_some_iff.1 hy
      have := hc j hj
      have ea : (⟨b, off, none⟩ : Addr).add j = ⟨b, off + j, none⟩ := by simp only [Addr.add]; split <;> simp_all
      rw [ea]; exact this
    obtain ⟨v', w', r1, r2, r3, r4⟩ := run_append_own (P := P) w base t ty E i (.int .u8 0) 1 1 ht hi hz0 hz1 hz2 rfl (by decide) v _ _ hown.own ⟨b, off, none⟩ len cap (ys.map cellB) (by simp [h1]) hnews (by intro u hu; obtain ⟨y, _, rfl⟩ := List.mem_map.1 hu; rfl) (by simp only [maxLen]; omega) (by omega) hbase
    exact ⟨v', w', r1, ⟨by rw [hlen', List.map_append]; exact r2, hsm, by rw [hlen']; omega⟩, r3, append_place w t ty E ht i hi hz0 hz1 hz2 base v _ _ hown.own ⟨b, off, none⟩ len cap (ys.map cellB) (by simp [h1]) hnews (by intro u hu; obtain ⟨y, _, rfl⟩ := List.mem_map.1 hu; rfl) (by simp only [maxLen]; omega) (by omega) r1⟩

/-- 'append(v, src...)' for the walk: what comes is a row of bytes again, its value written out; below B nothing has turned. -/
theorem wpList_appendB {P : Program} {w : World} {ops : Array Oper} {rest : List Oper} {o : Oper} {a : Act} {Q : Exit → Act → World → Prop} (hgd : Region.wanted o (yielded ops a.tmps) = true) (s x : Operand) (t : TypeId)
    (ho : o.op = .call { callee := .builtin .append, args := #[s, x], argTypes := #[t, t] })
    (E : TypeId) (ht : P.underlying t = some (.slice E)) (hin : (P.info? E).map (fun i => (i.zero, i.size, i.bytes)) = some (some (.int .u8 0), 1, 1))
    (base : Nat) (v : Value) (xs : List Nat) (hs : a.eval s = v) (hown : OwnB w base E v xs) (ad : Option Addr) (len cap : Nat) (ys : List Nat) (hx : a.eval x = .slice ad len cap) (hr : RowB w ad len cap ys)
    (n : Nat) (zs : List Nat) (hz : xs ++ ys = zs) (hn : zs.length = n) (hlen : n ≤ 140737488355328) (hbase : base ≤ w.heap.size)
    (B : Nat) (W : World) (hbel : Below B W w) (hB : B ≤ base)
    (h : ∀ a' cap' w', OwnB w' base E (.slice a' n cap') zs → RowB w' a' n cap' zs → w.grownBy w' v.ownBlock → Below B W w' → w.heap.size ≤ w'.heap.size → (a' = none ∨ ∃ g, a' = some ⟨g, 0, none⟩ ∧ base ≤ g ∧ g < w'.heap.size) → (∀ k, (Value.slice a' n cap').ownBlock = some k → v.ownBlock = some k ∨ w.heap.size ≤ k) → wpList P ops Q rest (a.put o.dst (.slice a' n cap')) w') : wpList P ops Q (o :: rest) a w := by
  refine BigFrame.wpList_want hgd fun K hK => ?_
  have hl2 := hr.1
  obtain ⟨v', w', hrun, h1, h2, hpl⟩ := run_appendB (P := P) w t o.type E ht hin base v xs hown ad len cap ys hr (by have := congrArg List.length hz; simp at this; omega) hbase
  obtain ⟨a', cap', hv, hr', hp⟩ := h1.row
  rw [hz] at h1 hv hr'
  rw [hn] at hv hr'
  subst hv
  unfold Oper.wp execOp
  simp only [ho, resolve, invoke, builtin, Sem.run_bind, Sem.run_pure, Result.andThen_ok, List.map_toArray, List.map_cons, List.map_nil, hs, hx, hrun]
  exact hK _ _ (h a' cap' w' h1 hr' h2 (below_grown hbel h2 (by omega) hown hB) h2.size hp hpl)
end Go.Proofs.Ytmokcfmlolohaaa
