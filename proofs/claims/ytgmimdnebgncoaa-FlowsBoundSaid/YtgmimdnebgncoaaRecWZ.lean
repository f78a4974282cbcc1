/- Records: a writer beside blocks that are not its own; what the writer's calls put. -/
import Derived.Test.YtgmimdnebgncoaaRecMayZ
import Derived.Test.YtgmimdnebgncoaaGBZ
import Derived.StillTailTactics
set_option linter.unusedVariables false
set_option linter.unusedSimpArgs false
namespace Go.Proofs.Ytgmimdnebgncoaa
open Go.RowKit

/-- The writer in block G has put xs; none of its blocks is one of D, all lie from base on. -/
structure WrD (w : World) (base G : Nat) (D : Nat → Prop) (xs : List Nat) : Prop where
  hb : base ≤ w.heap.size
  dl : ∀ k, D k → k < w.heap.size
  dg : ¬ D G
  ex : ∃ v, WrB w base G v xs ∧ ∀ k, v.ownBlock = some k → ¬ D k
section
variable {w w' : World} {base G : Nat} {D : Nat → Prop} {xs zs : List Nat}
theorem WrD.put (h : WrD w base G D xs) : ∃ v, WrB w base G v xs ∧ ∀ w' zs, PutB base G v w zs w' → WrD w' base G D zs ∧ Touch w w' (fun k => base ≤ k ∧ ¬ D k) := by
  obtain ⟨hb, dl, dg, v, hw, hv⟩ := h
  refine ⟨v, hw, fun w' zs p => ?_⟩
  obtain ⟨v', h', ht, hn⟩ := p
  refine ⟨⟨Nat.le_trans hb ht.size, fun k hk => Nat.lt_of_lt_of_le (dl k hk) ht.size, dg, v', h', fun k hk hd => ?_⟩, ht.mono (fun k hk hs => ?_)⟩
  · rcases hn k hk with h1 | h1
    · exact hv k h1 hd
    · have := dl k hd; omega
  · rcases hs with rfl | hs
    · exact ⟨hw.low, dg⟩
    · exact ⟨(hw.foot.2 k hs).1, hv k hs⟩
theorem WrD.still (h : WrD w base G D xs) (t : Touch w w' (fun _ => False)) : WrD w' base G D xs := by
  obtain ⟨hb, dl, dg, v, hw, hv⟩ := h
  exact ⟨Nat.le_trans hb t.size, fun k hk => Nat.lt_of_lt_of_le (dl k hk) t.size, dg, v, hw.touch t (fun h => h) (fun _ _ h => h), hv⟩
theorem WrD.mono {D' : Nat → Prop} (h : WrD w base G D xs) (hd : ∀ k, D' k → D k) : WrD w base G D' xs :=
  ⟨h.hb, fun k hk => h.dl k (hd k hk), fun hk => h.dg (hd _ hk), h.ex.imp fun v hv => ⟨hv.1, fun k hk hk2 => hv.2 k hk (hd k hk2)⟩⟩
/-- A block that was just laid is not the writer's. -/
theorem WrD.more (h : WrD w base G D xs) (o : Obj) : WrD (w.alloc o) base G (fun k => D k ∨ k = w.heap.size) xs := by
  have t := (Touch.refl w (fun _ => False)).alloc o
  obtain ⟨v, hw, hv⟩ := h.ex
  have hG := hw.foot.1
  refine ⟨Nat.le_trans h.hb t.size, fun k hk => ?_, fun hk => ?_, v, hw.touch t (fun h => h) (fun _ _ h => h), fun k hk hk2 => ?_⟩
  · rcases hk with hk | rfl
    · exact Nat.lt_of_lt_of_le (h.dl k hk) t.size
    · simp
  · rcases hk with hk | hk
    · exact h.dg hk
    · omega
  · rcases hk2 with hk2 | hk2
    · exact hv k hk hk2
    · have := (hw.foot.2 k hk).2; omega
theorem WrE.toD (h : WrE w base G xs) : WrD w base G (fun _ => False) xs := by
  obtain ⟨hb, v, hw⟩ := h
  exact ⟨hb, fun _ h => h.elim, fun h => h, v, hw, fun _ _ h => h⟩
theorem WrD.toE (h : WrD w base G D xs) : WrE w base G xs := by
  obtain ⟨hb, _, _, v, hw, _⟩ := h
  exact ⟨hb, v, hw⟩
theorem WrD.drew (h : WrD w base G D xs) : WrD w.drew base G D xs := h.still ((Touch.refl w (fun _ => False)).drew)
end
def isI (n : Int) : Prop := -9223372036854775808 ≤ n ∧ n ≤ 9223372036854775807
theorem d_wU8 (base G : Nat) (D : Nat → Prop) (xs : List Nat) (n : Int) (w : World) (h : WrD w base G D xs) (hn : -9223372036854775808 ≤ n ∧ n ≤ 9223372036854775807) (hlen : xs.length ≤ 1000000) :
    Calls Try.prog 59 #[.pointer (some ⟨G, 0, none⟩), .int .i64 n] w fun e w' => e = .returned (.tuple #[]) ∧ WrD w' base G D (xs ++ beB 1 (u64N n)) ∧ Touch w w' (fun k => base ≤ k ∧ ¬ D k) := by
  obtain ⟨v, hw, hp⟩ := h.put
  refine (wU8_any G v xs base n w hw hn (by omega) h.hb).mono ?_
  rintro e w' ⟨rfl, p⟩
  exact ⟨rfl, hp _ _ p⟩
theorem d_wU16 (base G : Nat) (D : Nat → Prop) (xs : List Nat) (n : Int) (w : World) (h : WrD w base G D xs) (hn : -9223372036854775808 ≤ n ∧ n ≤ 9223372036854775807) (hlen : xs.length ≤ 1000000) :
    Calls Try.prog 60 #[.pointer (some ⟨G, 0, none⟩), .int .i64 n] w fun e w' => e = .returned (.tuple #[]) ∧ WrD w' base G D (xs ++ beB 2 (u64N n)) ∧ Touch w w' (fun k => base ≤ k ∧ ¬ D k) := by
  obtain ⟨v, hw, hp⟩ := h.put
  refine (wU16_any G v xs base n w hw hn (by omega) h.hb).mono ?_
  rintro e w' ⟨rfl, p⟩
  exact ⟨rfl, hp _ _ p⟩
theorem d_wU32 (base G : Nat) (D : Nat → Prop) (xs : List Nat) (n : Int) (w : World) (h : WrD w base G D xs) (hn : 0 ≤ n ∧ n ≤ 4294967295) (hlen : xs.length ≤ 1000000) :
    Calls Try.prog 58 #[.pointer (some ⟨G, 0, none⟩), .int .u32 n] w fun e w' => e = .returned (.tuple #[]) ∧ WrD w' base G D (xs ++ beB 4 (u64N n)) ∧ Touch w w' (fun k => base ≤ k ∧ ¬ D k) := by
  obtain ⟨v, hw, hp⟩ := h.put
  refine (wU32_any G v xs base n w hw hn (by omega) h.hb).mono ?_
  rintro e w' ⟨rfl, p⟩
  exact ⟨rfl, hp _ _ p⟩
/-- What a call leaves that puts ys behind xs. -/
def PutD (w : World) (base G : Nat) (D : Nat → Prop) (xs ys : List Nat) (e : Ending) (w' : World) : Prop :=
  e = .returned (.tuple #[]) ∧ WrD w' base G D (xs ++ ys) ∧ Touch w w' (fun k => base ≤ k ∧ ¬ D k)

/-- A tuple's bytes. -/
def tbF (t : TupD) : List Nat := beB 4 (u64N t.src) ++ beB 4 (u64N t.dst) ++ beB 1 (u64N t.proto) ++ beB 2 (u64N t.sport) ++ beB 2 (u64N t.dport)
theorem tbF_length (t : TupD) : (tbF t).length = 13 := by simp [tbF, beB_length]
theorem tcells_of {w : World} {B : Nat} {t : TupD} {T : TypeId} (hb : w.heap[B]? = some (.cells (tcs t) T (0, 0))) :
    w.cell? ⟨B, 0, none⟩ = some (.int .u32 t.src) ∧ w.cell? ⟨B, 1, none⟩ = some (.int .u32 t.dst) ∧ w.cell? ⟨B, 2, none⟩ = some (.int .i64 t.proto) ∧ w.cell? ⟨B, 3, none⟩ = some (.int .i64 t.sport) ∧ w.cell? ⟨B, 4, none⟩ = some (.int .i64 t.dport) :=
  ⟨cell_of_cells hb 0, cell_of_cells hb 1, cell_of_cells hb 2, cell_of_cells hb 3, cell_of_cells hb 4⟩
set_option maxRecDepth 20000 in
set_option maxHeartbeats 4000000 in
theorem tWrite_any (base G : Nat) (D : Nat → Prop) (xs : List Nat) (t : TupD) (w : World) (h : WrD w base G D xs) (ok : TupOk t) (hlen : xs.length ≤ 900000) :
    Calls Try.prog 39 #[.pointer (some ⟨G, 0, none⟩), .agg (tcs t)] w (PutD w base G D xs (tbF t)) := by
  obtain ⟨src, dst, proto, sport, dport⟩ := t
  obtain ⟨o1, o2, o3, o4, o5⟩ := ok
  simp only [u32, i64] at o1 o2 o3 o4 o5
  obtain ⟨W1, hW1⟩ : ∃ W, w.alloc (.cells (tcs ⟨src, dst, proto, sport, dport⟩) 24) = W := ⟨_, rfl⟩
  have hw1 : WrD W1 base G (fun k => D k ∨ k = w.heap.size) xs := hW1 ▸ h.more _
  have hb1 : W1.heap[w.heap.size]? = some (.cells (tcs ⟨src, dst, proto, sport, dport⟩) 24 (0, 0)) := hW1 ▸ heap_alloc_new w _
  have HW := Lib.hid hw1
  have HB := Lib.hid hb1
  have HT : RowKit.Hid (Touch w W1 (fun k => base ≤ k ∧ ¬ D k)) := Lib.hid (hW1 ▸ (Touch.refl _ _).alloc _)
  have HL := Lib.hid hlen
  obtain ⟨c0, c1, c2, c3, c4⟩ := tcells_of hb1
  simp only at c0 c1 c2 c3 c4
  clear h hw1 hb1 hlen
  simp only [tcs] at hW1
  simp only [tcs]
  go_enter Try.func39, Try.ntmps39
  go_wp2_with (first
    | (go_at_call 58; (with_reducible refine (d_wU32 _ _ _ _ _ _ HW.out (by omega) (by have := HL.out; (try simp only [List.length_append, beB_length]); omega)).mono ?_); rintro e w2 ⟨rfl, h1, h2⟩; have HW := Lib.hid h1; have HB := Lib.hid (h2.keeps HB.out (fun h => h.2 (.inr rfl))); have HT := Lib.hid (HT.out.trans h2 (fun k hk h => ⟨h.1, fun hd => h.2 (.inl hd)⟩)); clear h1 h2 c0 c1 c2 c3 c4; obtain ⟨c0, c1, c2, c3, c4⟩ := tcells_of HB.out; simp only at c0 c1 c2 c3 c4)
    | (go_at_call 59; (with_reducible refine (d_wU8 _ _ _ _ _ _ HW.out (by omega) (by have := HL.out; (try simp only [List.length_append, beB_length]); omega)).mono ?_); rintro e w2 ⟨rfl, h1, h2⟩; have HW := Lib.hid h1; have HB := Lib.hid (h2.keeps HB.out (fun h => h.2 (.inr rfl))); have HT := Lib.hid (HT.out.trans h2 (fun k hk h => ⟨h.1, fun hd => h.2 (.inl hd)⟩)); clear h1 h2 c0 c1 c2 c3 c4; obtain ⟨c0, c1, c2, c3, c4⟩ := tcells_of HB.out; simp only at c0 c1 c2 c3 c4)
    | (go_at_call 60; (with_reducible refine (d_wU16 _ _ _ _ _ _ HW.out (by omega) (by have := HL.out; (try simp only [List.length_append, beB_length]); omega)).mono ?_); rintro e w2 ⟨rfl, h1, h2⟩; have HW := Lib.hid h1; have HB := Lib.hid (h2.keeps HB.out (fun h => h.2 (.inr rfl))); have HT := Lib.hid (HT.out.trans h2 (fun k hk h => ⟨h.1, fun hd => h.2 (.inl hd)⟩)); clear h1 h2 c0 c1 c2 c3 c4; obtain ⟨c0, c1, c2, c3, c4⟩ := tcells_of HB.out; simp only at c0 c1 c2 c3 c4))
  go_end0
  refine ⟨rfl, ?_, HT.out⟩
  have hw := HW.out.mono (D' := D) (fun k hk => .inl hk)
  simp only [List.append_assoc] at hw
  simpa only [tbF, List.append_assoc] using hw
end Go.Proofs.Ytgmimdnebgncoaa
