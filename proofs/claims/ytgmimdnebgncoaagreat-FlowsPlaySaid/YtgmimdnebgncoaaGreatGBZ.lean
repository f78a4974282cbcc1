/- GB: OctW, OctN, OctC, Gen, OctR, OctQ, OctS, OctRef, OctRfr, OctRfn, OctRaw, OctTwo, WrE, OctBackMath. -/
import Derived.Test.YtgmimdnebgncoaaGreatGAZ
import Derived.Deep.RegionLaw
import Derived.Deep.AppendLies
import Derived.WalkSpells
section
/- What the calls of an octet.Writer answer and leave. -/
set_option linter.unusedVariables false
namespace Go.Proofs.YtgmimdnebgncoaaGreat
open Go.RowKit

/-- The writer in block G has put the bytes xs; v is its slice. -/
structure WrB (w : World) (base : Nat) (G : Nat) (v : Value) (xs : List Nat) : Prop where
  head : ∃ T, w.heap[G]? = some (.cells #[v] T (0, 0))
  low : base ≤ G
  own : OwnB w base 5 v xs
  apart : v.ownBlock ≠ some G

set_option maxHeartbeats 1000000 in
theorem raw_nil (a : Option Addr) (len cap : Nat) (w : World) :
    Calls Tryz.prog 95 #[.pointer none, .slice a len cap] w fun e w' => e = .returned (.tuple #[]) ∧ w' = w := by
  go_enter Tryz.func95, Tryz.ntmps95
  go_wp2
  go_end0
  exact ⟨rfl, rfl⟩

theorem WrB.foot {w : World} {base G : Nat} {v : Value} {xs : List Nat} (h : WrB w base G v xs) : G < w.heap.size ∧ ∀ k, v.ownBlock = some k → base ≤ k ∧ k < w.heap.size :=
  ⟨by obtain ⟨T, e⟩ := h.head; exact (Array.getElem?_eq_some_iff.1 e).1, fun k hk => h.own.own.lt k hk⟩
theorem WrB.touch {w w' : World} {base G : Nat} {v : Value} {xs : List Nat} {S : Nat → Prop} (h : WrB w base G v xs) (t : Touch w w' S) (hG : ¬ S G) (hv : ∀ k, v.ownBlock = some k → ¬ S k) : WrB w' base G v xs :=
  ⟨h.head.imp fun _ e => (t.block G h.foot.1 hG).trans e, h.low, h.own.touch t hv, h.apart⟩
theorem WrB.drewN {w : World} {base G : Nat} {v : Value} {xs : List Nat} (h : WrB w base G v xs) (n : Nat) : WrB (w.drewN n) base G v xs := ⟨h.head, h.low, h.own.drewN n, h.apart⟩

/-- What a call leaves that puts bytes: the writer with more bytes, at most its own blocks touched. -/
def PutB (base G : Nat) (v : Value) (w : World) (zs : List Nat) (w' : World) : Prop :=
  ∃ v', WrB w' base G v' zs ∧ Touch w w' (fun k => k = G ∨ v.ownBlock = some k) ∧ (∀ k, v'.ownBlock = some k → v.ownBlock = some k ∨ w.heap.size ≤ k)

theorem PutB.refl {base G : Nat} {v : Value} {w : World} {xs : List Nat} (h : WrB w base G v xs) : PutB base G v w xs w :=
  ⟨v, h, Touch.refl _ _, fun k hk => .inl hk⟩
theorem PutB.trans {base G : Nat} {v v1 : Value} {w w1 w2 : World} {ys zs : List Nat} (h : WrB w1 base G v1 ys ∧ Touch w w1 (fun k => k = G ∨ v.ownBlock = some k) ∧ (∀ k, v1.ownBlock = some k → v.ownBlock = some k ∨ w.heap.size ≤ k))
    (g : PutB base G v1 w1 zs w2) : PutB base G v w zs w2 := by
  obtain ⟨h1, h2, h3⟩ := h
  obtain ⟨v2, g1, g2, g3⟩ := g
  refine ⟨v2, g1, h2.trans g2 (fun k hk ht => ?_), fun k hk => ?_⟩
  · rcases ht with rfl | ht
    · exact .inl rfl
    · rcases h3 k ht with h | h
      · exact .inr h
      · omega
  · rcases g3 k hk with h | h
    · exact h3 k h
    · exact .inr (Nat.le_trans h2.size h)

set_option maxHeartbeats 1000000 in
theorem raw_any (G : Nat) (v : Value) (xs : List Nat) (base : Nat) (a : Option Addr) (len cap : Nat) (ys : List Nat) (w : World) (h : WrB w base G v xs) (hr : RowB w a len cap ys) (hlen : xs.length + len ≤ 140737488355328) (hbase : base ≤ w.heap.size) :
    Calls Tryz.prog 95 #[.pointer (some ⟨G, 0, none⟩), .slice a len cap] w fun e w' => e = .returned (.tuple #[]) ∧ PutB base G v w (xs ++ ys) w' := by
  have hft := h.foot
  obtain ⟨⟨TW, hh⟩, hlow, hown, hap⟩ := h
  have hc := cell_of_cells hh 0
  have hf := free_of_cells hh 0
  simp at hc
  have hyl := hr.1
  obtain ⟨a0, c0, rfl, _, hp0⟩ := hown.row
  go_enter Tryz.func95, Tryz.ntmps95
  go_wp2_with (at_builtin; refine wpList_appendB rfl _ _ 69 rfl 5 Tryz.underlying69 infoB base (.slice a0 xs.length c0) xs rfl hown _ _ _ ys rfl hr (xs.length + len) (xs ++ ys) rfl (by simp; omega) hlen hbase base w (Below.refl _ _) (Nat.le_refl _) ?_; intro a3 c3 w3 hown3 hr3 hg3 hb3 hs3 hp3 hl3; have hh3 := (hg3.block G hft.1 (fun e => hap e.symm)).trans hh; have hc3 := cell_of_cells hh3 0; simp at hc3; have hf3 := free_of_cells hh3 0)
  go_end0
  refine ⟨rfl, .slice a3 (xs.length + len) c3, ?_⟩
  have hT : Touch w w3 (fun k => k = G ∨ (Value.slice a0 xs.length c0).ownBlock = some k) := (Touch.refl _ _).grown hg3 (fun k hk _ => .inr hk)
  have hne : ∀ k, (Value.slice a3 (xs.length + len) c3).ownBlock = some k → k ≠ G := by
    intro k hk e
    subst e
    rcases hl3 k hk with h | h
    · exact hap h
    · omega
  refine ⟨⟨⟨TW, heap_setCell_same w3 G 0 _ _ _ hh3⟩, hlow, ?_, fun e => hne G e rfl⟩, hT.setCell ⟨G, 0, none⟩ _ (fun _ => .inl rfl), hl3⟩
  exact hown3.touch (S := fun k => k = G) ((Touch.refl _ _).setCell ⟨G, 0, none⟩ _ (fun _ => rfl)) hne
end Go.Proofs.YtgmimdnebgncoaaGreat

end

section
/- What an octet.Writer's numbers leave: their bytes, the highest first. -/
set_option linter.unusedVariables false
namespace Go.Proofs.YtgmimdnebgncoaaGreat
open Go.RowKit

/-- The lowest bytes of x, so many, the highest of these first. -/
def beB (width x : Nat) : List Nat := (List.range width).map fun i => x / 2 ^ (8 * (width - 1 - i)) % 256
theorem beB_length (width x : Nat) : (beB width x).length = width := by simp [beB]
theorem beB_small (width x : Nat) : ∀ y ∈ beB width x, y < 256 := by
  intro y hy
  simp only [beB, List.mem_map] at hy
  obtain ⟨i, _, rfl⟩ := hy
  omega
theorem beB_step (width x k : Nat) (h : k < width) : (beB width x).take (k + 1) = (beB width x).take k ++ [x / 2 ^ (8 * (width - 1 - k)) % 256] := by
  rw [List.take_succ_eq_append_getElem (by rw [beB_length]; exact h)]
  congr 1
  simp [beB]

set_option maxHeartbeats 1000000 in
theorem number_any (G : Nat) (v : Value) (xs : List Nat) (base : Nat) (width x : Nat) (w : World) (h : WrB w base G v xs) (hw : width ≤ 8) (hx : x < 18446744073709551616) (hlen : xs.length + 8 ≤ 140737488355328) (hbase : base ≤ w.heap.size) :
    Calls Tryz.prog 75 #[.pointer (some ⟨G, 0, none⟩), .int .i64 width, .int .u64 x] w fun e w' => e = .returned (.tuple #[]) ∧ PutB base G v w (xs ++ beB width x) w' := by
  go_enter Tryz.func75, Tryz.ntmps75
  go_wp2_with fail
  go_loopw [8] (fun i wr => ∃ k : Nat, k ≤ width ∧ i = .int .i64 k ∧ PutB base G v w (xs ++ (beB width x).take k) wr) (fun i _ => width - (intOf i).toNat)
  case atStart => exact ⟨0, Nat.zero_le _, rfl, by simpa using PutB.refl h⟩
  case round =>
    obtain ⟨k, hk, rfl, v1, hw1, ht1, hp1⟩ := hrel
    by_cases hlt : k < width
    · have hl := beB_length width x
      have hkl : (xs ++ (beB width x).take k).length ≤ xs.length + 7 := by simp; omega
      have hi : (k : Int) < width := by omega
      clear hl
      have hrow : RowB (wr.alloc (.cells #[.int .u8 ((x : Int) / 2 ^ (8 * (width - 1 - k)) % 256)] 5)) (some ⟨wr.heap.size, 0, none⟩) 1 1 [x / 2 ^ (8 * (width - 1 - k)) % 256] := by
        refine RowB.new wr _ rfl _ _ _ 1 _ rfl (by omega) (by intro z hz; simp at hz; omega) (fun i hi => ?_)
        match i, hi with
        | 0, _ => simp
      have hw2 : WrB (wr.alloc (.cells #[.int .u8 ((x : Int) / 2 ^ (8 * (width - 1 - k)) % 256)] 5)) base G v1 (xs ++ (beB width x).take k) := hw1.touch (S := fun _ => False) ((Touch.refl _ _).alloc _) (fun h => h) (fun _ _ h => h)
      have ht2 : Touch w (wr.alloc (.cells #[.int .u8 ((x : Int) / 2 ^ (8 * (width - 1 - k)) % 256)] 5)) (fun k => k = G ∨ v.ownBlock = some k) := ht1.alloc _
      have hb2 : base ≤ (wr.alloc (.cells #[.int .u8 ((x : Int) / 2 ^ (8 * (width - 1 - k)) % 256)] 5)).heap.size := by have := ht2.size; omega
      have HR := Lib.hid (raw_any G v1 _ base _ 1 1 _ _ hw2 hrow (by omega) hb2)
      have HT := Lib.hid (PutB.trans (zs := xs ++ (beB width x).take (k + 1)) (w2 := w) ⟨hw2, ht2, hp1⟩)
      clear HT
      have HS := Lib.hid (beB_step width x k hlt)
      have HP : Hid (∀ w2, PutB base G v1 (wr.alloc (.cells #[.int .u8 ((x : Int) / 2 ^ (8 * (width - 1 - k)) % 256)] 5)) (xs ++ (beB width x).take k ++ [x / 2 ^ (8 * (width - 1 - k)) % 256]) w2 → PutB base G v w (xs ++ (beB width x).take (k + 1)) w2) := Lib.hid (fun w2 g => by
        rw [HS.out, ← List.append_assoc]
        exact PutB.trans ⟨hw2, ht2, hp1⟩ g)
      clear hrow hw2 ht2 hb2
      go_wp2_with fail
      refine HR.out.mono ?_
      rintro e w2 ⟨rfl, g⟩
      have hput := HP.out _ g
      clear g
      go_wp2
      exact ⟨⟨k + 1, by omega, by go_num, hput⟩, by simp [intOf]; omega⟩
    · obtain rfl : width = k := by omega
      have hlt' : ¬ (width : Int) < width := by omega
      go_wp2
      go_end0
      refine ⟨rfl, ?_⟩
      rw [List.take_of_length_le (by rw [beB_length]; omega)] at hw1
      exact ⟨v1, hw1, ht1, hp1⟩

/-- Numbers of a writer that there isn't. -/
theorem number_nil (width x : Int) (w : World) (h0 : 0 ≤ width) (hw : width ≤ 8) (hx0 : 0 ≤ x) (hx : x < 18446744073709551616) :
    Calls Tryz.prog 75 #[.pointer none, .int .i64 width, .int .u64 x] w fun e w' => e = .returned (.tuple #[]) ∧ Touch w w' (fun _ => False) := by
  go_enter Tryz.func75, Tryz.ntmps75
  go_wp2_with fail
  go_loopw [8] (fun i wr => ∃ k : Int, 0 ≤ k ∧ k ≤ width ∧ i = .int .i64 k ∧ Touch w wr (fun _ => False)) (fun i _ => (width - intOf i).toNat)
  case atStart => exact ⟨0, by omega, by omega, rfl, Touch.refl _ _⟩
  case round =>
    obtain ⟨k, hk0, hk, rfl, ht1⟩ := hrel
    by_cases hlt : k < width
    · go_wp2_with (go_at_call 95; refine (raw_nil _ _ _ _).mono ?_; rintro e w' ⟨rfl, rfl⟩)
      exact ⟨⟨k + 1, by omega, by omega, rfl, ht1.alloc _⟩, by simp [intOf]; omega⟩
    · go_wp2
      go_end0
      exact ⟨rfl, ht1⟩
end Go.Proofs.YtgmimdnebgncoaaGreat

end

section
/- What the calls of an octet.Writer answer: U8, U16, U32, I64, Bytes, Len; of one that there isn't, too. -/
set_option linter.unusedVariables false
namespace Go.Proofs.YtgmimdnebgncoaaGreat
open Go.RowKit

/-- A number as 64 bits. -/
def u64N (n : Int) : Nat := (n % 18446744073709551616).toNat
theorem u64N_lt (n : Int) : u64N n < 18446744073709551616 := by unfold u64N; omega
theorem u64N_wrap (n : Int) : IntKind.u64.wrap n = (u64N n : Nat) := by rw [IntKind.wrap_u64]; unfold u64N; omega

set_option maxHeartbeats 1000000 in
theorem wU8_any (G : Nat) (v : Value) (xs : List Nat) (base : Nat) (n : Int) (w : World) (h : WrB w base G v xs) (hn : -9223372036854775808 ≤ n ∧ n ≤ 9223372036854775807) (hlen : xs.length + 8 ≤ 140737488355328) (hbase : base ≤ w.heap.size) :
    Calls Tryz.prog 65 #[.pointer (some ⟨G, 0, none⟩), .int .i64 n] w fun e w' => e = .returned (.tuple #[]) ∧ PutB base G v w (xs ++ beB 1 (u64N n)) w' := by
  have H := Lib.hid (number_any G v xs base 1 (u64N n) w h (by omega) (u64N_lt n) hlen hbase)
  have hw := u64N_wrap n
  go_enter Tryz.func65, Tryz.ntmps65
  go_wp2_with fail
  try rw [hw]
  refine H.out.mono ?_
  rintro e w2 ⟨rfl, g⟩
  go_wp2
  go_end0
  exact ⟨rfl, g⟩
set_option maxHeartbeats 1000000 in
theorem wU8_nil (n : Int) (w : World) (hn : -9223372036854775808 ≤ n ∧ n ≤ 9223372036854775807) :
    Calls Tryz.prog 65 #[.pointer none, .int .i64 n] w fun e w' => e = .returned (.tuple #[]) ∧ Touch w w' (fun _ => False) := by
  have hl := u64N_lt n
  have H := Lib.hid (number_nil 1 (u64N n) w (by omega) (by omega) (by omega) (by omega))
  have hw := u64N_wrap n
  go_enter Tryz.func65, Tryz.ntmps65
  go_wp2_with fail
  try rw [hw]
  refine H.out.mono ?_
  rintro e w2 ⟨rfl, g⟩
  go_wp2
  go_end0
  exact ⟨rfl, g⟩

set_option maxHeartbeats 1000000 in
theorem wU16_any (G : Nat) (v : Value) (xs : List Nat) (base : Nat) (n : Int) (w : World) (h : WrB w base G v xs) (hn : -9223372036854775808 ≤ n ∧ n ≤ 9223372036854775807) (hlen : xs.length + 8 ≤ 140737488355328) (hbase : base ≤ w.heap.size) :
    Calls Tryz.prog 66 #[.pointer (some ⟨G, 0, none⟩), .int .i64 n] w fun e w' => e = .returned (.tuple #[]) ∧ PutB base G v w (xs ++ beB 2 (u64N n)) w' := by
  have H := Lib.hid (number_any G v xs base 2 (u64N n) w h (by omega) (u64N_lt n) hlen hbase)
  have hw := u64N_wrap n
  go_enter Tryz.func66, Tryz.ntmps66
  go_wp2_with fail
  try rw [hw]
  refine H.out.mono ?_
  rintro e w2 ⟨rfl, g⟩
  go_wp2
  go_end0
  exact ⟨rfl, g⟩
set_option maxHeartbeats 1000000 in
theorem wU16_nil (n : Int) (w : World) (hn : -9223372036854775808 ≤ n ∧ n ≤ 9223372036854775807) :
    Calls Tryz.prog 66 #[.pointer none, .int .i64 n] w fun e w' => e = .returned (.tuple #[]) ∧ Touch w w' (fun _ => False) := by
  have hl := u64N_lt n
  have H := Lib.hid (number_nil 2 (u64N n) w (by omega) (by omega) (by omega) (by omega))
  have hw := u64N_wrap n
  go_enter Tryz.func66, Tryz.ntmps66
  go_wp2_with fail
  try rw [hw]
  refine H.out.mono ?_
  rintro e w2 ⟨rfl, g⟩
  go_wp2
  go_end0
  exact ⟨rfl, g⟩

set_option maxHeartbeats 1000000 in
theorem wU32_any (G : Nat) (v : Value) (xs : List Nat) (base : Nat) (n : Int) (w : World) (h : WrB w base G v xs) (hn : 0 ≤ n ∧ n ≤ 4294967295) (hlen : xs.length + 8 ≤ 140737488355328) (hbase : base ≤ w.heap.size) :
    Calls Tryz.prog 64 #[.pointer (some ⟨G, 0, none⟩), .int .u32 n] w fun e w' => e = .returned (.tuple #[]) ∧ PutB base G v w (xs ++ beB 4 (u64N n)) w' := by
  have H := Lib.hid (number_any G v xs base 4 (u64N n) w h (by omega) (u64N_lt n) hlen hbase)
  have hw := u64N_wrap n
  go_enter Tryz.func64, Tryz.ntmps64
  go_wp2_with fail
  try rw [hw]
  refine H.out.mono ?_
  rintro e w2 ⟨rfl, g⟩
  go_wp2
  go_end0
  exact ⟨rfl, g⟩
set_option maxHeartbeats 1000000 in
theorem wU32_nil (n : Int) (w : World) (hn : 0 ≤ n ∧ n ≤ 4294967295) :
    Calls Tryz.prog 64 #[.pointer none, .int .u32 n] w fun e w' => e = .returned (.tuple #[]) ∧ Touch w w' (fun _ => False) := by
  have hl := u64N_lt n
  have H := Lib.hid (number_nil 4 (u64N n) w (by omega) (by omega) (by omega) (by omega))
  have hw := u64N_wrap n
  go_enter Tryz.func64, Tryz.ntmps64
  go_wp2_with fail
  try rw [hw]
  refine H.out.mono ?_
  rintro e w2 ⟨rfl, g⟩
  go_wp2
  go_end0
  exact ⟨rfl, g⟩

set_option maxHeartbeats 1000000 in
theorem wlen_any (G : Nat) (v : Value) (xs : List Nat) (base : Nat) (w : World) (h : WrB w base G v xs) :
    Calls Tryz.prog 125 #[.pointer (some ⟨G, 0, none⟩)] w fun e w' => e = .returned (.int .i64 xs.length) ∧ w' = w := by
  obtain ⟨⟨TW, hh⟩, hlow, hown, hap⟩ := h
  have hc := cell_of_cells hh 0
  simp at hc
  obtain ⟨a0, c0, rfl, _, hp0⟩ := hown.row
  go_enter Tryz.func125, Tryz.ntmps125
  go_wp2
  go_ret
  exact ⟨rfl, rfl⟩
theorem wlen_nil (w : World) :
    Calls Tryz.prog 125 #[.pointer none] w fun e w' => e = .returned (.int .i64 0) ∧ w' = w := by
  go_enter Tryz.func125, Tryz.ntmps125
  go_wp2
  go_ret
  exact ⟨rfl, rfl⟩

/-- A slice that is a row of its own, all of it new: what a call hands back. -/
def FreshB (w w' : World) (v : Value) (xs : List Nat) : Prop :=
  OwnB w' w.heap.size 5 v xs ∧ Touch w w' (fun _ => False)

theorem FreshB.touch {w w' : World} {v : Value} {xs : List Nat} (h : FreshB w w' v xs) : Touch w w' (fun _ => False) := h.2
theorem FreshB.row {w w' : World} {v : Value} {xs : List Nat} (h : FreshB w w' v xs) : ∃ a cap, v = .slice a xs.length cap ∧ RowB w' a xs.length cap xs := by
  obtain ⟨a, cap, hv, hr, _⟩ := h.1.row
  exact ⟨a, cap, hv, hr⟩

set_option maxHeartbeats 1000000 in
theorem clone_any (a : Option Addr) (len cap : Nat) (xs : List Nat) (w : World) (hr : RowB w a len cap xs) (hlen : len ≤ 140737488355328) :
    Calls Tryz.prog 55 #[.slice a len cap] w fun e w' => ∃ a' cap', e = .returned (.slice a' len cap') ∧ FreshB w w' (.slice a' len cap') xs := by
  have hq := fun (w : World) (a : Option Addr) (n c : Nat) => Lib.run_eql_slice_nil (P := Tryz.prog) w 69 5 a n c 0 0 Tryz.underlying69
  have hxl := hr.1
  have hlt := hr.lt
  cases a with
  | none =>
    have hl : len = 0 := by
      rcases hr.2.2.2.2.2 with h | ⟨b, off, h, _⟩
      · exact h
      · cases h
    subst hl
    have hx : xs = [] := List.length_eq_zero_iff.1 hxl
    subst hx
    go_enter Tryz.func55, Tryz.ntmps55
    go_wp2
    go_ret
    exact ⟨none, 0, rfl, ⟨OwnB.nil _ _ _, Touch.refl _ _⟩⟩
  | some ad =>
    go_enter Tryz.func55, Tryz.ntmps55
    go_wp2_with (at_builtin; refine wpList_appendB rfl _ _ 69 rfl 5 Tryz.underlying69 infoB w.heap.size (.slice (some ⟨w.heap.size, 0, none⟩) 0 0) [] rfl (OwnB.lit w _ rfl _ (Nat.le_refl _) _ _ _ _ rfl rfl (by decide) (by decide)) _ _ _ xs rfl (hr.old (Below.alloc (Below.refl _ _) (Nat.le_refl _) _)) len xs rfl hxl (by omega) (by simp) w.heap.size w (Below.alloc (Below.refl _ _) (Nat.le_refl _) _) (Nat.le_refl _) ?_; intro a3 c3 w3 hown3 hr3 hg3 hb3 hs3 hp3 hl3)
    go_ret
    exact ⟨a3, c3, rfl, ⟨hown3, Touch.ofBelow hb3 (fun k h1 h2 => by omega)⟩⟩

theorem clone_nil (w : World) : Calls Tryz.prog 55 #[.slice none 0 0] w fun e w' => e = .returned (.slice none 0 0) ∧ w' = w := by
  have hq := fun (w : World) (a : Option Addr) (n c : Nat) => Lib.run_eql_slice_nil (P := Tryz.prog) w 69 5 a n c 0 0 Tryz.underlying69
  go_enter Tryz.func55, Tryz.ntmps55
  go_wp2
  go_ret
  exact ⟨rfl, rfl⟩

/-- Bytes of a writer: a copy. -/
theorem wbytes_any (G : Nat) (v : Value) (xs : List Nat) (base : Nat) (w : World) (h : WrB w base G v xs) (hlen : xs.length ≤ 140737488355328) :
    Calls Tryz.prog 46 #[.pointer (some ⟨G, 0, none⟩)] w fun e w' => ∃ a' cap', e = .returned (.slice a' xs.length cap') ∧ FreshB w w' (.slice a' xs.length cap') xs := by
  obtain ⟨⟨TW, hh⟩, hlow, hown, hap⟩ := h
  have hc := cell_of_cells hh 0
  simp at hc
  obtain ⟨a0, c0, rfl, hrow, hp0⟩ := hown.row
  have H := Lib.hid (clone_any a0 xs.length c0 xs w hrow hlen)
  go_enter Tryz.func46, Tryz.ntmps46
  go_wp2_with (go_at_call 55; refine H.out.mono ?_; rintro e w' ⟨a', cap', rfl, hf⟩)
  go_ret
  exact ⟨a', cap', rfl, hf⟩
theorem wbytes_nil (w : World) :
    Calls Tryz.prog 46 #[.pointer none] w fun e w' => e = .returned (.slice none 0 0) ∧ w' = w := by
  go_enter Tryz.func46, Tryz.ntmps46
  go_wp2_with fail
  go_ret
  exact ⟨rfl, rfl⟩
end Go.Proofs.YtgmimdnebgncoaaGreat

end

section
/- Small words of many walks: rows of a constant's bytes, new rows, what a touch leaves. -/
set_option linter.unusedVariables false
namespace Go.Proofs.YtgmimdnebgncoaaGreat
open Go.RowKit

/-- A row that was just laid, with the mark of a constant behind it. -/
theorem row_mark (w : World) (cs : Array Value) (m : Nat × Nat) (n : Nat) (xs : List Nat) (hcs : cs.toList = xs.map cellB) (hn : xs.length = n) (hx : ∀ x ∈ xs, x < 256) (hs : n ≤ 281474976710656) :
    RowB (w.alloc (.cells cs 5 m)) (some ⟨w.heap.size, 0, none⟩) n n xs := by
  refine RowB.new w _ rfl cs _ m n xs hn hs hx (fun i hi => ?_)
  have := congrArg (fun l : List Value => l[i]?) hcs
  simp only [List.getElem?_map, List.getElem?_eq_getElem hi] at this
  simpa [cellB] using this
theorem Touch.under {w w' : World} {B : Nat} (t : Touch w w' (fun _ => False)) (h : B ≤ w.heap.size) : Below B w w' := t.below (fun _ _ h => h.elim) h
theorem FreshB.row' {w w' : World} {a : Option Addr} {n c : Nat} {xs : List Nat} (h : FreshB w w' (.slice a n c) xs) : xs.length = n ∧ RowB w' a n c xs := by
  obtain ⟨a', c', hv, hr⟩ := h.row
  simp only [Value.slice.injEq] at hv
  obtain ⟨rfl, hn, rfl⟩ := hv
  rw [hn]
  exact ⟨rfl, hr⟩
theorem fresh_nil {w w' : World} (t : Touch w w' (fun _ => False)) : FreshB w w' (.slice none 0 0) [] := ⟨OwnB.nil _ _ _, t⟩

/-- A new row stays new where blocks are touched that are the call's own and were there before it. -/
theorem FreshB.past {w w7 w8 w9 : World} {v : Value} {ys : List Nat} {S : Nat → Prop} (h : FreshB w7 w8 v ys) (T : Touch w w7 (fun _ => False)) (t : Touch w8 w9 S) (hS : ∀ k, S k → w.heap.size ≤ k ∧ k < w7.heap.size) : FreshB w w9 v ys := by
  obtain ⟨ho, ht⟩ := h
  have hs := T.size
  refine ⟨(ho.base (fun k hk => ?_)).touch t (fun k hk hs2 => ?_), (T.trans ht (fun _ _ h => h)).trans t (fun k hk h => by have := (hS k h).1; omega)⟩
  · have := (ho.own.lt k hk).1; omega
  · have := (ho.own.lt k hk).1; have := (hS k hs2).2; omega
end Go.Proofs.YtgmimdnebgncoaaGreat

end

section
/- What the calls of an octet.Reader answer and leave. -/
set_option linter.unusedVariables false
namespace Go.Proofs.YtgmimdnebgncoaaGreat
open Go.RowKit

/-- The reader in block G has the bytes xs left, and the error err. -/
structure RdB (w : World) (G : Nat) (a : Option Addr) (len cap : Nat) (xs : List Nat) (err : Int) : Prop where
  head : w.heap[G]? = some (.cells #[.slice a len cap, .int .i64 err] 100 (0, 0))
  row : RowB w a len cap xs
  apart : ∀ x, a = some x → len = 0 ∨ x.block ≠ G

theorem RdB.lt {w : World} {G : Nat} {a : Option Addr} {len cap : Nat} {xs : List Nat} {err : Int} (h : RdB w G a len cap xs err) : G < w.heap.size := (Array.getElem?_eq_some_iff.1 h.head).1
theorem RdB.touch {w w' : World} {G : Nat} {a : Option Addr} {len cap : Nat} {xs : List Nat} {err : Int} {S : Nat → Prop} (h : RdB w G a len cap xs err) (t : Touch w w' S) (hG : ¬ S G) (ha : ∀ x, a = some x → len = 0 ∨ ¬ S x.block) : RdB w' G a len cap xs err :=
  ⟨(t.block G h.lt hG).trans h.head, h.row.touch t ha, h.apart⟩

set_option maxHeartbeats 1000000 in
theorem take_nil (n : Int) (w : World) :
    Calls Tryz.prog 69 #[.pointer none, .int .i64 n] w fun e w' => e = .returned (.slice none 0 0) ∧ w' = w := by
  go_enter Tryz.func69, Tryz.ntmps69
  go_wp2
  go_ret
  exact ⟨rfl, rfl⟩

set_option maxHeartbeats 1000000 in
theorem take_none (G : Nat) (a : Option Addr) (len cap : Nat) (xs : List Nat) (err n : Int) (w : World) (h : RdB w G a len cap xs err) (hn : n ≤ 0) :
    Calls Tryz.prog 69 #[.pointer (some ⟨G, 0, none⟩), .int .i64 n] w fun e w' => e = .returned (.slice none 0 0) ∧ w' = w := by
  go_enter Tryz.func69, Tryz.ntmps69
  go_wp2
  go_ret
  exact ⟨rfl, rfl⟩

set_option maxHeartbeats 1000000 in
theorem take_short (G : Nat) (a : Option Addr) (len cap : Nat) (xs : List Nat) (err n : Int) (w : World) (h : RdB w G a len cap xs err) (hn : (len : Int) < n) :
    Calls Tryz.prog 69 #[.pointer (some ⟨G, 0, none⟩), .int .i64 n] w fun e w' => e = .returned (.slice none 0 0) ∧ RdB w' G none 0 0 [] 2 ∧ Touch w w' (fun k => k = G) := by
  obtain ⟨hh, hrow, hap⟩ := h
  have hc0 := cell_of_cells hh 0
  have hc1 := cell_of_cells hh 1
  have hf0 := free_of_cells hh 0
  have hf1 := free_of_cells hh 1
  simp at hc0 hc1
  have hn0 : 0 < n := by omega
  go_enter Tryz.func69, Tryz.ntmps69
  go_wp2
  go_ret
  refine ⟨rfl, ⟨?_, RowB.nil _ _ _ (by omega), by simp⟩, ?_⟩
  · have e := heap_setCell_same _ G 1 _ _ (.int .i64 2) (heap_setCell_same w G 0 _ _ (.slice none 0 0) hh)
    simpa using e
  · have T : Touch w (w.setCell ⟨G, 0, none⟩ (.slice none 0 0)) (fun k => k = G) := (Touch.refl _ _).setCell ⟨G, 0, none⟩ _ (fun _ => rfl)
    exact T.setCell ⟨G, 1, none⟩ _ (fun _ => rfl)

/-- What taking n bytes leaves. -/
def TookB (G : Nat) (a : Option Addr) (len cap : Nat) (xs : List Nat) (err : Int) (n : Nat) (w w' : World) : Prop :=
  ∃ a', RdB w' G a' (len - n) (cap - n) (xs.drop n) err ∧ RowB w' a n cap (xs.take n) ∧ Touch w w' (fun k => k = G) ∧ (∀ x, a' = some x → ∃ y, a = some y ∧ x.block = y.block)

set_option maxHeartbeats 1000000 in
theorem take_some (G : Nat) (a : Option Addr) (len cap : Nat) (xs : List Nat) (err : Int) (n : Nat) (w : World) (h : RdB w G a len cap xs err) (hn0 : 0 < n) (hn : n ≤ len) :
    Calls Tryz.prog 69 #[.pointer (some ⟨G, 0, none⟩), .int .i64 n] w fun e w' => e = .returned (.slice a n cap) ∧ TookB G a len cap xs err n w w' := by
  obtain ⟨hh, hrow, hap⟩ := h
  have hc0 := cell_of_cells hh 0
  have hc1 := cell_of_cells hh 1
  have hf0 := free_of_cells hh 0
  have hf1 := free_of_cells hh 1
  simp at hc0 hc1
  have hle := hrow.2.1
  have hcm := hrow.2.2.1
  have i1 : (0 : Int) < n := by omega
  have i2 : (n : Int) ≤ (len : Int) := by omega
  have i3 : n ≤ cap := by omega
  by_cases hcn : cap = n
  · subst hcn
    have hln : len = cap := by omega
    subst hln
    go_enter Tryz.func69, Tryz.ntmps69
    go_wp2
    go_ret
    refine ⟨rfl, ?_⟩
    have T : Touch w (w.setCell ⟨G, 0, none⟩ (.slice a 0 0)) (fun k => k = G) := (Touch.refl _ _).setCell ⟨G, 0, none⟩ _ (fun _ => rfl)
    refine ⟨a, ⟨?_, ?_, fun x hx => .inl (by omega)⟩, ?_, by simpa using T, fun x hx => ⟨x, hx, rfl⟩⟩
    · have e := heap_setCell_same w G 0 _ _ (.slice a 0 0) hh
      simpa using e
    · have e : xs.drop len = [] := List.drop_of_length_le (by have := hrow.1; omega)
      rw [e, Nat.sub_self]
      exact RowB.nil _ _ _ (by omega)
    · rw [List.take_of_length_le (by have := hrow.1; omega)]
      have := hrow.touch T (fun x hx => by rcases hap x hx with h | h; exact .inl h; exact .inr h)
      simpa using this
  · have hcn' : ¬ n = cap := fun h => hcn h.symm
    go_enter Tryz.func69, Tryz.ntmps69
    go_wp2
    go_ret
    refine ⟨rfl, ?_⟩
    have T : Touch w (w.setCell ⟨G, 0, none⟩ (.slice (a.map (fun x => x.add n)) (len - n) (cap - n))) (fun k => k = G) := (Touch.refl _ _).setCell ⟨G, 0, none⟩ _ (fun _ => rfl)
    have hro : RowB (w.setCell ⟨G, 0, none⟩ (.slice (a.map (fun x => x.add n)) (len - n) (cap - n))) a len cap xs := hrow.touch T (fun x hx => by rcases hap x hx with h | h; exact .inl h; exact .inr h)
    have hblk : ∀ x, a.map (fun x => x.add n) = some x → ∃ y, a = some y ∧ x.block = y.block := by
      intro x hx
      cases a with
      | none => simp at hx
      | some y =>
        simp only [Option.map_some, Option.some.injEq] at hx
        exact ⟨y, rfl, by rw [← hx]; unfold Addr.add; split <;> rfl⟩
    refine ⟨a.map (fun x => x.add n), ⟨?_, hro.dropMap n hn, fun x hx => ?_⟩, hro.take n hn, T, hblk⟩
    · have e := heap_setCell_same w G 0 _ _ (.slice (a.map (fun x => x.add n)) (len - n) (cap - n)) hh
      simpa using e
    · obtain ⟨y, hy, hxy⟩ := hblk x hx
      rcases hap y hy with h | h
      · exact .inl (by omega)
      · right; rw [hxy]; exact h
end Go.Proofs.YtgmimdnebgncoaaGreat

end

section
/- What octet.whole answers: the number whose bytes a reader has taken. -/
set_option linter.unusedVariables false
namespace Go.Proofs.YtgmimdnebgncoaaGreat
open Go.RowKit

/-- The number whose bytes these are, the highest first. -/
def beN (l : List Nat) : Nat := l.foldl (fun x c => x * 256 + c) 0
theorem beN_snoc (l : List Nat) (c : Nat) : beN (l ++ [c]) = beN l * 256 + c := by simp [beN]
theorem beN_step (l : List Nat) (k : Nat) (h : k < l.length) : beN (l.take (k + 1)) = beN (l.take k) * 256 + l[k] := by
  rw [List.take_succ_eq_append_getElem h, beN_snoc]
theorem beN_lt (l : List Nat) (h : ∀ x ∈ l, x < 256) : ∀ k, k ≤ l.length → beN (l.take k) < 256 ^ k
  | 0, _ => by simp [beN]
  | k + 1, hk => by
    have h1 := beN_lt l h k (by omega)
    rw [beN_step l k (by omega), Nat.pow_succ]
    have h2 := h _ (List.getElem_mem (show k < l.length by omega))
    have : (beN (l.take k) + 1) * 256 ≤ 256 ^ k * 256 := Nat.mul_le_mul_right _ h1
    omega
theorem or64 (x y : Nat) (hx : x < 72057594037927936) (hy : y < 256) : bits BinOp.or IntKind.u64 ((x : Int) * 256) (y : Int) = ((x * 256 + y : Nat) : Int) := by
  have e := bits_join .u64 64 (by decide) (fun n a b => by rw [IntKind.wrap_u64]; omega) 8 ((x : Int) * 256) (y : Int) (by omega) (by omega) (by omega) (by omega) (by omega) (by omega)
  rw [e]; omega

set_option maxHeartbeats 1000000 in
theorem whole_nil (n : Int) (w : World) :
    Calls Tryz.prog 68 #[.int .i64 n, .func (.func 69) #[.pointer none] #[]] w fun e w' => e = .returned (.int .u64 0) ∧ w' = w := by
  go_enter Tryz.func68, Tryz.ntmps68
  go_wp2_with (go_at_call 69; refine (take_nil _ _).mono ?_; rintro e w' ⟨rfl, rfl⟩)
  go_loop [5, 12] (fun x i => x = .int .u64 0 ∧ i = .int .i64 0) (fun _ _ => 0)
  case atStart => exact ⟨rfl, rfl⟩
  case round =>
    obtain ⟨rfl, rfl⟩ := hrel
    go_wp2
    go_ret
    exact ⟨rfl, rfl⟩

set_option maxHeartbeats 1000000 in
theorem whole_short (G : Nat) (a : Option Addr) (len cap : Nat) (xs : List Nat) (err n : Int) (w : World) (h : RdB w G a len cap xs err) (hn : (len : Int) < n) :
    Calls Tryz.prog 68 #[.int .i64 n, .func (.func 69) #[.pointer (some ⟨G, 0, none⟩)] #[]] w fun e w' => e = .returned (.int .u64 0) ∧ RdB w' G none 0 0 [] 2 ∧ Touch w w' (fun k => k = G) := by
  have H := Lib.hid (take_short G a len cap xs err n w h hn)
  clear h
  go_enter Tryz.func68, Tryz.ntmps68
  go_wp2_with (go_at_call 69; refine H.out.mono ?_; rintro e w' ⟨rfl, hr, ht⟩)
  go_loop [5, 12] (fun x i => x = .int .u64 0 ∧ i = .int .i64 0) (fun _ _ => 0)
  case atStart => exact ⟨rfl, rfl⟩
  case round =>
    obtain ⟨rfl, rfl⟩ := hrel
    go_wp2
    go_ret
    exact ⟨rfl, hr, ht⟩

set_option maxHeartbeats 1000000 in
theorem whole_any (G : Nat) (a : Option Addr) (len cap : Nat) (xs : List Nat) (err : Int) (n : Nat) (w : World) (h : RdB w G a len cap xs err) (hn0 : 0 < n) (hn : n ≤ len) (hn8 : n ≤ 8) :
    Calls Tryz.prog 68 #[.int .i64 n, .func (.func 69) #[.pointer (some ⟨G, 0, none⟩)] #[]] w fun e w' => e = .returned (.int .u64 (beN (xs.take n) : Nat)) ∧ TookB G a len cap xs err n w w' := by
  have H := Lib.hid (take_some G a len cap xs err n w h hn0 hn)
  have hxl := h.row.1
  clear h
  go_enter Tryz.func68, Tryz.ntmps68
  go_wp2_with (go_at_call 69; refine H.out.mono ?_; rintro e w' ⟨rfl, hto⟩)
  obtain ⟨a', hrd, hrow, ht, hb⟩ := hto
  have hro := hrow
  obtain ⟨h1, h2, h3, h6, h4, h5⟩ := hro
  obtain h0 | ⟨b, off, rfl, hc⟩ := h5
  · omega
  have HL := Lib.hid h1
  have HSM := Lib.hid h4
  clear h1 h4
  go_loop [5, 12] (fun s i => ∃ k : Nat, k ≤ n ∧ i = .int .i64 k ∧ s = .int .u64 (beN ((xs.take n).take k) : Nat)) (fun _ i => n - (intOf i).toNat)
  case atStart => exact ⟨0, Nat.zero_le _, rfl, rfl⟩
  case round =>
    obtain ⟨k, hk, rfl, rfl⟩ := hrel
    by_cases hlt : k < n
    · have hkx : k < (xs.take n).length := by rw [HL.out]; exact hlt
      have c0 := hc k hkx
      have b0 := HSM.out _ (List.getElem_mem hkx)
      have HS := Lib.hid (beN_step (xs.take n) k hkx)
      have hlt2 := beN_lt (xs.take n) HSM.out k (by rw [HL.out]; omega)
      have hbig : beN ((xs.take n).take k) < 72057594037927936 := by
        have : (256 : Nat) ^ k ≤ 256 ^ 7 := Nat.pow_le_pow_right (by omega) (by omega)
        have e : (256 : Nat) ^ 7 = 72057594037927936 := by decide
        omega
      clear hlt2 hc
      generalize (xs.take n)[k] = y at *
      generalize beN ((xs.take n).take k) = x at *
      have hor := or64 x y hbig b0
      have i1 : (k : Int) < n := by omega
      go_wp2
      refine ⟨⟨k + 1, by omega, by go_num, ?_⟩, by simp [intOf]; omega⟩
      rw [HS.out]; simp
    · obtain rfl : n = k := by omega
      have i1 : ¬ (n : Int) < n := by omega
      clear hc
      go_wp2
      go_ret
      refine ⟨?_, a', hrd, hrow, ht, hb⟩
      have e : (xs.take n).take n = xs.take n := by rw [List.take_take]; simp
      show Ending.returned (.int .u64 ((beN ((xs.take n).take n) : Nat) : Int)) = _
      rw [e]
end Go.Proofs.YtgmimdnebgncoaaGreat

end

section
/- What an octet.Reader's numbers, Raw, Left, End and NewReader answer. -/
set_option linter.unusedVariables false
namespace Go.Proofs.YtgmimdnebgncoaaGreat
open Go.RowKit

/-- A number of 64 bits as a signed one. -/
def sgn (x : Nat) : Int := if x < 9223372036854775808 then x else (x : Int) - 18446744073709551616
theorem sgn_wrap (x : Nat) (h : x < 18446744073709551616) : IntKind.i64.wrap (x : Int) = sgn x := by
  rw [IntKind.wrap_i64]; unfold sgn; split <;> omega
theorem sgn_small (x : Nat) (h : x < 9223372036854775808) : sgn x = x := by unfold sgn; rw [if_pos h]
theorem sgn_w64 (x : Nat) (h : x < 18446744073709551616) : wrap64 (x : Int) = sgn x := by
  unfold wrap64 sgn; split <;> omega

set_option maxHeartbeats 1000000 in
theorem rU8_nil (w : World) : Calls Tryz.prog 53 #[.pointer none] w fun e w' => e = .returned (.int .i64 0) ∧ w' = w := by
  go_enter Tryz.func53, Tryz.ntmps53
  go_wp2_with (go_at_call 68; refine (whole_nil _ _).mono ?_; rintro e w' ⟨rfl, rfl⟩)
  go_ret
  exact ⟨rfl, rfl⟩
set_option maxHeartbeats 1000000 in
theorem rU8_short (G : Nat) (a : Option Addr) (len cap : Nat) (xs : List Nat) (err : Int) (w : World) (h : RdB w G a len cap xs err) (hn : len < 1) :
    Calls Tryz.prog 53 #[.pointer (some ⟨G, 0, none⟩)] w fun e w' => e = .returned (.int .i64 0) ∧ RdB w' G none 0 0 [] 2 ∧ Touch w w' (fun k => k = G) := by
  have H := Lib.hid (whole_short G a len cap xs err 1 w h (by omega))
  clear h
  go_enter Tryz.func53, Tryz.ntmps53
  go_wp2_with (go_at_call 68; refine H.out.mono ?_; rintro e w' ⟨rfl, hr, ht⟩)
  go_ret
  exact ⟨rfl, hr, ht⟩
set_option maxHeartbeats 1000000 in
theorem rU8_any (G : Nat) (a : Option Addr) (len cap : Nat) (xs : List Nat) (err : Int) (w : World) (h : RdB w G a len cap xs err) (hn : 1 ≤ len) :
    Calls Tryz.prog 53 #[.pointer (some ⟨G, 0, none⟩)] w fun e w' => e = .returned (.int .i64 (beN (xs.take 1) : Nat)) ∧ TookB G a len cap xs err 1 w w' := by
  have H := Lib.hid (whole_any G a len cap xs err 1 w h (by omega) hn (by omega))
  have hb : beN (xs.take 1) < 256 ^ 1 := by
    have := beN_lt xs h.row.2.2.2.2.1 1 (by rw [h.row.1]; omega)
    exact this
  have hb2 : beN (xs.take 1) < 256 := by
    have e : (256 : Nat) ^ 1 = 256 := by decide
    omega
  clear h
  have HS := Lib.hid (sgn_w64 (beN (xs.take 1)) (by omega))
  generalize hz : beN (xs.take 1) = z at *
  clear hz hb
  go_enter Tryz.func53, Tryz.ntmps53
  go_wp2_with (go_at_call 68; refine H.out.mono ?_; rintro e w' ⟨rfl, ht⟩)
  try rw [HS.out]
  go_ret
  exact ⟨rfl, ht⟩

set_option maxHeartbeats 1000000 in
theorem rU16_nil (w : World) : Calls Tryz.prog 54 #[.pointer none] w fun e w' => e = .returned (.int .i64 0) ∧ w' = w := by
  go_enter Tryz.func54, Tryz.ntmps54
  go_wp2_with (go_at_call 68; refine (whole_nil _ _).mono ?_; rintro e w' ⟨rfl, rfl⟩)
  go_ret
  exact ⟨rfl, rfl⟩
set_option maxHeartbeats 1000000 in
theorem rU16_short (G : Nat) (a : Option Addr) (len cap : Nat) (xs : List Nat) (err : Int) (w : World) (h : RdB w G a len cap xs err) (hn : len < 2) :
    Calls Tryz.prog 54 #[.pointer (some ⟨G, 0, none⟩)] w fun e w' => e = .returned (.int .i64 0) ∧ RdB w' G none 0 0 [] 2 ∧ Touch w w' (fun k => k = G) := by
  have H := Lib.hid (whole_short G a len cap xs err 2 w h (by omega))
  clear h
  go_enter Tryz.func54, Tryz.ntmps54
  go_wp2_with (go_at_call 68; refine H.out.mono ?_; rintro e w' ⟨rfl, hr, ht⟩)
  go_ret
  exact ⟨rfl, hr, ht⟩
set_option maxHeartbeats 1000000 in
theorem rU16_any (G : Nat) (a : Option Addr) (len cap : Nat) (xs : List Nat) (err : Int) (w : World) (h : RdB w G a len cap xs err) (hn : 2 ≤ len) :
    Calls Tryz.prog 54 #[.pointer (some ⟨G, 0, none⟩)] w fun e w' => e = .returned (.int .i64 (beN (xs.take 2) : Nat)) ∧ TookB G a len cap xs err 2 w w' := by
  have H := Lib.hid (whole_any G a len cap xs err 2 w h (by omega) hn (by omega))
  have hb : beN (xs.take 2) < 256 ^ 2 := by
    have := beN_lt xs h.row.2.2.2.2.1 2 (by rw [h.row.1]; omega)
    exact this
  have hb2 : beN (xs.take 2) < 65536 := by
    have e : (256 : Nat) ^ 2 = 65536 := by decide
    omega
  clear h
  have HS := Lib.hid (sgn_w64 (beN (xs.take 2)) (by omega))
  generalize hz : beN (xs.take 2) = z at *
  clear hz hb
  go_enter Tryz.func54, Tryz.ntmps54
  go_wp2_with (go_at_call 68; refine H.out.mono ?_; rintro e w' ⟨rfl, ht⟩)
  try rw [HS.out]
  go_ret
  exact ⟨rfl, ht⟩

set_option maxHeartbeats 1000000 in
theorem rU32_nil (w : World) : Calls Tryz.prog 51 #[.pointer none] w fun e w' => e = .returned (.int .u32 0) ∧ w' = w := by
  go_enter Tryz.func51, Tryz.ntmps51
  go_wp2_with (go_at_call 68; refine (whole_nil _ _).mono ?_; rintro e w' ⟨rfl, rfl⟩)
  go_ret
  exact ⟨rfl, rfl⟩
set_option maxHeartbeats 1000000 in
theorem rU32_short (G : Nat) (a : Option Addr) (len cap : Nat) (xs : List Nat) (err : Int) (w : World) (h : RdB w G a len cap xs err) (hn : len < 4) :
    Calls Tryz.prog 51 #[.pointer (some ⟨G, 0, none⟩)] w fun e w' => e = .returned (.int .u32 0) ∧ RdB w' G none 0 0 [] 2 ∧ Touch w w' (fun k => k = G) := by
  have H := Lib.hid (whole_short G a len cap xs err 4 w h (by omega))
  clear h
  go_enter Tryz.func51, Tryz.ntmps51
  go_wp2_with (go_at_call 68; refine H.out.mono ?_; rintro e w' ⟨rfl, hr, ht⟩)
  go_ret
  exact ⟨rfl, hr, ht⟩
set_option maxHeartbeats 1000000 in
theorem rU32_any (G : Nat) (a : Option Addr) (len cap : Nat) (xs : List Nat) (err : Int) (w : World) (h : RdB w G a len cap xs err) (hn : 4 ≤ len) :
    Calls Tryz.prog 51 #[.pointer (some ⟨G, 0, none⟩)] w fun e w' => e = .returned (.int .u32 (beN (xs.take 4) : Nat)) ∧ TookB G a len cap xs err 4 w w' := by
  have H := Lib.hid (whole_any G a len cap xs err 4 w h (by omega) hn (by omega))
  have hb : beN (xs.take 4) < 256 ^ 4 := by
    have := beN_lt xs h.row.2.2.2.2.1 4 (by rw [h.row.1]; omega)
    exact this
  have hb2 : beN (xs.take 4) < 4294967296 := by
    have e : (256 : Nat) ^ 4 = 4294967296 := by decide
    omega
  clear h
  have HS := Lib.hid (sgn_w64 (beN (xs.take 4)) (by omega))
  generalize hz : beN (xs.take 4) = z at *
  clear hz hb
  go_enter Tryz.func51, Tryz.ntmps51
  go_wp2_with (go_at_call 68; refine H.out.mono ?_; rintro e w' ⟨rfl, ht⟩)
  try rw [HS.out]
  go_ret
  exact ⟨rfl, ht⟩

theorem rleft_nil (w : World) : Calls Tryz.prog 49 #[.pointer none] w fun e w' => e = .returned (.int .i64 0) ∧ w' = w := by
  go_enter Tryz.func49, Tryz.ntmps49
  go_wp2
  go_ret
  exact ⟨rfl, rfl⟩
theorem rleft_any (G : Nat) (a : Option Addr) (len cap : Nat) (xs : List Nat) (err : Int) (w : World) (h : RdB w G a len cap xs err) :
    Calls Tryz.prog 49 #[.pointer (some ⟨G, 0, none⟩)] w fun e w' => e = .returned (.int .i64 len) ∧ w' = w := by
  have hc := cell_of_cells h.head 0
  simp at hc
  go_enter Tryz.func49, Tryz.ntmps49
  go_wp2
  go_ret
  exact ⟨rfl, rfl⟩
/-- What End tells. -/
def endOf (len : Nat) (err : Int) : Int := if err = 0 then (if len = 0 then 0 else 3) else err
/-- A reader that is new. -/
def NewRd (w w' : World) (v : Value) (len : Nat) (xs : List Nat) : Prop :=
  ∃ G a cap, v = .pointer (some ⟨G, 0, none⟩) ∧ RdB w' G a len cap xs 0 ∧ Touch w w' (fun _ => False) ∧ w.heap.size ≤ G ∧ (∀ x, a = some x → len = 0 ∨ w.heap.size ≤ x.block)
set_option maxHeartbeats 1000000 in
theorem newreader_any (a : Option Addr) (len cap : Nat) (xs : List Nat) (w : World) (hr : RowB w a len cap xs) (hlen : len ≤ 140737488355328) :
    Calls Tryz.prog 35 #[.slice a len cap] w fun e w' => ∃ v, e = .returned v ∧ NewRd w w' v len xs := by
  have H := Lib.hid (clone_any a len cap xs w hr hlen)
  have hxl := Lib.hid hr.1
  clear hr
  go_enter Tryz.func35, Tryz.ntmps35
  go_wp2_with fail
  refine H.out.mono ?_
  rintro e w1 ⟨a', cap', rfl, hf⟩
  go_wp2
  go_ret
  obtain ⟨hown, htouch⟩ := hf
  obtain ⟨a2, c2, hv, hrow, hp⟩ := hown.row
  have hl := hxl.out
  subst hl
  simp only [Value.slice.injEq, true_and] at hv
  obtain ⟨rfl, rfl⟩ := hv
  have hs := htouch.size
  refine ⟨_, rfl, w1.heap.size, a', cap', rfl, ⟨by show (w1.heap.push _)[w1.heap.size]? = _; simp, hrow.old (Below.alloc (Below.refl _ _) (Nat.le_refl _) _), ?_⟩, htouch.alloc _, hs, ?_⟩
  · intro x hx
    right
    rcases hp with h | ⟨g, h, _, hg⟩
    · rw [hx] at h; cases h
    · rw [hx] at h; cases h; simp; omega
  · intro x hx
    right
    rcases hp with h | ⟨g, h, hg, _⟩
    · rw [hx] at h; cases h
    · rw [hx] at h; cases h; exact hg
end Go.Proofs.YtgmimdnebgncoaaGreat

end

section
/- What the reference's numbers as bytes are. -/
set_option linter.unusedVariables false
namespace Go.Proofs.YtgmimdnebgncoaaGreat
open Go.RowKit

theorem be_two (n : Int) : [Value.int .u8 (n / 256 % 256), Value.int .u8 (n % 256)] = (beB 2 (u64N n)).map cellB := by
  simp [beB, List.range_succ, cellB, u64N]
  omega
theorem be_four (n : Int) (hn : 0 ≤ n ∧ n ≤ 4294967295) : [Value.int .u8 (n / 16777216), Value.int .u8 (n / 65536 % 256), Value.int .u8 (n / 256 % 256), Value.int .u8 (n % 256)] = (beB 4 (u64N n)).map cellB := by
  simp [beB, List.range_succ, cellB, u64N]
  omega
theorem be_eight (x : Nat) (hx : x < 18446744073709551616) : beB 4 (u64N ((x : Int) / 4294967296)) ++ beB 4 (u64N ((x : Int) % 4294967296)) = beB 8 x := by
  simp [beB, List.range_succ, u64N]
  omega

end Go.Proofs.YtgmimdnebgncoaaGreat

end

section
/- What the reference's reader answers and leaves. -/
set_option linter.unusedVariables false
namespace Go.Proofs.YtgmimdnebgncoaaGreat
open Go.RowKit

end Go.Proofs.YtgmimdnebgncoaaGreat

end

section
/- What the reference's reader's numbers and End answer; both readers' answers as one. -/
set_option linter.unusedVariables false
namespace Go.Proofs.YtgmimdnebgncoaaGreat
open Go.RowKit

/-- The number of the first n bytes, if they are there; what is left, and the error, behind that. -/
def valN (n : Nat) (xs : List Nat) : Nat := if n ≤ xs.length then beN (xs.take n) else 0
def rawN (n : Nat) (xs : List Nat) : List Nat := if n ≤ xs.length then xs.take n else []
def nxtX (n : Nat) (xs : List Nat) : List Nat := if n ≤ xs.length then xs.drop n else []
def nxtE (n : Nat) (xs : List Nat) (err : Int) : Int := if n ≤ xs.length then err else 2
theorem valN_lt (n : Nat) (xs : List Nat) (h : ∀ x ∈ xs, x < 256) : valN n xs < 256 ^ n := by
  unfold valN; split
  · exact beN_lt xs h n (by assumption)
  · exact Nat.pow_pos (by omega)
theorem nxt_small (n : Nat) (xs : List Nat) (h : ∀ x ∈ xs, x < 256) : ∀ x ∈ nxtX n xs, x < 256 := by
  unfold nxtX; split
  · exact fun x hx => h x (List.mem_of_mem_drop hx)
  · simp
theorem nxt_short (n : Nat) (xs : List Nat) : (nxtX n xs).length ≤ xs.length := by
  unfold nxtX; split <;> simp
theorem nxt_err (n : Nat) (xs : List Nat) (err : Int) (h : err = 0 ∨ xs = []) : nxtE n xs err = 0 ∨ nxtX n xs = [] := by
  unfold nxtE nxtX; split
  · rcases h with h | h
    · exact .inl h
    · right; subst h; simp
  · exact .inr rfl

/-- A reader with these bytes left, and this error: its own bytes are not in block M. -/
def Rd (w : World) (G M : Nat) (xs : List Nat) (err : Int) : Prop := ∃ a cap, RdB w G a xs.length cap xs err ∧ ∀ x, a = some x → xs.length = 0 ∨ x.block ≠ M
theorem Rd.touch {w w' : World} {G M : Nat} {xs : List Nat} {err : Int} (h : Rd w G M xs err) (t : Touch w w' (fun k => k = M)) (hG : G ≠ M) : Rd w' G M xs err := by
  obtain ⟨a, cap, h1, h2⟩ := h
  exact ⟨a, cap, h1.touch t hG h2, h2⟩
theorem Rd.still {w w' : World} {G M : Nat} {xs : List Nat} {err : Int} (h : Rd w G M xs err) (t : Touch w w' (fun _ => False)) : Rd w' G M xs err := by
  obtain ⟨a, cap, h1, h2⟩ := h
  exact ⟨a, cap, h1.touch t (fun h => h) (fun _ _ => .inr (fun h => h)), h2⟩
theorem Rd.none {w : World} {G M : Nat} (h : RdB w G none 0 0 [] 2) : Rd w G M [] 2 := ⟨Option.none, 0, h, fun x hx => by cases hx⟩
theorem Rd.took {w w' : World} {G M : Nat} {a : Option Addr} {cap : Nat} {xs : List Nat} {err : Int} {n : Nat} (hn : n ≤ xs.length) (ha : ∀ x, a = some x → xs.length = 0 ∨ x.block ≠ M) (t : TookB G a xs.length cap xs err n w w') :
    Rd w' G M (nxtX n xs) (nxtE n xs err) ∧ Touch w w' (fun k => k = G) := by
  obtain ⟨a', h1, h2, h3, h4⟩ := t
  unfold nxtX nxtE
  rw [if_pos hn, if_pos hn]
  refine ⟨⟨a', cap - n, by simpa using h1, fun x hx => ?_⟩, h3⟩
  obtain ⟨y, hy, hxy⟩ := h4 x hx
  rcases ha y hy with h | h
  · left; simp; omega
  · right; rw [hxy]; exact h
theorem nxt_bad {n : Nat} {xs : List Nat} {err : Int} (hn : ¬ n ≤ xs.length) : nxtX n xs = [] ∧ nxtE n xs err = 2 ∧ valN n xs = 0 ∧ rawN n xs = [] := by
  unfold nxtX nxtE valN rawN; simp [hn]


theorem rd_U8 (G M : Nat) (xs : List Nat) (err : Int) (w : World) (h : Rd w G M xs err) :
    Calls Tryz.prog 53 #[.pointer (some ⟨G, 0, none⟩)] w fun e w' => e = .returned (.int .i64 ((valN 1 xs) : Nat)) ∧ Rd w' G M (nxtX 1 xs) (nxtE 1 xs err) ∧ Touch w w' (fun k => k = G) := by
  obtain ⟨a, cap, h1, h2⟩ := h
  by_cases hn : 1 ≤ xs.length
  · refine (rU8_any G a _ cap xs err w h1 hn).mono ?_
    rintro e w' ⟨rfl, ht⟩
    exact ⟨by unfold valN; rw [if_pos hn], Rd.took hn h2 ht⟩
  · refine (rU8_short G a _ cap xs err w h1 (by omega)).mono ?_
    rintro e w' ⟨rfl, hr, ht⟩
    obtain ⟨e1, e2, e3, _⟩ := nxt_bad (err := err) hn
    rw [e1, e2, e3]
    exact ⟨rfl, Rd.none hr, ht⟩
theorem rd_U16 (G M : Nat) (xs : List Nat) (err : Int) (w : World) (h : Rd w G M xs err) :
    Calls Tryz.prog 54 #[.pointer (some ⟨G, 0, none⟩)] w fun e w' => e = .returned (.int .i64 ((valN 2 xs) : Nat)) ∧ Rd w' G M (nxtX 2 xs) (nxtE 2 xs err) ∧ Touch w w' (fun k => k = G) := by
  obtain ⟨a, cap, h1, h2⟩ := h
  by_cases hn : 2 ≤ xs.length
  · refine (rU16_any G a _ cap xs err w h1 hn).mono ?_
    rintro e w' ⟨rfl, ht⟩
    exact ⟨by unfold valN; rw [if_pos hn], Rd.took hn h2 ht⟩
  · refine (rU16_short G a _ cap xs err w h1 (by omega)).mono ?_
    rintro e w' ⟨rfl, hr, ht⟩
    obtain ⟨e1, e2, e3, _⟩ := nxt_bad (err := err) hn
    rw [e1, e2, e3]
    exact ⟨rfl, Rd.none hr, ht⟩
theorem rd_U32 (G M : Nat) (xs : List Nat) (err : Int) (w : World) (h : Rd w G M xs err) :
    Calls Tryz.prog 51 #[.pointer (some ⟨G, 0, none⟩)] w fun e w' => e = .returned (.int .u32 ((valN 4 xs) : Nat)) ∧ Rd w' G M (nxtX 4 xs) (nxtE 4 xs err) ∧ Touch w w' (fun k => k = G) := by
  obtain ⟨a, cap, h1, h2⟩ := h
  by_cases hn : 4 ≤ xs.length
  · refine (rU32_any G a _ cap xs err w h1 hn).mono ?_
    rintro e w' ⟨rfl, ht⟩
    exact ⟨by unfold valN; rw [if_pos hn], Rd.took hn h2 ht⟩
  · refine (rU32_short G a _ cap xs err w h1 (by omega)).mono ?_
    rintro e w' ⟨rfl, hr, ht⟩
    obtain ⟨e1, e2, e3, _⟩ := nxt_bad (err := err) hn
    rw [e1, e2, e3]
    exact ⟨rfl, Rd.none hr, ht⟩
theorem rd_Left (G M : Nat) (xs : List Nat) (err : Int) (w : World) (h : Rd w G M xs err) :
    Calls Tryz.prog 49 #[.pointer (some ⟨G, 0, none⟩)] w fun e w' => e = .returned (.int .i64 xs.length) ∧ w' = w := by
  obtain ⟨a, cap, h1, _⟩ := h
  exact rleft_any G a _ cap xs err w h1
end Go.Proofs.YtgmimdnebgncoaaGreat

end

section
/- Raw of both readers as one. -/
set_option linter.unusedVariables false
namespace Go.Proofs.YtgmimdnebgncoaaGreat
open Go.RowKit

/-- A new row that a call hands back. -/
def GotR (w w' : World) (v : Value) (ys : List Nat) : Prop := ∃ a3 c3, v = .slice a3 ys.length c3 ∧ RowB w' a3 ys.length c3 ys ∧ ∀ x, a3 = some x → w.heap.size ≤ x.block
theorem GotR.none (w w' : World) : GotR w w' (.slice Option.none 0 0) [] := ⟨Option.none, 0, rfl, RowB.nil _ _ _ (by omega), fun x hx => by cases hx⟩
theorem GotR.touch {w w1 w2 : World} {v : Value} {ys : List Nat} {M : Nat} (h : GotR w w1 v ys) (t : Touch w1 w2 (fun k => k = M)) (hM : M < w.heap.size) : GotR w w2 v ys := by
  obtain ⟨a, c, h1, h2, h3⟩ := h
  exact ⟨a, c, h1, h2.touch t (fun x hx => .inr (fun e => by have := h3 x hx; omega)), h3⟩

end Go.Proofs.YtgmimdnebgncoaaGreat

end

section
/- A writer, and a row of its own beside it. -/
set_option linter.unusedVariables false
namespace Go.Proofs.YtgmimdnebgncoaaGreat
open Go.RowKit

/-- A writer that has put xs, and beside it a row of one's own, ys. -/
structure Two (w : World) (base G : Nat) (v vw : Value) (xs ys : List Nat) : Prop where
  wr : WrB w base G v xs
  own : OwnB w base 5 vw ys
  apG : vw.ownBlock ≠ some G
  ap : ∀ k, v.ownBlock = some k → vw.ownBlock ≠ some k

theorem Two.touch {w w' : World} {base G : Nat} {v vw : Value} {xs ys : List Nat} {S : Nat → Prop} (h : Two w base G v vw xs ys) (t : Touch w w' S) (hG : ¬ S G) (h1 : ∀ k, v.ownBlock = some k → ¬ S k) (h2 : ∀ k, vw.ownBlock = some k → ¬ S k) : Two w' base G v vw xs ys :=
  ⟨h.wr.touch t hG h1, h.own.touch t h2, h.apG, h.ap⟩
theorem Two.still {w w' : World} {base G : Nat} {v vw : Value} {xs ys : List Nat} (h : Two w base G v vw xs ys) (t : Touch w w' (fun _ => False)) : Two w' base G v vw xs ys :=
  h.touch t (fun h => h) (fun _ _ h => h) (fun _ _ h => h)
theorem Two.lt {w : World} {base G : Nat} {v vw : Value} {xs ys : List Nat} (h : Two w base G v vw xs ys) : ∀ k, vw.ownBlock = some k → k < w.heap.size := fun k hk => (h.own.own.lt k hk).2
theorem Two.put {w w' : World} {base G : Nat} {v vw : Value} {xs ys zs : List Nat} (h : Two w base G v vw xs ys) (p : PutB base G v w zs w') :
    ∃ v', Two w' base G v' vw zs ys ∧ Touch w w' (fun k => k = G ∨ v.ownBlock = some k) := by
  obtain ⟨v', hw, t, hv⟩ := p
  refine ⟨v', ⟨hw, h.own.touch t ?_, h.apG, ?_⟩, t⟩
  · rintro k hk (rfl | hk2)
    · exact h.apG hk
    · exact h.ap k hk2 hk
  · intro k hk hk2
    rcases hv k hk with h1 | h1
    · exact h.ap k h1 hk2
    · have := h.lt k hk2; omega
theorem Two.add {w w' : World} {base G : Nat} {v vw vw' : Value} {xs ys zs : List Nat} (h : Two w base G v vw xs ys) (ho : OwnB w' base 5 vw' zs) (hg : w.grownBy w' vw.ownBlock) (hp : ∀ k, vw'.ownBlock = some k → vw.ownBlock = some k ∨ w.heap.size ≤ k) :
    Two w' base G v vw' xs zs := by
  have t : Touch w w' (fun k => vw.ownBlock = some k) := (Touch.refl _ _).grown hg (fun k hk _ => hk)
  refine ⟨h.wr.touch t h.apG h.ap, ho, ?_, ?_⟩
  · intro hk
    rcases hp G hk with h1 | h1
    · exact h.apG h1
    · have := h.wr.foot.1; omega
  · intro k hk hk2
    rcases hp k hk2 with h1 | h1
    · exact h.ap k hk h1
    · have := (h.wr.foot.2 k hk).2; omega
/-- A row that was just laid, its length written out. -/
theorem row_lit (w : World) (cs : Array Value) (n : Nat) (xs : List Nat) (hcs : cs.toList = xs.map cellB) (hn : xs.length = n) (hx : ∀ x ∈ xs, x < 256) (hs : n ≤ 281474976710656) :
    RowB (w.alloc (.cells cs 5)) (some ⟨w.heap.size, 0, none⟩) n n xs := by
  obtain ⟨a, c, hv, hr, _⟩ := (OwnB.lit w _ rfl _ (Nat.le_refl _) 5 cs n xs hcs hn hx hs).row
  subst hn
  simp only [Value.slice.injEq, true_and] at hv
  obtain ⟨rfl, rfl⟩ := hv
  exact hr
theorem be_one (n : Int) : [Value.int .u8 (n % 256)] = (beB 1 (u64N n)).map cellB := by
  simp [beB, List.range_succ, cellB, u64N]
  omega
end Go.Proofs.YtgmimdnebgncoaaGreat

end

section
/- A writer by what it has put: what its calls leave. -/
set_option linter.unusedVariables false
namespace Go.Proofs.YtgmimdnebgncoaaGreat
open Go.RowKit

/-- A writer that was just made. -/
theorem WrB.fresh (w : World) : WrB (w.alloc (.cells #[.slice none 0 0] 84)) w.heap.size w.heap.size (.slice none 0 0) [] :=
  ⟨⟨_, heap_alloc_new w _⟩, Nat.le_refl _, OwnB.nil _ _ _, by simp [Value.ownBlock]⟩
theorem PutB.under {base G : Nat} {v : Value} {w w' : World} {xs zs : List Nat} (h : WrB w base G v xs) (p : PutB base G v w zs w') (hb : base ≤ w.heap.size) : Below base w w' := by
  obtain ⟨v', _, ht, _⟩ := p
  exact ht.below (fun k _ hk => by rcases hk with rfl | hk; exact h.low; exact (h.foot.2 k hk).1) hb

/-- The writer in block G has put xs; all that is its own lies from base on. -/
def WrE (w : World) (base G : Nat) (xs : List Nat) : Prop := base ≤ w.heap.size ∧ ∃ v, WrB w base G v xs
theorem WrE.fresh (w : World) : WrE (w.alloc (.cells #[.slice none 0 0] 84)) w.heap.size w.heap.size [] := ⟨by simp, _, WrB.fresh w⟩
theorem WrE.lt {w : World} {base G : Nat} {xs : List Nat} (h : WrE w base G xs) : base ≤ G ∧ G < w.heap.size := by obtain ⟨_, _, h⟩ := h; exact ⟨h.low, h.foot.1⟩
theorem WrE.still {w w' : World} {base G : Nat} {xs : List Nat} (h : WrE w base G xs) (t : Touch w w' (fun _ => False)) : WrE w' base G xs := by
  obtain ⟨hb, v, h⟩ := h
  exact ⟨Nat.le_trans hb t.size, v, h.touch t (fun h => h) (fun _ _ h => h)⟩
theorem WrE.put {base G : Nat} {v : Value} {w w' : World} {xs zs : List Nat} (hb : base ≤ w.heap.size) (h : WrB w base G v xs) (p : PutB base G v w zs w') : WrE w' base G zs ∧ Below base w w' := by
  have hb' := p.under h hb
  obtain ⟨v', h', _, _⟩ := p
  exact ⟨⟨Nat.le_trans hb hb'.size, v', h'⟩, hb'⟩
theorem e_wU8 (base G : Nat) (xs : List Nat) (n : Int) (w : World) (h : WrE w base G xs) (hn : -9223372036854775808 ≤ n ∧ n ≤ 9223372036854775807) (hlen : xs.length ≤ 1000000) :
    Calls Tryz.prog 65 #[.pointer (some ⟨G, 0, none⟩), .int .i64 n] w fun e w' => e = .returned (.tuple #[]) ∧ WrE w' base G (xs ++ beB 1 (u64N n)) ∧ Below base w w' := by
  obtain ⟨hb, v, h⟩ := h
  refine (wU8_any G v xs base n w h hn (by omega) hb).mono ?_
  rintro e w' ⟨rfl, p⟩
  exact ⟨rfl, WrE.put hb h p⟩
theorem e_wU16 (base G : Nat) (xs : List Nat) (n : Int) (w : World) (h : WrE w base G xs) (hn : -9223372036854775808 ≤ n ∧ n ≤ 9223372036854775807) (hlen : xs.length ≤ 1000000) :
    Calls Tryz.prog 66 #[.pointer (some ⟨G, 0, none⟩), .int .i64 n] w fun e w' => e = .returned (.tuple #[]) ∧ WrE w' base G (xs ++ beB 2 (u64N n)) ∧ Below base w w' := by
  obtain ⟨hb, v, h⟩ := h
  refine (wU16_any G v xs base n w h hn (by omega) hb).mono ?_
  rintro e w' ⟨rfl, p⟩
  exact ⟨rfl, WrE.put hb h p⟩
theorem e_wU32 (base G : Nat) (xs : List Nat) (n : Int) (w : World) (h : WrE w base G xs) (hn : 0 ≤ n ∧ n ≤ 4294967295) (hlen : xs.length ≤ 1000000) :
    Calls Tryz.prog 64 #[.pointer (some ⟨G, 0, none⟩), .int .u32 n] w fun e w' => e = .returned (.tuple #[]) ∧ WrE w' base G (xs ++ beB 4 (u64N n)) ∧ Below base w w' := by
  obtain ⟨hb, v, h⟩ := h
  refine (wU32_any G v xs base n w h hn (by omega) hb).mono ?_
  rintro e w' ⟨rfl, p⟩
  exact ⟨rfl, WrE.put hb h p⟩
theorem e_wRaw (base G : Nat) (xs : List Nat) (a : Option Addr) (len cap : Nat) (ys : List Nat) (w : World) (h : WrE w base G xs) (hr : RowB w a len cap ys) (hlen : xs.length + len ≤ 140737488355328) :
    Calls Tryz.prog 95 #[.pointer (some ⟨G, 0, none⟩), .slice a len cap] w fun e w' => e = .returned (.tuple #[]) ∧ WrE w' base G (xs ++ ys) ∧ Below base w w' := by
  obtain ⟨hb, v, h⟩ := h
  refine (raw_any G v xs base a len cap ys w h hr hlen hb).mono ?_
  rintro e w' ⟨rfl, p⟩
  exact ⟨rfl, WrE.put hb h p⟩
theorem e_wBytes (base G : Nat) (xs : List Nat) (w : World) (h : WrE w base G xs) (hlen : xs.length ≤ 140737488355328) (n : Nat) (hn : xs.length = n) :
    Calls Tryz.prog 46 #[.pointer (some ⟨G, 0, none⟩)] w fun e w' => ∃ a' cap', e = .returned (.slice a' n cap') ∧ FreshB w w' (.slice a' n cap') xs := by
  obtain ⟨hb, v, h⟩ := h
  subst hn
  exact wbytes_any G v xs base w h hlen
end Go.Proofs.YtgmimdnebgncoaaGreat

end

section
/- What calls write, and what is left behind calls that read. -/
set_option linter.unusedVariables false
namespace Go.Proofs.YtgmimdnebgncoaaGreat
open Go.RowKit

def wid (c : CallD) : Nat := if c.act = 0 then 1 else if c.act = 1 then 2 else if c.act = 2 then 4 else if c.act = 3 then 8 else c.rl
def enc (c : CallD) : List Nat := if c.act = 0 then beB 1 (u64N c.num) else if c.act = 1 then beB 2 (u64N c.num) else if c.act = 2 then beB 4 (u64N (c.num % 4294967296)) else if c.act = 3 then beB 8 (u64N c.num) else c.raw
def encs : List CallD → List Nat
  | [] => []
  | c :: r => enc c ++ encs r
def wsum : List CallD → Nat
  | [] => 0
  | c :: r => wid c + wsum r
def runs : List CallD → List Nat → Int → List Nat × Int
  | [], zs, e => (zs, e)
  | c :: r, zs, e => runs r (nxtX (wid c) zs) (nxtE (wid c) zs e)
theorem encs_append (a b : List CallD) : encs (a ++ b) = encs a ++ encs b := by
  induction a with
  | nil => rfl
  | cons x r ih => simp [encs, ih]
theorem wsum_append (a b : List CallD) : wsum (a ++ b) = wsum a + wsum b := by
  induction a with
  | nil => simp [wsum]
  | cons x r ih => simp [wsum, ih]; omega
theorem runs_append (a b : List CallD) : ∀ zs e, runs (a ++ b) zs e = runs b (runs a zs e).1 (runs a zs e).2 := by
  induction a with
  | nil => intro zs e; rfl
  | cons x r ih => intro zs e; simp [runs, ih]
theorem runs_take (l : List CallD) (k : Nat) (h : k < l.length) (zs : List Nat) (e : Int) :
    runs (l.take (k + 1)) zs e = (nxtX (wid l[k]) (runs (l.take k) zs e).1, nxtE (wid l[k]) (runs (l.take k) zs e).1 (runs (l.take k) zs e).2) := by
  rw [List.take_succ_eq_append_getElem h, runs_append]; rfl
theorem encs_take (l : List CallD) (k : Nat) (h : k < l.length) : encs (l.take (k + 1)) = encs (l.take k) ++ enc l[k] := by
  rw [List.take_succ_eq_append_getElem h, encs_append]; simp [encs]
theorem runs_ok : ∀ (l : List CallD) (zs : List Nat) (e : Int), wsum l ≤ zs.length → runs l zs e = (zs.drop (wsum l), e)
  | [], zs, e, _ => by simp [runs, wsum]
  | c :: r, zs, e, h => by
    have h1 : wid c ≤ zs.length := by simp [wsum] at h; omega
    have h2 : wsum r ≤ (zs.drop (wid c)).length := by simp [wsum] at h ⊢; omega
    simp only [runs, nxtX, nxtE, if_pos h1]
    rw [runs_ok r _ _ h2, List.drop_drop]
    simp [wsum]
theorem runs_over : ∀ (l : List CallD), runs l [] 2 = ([], 2)
  | [] => rfl
  | c :: r => by
    have e1 : nxtX (wid c) [] = [] := by unfold nxtX; split <;> simp
    have e2 : nxtE (wid c) [] 2 = 2 := by unfold nxtE; split <;> rfl
    simp only [runs, e1, e2]; exact runs_over r
theorem runs_bad : ∀ (l : List CallD) (zs : List Nat) (e : Int), zs.length < wsum l → runs l zs e = ([], 2)
  | [], zs, e, h => by simp [wsum] at h
  | c :: r, zs, e, h => by
    by_cases h1 : wid c ≤ zs.length
    · have h2 : (zs.drop (wid c)).length < wsum r := by simp [wsum] at h ⊢; omega
      simp only [runs, nxtX, nxtE, if_pos h1]
      exact runs_bad r _ _ h2
    · simp only [runs, nxtX, nxtE, if_neg h1]
      exact runs_over r
theorem enc_length (c : CallD) (h : c.raw.length = c.rl) : (enc c).length = wid c := by
  unfold enc wid
  split
  · exact beB_length _ _
  split
  · exact beB_length _ _
  split
  · exact beB_length _ _
  split
  · exact beB_length _ _
  exact h
theorem encs_length : ∀ (l : List CallD), (∀ c ∈ l, c.raw.length = c.rl) → (encs l).length = wsum l
  | [], _ => rfl
  | c :: r, h => by
    simp only [encs, wsum, List.length_append]
    rw [enc_length c (h c (by simp)), encs_length r (fun x hx => h x (by simp [hx]))]
theorem wid_le (c : CallD) : wid c ≤ 8 + c.rl := by
  unfold wid; repeat (first | omega | split)
theorem wsum_le : ∀ (l : List CallD), wsum l ≤ 8 * l.length + rawSum l
  | [] => by simp [wsum]
  | c :: r => by have := wsum_le r; have := wid_le c; simp [wsum, rawSum]; omega
/-- Where all was written, what is left behind k calls begins with the next call's bytes. -/
theorem runs_pref (l : List CallD) (k : Nat) (h : k < l.length) (hr : ∀ c ∈ l, c.raw.length = c.rl) (tail : List Nat) :
    ∃ rest, runs (l.take k) (encs l ++ tail) 0 = (enc l[k] ++ rest, 0) := by
  have e : l = l.take k ++ l.drop k := (List.take_append_drop k l).symm
  have hk : encs l = encs (l.take k) ++ encs (l.drop k) := by rw [← encs_append, ← e]
  have hl : (encs (l.take k)).length = wsum (l.take k) := encs_length _ (fun c hc => hr c (List.mem_of_mem_take hc))
  have hd : l.drop k = l[k] :: l.drop (k + 1) := (List.getElem_cons_drop h).symm
  refine ⟨encs (l.drop (k + 1)) ++ tail, ?_⟩
  rw [runs_ok _ _ _ (by rw [hk]; simp; omega), hk, ← hl, List.append_assoc, List.drop_left]
  rw [hd]; simp [encs]

theorem beN_two (x : Nat) : beN (beB 1 x) = x % 256 ∧ beN (beB 2 x) = x % 65536 ∧ beN (beB 4 x) = x % 4294967296 := by
  simp [beN, beB, List.range_succ]
  omega
theorem beN_eight (x : Nat) (h : x < 18446744073709551616) : beN (beB 8 x) = x := by
  simp [beN, beB, List.range_succ]
  omega
theorem valN_pref (n : Nat) (a b : List Nat) (h : a.length = n) : valN n (a ++ b) = beN a := by
  unfold valN
  rw [if_pos (by simp; omega), ← h, List.take_left]
theorem rawN_pref (n : Nat) (a b : List Nat) (h : a.length = n) : rawN n (a ++ b) = a := by
  unfold rawN
  rw [if_pos (by simp; omega), ← h, List.take_left]
theorem back1 (num : Int) (rest : List Nat) : ((valN 1 (beB 1 (u64N num) ++ rest) : Nat) : Int) = num % 256 := by
  rw [valN_pref 1 _ _ (beB_length _ _), (beN_two _).1]; unfold u64N; omega
theorem back2 (num : Int) (rest : List Nat) : ((valN 2 (beB 2 (u64N num) ++ rest) : Nat) : Int) = num % 65536 := by
  rw [valN_pref 2 _ _ (beB_length _ _), (beN_two _).2.1]; unfold u64N; omega
theorem back4 (num : Int) (rest : List Nat) : ((valN 4 (beB 4 (u64N (num % 4294967296)) ++ rest) : Nat) : Int) = num % 4294967296 := by
  rw [valN_pref 4 _ _ (beB_length _ _), (beN_two _).2.2]; unfold u64N; omega
theorem back8 (num : Int) (rest : List Nat) (h : -9223372036854775808 ≤ num ∧ num ≤ 9223372036854775807) : sgn (valN 8 (beB 8 (u64N num) ++ rest)) = num := by
  rw [valN_pref 8 _ _ (beB_length _ _), beN_eight _ (u64N_lt _)]; unfold u64N sgn; split <;> omega
end Go.Proofs.YtgmimdnebgncoaaGreat

end
