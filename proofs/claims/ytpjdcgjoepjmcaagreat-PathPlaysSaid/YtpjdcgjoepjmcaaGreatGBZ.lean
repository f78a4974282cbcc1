import Derived.Test.YtpjdcgjoepjmcaaGreatGAZ
import Derived.Deep.RegionLaw
import Derived.Deep.AppendLies
import Derived.WalkSpells
set_option linter.unusedVariables false
section
namespace Go.Proofs.YtpjdcgjoepjmcaaGreat
open Go.RowKit
structure WrB (w : World) (base : Nat) (G : Nat) (v : Value) (xs : List Nat) : Prop where
 head : ∃ T, w.heap[G]? = some (.cells #[v] T (0, 0))
 low : base ≤ G
 own : OwnB w base 5 v xs
 apart : v.ownBlock ≠ some G
theorem WrB.foot {w : World} {base G : Nat} {v : Value} {xs : List Nat} (h : WrB w base G v xs) : G < w.heap.size ∧ ∀ k, v.ownBlock = some k → base ≤ k ∧ k < w.heap.size :=
 ⟨by obtain ⟨T, e⟩ := h.head; exact (Array.getElem?_eq_some_iff.1 e).1, fun k hk => h.own.own.lt k hk⟩
theorem WrB.touch {w w' : World} {base G : Nat} {v : Value} {xs : List Nat} {S : Nat → Prop} (h : WrB w base G v xs) (t : Touch w w' S) (hG : ¬ S G) (hv : ∀ k, v.ownBlock = some k → ¬ S k) : WrB w' base G v xs :=
 ⟨h.head.imp fun _ e => (t.block G h.foot.1 hG).trans e, h.low, h.own.touch t hv, h.apart⟩
def PutB (base G : Nat) (v : Value) (w : World) (zs : List Nat) (w' : World) : Prop :=
 ∃ v', WrB w' base G v' zs ∧ Touch w w' (fun k => k = G ∨ v.ownBlock = some k) ∧ (∀ k, v'.ownBlock = some k → v.ownBlock = some k ∨ w.heap.size ≤ k)
theorem PutB.refl {base G : Nat} {v : Value} {w : World} {xs : List Nat} (h : WrB w base G v xs) : PutB base G v w xs w :=
 ⟨v, h, Touch.refl _ _, fun k hk => .inl hk⟩
theorem PutB.trans {base G : Nat} {v v1 : Value} {w w1 w2 : World} {ys zs : List Nat} (h : WrB w1 base G v1 ys ∧ Touch w w1 (fun k => k = G ∨ v.ownBlock = some k) ∧ (∀ k, v1.ownBlock = some k → v.ownBlock = some k ∨ w.heap.size ≤ k))
 (g : PutB base G v1 w1 zs w2) : PutB base G v w zs w2 := by
 obtain ⟨h1, h2, h3⟩ := h
 obtain ⟨v2, g1, g2, g3⟩ := g
 refine ⟨v2, g1, h2.trans g2 (fun k hk ht => ?_), fun k hk => ?_⟩
 ·rcases ht with rfl | ht
  ·exact .inl rfl
  ·rcases h3 k ht with h | h
   ·exact .inr h
   ·omega
 ·rcases g3 k hk with h | h
  ·exact h3 k h
  ·exact .inr (Nat.le_trans h2.size h)
set_option maxHeartbeats 1000000 in
theorem raw_any (G : Nat) (v : Value) (xs : List Nat) (base : Nat) (a : Option Addr) (len cap : Nat) (ys : List Nat) (w : World) (h : WrB w base G v xs) (hr : RowB w a len cap ys) (hlen : xs.length + len ≤ 140737488355328) (hbase : base ≤ w.heap.size) :
 Calls Tryz.prog 170 #[.pointer (some ⟨G, 0, none⟩), .slice a len cap] w fun e w' => e = .returned (.tuple #[]) ∧ PutB base G v w (xs ++ ys) w' := by
 have hft := h.foot
 obtain ⟨⟨TW, hh⟩, hlow, hown, hap⟩ := h
 have hc := cell_of_cells hh 0
 have hf := free_of_cells hh 0
 simp at hc
 have hyl := hr.1
 obtain ⟨a0, c0, rfl, _, hp0⟩ := hown.row
 go_enter Tryz.func170, Tryz.ntmps170
 go_wp2_with (at_builtin; refine wpList_appendB rfl _ _ 38 rfl 5 Tryz.underlying38 infoB base (.slice a0 xs.length c0) xs rfl hown _ _ _ ys rfl hr (xs.length + len) (xs ++ ys) rfl (by simp; omega) hlen hbase base w (Below.refl _ _) (Nat.le_refl _) ?_; intro a3 c3 w3 hown3 hr3 hg3 hb3 hs3 hp3 hl3; have hh3 := (hg3.block G hft.1 (fun e => hap e.symm)).trans hh; have hc3 := cell_of_cells hh3 0; simp at hc3; have hf3 := free_of_cells hh3 0)
 go_end0
 refine ⟨rfl, .slice a3 (xs.length + len) c3, ?_⟩
 have hT : Touch w w3 (fun k => k = G ∨ (Value.slice a0 xs.length c0).ownBlock = some k) := (Touch.refl _ _).grown hg3 (fun k hk _ => .inr hk)
 have hne : ∀ k, (Value.slice a3 (xs.length + len) c3).ownBlock = some k → k ≠ G := by
  intro k hk e
  subst e
  rcases hl3 k hk with h | h
  ·exact hap h
  ·omega
 refine ⟨⟨⟨TW, heap_setCell_same w3 G 0 _ _ _ hh3⟩, hlow, ?_, fun e => hne G e rfl⟩, hT.setCell ⟨G, 0, none⟩ _ (fun _ => .inl rfl), hl3⟩
 exact hown3.touch (S := fun k => k = G) ((Touch.refl _ _).setCell ⟨G, 0, none⟩ _ (fun _ => rfl)) hne
end Go.Proofs.YtpjdcgjoepjmcaaGreat
end
section
namespace Go.Proofs.YtpjdcgjoepjmcaaGreat
open Go.RowKit
def beB (width x : Nat) : List Nat := (List.range width).map fun i => x / 2 ^ (8 * (width - 1 - i)) % 256
theorem beB_length (width x : Nat) : (beB width x).length = width := by simp [beB]
theorem beB_small (width x : Nat) : ∀ y ∈ beB width x, y < 256 := by
 intro y hy
 simp only [beB, List.mem_map] at hy
 obtain ⟨i, _, rfl⟩ := hy
 omega
theorem beB_step (width x k : Nat) (h : k < width) : (beB width x).take (k + 1) = (beB width x).take k ++ [x / 2 ^ (8 * (width - 1 - k)) % 256] := by
 rw [List.take_succ_eq_append_getElem (by rw [beB_length]; exact h)]
 congr 1
 simp [beB]
set_option maxHeartbeats 1000000 in
theorem number_any (G : Nat) (v : Value) (xs : List Nat) (base : Nat) (width x : Nat) (w : World) (h : WrB w base G v xs) (hw : width ≤ 8) (hx : x < 18446744073709551616) (hlen : xs.length + 8 ≤ 140737488355328) (hbase : base ≤ w.heap.size) :
 Calls Tryz.prog 139 #[.pointer (some ⟨G, 0, none⟩), .int .i64 width, .int .u64 x] w fun e w' => e = .returned (.tuple #[]) ∧ PutB base G v w (xs ++ beB width x) w' := by
 go_enter Tryz.func139, Tryz.ntmps139
 go_wp2_with fail
 go_loopw [8] (fun i wr => ∃ k : Nat, k ≤ width ∧ i = .int .i64 k ∧ PutB base G v w (xs ++ (beB width x).take k) wr) (fun i _ => width - (intOf i).toNat)
 case atStart => exact ⟨0, Nat.zero_le _, rfl, by simpa using PutB.refl h⟩
 case round =>
  obtain ⟨k, hk, rfl, v1, hw1, ht1, hp1⟩ := hrel
  by_cases hlt : k < width
  ·have hl := beB_length width x
   have hkl : (xs ++ (beB width x).take k).length ≤ xs.length + 7 := by simp; omega
   have hi : (k : Int) < width := by omega
   clear hl
   have hrow : RowB (wr.alloc (.cells #[.int .u8 ((x : Int) / 2 ^ (8 * (width - 1 - k)) % 256)] 5)) (some ⟨wr.heap.size, 0, none⟩) 1 1 [x / 2 ^ (8 * (width - 1 - k)) % 256] := by
    refine RowB.new wr _ rfl _ _ _ 1 _ rfl (by omega) (by intro z hz; simp at hz; omega) (fun i hi => ?_)
    match i, hi with
    | 0, _ => simp
   have hw2 : WrB (wr.alloc (.cells #[.int .u8 ((x : Int) / 2 ^ (8 * (width - 1 - k)) % 256)] 5)) base G v1 (xs ++ (beB width x).take k) := hw1.touch (S := fun _ => False) ((Touch.refl _ _).alloc _) (fun h => h) (fun _ _ h => h)
   have ht2 : Touch w (wr.alloc (.cells #[.int .u8 ((x : Int) / 2 ^ (8 * (width - 1 - k)) % 256)] 5)) (fun k => k = G ∨ v.ownBlock = some k) := ht1.alloc _
   have hb2 : base ≤ (wr.alloc (.cells #[.int .u8 ((x : Int) / 2 ^ (8 * (width - 1 - k)) % 256)] 5)).heap.size := by have := ht2.size; omega
   have HR := Lib.hid (raw_any G v1 _ base _ 1 1 _ _ hw2 hrow (by omega) hb2)
   have HT := Lib.hid (PutB.trans (zs := xs ++ (beB width x).take (k + 1)) (w2 := w) ⟨hw2, ht2, hp1⟩)
   clear HT
   have HS := Lib.hid (beB_step width x k hlt)
   have HP : Hid (∀ w2, PutB base G v1 (wr.alloc (.cells #[.int .u8 ((x : Int) / 2 ^ (8 * (width - 1 - k)) % 256)] 5)) (xs ++ (beB width x).take k ++ [x / 2 ^ (8 * (width - 1 - k)) % 256]) w2 → PutB base G v w (xs ++ (beB width x).take (k + 1)) w2) := Lib.hid (fun w2 g => by
    rw [HS.out, ← List.append_assoc]
    exact PutB.trans ⟨hw2, ht2, hp1⟩ g)
   clear hrow hw2 ht2 hb2
   go_wp2_with fail
   refine HR.out.mono ?_
   rintro e w2 ⟨rfl, g⟩
   have hput := HP.out _ g
   clear g
   go_wp2
   exact ⟨⟨k + 1, by omega, by go_num, hput⟩, by simp [intOf]; omega⟩
  ·obtain rfl : width = k := by omega
   have hlt' : ¬ (width : Int) < width := by omega
   go_wp2
   go_end0
   refine ⟨rfl, ?_⟩
   rw [List.take_of_length_le (by rw [beB_length]; omega)] at hw1
   exact ⟨v1, hw1, ht1, hp1⟩
end Go.Proofs.YtpjdcgjoepjmcaaGreat
end
section
namespace Go.Proofs.YtpjdcgjoepjmcaaGreat
open Go.RowKit
def u64N (n : Int) : Nat := (n % 18446744073709551616).toNat
theorem u64N_lt (n : Int) : u64N n < 18446744073709551616 := by unfold u64N; omega
theorem u64N_wrap (n : Int) : IntKind.u64.wrap n = (u64N n : Nat) := by rw [IntKind.wrap_u64]; unfold u64N; omega
set_option maxHeartbeats 1000000 in
theorem wU8_any (G : Nat) (v : Value) (xs : List Nat) (base : Nat) (n : Int) (w : World) (h : WrB w base G v xs) (hn : -9223372036854775808 ≤ n ∧ n ≤ 9223372036854775807) (hlen : xs.length + 8 ≤ 140737488355328) (hbase : base ≤ w.heap.size) :
 Calls Tryz.prog 115 #[.pointer (some ⟨G, 0, none⟩), .int .i64 n] w fun e w' => e = .returned (.tuple #[]) ∧ PutB base G v w (xs ++ beB 1 (u64N n)) w' := by
 have H := Lib.hid (number_any G v xs base 1 (u64N n) w h (by omega) (u64N_lt n) hlen hbase)
 have hw := u64N_wrap n
 go_enter Tryz.func115, Tryz.ntmps115
 go_wp2_with fail
 try rw [hw]
 refine H.out.mono ?_
 rintro e w2 ⟨rfl, g⟩
 go_wp2
 go_end0
 exact ⟨rfl, g⟩
set_option maxHeartbeats 1000000 in
theorem wU16_any (G : Nat) (v : Value) (xs : List Nat) (base : Nat) (n : Int) (w : World) (h : WrB w base G v xs) (hn : -9223372036854775808 ≤ n ∧ n ≤ 9223372036854775807) (hlen : xs.length + 8 ≤ 140737488355328) (hbase : base ≤ w.heap.size) :
 Calls Tryz.prog 116 #[.pointer (some ⟨G, 0, none⟩), .int .i64 n] w fun e w' => e = .returned (.tuple #[]) ∧ PutB base G v w (xs ++ beB 2 (u64N n)) w' := by
 have H := Lib.hid (number_any G v xs base 2 (u64N n) w h (by omega) (u64N_lt n) hlen hbase)
 have hw := u64N_wrap n
 go_enter Tryz.func116, Tryz.ntmps116
 go_wp2_with fail
 try rw [hw]
 refine H.out.mono ?_
 rintro e w2 ⟨rfl, g⟩
 go_wp2
 go_end0
 exact ⟨rfl, g⟩
set_option maxHeartbeats 1000000 in
theorem wU32_any (G : Nat) (v : Value) (xs : List Nat) (base : Nat) (n : Int) (w : World) (h : WrB w base G v xs) (hn : 0 ≤ n ∧ n ≤ 4294967295) (hlen : xs.length + 8 ≤ 140737488355328) (hbase : base ≤ w.heap.size) :
 Calls Tryz.prog 117 #[.pointer (some ⟨G, 0, none⟩), .int .u32 n] w fun e w' => e = .returned (.tuple #[]) ∧ PutB base G v w (xs ++ beB 4 (u64N n)) w' := by
 have H := Lib.hid (number_any G v xs base 4 (u64N n) w h (by omega) (u64N_lt n) hlen hbase)
 have hw := u64N_wrap n
 go_enter Tryz.func117, Tryz.ntmps117
 go_wp2_with fail
 try rw [hw]
 refine H.out.mono ?_
 rintro e w2 ⟨rfl, g⟩
 go_wp2
 go_end0
 exact ⟨rfl, g⟩
def FreshB (w w' : World) (v : Value) (xs : List Nat) : Prop :=
 OwnB w' w.heap.size 5 v xs ∧ Touch w w' (fun _ => False)
theorem FreshB.row {w w' : World} {v : Value} {xs : List Nat} (h : FreshB w w' v xs) : ∃ a cap, v = .slice a xs.length cap ∧ RowB w' a xs.length cap xs := by
 obtain ⟨a, cap, hv, hr, _⟩ := h.1.row
 exact ⟨a, cap, hv, hr⟩
set_option maxHeartbeats 1000000 in
theorem clone_any (a : Option Addr) (len cap : Nat) (xs : List Nat) (w : World) (hr : RowB w a len cap xs) (hlen : len ≤ 140737488355328) :
 Calls Tryz.prog 106 #[.slice a len cap] w fun e w' => ∃ a' cap', e = .returned (.slice a' len cap') ∧ FreshB w w' (.slice a' len cap') xs := by
 have hq := fun (w : World) (a : Option Addr) (n c : Nat) => Lib.run_eql_slice_nil (P := Tryz.prog) w 38 5 a n c 0 0 Tryz.underlying38
 have hxl := hr.1
 have hlt := hr.lt
 cases a with
 | none =>
   have hl : len = 0 := by
    rcases hr.2.2.2.2.2 with h | ⟨b, off, h, _⟩
    ·exact h
    ·cases h
   subst hl
   have hx : xs = [] := List.length_eq_zero_iff.1 hxl
   subst hx
   go_enter Tryz.func106, Tryz.ntmps106
   go_wp2
   go_ret
   exact ⟨none, 0, rfl, ⟨OwnB.nil _ _ _, Touch.refl _ _⟩⟩
 | some ad =>
   go_enter Tryz.func106, Tryz.ntmps106
   go_wp2_with (at_builtin; refine wpList_appendB rfl _ _ 38 rfl 5 Tryz.underlying38 infoB w.heap.size (.slice (some ⟨w.heap.size, 0, none⟩) 0 0) [] rfl (OwnB.lit w _ rfl _ (Nat.le_refl _) _ _ _ _ rfl rfl (by decide) (by decide)) _ _ _ xs rfl (hr.old (Below.alloc (Below.refl _ _) (Nat.le_refl _) _)) len xs rfl hxl (by omega) (by simp) w.heap.size w (Below.alloc (Below.refl _ _) (Nat.le_refl _) _) (Nat.le_refl _) ?_; intro a3 c3 w3 hown3 hr3 hg3 hb3 hs3 hp3 hl3)
   go_ret
   exact ⟨a3, c3, rfl, ⟨hown3, Touch.ofBelow hb3 (fun k h1 h2 => by omega)⟩⟩
theorem wbytes_any (G : Nat) (v : Value) (xs : List Nat) (base : Nat) (w : World) (h : WrB w base G v xs) (hlen : xs.length ≤ 140737488355328) :
 Calls Tryz.prog 118 #[.pointer (some ⟨G, 0, none⟩)] w fun e w' => ∃ a' cap', e = .returned (.slice a' xs.length cap') ∧ FreshB w w' (.slice a' xs.length cap') xs := by
 obtain ⟨⟨TW, hh⟩, hlow, hown, hap⟩ := h
 have hc := cell_of_cells hh 0
 simp at hc
 obtain ⟨a0, c0, rfl, hrow, hp0⟩ := hown.row
 have H := Lib.hid (clone_any a0 xs.length c0 xs w hrow hlen)
 go_enter Tryz.func118, Tryz.ntmps118
 go_wp2_with (go_at_call 106; refine H.out.mono ?_; rintro e w' ⟨a', cap', rfl, hf⟩)
 go_ret
 exact ⟨a', cap', rfl, hf⟩
end Go.Proofs.YtpjdcgjoepjmcaaGreat
end
section
namespace Go.Proofs.YtpjdcgjoepjmcaaGreat
open Go.RowKit
theorem Touch.under {w w' : World} {B : Nat} (t : Touch w w' (fun _ => False)) (h : B ≤ w.heap.size) : Below B w w' := t.below (fun _ _ h => h.elim) h
theorem FreshB.row' {w w' : World} {a : Option Addr} {n c : Nat} {xs : List Nat} (h : FreshB w w' (.slice a n c) xs) : xs.length = n ∧ RowB w' a n c xs := by
 obtain ⟨a', c', hv, hr⟩ := h.row
 simp only [Value.slice.injEq] at hv
 obtain ⟨rfl, hn, rfl⟩ := hv
 rw [hn]
 exact ⟨rfl, hr⟩
end Go.Proofs.YtpjdcgjoepjmcaaGreat
end
section
namespace Go.Proofs.YtpjdcgjoepjmcaaGreat
open Go.RowKit
structure RdB (w : World) (G : Nat) (a : Option Addr) (len cap : Nat) (xs : List Nat) (err : Int) : Prop where
 head : w.heap[G]? = some (.cells #[.slice a len cap, .int .i64 err] 173 (0, 0))
 row : RowB w a len cap xs
 apart : ∀ x, a = some x → len = 0 ∨ x.block ≠ G
theorem RdB.lt {w : World} {G : Nat} {a : Option Addr} {len cap : Nat} {xs : List Nat} {err : Int} (h : RdB w G a len cap xs err) : G < w.heap.size := (Array.getElem?_eq_some_iff.1 h.head).1
theorem RdB.touch {w w' : World} {G : Nat} {a : Option Addr} {len cap : Nat} {xs : List Nat} {err : Int} {S : Nat → Prop} (h : RdB w G a len cap xs err) (t : Touch w w' S) (hG : ¬ S G) (ha : ∀ x, a = some x → len = 0 ∨ ¬ S x.block) : RdB w' G a len cap xs err :=
 ⟨(t.block G h.lt hG).trans h.head, h.row.touch t ha, h.apart⟩
def TookB (G : Nat) (a : Option Addr) (len cap : Nat) (xs : List Nat) (err : Int) (n : Nat) (w w' : World) : Prop :=
 ∃ a', RdB w' G a' (len - n) (cap - n) (xs.drop n) err ∧ RowB w' a n cap (xs.take n) ∧ Touch w w' (fun k => k = G) ∧ (∀ x, a' = some x → ∃ y, a = some y ∧ x.block = y.block)
set_option maxHeartbeats 1000000 in
theorem take_some (G : Nat) (a : Option Addr) (len cap : Nat) (xs : List Nat) (err : Int) (n : Nat) (w : World) (h : RdB w G a len cap xs err) (hn0 : 0 < n) (hn : n ≤ len) :
 Calls Tryz.prog 112 #[.pointer (some ⟨G, 0, none⟩), .int .i64 n] w fun e w' => e = .returned (.slice a n cap) ∧ TookB G a len cap xs err n w w' := by
 obtain ⟨hh, hrow, hap⟩ := h
 have hc0 := cell_of_cells hh 0
 have hc1 := cell_of_cells hh 1
 have hf0 := free_of_cells hh 0
 have hf1 := free_of_cells hh 1
 simp at hc0 hc1
 have hle := hrow.2.1
 have hcm := hrow.2.2.1
 have i1 : (0 : Int) < n := by omega
 have i2 : (n : Int) ≤ (len : Int) := by omega
 have i3 : n ≤ cap := by omega
 by_cases hcn : cap = n
 ·subst hcn
  have hln : len = cap := by omega
  subst hln
  go_enter Tryz.func112, Tryz.ntmps112
  go_wp2
  go_ret
  refine ⟨rfl, ?_⟩
  have T : Touch w (w.setCell ⟨G, 0, none⟩ (.slice a 0 0)) (fun k => k = G) := (Touch.refl _ _).setCell ⟨G, 0, none⟩ _ (fun _ => rfl)
  refine ⟨a, ⟨?_, ?_, fun x hx => .inl (by omega)⟩, ?_, by simpa using T, fun x hx => ⟨x, hx, rfl⟩⟩
  ·have e := heap_setCell_same w G 0 _ _ (.slice a 0 0) hh
   simpa using e
  ·have e : xs.drop len = [] := List.drop_of_length_le (by have := hrow.1; omega)
   rw [e, Nat.sub_self]
   exact RowB.nil _ _ _ (by omega)
  ·rw [List.take_of_length_le (by have := hrow.1; omega)]
   have := hrow.touch T (fun x hx => by rcases hap x hx with h | h; exact .inl h; exact .inr h)
   simpa using this
 ·have hcn' : ¬ n = cap := fun h => hcn h.symm
  go_enter Tryz.func112, Tryz.ntmps112
  go_wp2
  go_ret
  refine ⟨rfl, ?_⟩
  have T : Touch w (w.setCell ⟨G, 0, none⟩ (.slice (a.map (fun x => x.add n)) (len - n) (cap - n))) (fun k => k = G) := (Touch.refl _ _).setCell ⟨G, 0, none⟩ _ (fun _ => rfl)
  have hro : RowB (w.setCell ⟨G, 0, none⟩ (.slice (a.map (fun x => x.add n)) (len - n) (cap - n))) a len cap xs := hrow.touch T (fun x hx => by rcases hap x hx with h | h; exact .inl h; exact .inr h)
  have hblk : ∀ x, a.map (fun x => x.add n) = some x → ∃ y, a = some y ∧ x.block = y.block := by
   intro x hx
   cases a with
   | none => simp at hx
   | some y =>
     simp only [Option.map_some, Option.some.injEq] at hx
     exact ⟨y, rfl, by rw [← hx]; unfold Addr.add; split <;> rfl⟩
  refine ⟨a.map (fun x => x.add n), ⟨?_, hro.dropMap n hn, fun x hx => ?_⟩, hro.take n hn, T, hblk⟩
  ·have e := heap_setCell_same w G 0 _ _ (.slice (a.map (fun x => x.add n)) (len - n) (cap - n)) hh
   simpa using e
  ·obtain ⟨y, hy, hxy⟩ := hblk x hx
   rcases hap y hy with h | h
   ·exact .inl (by omega)
   ·right; rw [hxy]; exact h
end Go.Proofs.YtpjdcgjoepjmcaaGreat
end
section
namespace Go.Proofs.YtpjdcgjoepjmcaaGreat
open Go.RowKit
def beN (l : List Nat) : Nat := l.foldl (fun x c => x * 256 + c) 0
theorem beN_snoc (l : List Nat) (c : Nat) : beN (l ++ [c]) = beN l * 256 + c := by simp [beN]
theorem beN_step (l : List Nat) (k : Nat) (h : k < l.length) : beN (l.take (k + 1)) = beN (l.take k) * 256 + l[k] := by
 rw [List.take_succ_eq_append_getElem h, beN_snoc]
theorem beN_lt (l : List Nat) (h : ∀ x ∈ l, x < 256) : ∀ k, k ≤ l.length → beN (l.take k) < 256 ^ k
 | 0, _ => by simp [beN]
 | k + 1, hk => by
   have h1 := beN_lt l h k (by omega)
   rw [beN_step l k (by omega), Nat.pow_succ]
   have h2 := h _ (List.getElem_mem (show k < l.length by omega))
   have : (beN (l.take k) + 1) * 256 ≤ 256 ^ k * 256 := Nat.mul_le_mul_right _ h1
   omega
theorem or64 (x y : Nat) (hx : x < 72057594037927936) (hy : y < 256) : bits BinOp.or IntKind.u64 ((x : Int) * 256) (y : Int) = ((x * 256 + y : Nat) : Int) := by
 have e := bits_join .u64 64 (by decide) (fun n a b => by rw [IntKind.wrap_u64]; omega) 8 ((x : Int) * 256) (y : Int) (by omega) (by omega) (by omega) (by omega) (by omega) (by omega)
 rw [e]; omega
set_option maxHeartbeats 1000000 in
theorem whole_any (G : Nat) (a : Option Addr) (len cap : Nat) (xs : List Nat) (err : Int) (n : Nat) (w : World) (h : RdB w G a len cap xs err) (hn0 : 0 < n) (hn : n ≤ len) (hn8 : n ≤ 8) :
 Calls Tryz.prog 111 #[.int .i64 n, .func (.func 112) #[.pointer (some ⟨G, 0, none⟩)] #[]] w fun e w' => e = .returned (.int .u64 (beN (xs.take n) : Nat)) ∧ TookB G a len cap xs err n w w' := by
 have H := Lib.hid (take_some G a len cap xs err n w h hn0 hn)
 have hxl := h.row.1
 clear h
 go_enter Tryz.func111, Tryz.ntmps111
 go_wp2_with (go_at_call 112; refine H.out.mono ?_; rintro e w' ⟨rfl, hto⟩)
 obtain ⟨a', hrd, hrow, ht, hb⟩ := hto
 have hro := hrow
 obtain ⟨h1, h2, h3, h6, h4, h5⟩ := hro
 obtain h0 | ⟨b, off, rfl, hc⟩ := h5
 ·omega
 have HL := Lib.hid h1
 have HSM := Lib.hid h4
 clear h1 h4
 go_loop [5, 12] (fun s i => ∃ k : Nat, k ≤ n ∧ i = .int .i64 k ∧ s = .int .u64 (beN ((xs.take n).take k) : Nat)) (fun _ i => n - (intOf i).toNat)
 case atStart => exact ⟨0, Nat.zero_le _, rfl, rfl⟩
 case round =>
  obtain ⟨k, hk, rfl, rfl⟩ := hrel
  by_cases hlt : k < n
  ·have hkx : k < (xs.take n).length := by rw [HL.out]; exact hlt
   have c0 := hc k hkx
   have b0 := HSM.out _ (List.getElem_mem hkx)
   have HS := Lib.hid (beN_step (xs.take n) k hkx)
   have hlt2 := beN_lt (xs.take n) HSM.out k (by rw [HL.out]; omega)
   have hbig : beN ((xs.take n).take k) < 72057594037927936 := by
    have : (256 : Nat) ^ k ≤ 256 ^ 7 := Nat.pow_le_pow_right (by omega) (by omega)
    have e : (256 : Nat) ^ 7 = 72057594037927936 := by decide
    omega
   clear hlt2 hc
   generalize (xs.take n)[k] = y at *
   generalize beN ((xs.take n).take k) = x at *
   have hor := or64 x y hbig b0
   have i1 : (k : Int) < n := by omega
   go_wp2
   refine ⟨⟨k + 1, by omega, by go_num, ?_⟩, by simp [intOf]; omega⟩
   rw [HS.out]; simp
  ·obtain rfl : n = k := by omega
   have i1 : ¬ (n : Int) < n := by omega
   clear hc
   go_wp2
   go_ret
   refine ⟨?_, a', hrd, hrow, ht, hb⟩
   have e : (xs.take n).take n = xs.take n := by rw [List.take_take]; simp
   show Ending.returned (.int .u64 ((beN ((xs.take n).take n) : Nat) : Int)) = _
   rw [e]
end Go.Proofs.YtpjdcgjoepjmcaaGreat
end
section
namespace Go.Proofs.YtpjdcgjoepjmcaaGreat
open Go.RowKit
def sgn (x : Nat) : Int := if x < 9223372036854775808 then x else (x : Int) - 18446744073709551616
theorem sgn_w64 (x : Nat) (h : x < 18446744073709551616) : wrap64 (x : Int) = sgn x := by
 unfold wrap64 sgn; split <;> omega
set_option maxHeartbeats 1000000 in
theorem rU8_any (G : Nat) (a : Option Addr) (len cap : Nat) (xs : List Nat) (err : Int) (w : World) (h : RdB w G a len cap xs err) (hn : 1 ≤ len) :
 Calls Tryz.prog 168 #[.pointer (some ⟨G, 0, none⟩)] w fun e w' => e = .returned (.int .i64 (beN (xs.take 1) : Nat)) ∧ TookB G a len cap xs err 1 w w' := by
 have H := Lib.hid (whole_any G a len cap xs err 1 w h (by omega) hn (by omega))
 have hb : beN (xs.take 1) < 256 ^ 1 := by
  have := beN_lt xs h.row.2.2.2.2.1 1 (by rw [h.row.1]; omega)
  exact this
 have hb2 : beN (xs.take 1) < 256 := by
  have e : (256 : Nat) ^ 1 = 256 := by decide
  omega
 clear h
 have HS := Lib.hid (sgn_w64 (beN (xs.take 1)) (by omega))
 generalize hz : beN (xs.take 1) = z at *
 clear hz hb
 go_enter Tryz.func168, Tryz.ntmps168
 go_wp2_with (go_at_call 111; refine H.out.mono ?_; rintro e w' ⟨rfl, ht⟩)
 try rw [HS.out]
 go_ret
 exact ⟨rfl, ht⟩
set_option maxHeartbeats 1000000 in
theorem rU16_any (G : Nat) (a : Option Addr) (len cap : Nat) (xs : List Nat) (err : Int) (w : World) (h : RdB w G a len cap xs err) (hn : 2 ≤ len) :
 Calls Tryz.prog 80 #[.pointer (some ⟨G, 0, none⟩)] w fun e w' => e = .returned (.int .i64 (beN (xs.take 2) : Nat)) ∧ TookB G a len cap xs err 2 w w' := by
 have H := Lib.hid (whole_any G a len cap xs err 2 w h (by omega) hn (by omega))
 have hb : beN (xs.take 2) < 256 ^ 2 := by
  have := beN_lt xs h.row.2.2.2.2.1 2 (by rw [h.row.1]; omega)
  exact this
 have hb2 : beN (xs.take 2) < 65536 := by
  have e : (256 : Nat) ^ 2 = 65536 := by decide
  omega
 clear h
 have HS := Lib.hid (sgn_w64 (beN (xs.take 2)) (by omega))
 generalize hz : beN (xs.take 2) = z at *
 clear hz hb
 go_enter Tryz.func80, Tryz.ntmps80
 go_wp2_with (go_at_call 111; refine H.out.mono ?_; rintro e w' ⟨rfl, ht⟩)
 try rw [HS.out]
 go_ret
 exact ⟨rfl, ht⟩
set_option maxHeartbeats 1000000 in
theorem rU32_any (G : Nat) (a : Option Addr) (len cap : Nat) (xs : List Nat) (err : Int) (w : World) (h : RdB w G a len cap xs err) (hn : 4 ≤ len) :
 Calls Tryz.prog 169 #[.pointer (some ⟨G, 0, none⟩)] w fun e w' => e = .returned (.int .u32 (beN (xs.take 4) : Nat)) ∧ TookB G a len cap xs err 4 w w' := by
 have H := Lib.hid (whole_any G a len cap xs err 4 w h (by omega) hn (by omega))
 have hb : beN (xs.take 4) < 256 ^ 4 := by
  have := beN_lt xs h.row.2.2.2.2.1 4 (by rw [h.row.1]; omega)
  exact this
 have hb2 : beN (xs.take 4) < 4294967296 := by
  have e : (256 : Nat) ^ 4 = 4294967296 := by decide
  omega
 clear h
 have HS := Lib.hid (sgn_w64 (beN (xs.take 4)) (by omega))
 generalize hz : beN (xs.take 4) = z at *
 clear hz hb
 go_enter Tryz.func169, Tryz.ntmps169
 go_wp2_with (go_at_call 111; refine H.out.mono ?_; rintro e w' ⟨rfl, ht⟩)
 try rw [HS.out]
 go_ret
 exact ⟨rfl, ht⟩
def endOf (len : Nat) (err : Int) : Int := if err = 0 then (if len = 0 then 0 else 3) else err
def NewRd (w w' : World) (v : Value) (len : Nat) (xs : List Nat) : Prop :=
 ∃ G a cap, v = .pointer (some ⟨G, 0, none⟩) ∧ RdB w' G a len cap xs 0 ∧ Touch w w' (fun _ => False) ∧ w.heap.size ≤ G ∧ (∀ x, a = some x → len = 0 ∨ w.heap.size ≤ x.block)
set_option maxHeartbeats 1000000 in
theorem newreader_any (a : Option Addr) (len cap : Nat) (xs : List Nat) (w : World) (hr : RowB w a len cap xs) (hlen : len ≤ 140737488355328) :
 Calls Tryz.prog 79 #[.slice a len cap] w fun e w' => ∃ v, e = .returned v ∧ NewRd w w' v len xs := by
 have H := Lib.hid (clone_any a len cap xs w hr hlen)
 have hxl := Lib.hid hr.1
 clear hr
 go_enter Tryz.func79, Tryz.ntmps79
 go_wp2_with fail
 refine H.out.mono ?_
 rintro e w1 ⟨a', cap', rfl, hf⟩
 go_wp2
 go_ret
 obtain ⟨hown, htouch⟩ := hf
 obtain ⟨a2, c2, hv, hrow, hp⟩ := hown.row
 have hl := hxl.out
 subst hl
 simp only [Value.slice.injEq, true_and] at hv
 obtain ⟨rfl, rfl⟩ := hv
 have hs := htouch.size
 refine ⟨_, rfl, w1.heap.size, a', cap', rfl, ⟨by show (w1.heap.push _)[w1.heap.size]? = _; simp, hrow.old (Below.alloc (Below.refl _ _) (Nat.le_refl _) _), ?_⟩, htouch.alloc _, hs, ?_⟩
 ·intro x hx
  right
  rcases hp with h | ⟨g, h, _, hg⟩
  ·rw [hx] at h; cases h
  ·rw [hx] at h; cases h; simp; omega
 ·intro x hx
  right
  rcases hp with h | ⟨g, h, hg, _⟩
  ·rw [hx] at h; cases h
  ·rw [hx] at h; cases h; exact hg
end Go.Proofs.YtpjdcgjoepjmcaaGreat
end
section
namespace Go.Proofs.YtpjdcgjoepjmcaaGreat
open Go.RowKit
theorem be_two (n : Int) : [Value.int .u8 (n / 256 % 256), Value.int .u8 (n % 256)] = (beB 2 (u64N n)).map cellB := by
 simp [beB, List.range_succ, cellB, u64N]
 omega
theorem be_four (n : Int) (hn : 0 ≤ n ∧ n ≤ 4294967295) : [Value.int .u8 (n / 16777216), Value.int .u8 (n / 65536 % 256), Value.int .u8 (n / 256 % 256), Value.int .u8 (n % 256)] = (beB 4 (u64N n)).map cellB := by
 simp [beB, List.range_succ, cellB, u64N]
 omega
set_option maxHeartbeats 1000000 in
theorem ref_u16 (n : Int) (w : World) (hn : -9223372036854775808 ≤ n ∧ n ≤ 9223372036854775807) :
 Calls Tryz.prog 96 #[.int .i64 n] w fun e w' => ∃ a' cap', e = .returned (.slice a' 2 cap') ∧ FreshB w w' (.slice a' 2 cap') (beB 2 (u64N n)) := by
 go_enter Tryz.func96, Tryz.ntmps96
 go_wp2_with fail
 go_ret
 exact ⟨_, _, rfl, OwnB.lit w _ rfl _ (Nat.le_refl _) _ _ _ _ (be_two n) (beB_length _ _) (beB_small _ _) (by decide), (Touch.refl _ _).alloc _⟩
set_option maxHeartbeats 1000000 in
theorem ref_u32 (n : Int) (w : World) (hn : 0 ≤ n ∧ n ≤ 4294967295) :
 Calls Tryz.prog 97 #[.int .u32 n] w fun e w' => ∃ a' cap', e = .returned (.slice a' 4 cap') ∧ FreshB w w' (.slice a' 4 cap') (beB 4 (u64N n)) := by
 go_enter Tryz.func97, Tryz.ntmps97
 go_wp2_with fail
 go_ret
 exact ⟨_, _, rfl, OwnB.lit w _ rfl _ (Nat.le_refl _) _ _ _ _ (be_four n hn) (beB_length _ _) (beB_small _ _) (by decide), (Touch.refl _ _).alloc _⟩
end Go.Proofs.YtpjdcgjoepjmcaaGreat
end
section
namespace Go.Proofs.YtpjdcgjoepjmcaaGreat
open Go.RowKit
structure RfB (w : World) (M : Nat) (a : Option Addr) (len cap : Nat) (xs : List Nat) (err : Int) : Prop where
 head : w.heap[M]? = some (.cells #[.slice a len cap, .int .i64 err] 162 (0, 0))
 row : RowB w a len cap xs
 apart : ∀ x, a = some x → len = 0 ∨ x.block ≠ M
def TookR (M : Nat) (a : Option Addr) (len cap : Nat) (xs : List Nat) (n : Nat) (w w' : World) (v : Value) : Prop :=
 ∃ a3 c3 a', v = .slice a3 n c3 ∧ RowB w' a3 n c3 (xs.take n) ∧ (∀ x, a3 = some x → w.heap.size ≤ x.block) ∧ RfB w' M a' (len - n) (cap - n) (xs.drop n) 0 ∧ (∀ x, a' = some x → ∃ y, a = some y ∧ x.block = y.block) ∧ Touch w w' (fun k => k = M)
set_option maxHeartbeats 1000000 in
theorem rf_raw_bad (M : Nat) (a : Option Addr) (len cap : Nat) (xs : List Nat) (err n : Int) (w : World) (h : RfB w M a len cap xs err) (hn : err ≠ 0 ∨ (len : Int) < n) :
 Calls Tryz.prog 167 #[.pointer (some ⟨M, 0, none⟩), .int .i64 n] w fun e w' => e = .returned (.slice none 0 0) ∧ RfB w' M none 0 0 [] 2 ∧ Touch w w' (fun k => k = M) := by
 obtain ⟨hh, hrow, hap⟩ := h
 have hc0 := cell_of_cells hh 0
 have hc1 := cell_of_cells hh 1
 have hf0 := free_of_cells hh 0
 have hf1 := free_of_cells hh 1
 simp at hc0 hc1
 have fin : RfB ((w.setCell ⟨M, 1, none⟩ (.int .i64 2)).setCell ⟨M, 0, none⟩ (.slice none 0 0)) M none 0 0 [] 2 ∧ Touch w ((w.setCell ⟨M, 1, none⟩ (.int .i64 2)).setCell ⟨M, 0, none⟩ (.slice none 0 0)) (fun k => k = M) := by
  refine ⟨⟨?_, RowB.nil _ _ _ (by omega), by simp⟩, ?_⟩
  ·have e := heap_setCell_same _ M 0 _ _ (.slice none 0 0) (heap_setCell_same w M 1 _ _ (.int .i64 2) hh)
   simpa using e
  ·have T : Touch w (w.setCell ⟨M, 1, none⟩ (.int .i64 2)) (fun k => k = M) := (Touch.refl _ _).setCell ⟨M, 1, none⟩ _ (fun _ => rfl)
   exact T.setCell ⟨M, 0, none⟩ _ (fun _ => rfl)
 have FIN := Lib.hid fin
 clear fin
 by_cases h0 : n < 0
 ·have hz : err ≠ 0 := by rcases hn with h | h <;> omega
  have he : (err == 0) = false := beq_eq_false_iff_ne.2 hz
  go_enter Tryz.func167, Tryz.ntmps167
  go_wp2
  go_ret
  exact ⟨rfl, FIN.out.1, FIN.out.2⟩
 by_cases hz : err = 0
 ·subst hz
  have hl : (len : Int) < n := by rcases hn with h | h <;> omega
  clear hn
  go_enter Tryz.func167, Tryz.ntmps167
  go_wp2
  go_ret
  exact ⟨rfl, FIN.out.1, FIN.out.2⟩
 ·have he : (err == 0) = false := beq_eq_false_iff_ne.2 hz
  clear hn
  go_enter Tryz.func167, Tryz.ntmps167
  go_wp2
  go_ret
  exact ⟨rfl, FIN.out.1, FIN.out.2⟩
set_option maxHeartbeats 1000000 in
theorem rf_raw_ok (M : Nat) (a : Option Addr) (len cap : Nat) (xs : List Nat) (n : Nat) (w : World) (h : RfB w M a len cap xs 0) (hn : n ≤ len) (hlen : len ≤ 140737488355328) :
 Calls Tryz.prog 167 #[.pointer (some ⟨M, 0, none⟩), .int .i64 n] w fun e w' => ∃ v, e = .returned v ∧ TookR M a len cap xs n w w' v := by
 obtain ⟨hh, hrow, hap⟩ := h
 have hM : M < w.heap.size := (Array.getElem?_eq_some_iff.1 hh).1
 have hc0 := cell_of_cells hh 0
 have hc1 := cell_of_cells hh 1
 simp at hc0 hc1
 have hle := hrow.2.1
 have hcm := hrow.2.2.1
 have hxl := hrow.1
 have i1 : ¬ (n : Int) < 0 := by omega
 have i2 : ¬ (len : Int) < (n : Int) := by omega
 have i3 : (n : Int) ≤ (len : Int) := by omega
 have i5 : n ≤ cap := by omega
 have hrt := hrow.take n (by omega)
 have hnl : ([] ++ xs.take n).length = n := by simp; omega
 have hs0 : n ≤ 140737488355328 := by omega
 by_cases hcn : cap = n
 ·have hcn := hcn.symm; subst hcn; have hln : len = n := (by omega); subst hln
  go_enter Tryz.func167, Tryz.ntmps167
  go_wp2_with (at_builtin; refine wpList_appendB rfl _ _ 38 rfl 5 Tryz.underlying38 infoB w.heap.size (.slice none 0 0) [] rfl (OwnB.nil _ _ _) _ _ _ (xs.take len) rfl hrt len (xs.take len) rfl hnl hs0 (Nat.le_refl _) w.heap.size w (Below.refl _ _) (Nat.le_refl _) ?_; intro a3 c3 w3 hown3 hr3 hg3 hb3 hs3 hp3 hl3; have hh3 := (hg3.block M hM (by simp [Value.ownBlock])).trans hh; have hc3 := cell_of_cells hh3 0; simp at hc3; have hf3 := free_of_cells hh3 0)
  go_ret
  have T1 : Touch w w3 (fun _ => False) := Touch.ofBelow hb3 (fun k h1 h2 => by omega)
  have hro : RowB w3 a len len xs := hrow.touch T1 (fun _ _ => .inr (fun h => h))
  have T2 : Touch w3 (w3.setCell ⟨M, 0, none⟩ (.slice a 0 0)) (fun k => k = M) := (Touch.refl _ _).setCell ⟨M, 0, none⟩ _ (fun _ => rfl)
  refine ⟨_, rfl, a3, c3, a, rfl, ?_, ?_, ⟨?_, ?_, fun x hx => .inl (by omega)⟩, fun x hx => ⟨x, hx, rfl⟩, ?_⟩
  ·have := hr3.touch T2 (fun x hx => .inr (fun hk => by
    rcases hp3 with h | ⟨g, h, hg, _⟩
    ·rw [hx] at h; cases h
    ·rw [hx] at h; cases h; simp at hk; omega))
   simpa using this
  ·intro x hx
   rcases hp3 with h | ⟨g, h, hg, _⟩
   ·rw [hx] at h; cases h
   ·rw [hx] at h; cases h; exact hg
  ·have e := heap_setCell_same w3 M 0 _ _ (.slice a 0 0) hh3
   simpa using e
  ·have e : xs.drop len = [] := List.drop_of_length_le (by omega)
   rw [e, Nat.sub_self]
   exact RowB.nil _ _ _ (by omega)
  ·have := (T1.mono (T := fun k => k = M) (fun _ _ h => h.elim)).trans T2 (fun _ _ h => h)
   simpa using this
 ·have hcn' : ¬ n = cap := fun h => hcn h.symm
  go_enter Tryz.func167, Tryz.ntmps167
  go_wp2_with (at_builtin; refine wpList_appendB rfl _ _ 38 rfl 5 Tryz.underlying38 infoB w.heap.size (.slice none 0 0) [] rfl (OwnB.nil _ _ _) _ _ _ (xs.take n) rfl hrt n (xs.take n) rfl hnl hs0 (Nat.le_refl _) w.heap.size w (Below.refl _ _) (Nat.le_refl _) ?_; intro a3 c3 w3 hown3 hr3 hg3 hb3 hs3 hp3 hl3; have hh3 := (hg3.block M hM (by simp [Value.ownBlock])).trans hh; have hc3 := cell_of_cells hh3 0; simp at hc3; have hf3 := free_of_cells hh3 0)
  go_ret
  have T1 : Touch w w3 (fun _ => False) := Touch.ofBelow hb3 (fun k h1 h2 => by omega)
  have T2 : Touch w3 (w3.setCell ⟨M, 0, none⟩ (.slice (a.map (fun x => x.add n)) (len - n) (cap - n))) (fun k => k = M) := (Touch.refl _ _).setCell ⟨M, 0, none⟩ _ (fun _ => rfl)
  have hro : RowB (w3.setCell ⟨M, 0, none⟩ (.slice (a.map (fun x => x.add n)) (len - n) (cap - n))) a len cap xs := (hrow.touch T1 (fun _ _ => .inr (fun h => h))).touch T2 (fun x hx => by rcases hap x hx with h | h; exact .inl h; exact .inr h)
  have hblk : ∀ x, a.map (fun x => x.add n) = some x → ∃ y, a = some y ∧ x.block = y.block := by
   intro x hx
   cases a with
   | none => simp at hx
   | some y =>
     simp only [Option.map_some, Option.some.injEq] at hx
     exact ⟨y, rfl, by rw [← hx]; unfold Addr.add; split <;> rfl⟩
  refine ⟨_, rfl, a3, c3, a.map (fun x => x.add n), rfl, ?_, ?_, ⟨?_, hro.dropMap n (by omega), fun x hx => ?_⟩, hblk, (T1.mono (T := fun k => k = M) (fun _ _ h => h.elim)).trans T2 (fun _ _ h => h)⟩
  ·exact hr3.touch T2 (fun x hx => .inr (fun hk => by
    rcases hp3 with h | ⟨g, h, hg, _⟩
    ·rw [hx] at h; cases h
    ·rw [hx] at h; cases h; simp at hk; omega))
  ·intro x hx
   rcases hp3 with h | ⟨g, h, hg, _⟩
   ·rw [hx] at h; cases h
   ·rw [hx] at h; cases h; exact hg
  ·have e := heap_setCell_same w3 M 0 _ _ (.slice (a.map (fun x => x.add n)) (len - n) (cap - n)) hh3
   simpa using e
  ·obtain ⟨y, hy, hxy⟩ := hblk x hx
   rcases hap y hy with h | h
   ·exact .inl (by omega)
   ·right; rw [hxy]; exact h
end Go.Proofs.YtpjdcgjoepjmcaaGreat
end
section
namespace Go.Proofs.YtpjdcgjoepjmcaaGreat
open Go.RowKit
set_option maxHeartbeats 1000000 in
theorem rf_num_ok (M : Nat) (a : Option Addr) (len cap : Nat) (xs : List Nat) (n : Nat) (w : World) (h : RfB w M a len cap xs 0) (hn0 : 0 < n) (hn : n ≤ len) (hn8 : n ≤ 8) (hlen : len ≤ 140737488355328) :
 Calls Tryz.prog 134 #[.pointer (some ⟨M, 0, none⟩), .int .i64 n] w fun e w' => e = .returned (.int .u64 (beN (xs.take n) : Nat)) ∧ ∃ v, TookR M a len cap xs n w w' v := by
 have H := Lib.hid (rf_raw_ok M a len cap xs n w h hn hlen)
 have hxl := h.row.1
 clear h
 go_enter Tryz.func134, Tryz.ntmps134
 go_wp2_with fail
 refine H.out.mono ?_
 rintro e w1 ⟨v, rfl, hto⟩
 have HT := Lib.hid hto
 obtain ⟨a3, c3, a', rfl, hrow, -, -, -, -⟩ := hto
 obtain ⟨h1, h2, h3, h6, h4, h5⟩ := hrow
 obtain h0 | ⟨b, off, rfl, hc⟩ := h5
 ·omega
 have HL := Lib.hid h1
 have HSM := Lib.hid h4
 clear h1 h4
 go_wp2_with fail
 go_loop [5, 12] (fun s i => ∃ k : Nat, k ≤ n ∧ i = .int .i64 k ∧ s = .int .u64 (beN ((xs.take n).take k) : Nat)) (fun _ i => n - (intOf i).toNat)
 case atStart => exact ⟨0, Nat.zero_le _, rfl, rfl⟩
 case round =>
  obtain ⟨k, hk, rfl, rfl⟩ := hrel
  by_cases hlt : k < n
  ·have hkx : k < (xs.take n).length := by rw [HL.out]; exact hlt
   have c0 := hc k hkx
   have b0 := HSM.out _ (List.getElem_mem hkx)
   have HS := Lib.hid (beN_step (xs.take n) k hkx)
   have hlt2 := beN_lt (xs.take n) HSM.out k (by rw [HL.out]; omega)
   have hbig : beN ((xs.take n).take k) < 72057594037927936 := by
    have : (256 : Nat) ^ k ≤ 256 ^ 7 := Nat.pow_le_pow_right (by omega) (by omega)
    have e : (256 : Nat) ^ 7 = 72057594037927936 := by decide
    omega
   clear hlt2 hc
   generalize (xs.take n)[k] = y at *
   generalize beN ((xs.take n).take k) = x at *
   have hor := or64 x y hbig b0
   have i1 : (k : Int) < n := by omega
   go_wp2
   refine ⟨⟨k + 1, by omega, by go_num, ?_⟩, by simp [intOf]; omega⟩
   rw [HS.out]; simp
  ·obtain rfl : n = k := by omega
   have i1 : ¬ (n : Int) < n := by omega
   clear hc
   go_wp2
   go_ret
   refine ⟨?_, _, HT.out⟩
   have e : (xs.take n).take n = xs.take n := by rw [List.take_take]; simp
   show Ending.returned (.int .u64 ((beN ((xs.take n).take n) : Nat) : Int)) = _
   rw [e]
set_option maxHeartbeats 1000000 in
theorem rf_num_bad (M : Nat) (a : Option Addr) (len cap : Nat) (xs : List Nat) (err n : Int) (w : World) (h : RfB w M a len cap xs err) (hn : err ≠ 0 ∨ (len : Int) < n) :
 Calls Tryz.prog 134 #[.pointer (some ⟨M, 0, none⟩), .int .i64 n] w fun e w' => e = .returned (.int .u64 0) ∧ RfB w' M none 0 0 [] 2 ∧ Touch w w' (fun k => k = M) := by
 have H := Lib.hid (rf_raw_bad M a len cap xs err n w h hn)
 clear h hn
 go_enter Tryz.func134, Tryz.ntmps134
 go_wp2_with (go_at_call 167; refine H.out.mono ?_; rintro e w' ⟨rfl, hr, ht⟩)
 go_loop [5, 12] (fun x i => x = .int .u64 0 ∧ i = .int .i64 0) (fun _ _ => 0)
 case atStart => exact ⟨rfl, rfl⟩
 case round =>
  obtain ⟨rfl, rfl⟩ := hrel
  go_wp2
  go_ret
  exact ⟨rfl, hr, ht⟩
def valN (n : Nat) (xs : List Nat) : Nat := if n ≤ xs.length then beN (xs.take n) else 0
def rawN (n : Nat) (xs : List Nat) : List Nat := if n ≤ xs.length then xs.take n else []
def nxtX (n : Nat) (xs : List Nat) : List Nat := if n ≤ xs.length then xs.drop n else []
def nxtE (n : Nat) (xs : List Nat) (err : Int) : Int := if n ≤ xs.length then err else 2
theorem valN_lt (n : Nat) (xs : List Nat) (h : ∀ x ∈ xs, x < 256) : valN n xs < 256 ^ n := by
 unfold valN; split
 ·exact beN_lt xs h n (by assumption)
 ·exact Nat.pow_pos (by omega)
def Rd (w : World) (G M : Nat) (xs : List Nat) (err : Int) : Prop := ∃ a cap, RdB w G a xs.length cap xs err ∧ ∀ x, a = some x → xs.length = 0 ∨ x.block ≠ M
def Rf (w : World) (M G : Nat) (xs : List Nat) (err : Int) : Prop := ∃ a cap, RfB w M a xs.length cap xs err ∧ ∀ x, a = some x → xs.length = 0 ∨ x.block ≠ G
theorem Rf.none {w : World} {G M : Nat} (h : RfB w M none 0 0 [] 2) : Rf w M G [] 2 := ⟨Option.none, 0, h, fun x hx => by cases hx⟩
theorem Rf.took {w w' : World} {G M : Nat} {a : Option Addr} {cap : Nat} {xs : List Nat} {n : Nat} {v : Value} (hn : n ≤ xs.length) (ha : ∀ x, a = some x → xs.length = 0 ∨ x.block ≠ G) (t : TookR M a xs.length cap xs n w w' v) :
 Rf w' M G (nxtX n xs) (nxtE n xs 0) ∧ Touch w w' (fun k => k = M) := by
 obtain ⟨a3, c3, a', hv, hr, hb, h1, h4, h3⟩ := t
 unfold nxtX nxtE
 rw [if_pos hn, if_pos hn]
 refine ⟨⟨a', cap - n, by simpa using h1, fun x hx => ?_⟩, h3⟩
 obtain ⟨y, hy, hxy⟩ := h4 x hx
 rcases ha y hy with h | h
 ·left; simp; omega
 ·right; rw [hxy]; exact h
theorem nxt_bad {n : Nat} {xs : List Nat} {err : Int} (hn : ¬ n ≤ xs.length) : nxtX n xs = [] ∧ nxtE n xs err = 2 ∧ valN n xs = 0 ∧ rawN n xs = [] := by
 unfold nxtX nxtE valN rawN; simp [hn]
set_option maxHeartbeats 1000000 in
theorem rf_U32 (M G : Nat) (xs : List Nat) (err : Int) (w : World) (h : Rf w M G xs err) (he : err = 0 ∨ xs = []) (hlen : xs.length ≤ 140737488355328) :
 Calls Tryz.prog 99 #[.pointer (some ⟨M, 0, none⟩)] w fun e w' => e = .returned (.int .u32 ((valN 4 xs) : Nat)) ∧ Rf w' M G (nxtX 4 xs) (nxtE 4 xs err) ∧ Touch w w' (fun k => k = M) := by
 obtain ⟨a, cap, h1, h2⟩ := h
 have hsm := h1.row.2.2.2.2.1
 have hb : valN 4 xs < 256 ^ 4 := valN_lt 4 xs hsm
 have hb2 : valN 4 xs < 4294967296 := by
  have e : (256 : Nat) ^ 4 = 4294967296 := by decide
  omega
 have HS := Lib.hid (sgn_w64 (valN 4 xs) (by omega))
 have key : Calls Tryz.prog 134 #[.pointer (some ⟨M, 0, none⟩), .int .i64 4] w fun e w' => e = .returned (.int .u64 (valN 4 xs : Nat)) ∧ Rf w' M G (nxtX 4 xs) (nxtE 4 xs err) ∧ Touch w w' (fun k => k = M) := by
  by_cases hn : err = 0 ∧ 4 ≤ xs.length
  ·obtain ⟨rfl, hn⟩ := hn
   refine (rf_num_ok M a _ cap xs 4 w h1 (by omega) hn (by omega) hlen).mono ?_
   rintro e w' ⟨rfl, v, ht⟩
   exact ⟨by unfold valN; rw [if_pos hn], Rf.took hn h2 ht⟩
  ·have hn' : ¬ 4 ≤ xs.length := by
    rcases he with he | he
    ·exact fun h => hn ⟨he, h⟩
    ·subst he; simp
   refine (rf_num_bad M a _ cap xs err 4 w h1 (by omega)).mono ?_
   rintro e w' ⟨rfl, hr, ht⟩
   obtain ⟨e1, e2, e3, _⟩ := nxt_bad (err := err) hn'
   rw [e1, e2, e3]
   exact ⟨rfl, Rf.none hr, ht⟩
 have H := Lib.hid key
 clear key h1 hsm he hb
 generalize valN 4 xs = z at *
 go_enter Tryz.func99, Tryz.ntmps99
 go_wp2_with (go_at_call 134; refine H.out.mono ?_; rintro e w' ⟨rfl, hrf, ht⟩)
 try rw [HS.out]
 go_ret
 exact ⟨rfl, hrf, ht⟩
end Go.Proofs.YtpjdcgjoepjmcaaGreat
end
section
namespace Go.Proofs.YtpjdcgjoepjmcaaGreat
open Go.RowKit
def GotR (w w' : World) (v : Value) (ys : List Nat) : Prop := ∃ a3 c3, v = .slice a3 ys.length c3 ∧ RowB w' a3 ys.length c3 ys ∧ ∀ x, a3 = some x → w.heap.size ≤ x.block
end Go.Proofs.YtpjdcgjoepjmcaaGreat
end
section
namespace Go.Proofs.YtpjdcgjoepjmcaaGreat
open Go.RowKit
structure Two (w : World) (base G : Nat) (v vw : Value) (xs ys : List Nat) : Prop where
 wr : WrB w base G v xs
 own : OwnB w base 5 vw ys
 apG : vw.ownBlock ≠ some G
 ap : ∀ k, v.ownBlock = some k → vw.ownBlock ≠ some k
theorem row_lit (w : World) (cs : Array Value) (n : Nat) (xs : List Nat) (hcs : cs.toList = xs.map cellB) (hn : xs.length = n) (hx : ∀ x ∈ xs, x < 256) (hs : n ≤ 281474976710656) :
 RowB (w.alloc (.cells cs 5)) (some ⟨w.heap.size, 0, none⟩) n n xs := by
 obtain ⟨a, c, hv, hr, _⟩ := (OwnB.lit w _ rfl _ (Nat.le_refl _) 5 cs n xs hcs hn hx hs).row
 subst hn
 simp only [Value.slice.injEq, true_and] at hv
 obtain ⟨rfl, rfl⟩ := hv
 exact hr
theorem be_one (n : Int) : [Value.int .u8 (n % 256)] = (beB 1 (u64N n)).map cellB := by
 simp [beB, List.range_succ, cellB, u64N]
 omega
end Go.Proofs.YtpjdcgjoepjmcaaGreat
end
section
namespace Go.Proofs.YtpjdcgjoepjmcaaGreat
open Go.RowKit
theorem WrB.fresh (w : World) : WrB (w.alloc (.cells #[.slice none 0 0] 176)) w.heap.size w.heap.size (.slice none 0 0) [] :=
 ⟨⟨_, heap_alloc_new w _⟩, Nat.le_refl _, OwnB.nil _ _ _, by simp [Value.ownBlock]⟩
theorem PutB.under {base G : Nat} {v : Value} {w w' : World} {xs zs : List Nat} (h : WrB w base G v xs) (p : PutB base G v w zs w') (hb : base ≤ w.heap.size) : Below base w w' := by
 obtain ⟨v', _, ht, _⟩ := p
 exact ht.below (fun k _ hk => by rcases hk with rfl | hk; exact h.low; exact (h.foot.2 k hk).1) hb
def WrE (w : World) (base G : Nat) (xs : List Nat) : Prop := base ≤ w.heap.size ∧ ∃ v, WrB w base G v xs
theorem WrE.fresh (w : World) : WrE (w.alloc (.cells #[.slice none 0 0] 176)) w.heap.size w.heap.size [] := ⟨by simp, _, WrB.fresh w⟩
theorem WrE.put {base G : Nat} {v : Value} {w w' : World} {xs zs : List Nat} (hb : base ≤ w.heap.size) (h : WrB w base G v xs) (p : PutB base G v w zs w') : WrE w' base G zs ∧ Below base w w' := by
 have hb' := p.under h hb
 obtain ⟨v', h', _, _⟩ := p
 exact ⟨⟨Nat.le_trans hb hb'.size, v', h'⟩, hb'⟩
theorem e_wU8 (base G : Nat) (xs : List Nat) (n : Int) (w : World) (h : WrE w base G xs) (hn : -9223372036854775808 ≤ n ∧ n ≤ 9223372036854775807) (hlen : xs.length ≤ 1000000) :
 Calls Tryz.prog 115 #[.pointer (some ⟨G, 0, none⟩), .int .i64 n] w fun e w' => e = .returned (.tuple #[]) ∧ WrE w' base G (xs ++ beB 1 (u64N n)) ∧ Below base w w' := by
 obtain ⟨hb, v, h⟩ := h
 refine (wU8_any G v xs base n w h hn (by omega) hb).mono ?_
 rintro e w' ⟨rfl, p⟩
 exact ⟨rfl, WrE.put hb h p⟩
theorem e_wU16 (base G : Nat) (xs : List Nat) (n : Int) (w : World) (h : WrE w base G xs) (hn : -9223372036854775808 ≤ n ∧ n ≤ 9223372036854775807) (hlen : xs.length ≤ 1000000) :
 Calls Tryz.prog 116 #[.pointer (some ⟨G, 0, none⟩), .int .i64 n] w fun e w' => e = .returned (.tuple #[]) ∧ WrE w' base G (xs ++ beB 2 (u64N n)) ∧ Below base w w' := by
 obtain ⟨hb, v, h⟩ := h
 refine (wU16_any G v xs base n w h hn (by omega) hb).mono ?_
 rintro e w' ⟨rfl, p⟩
 exact ⟨rfl, WrE.put hb h p⟩
theorem e_wU32 (base G : Nat) (xs : List Nat) (n : Int) (w : World) (h : WrE w base G xs) (hn : 0 ≤ n ∧ n ≤ 4294967295) (hlen : xs.length ≤ 1000000) :
 Calls Tryz.prog 117 #[.pointer (some ⟨G, 0, none⟩), .int .u32 n] w fun e w' => e = .returned (.tuple #[]) ∧ WrE w' base G (xs ++ beB 4 (u64N n)) ∧ Below base w w' := by
 obtain ⟨hb, v, h⟩ := h
 refine (wU32_any G v xs base n w h hn (by omega) hb).mono ?_
 rintro e w' ⟨rfl, p⟩
 exact ⟨rfl, WrE.put hb h p⟩
theorem e_wBytes (base G : Nat) (xs : List Nat) (w : World) (h : WrE w base G xs) (hlen : xs.length ≤ 140737488355328) (n : Nat) (hn : xs.length = n) :
 Calls Tryz.prog 118 #[.pointer (some ⟨G, 0, none⟩)] w fun e w' => ∃ a' cap', e = .returned (.slice a' n cap') ∧ FreshB w w' (.slice a' n cap') xs := by
 obtain ⟨hb, v, h⟩ := h
 subst hn
 exact wbytes_any G v xs base w h hlen
end Go.Proofs.YtpjdcgjoepjmcaaGreat
end
section
namespace Go.Proofs.YtpjdcgjoepjmcaaGreat
open Go.RowKit
def wid (c : CallD) : Nat := if c.act = 0 then 1 else if c.act = 1 then 2 else if c.act = 2 then 4 else if c.act = 3 then 8 else c.rl
def enc (c : CallD) : List Nat := if c.act = 0 then beB 1 (u64N c.num) else if c.act = 1 then beB 2 (u64N c.num) else if c.act = 2 then beB 4 (u64N (c.num % 4294967296)) else if c.act = 3 then beB 8 (u64N c.num) else c.raw
def encs : List CallD → List Nat
 | [] => []
 | c :: r => enc c ++ encs r
def wsum : List CallD → Nat
 | [] => 0
 | c :: r => wid c + wsum r
def runs : List CallD → List Nat → Int → List Nat × Int
 | [], zs, e => (zs, e)
 | c :: r, zs, e => runs r (nxtX (wid c) zs) (nxtE (wid c) zs e)
end Go.Proofs.YtpjdcgjoepjmcaaGreat
end
