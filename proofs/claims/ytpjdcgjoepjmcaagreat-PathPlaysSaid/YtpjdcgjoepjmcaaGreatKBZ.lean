import Derived.Test.YtpjdcgjoepjmcaaGreatGAZ
import Derived.Laws.BitsLemmas
import Derived.Test.YtpjdcgjoepjmcaaGreatGBZ
set_option linter.unusedVariables false
section
namespace Go.Proofs.YtpjdcgjoepjmcaaGreat
theorem wraps_i64 (n : Int) (h₀ : 0 ≤ n) (h₁ : n < 2 ^ 63) : IntKind.i64.wrap n = n := by rw [IntKind.wrap_i64]; omega
theorem mask_i64 (x : Int) (i : Nat) (hi : i ≤ 62) (m : Int) (hm : (2 : Int) ^ i - 1 = m) : bits BinOp.and IntKind.i64 x m = x % 2 ^ i := by
 subst hm
 have hpos : 0 < 2 ^ i := Nat.two_pow_pos i
 have hle : 2 ^ i ≤ 2 ^ 62 := Nat.pow_le_pow_right (by omega) hi
 have h62 : (2 : Nat) ^ 62 = 4611686018427387904 := by decide
 have h64 : (2 : Nat) ^ 64 = 18446744073709551616 := by decide
 have hc : ((2 : Int) ^ i - 1) = ((2 ^ i - 1 : Nat) : Int) := by
  rw [Int.natCast_sub hpos]; simp
 have hb : (2 ^ i - 1) % 2 ^ 64 = 2 ^ i - 1 := Nat.mod_eq_of_lt (by omega)
 obtain ⟨a, ha⟩ : ∃ a : Nat, x % 18446744073709551616 = a := ⟨(x % 18446744073709551616).toNat, by omega⟩
 have e1 : (BitVec.ofInt IntKind.i64.bits x).toNat = a := by
  rw [BitVec.toNat_ofInt]; show (x % ((2 ^ 64 : Nat) : Int)).toNat = a
  rw [h64]; omega
 have e2 : (BitVec.ofInt IntKind.i64.bits ((2 : Int) ^ i - 1)).toNat = 2 ^ i - 1 := by
  rw [hc, BitVec.ofInt_natCast, BitVec.toNat_ofNat]; exact hb
 have e3 : bits BinOp.and IntKind.i64 x ((2 : Int) ^ i - 1) = IntKind.i64.wrap (((a &&& (2 ^ i - 1) : Nat)) : Int) := by
  simp only [bits, BitVec.toNat_and, e1, e2]
 rw [e3, Nat.and_two_pow_sub_one_eq_mod]
 have hlt : a % 2 ^ i < 2 ^ i := Nat.mod_lt _ hpos
 rw [wraps_i64 _ (by omega) (by have : (2 : Int) ^ 63 = 9223372036854775808 := by decide
                                omega)]
 have hd : (2 ^ i : Nat) ∣ 2 ^ 64 := Nat.pow_dvd_pow 2 (by omega)
 have hx : x = (a : Int) + 18446744073709551616 * (x / 18446744073709551616) := by omega
 have : x % (2 : Int) ^ i = (a : Int) % (2 : Int) ^ i := by
  obtain ⟨q, hq⟩ := hd
  have hq' : (18446744073709551616 : Int) = (2 : Int) ^ i * q := by
   have : ((2 ^ 64 : Nat) : Int) = ((2 ^ i * q : Nat) : Int) := by rw [hq]
   rw [h64] at this
   simpa using this
  conv => lhs; rw [hx, hq', Int.mul_assoc]
  exact Int.add_mul_emod_self_left _ _ _
 rw [this]; simp
theorem mask_u8 (x : Int) (i : Nat) (hi : i ≤ 8) (m : Int) (hm : (2 : Int) ^ i - 1 = m) (h0 : 0 ≤ x) (h1 : x < 256) : bits BinOp.and IntKind.u8 x m = x % 2 ^ i := by
 subst hm; exact bits_mask .u8 8 (by decide) wraps_u8 i hi x h0 h1
theorem or_i64 (x y : Int) (i : Nat) (h0 : 0 ≤ x) (hx : x % 2 ^ i = 0) (h1 : x < 9223372036854775808) (hy : 0 ≤ y) (hy1 : y < 2 ^ i) (hy2 : y < 9223372036854775808) : bits BinOp.or IntKind.i64 x y = x + y :=
 bits_join .i64 63 (by decide) wraps_i64 i x y h0 hx (by omega) hy hy1 (by omega)
end Go.Proofs.YtpjdcgjoepjmcaaGreat
end
section
namespace Go.Proofs.YtpjdcgjoepjmcaaGreat
open Go.RowKit
def gb (xs : List Nat) (i : Nat) : Nat := xs.getD i 0
theorem gb_lt (xs : List Nat) (h : ∀ x ∈ xs, x < 256) (i : Nat) : gb xs i < 256 := by
 unfold gb
 by_cases hi : i < xs.length
 ·rw [List.getD_eq_getElem?_getD, List.getElem?_eq_getElem hi]; exact h _ (List.getElem_mem hi)
 ·rw [List.getD_eq_getElem?_getD, List.getElem?_eq_none (by omega)]; simp
theorem gb_get (xs : List Nat) (i : Nat) (h : i < xs.length) : gb xs i = xs[i] := by
 unfold gb; rw [List.getD_eq_getElem?_getD, List.getElem?_eq_getElem h]; rfl
theorem take_gb (xs : List Nat) : ∀ k, k ≤ xs.length → xs.take k = (List.range k).map (gb xs)
 | 0, _ => by simp
 | k + 1, h => by
   rw [List.take_succ_eq_append_getElem (by omega), take_gb xs k (by omega), List.range_succ, List.map_append, ← gb_get xs k (by omega)]; rfl
theorem RowB.gb {w : World} {b off len cap : Nat} {xs : List Nat} (h : RowB w (some ⟨b, off, none⟩) len cap xs) (i : Nat) (hi : i < len) : w.cell? ⟨b, off + i, none⟩ = some (.int .u8 (gb xs i : Nat)) := by
 obtain ⟨h1, h2, h3, h6, h4, h5⟩ := h
 rcases h5 with h5 | ⟨b', off', ha, hc⟩
 ·omega
 ·simp only [Option.some.injEq, Addr.mk.injEq] at ha
  obtain ⟨rfl, rfl, _⟩ := ha
  rw [hc i (by omega), gb_get _ _ (by omega)]
theorem RowB.some {w : World} {a : Option Addr} {len cap : Nat} {xs : List Nat} (h : RowB w a len cap xs) (h0 : 0 < len) : ∃ b off, a = .some ⟨b, off, none⟩ := by
 rcases h.2.2.2.2.2 with h5 | ⟨b, off, ha, _⟩
 ·omega
 ·exact ⟨b, off, ha⟩
theorem RowB.dropNe {w : World} {b off len cap : Nat} {xs : List Nat} (h : RowB w (.some ⟨b, off, none⟩) len cap xs) (k : Nat) (hk : k ≤ len) (hc : ¬ cap = k) : RowB w (.some ⟨b, off + k, none⟩) (len - k) (cap - k) (xs.drop k) := by
 have := h.drop k hk
 rw [if_neg hc] at this
 exact this
def RdE (w : World) (G U : Nat) (xs : List Nat) (err : Int) : Prop := ∃ a cap, RdB w G a xs.length cap xs err ∧ G < U ∧ U ≤ w.heap.size ∧ (∀ x, a = .some x → xs.length = 0 ∨ x.block < U)
theorem RdE.touch {w w' : World} {G U : Nat} {xs : List Nat} {err : Int} {S : Nat → Prop} (h : RdE w G U xs err) (t : Touch w w' S) (hS : ∀ k, S k → U ≤ k) : RdE w' G U xs err := by
 obtain ⟨a, c, h1, h2, h3, h4⟩ := h
 refine ⟨a, c, h1.touch t (fun h => by have := hS _ h; omega) (fun x hx => ?_), h2, Nat.le_trans h3 t.size, h4⟩
 rcases h4 x hx with h | h
 ·exact .inl h
 ·exact .inr (fun h => by have := hS _ h; omega)
theorem RdE.still {w w' : World} {G U : Nat} {xs : List Nat} {err : Int} (h : RdE w G U xs err) (t : Touch w w' (fun _ => False)) : RdE w' G U xs err := h.touch t (fun _ h => h.elim)
theorem RdE.lt {w : World} {G U : Nat} {xs : List Nat} {err : Int} (h : RdE w G U xs err) : G < U ∧ U ≤ w.heap.size := by obtain ⟨_, _, _, h1, h2, _⟩ := h; exact ⟨h1, h2⟩
theorem TookB.rdE {G U : Nat} {a : Option Addr} {cap : Nat} {xs : List Nat} {err : Int} {n : Nat} {w w' : World} (h : TookB G a xs.length cap xs err n w w') (hG : G < U) (hU : U ≤ w.heap.size) (ha : ∀ x, a = .some x → xs.length = 0 ∨ x.block < U) : RdE w' G U (xs.drop n) err ∧ Touch w w' (fun k => k = G) := by
 obtain ⟨a', h1, _, t, h4⟩ := h
 refine ⟨⟨a', cap - n, ?_, hG, Nat.le_trans hU t.size, ?_⟩, t⟩
 ·rw [List.length_drop]; exact h1
 ·intro x hx
  obtain ⟨y, hy, hb⟩ := h4 x hx
  rcases ha y hy with h | h
  ·left; simp; omega
  ·right; rw [hb]; exact h
theorem e_U8 (G U x : Nat) (xs : List Nat) (err : Int) (w : World) (h : RdE w G U (x :: xs) err) :
 Calls Tryz.prog 168 #[.pointer (.some ⟨G, 0, none⟩)] w fun e w' => e = .returned (.int .i64 (x : Nat)) ∧ RdE w' G U xs err ∧ Touch w w' (fun k => k = G) := by
 obtain ⟨a, c, h1, h2, h3, h4⟩ := h
 refine (rU8_any G a _ c _ err w h1 (by simp)).mono ?_
 rintro e w' ⟨rfl, ht⟩
 exact ⟨by simp [beN], ht.rdE h2 h3 h4⟩
theorem e_U16 (G U x y : Nat) (xs : List Nat) (err : Int) (w : World) (h : RdE w G U (x :: y :: xs) err) :
 Calls Tryz.prog 80 #[.pointer (.some ⟨G, 0, none⟩)] w fun e w' => e = .returned (.int .i64 (x * 256 + y : Nat)) ∧ RdE w' G U xs err ∧ Touch w w' (fun k => k = G) := by
 obtain ⟨a, c, h1, h2, h3, h4⟩ := h
 refine (rU16_any G a _ c _ err w h1 (by simp)).mono ?_
 rintro e w' ⟨rfl, ht⟩
 exact ⟨by simp [beN], ht.rdE h2 h3 h4⟩
theorem e_U32 (G U x y z u : Nat) (xs : List Nat) (err : Int) (w : World) (h : RdE w G U (x :: y :: z :: u :: xs) err) :
 Calls Tryz.prog 169 #[.pointer (.some ⟨G, 0, none⟩)] w fun e w' => e = .returned (.int .u32 (beN [x, y, z, u] : Nat)) ∧ RdE w' G U xs err ∧ Touch w w' (fun k => k = G) := by
 obtain ⟨a, c, h1, h2, h3, h4⟩ := h
 refine (rU32_any G a _ c _ err w h1 (by simp)).mono ?_
 rintro e w' ⟨rfl, ht⟩
 exact ⟨rfl, ht.rdE h2 h3 h4⟩
theorem NewRd.rdE {w w' : World} {v : Value} {len : Nat} {xs : List Nat} (h : NewRd w w' v len xs) : ∃ G, v = .pointer (.some ⟨G, 0, none⟩) ∧ RdE w' G w'.heap.size xs 0 ∧ Touch w w' (fun _ => False) ∧ w.heap.size ≤ G := by
 obtain ⟨G, a, c, hv, h1, t, hg, _⟩ := h
 have hl := h1.row.1
 subst hl
 exact ⟨G, hv, ⟨a, c, h1, h1.lt, Nat.le_refl _, h1.row.lt⟩, t, hg⟩
end Go.Proofs.YtpjdcgjoepjmcaaGreat
end
section
namespace Go.Proofs.YtpjdcgjoepjmcaaGreat
open Go.RowKit
structure Hdr where
 ihl : Nat
 tos : Nat
 len : Nat
 id : Nat
 flags : Nat
 off : Nat
 ttl : Nat
 proto : Nat
 sum : Nat
 src : Nat
 dst : Nat
def hv (h : Hdr) : Value := .agg #[.int .i64 (h.ihl : Nat), .int .i64 (h.tos : Nat), .int .i64 (h.len : Nat), .int .i64 (h.id : Nat), .int .i64 (h.flags : Nat), .int .i64 (h.off : Nat), .int .i64 (h.ttl : Nat), .int .i64 (h.proto : Nat), .int .i64 (h.sum : Nat), .int .u32 (h.src : Nat), .int .u32 (h.dst : Nat)]
def hcs (h : Hdr) : Array Value := #[.int .i64 (h.ihl : Nat), .int .i64 (h.tos : Nat), .int .i64 (h.len : Nat), .int .i64 (h.id : Nat), .int .i64 (h.flags : Nat), .int .i64 (h.off : Nat), .int .i64 (h.ttl : Nat), .int .i64 (h.proto : Nat), .int .i64 (h.sum : Nat), .int .u32 (h.src : Nat), .int .u32 (h.dst : Nat)]
theorem infoH : (Tryz.prog.info? 76).map (·.size) = some 11 := by kernel_rfl
theorem cellsH {w : World} {B : Nat} {o0 o1 o2 o3 o4 o5 o6 o7 o8 o9 o10 : Value} {T : TypeId} (hb : w.heap[B]? = some (.cells #[o0, o1, o2, o3, o4, o5, o6, o7, o8, o9, o10] T (0, 0))) (v0 v1 v2 v3 v4 v5 v6 v7 v8 v9 v10 : Value) :
 (((((((((((w.setCell ⟨B, 0, none⟩ v0).setCell ⟨B, 1, none⟩ v1).setCell ⟨B, 2, none⟩ v2).setCell ⟨B, 3, none⟩ v3).setCell ⟨B, 4, none⟩ v4).setCell ⟨B, 5, none⟩ v5).setCell ⟨B, 6, none⟩ v6).setCell ⟨B, 7, none⟩ v7).setCell ⟨B, 8, none⟩ v8).setCell ⟨B, 9, none⟩ v9).setCell ⟨B, 10, none⟩ v10).heap[B]? = some (.cells #[v0, v1, v2, v3, v4, v5, v6, v7, v8, v9, v10] T (0, 0)) := by
 have := (heap_setCell_same _ B 10 _ _ v10 (heap_setCell_same _ B 9 _ _ v9 (heap_setCell_same _ B 8 _ _ v8 (heap_setCell_same _ B 7 _ _ v7 (heap_setCell_same _ B 6 _ _ v6 (heap_setCell_same _ B 5 _ _ v5 (heap_setCell_same _ B 4 _ _ v4 (heap_setCell_same _ B 3 _ _ v3 (heap_setCell_same _ B 2 _ _ v2 (heap_setCell_same _ B 1 _ _ v1 (heap_setCell_same _ B 0 _ _ v0 hb)))))))))))
 simpa using this
theorem touchH (w : World) (B : Nat) (v0 v1 v2 v3 v4 v5 v6 v7 v8 v9 v10 : Value) : Touch w (((((((((((w.setCell ⟨B, 0, none⟩ v0).setCell ⟨B, 1, none⟩ v1).setCell ⟨B, 2, none⟩ v2).setCell ⟨B, 3, none⟩ v3).setCell ⟨B, 4, none⟩ v4).setCell ⟨B, 5, none⟩ v5).setCell ⟨B, 6, none⟩ v6).setCell ⟨B, 7, none⟩ v7).setCell ⟨B, 8, none⟩ v8).setCell ⟨B, 9, none⟩ v9).setCell ⟨B, 10, none⟩ v10) (fun k => k = B) := by
 have h := Touch.refl w (fun k => k = B)
 exact (((((((((((h.into 0 v0).into 1 v1).into 2 v2).into 3 v3).into 4 v4).into 5 v5).into 6 v6).into 7 v7).into 8 v8).into 9 v9).into 10 v10)
def hdr (xs : List Nat) : Hdr := ⟨gb xs 0 % 16, gb xs 1, gb xs 2 * 256 + gb xs 3, gb xs 4 * 256 + gb xs 5, gb xs 6 / 32, gb xs 6 % 32 * 256 + gb xs 7, gb xs 8, gb xs 9, gb xs 10 * 256 + gb xs 11, beN [gb xs 12, gb xs 13, gb xs 14, gb xs 15], beN [gb xs 16, gb xs 17, gb xs 18, gb xs 19]⟩
theorem twenty (xs : List Nat) (h : 20 ≤ xs.length) : xs.take 20 = [gb xs 0, gb xs 1, gb xs 2, gb xs 3, gb xs 4, gb xs 5, gb xs 6, gb xs 7, gb xs 8, gb xs 9, gb xs 10, gb xs 11, gb xs 12, gb xs 13, gb xs 14, gb xs 15, gb xs 16, gb xs 17, gb xs 18, gb xs 19] := take_gb xs 20 h
theorem and15 (x : Nat) : bits BinOp.and IntKind.i64 (x : Int) 15 = ((x % 16 : Nat) : Int) := by
 rw [mask_i64 _ 4 (by decide) 15 rfl]; omega
set_option maxRecDepth 20000 in
set_option maxHeartbeats 2000000 in
theorem fields_any (a : Option Addr) (len cap : Nat) (xs : List Nat) (w : World) (hr : RowB w a len cap xs) (hl : 20 ≤ len) :
 Calls Tryz.prog 136 #[.slice a len cap] w fun e w' => e = .returned (hv (hdr xs)) ∧ Touch w w' (fun _ => False) := by
 have hx := hr.1
 have hcap := hr.2.1
 have hsm := hr.2.2.2.2.1
 have b0 := gb_lt xs hsm 0
 have b7 := gb_lt xs hsm 7
 have h15 := and15 (gb xs 0)
 obtain ⟨W1, hW1⟩ : ∃ W1, w.alloc (.cells #[.int .i64 0, .int .i64 0, .int .i64 0, .int .i64 0, .int .i64 0, .int .i64 0, .int .i64 0, .int .i64 0, .int .i64 0, .int .u32 0, .int .u32 0] 76) = W1 := ⟨_, rfl⟩
 have t1 : Touch w W1 (fun _ => False) := hW1 ▸ (Touch.refl _ _).alloc _
 have hrt := (hr.take 20 hl).touch t1 (fun _ _ => .inr (fun h => h))
 rw [twenty xs (by omega)] at hrt
 have HH : RowKit.Hid (hdr xs = ⟨gb xs 0 % 16, gb xs 1, gb xs 2 * 256 + gb xs 3, gb xs 4 * 256 + gb xs 5, gb xs 6 / 32, gb xs 6 % 32 * 256 + gb xs 7, gb xs 8, gb xs 9, gb xs 10 * 256 + gb xs 11, beN [gb xs 12, gb xs 13, gb xs 14, gb xs 15], beN [gb xs 16, gb xs 17, gb xs 18, gb xs 19]⟩) := Lib.hid rfl
 have H := Lib.hid (newreader_any a 20 cap _ W1 hrt (by omega))
 clear hr hrt hx hsm
 have hc20 : 20 ≤ cap := by omega
 go_enter Tryz.func136, Tryz.ntmps136
 go_wp2_with fail
 refine H.out.mono ?_
 rintro e w2 ⟨v, rfl, hnew⟩
 obtain ⟨G, rfl, hrd2, t2, hG⟩ := hnew.rdE
 clear hnew H
 have t2' : Touch w w2 (fun _ => False) := t1.trans t2 (fun _ _ h => h)
 go_wp2_with fail
 refine (e_U8 G _ _ _ _ _ hrd2).mono ?_
 rintro e w3 ⟨rfl, hrd3, t3⟩
 go_wp2_with fail
 refine (e_U8 G _ _ _ _ _ hrd3).mono ?_
 rintro e w4 ⟨rfl, hrd4, t4⟩
 go_wp2_with fail
 refine (e_U16 G _ _ _ _ _ _ hrd4).mono ?_
 rintro e w5 ⟨rfl, hrd5, t5⟩
 go_wp2_with fail
 refine (e_U16 G _ _ _ _ _ _ hrd5).mono ?_
 rintro e w6 ⟨rfl, hrd6, t6⟩
 go_wp2_with fail
 have t6' : Touch w2 w6 (fun k => k = G) := ((t3.trans t4 (fun _ _ h => h)).trans t5 (fun _ _ h => h)).trans t6 (fun _ _ h => h)
 obtain ⟨W7, hW7⟩ : ∃ W7, w6.alloc (.cells #[.int .i64 ((gb xs 0 : Int) % 16), .int .i64 (gb xs 1), .int .i64 ((gb xs 2 : Int) * 256 + gb xs 3), .int .i64 ((gb xs 4 : Int) * 256 + gb xs 5), .int .i64 0, .int .i64 0, .int .i64 0, .int .i64 0, .int .i64 0, .int .u32 0, .int .u32 0] 76) = W7 := ⟨_, rfl⟩
 have t7 : Touch w6 W7 (fun _ => False) := hW7 ▸ (Touch.refl _ _).alloc _
 have hB7 : W7.heap[w6.heap.size]? = some (.cells #[.int .i64 ((gb xs 0 : Int) % 16), .int .i64 (gb xs 1), .int .i64 ((gb xs 2 : Int) * 256 + gb xs 3), .int .i64 ((gb xs 4 : Int) * 256 + gb xs 5), .int .i64 0, .int .i64 0, .int .i64 0, .int .i64 0, .int .i64 0, .int .u32 0, .int .u32 0] 76 (0, 0)) := hW7 ▸ heap_alloc_new w6 _
 obtain ⟨B, hBe⟩ : ∃ B, w6.heap.size = B := ⟨_, rfl⟩
 have hGB : G < B := by have := hrd6.lt; omega
 rw [hBe] at hB7
 rw [hW7, hBe]
 have HB7 := Lib.hid hB7
 clear hB7 hrd2 hrd3 hrd4 hrd5 t3 t4 t5 t6
 refine (e_U16 G _ _ _ _ _ _ (hrd6.still t7)).mono ?_
 rintro e w8 ⟨rfl, hrd8, t8⟩
 have hB8 : w8.heap[B]? = some (.cells #[.int .i64 ((gb xs 0 : Int) % 16), .int .i64 (gb xs 1), .int .i64 ((gb xs 2 : Int) * 256 + gb xs 3), .int .i64 ((gb xs 4 : Int) * 256 + gb xs 5), .int .i64 0, .int .i64 0, .int .i64 0, .int .i64 0, .int .i64 0, .int .u32 0, .int .u32 0] 76 (0, 0)) := (t8.block B (by have := (Array.getElem?_eq_some_iff.1 HB7.out).1; exact this) (by omega)).trans HB7.out
 have f8 := free_of_cells hB8
 have c4 := cell_of_cells hB8 4
 have c5 := cell_of_cells hB8 5
 simp at c4 c5
 have a8 : bits BinOp.and IntKind.i64 ((gb xs 6 : Int) * 256 + gb xs 7) 8191 = ((gb xs 6 : Int) * 256 + gb xs 7) % 8192 := mask_i64 _ 13 (by decide) 8191 rfl
 have HB8 := Lib.hid hB8
 clear hB8 HB7
 go_wp2_with fail
 obtain ⟨W9, hW9⟩ : ∃ W9, (w8.setCell ⟨B, 4, none⟩ (.int .i64 (((gb xs 6 : Int) * 256 + gb xs 7) / 8192))).setCell ⟨B, 5, none⟩ (.int .i64 (((gb xs 6 : Int) * 256 + gb xs 7) % 8192)) = W9 := ⟨_, rfl⟩
 have hB9 := heap_setCell_same _ B 5 _ _ (.int .i64 (((gb xs 6 : Int) * 256 + gb xs 7) % 8192)) (heap_setCell_same w8 B 4 _ _ (.int .i64 (((gb xs 6 : Int) * 256 + gb xs 7) / 8192)) HB8.out)
 have t9 : Touch w8 W9 (fun k => k = B) := hW9 ▸ ((Touch.refl _ _).into 4 _).into 5 _
 rw [hW9] at hB9 ⊢
 simp at hB9
 have HB9 := Lib.hid hB9
 clear hB9 HB8 f8 c4 c5 a8
 have hUB : w2.heap.size ≤ B := by have := t6'.size; omega
 have hrd9 := hrd8.touch t9 (fun k hk => by have : k = B := hk; omega)
 refine (e_U8 G _ _ _ _ _ hrd9).mono ?_
 rintro e w10 ⟨rfl, hrd10, t10⟩
 go_wp2_with fail
 refine (e_U8 G _ _ _ _ _ hrd10).mono ?_
 rintro e w11 ⟨rfl, hrd11, t11⟩
 go_wp2_with fail
 refine (e_U16 G _ _ _ _ _ _ hrd11).mono ?_
 rintro e w12 ⟨rfl, hrd12, t12⟩
 have t12' : Touch W9 w12 (fun k => k = G) := (t10.trans t11 (fun _ _ h => h)).trans t12 (fun _ _ h => h)
 have hB12 := (t12'.block B (Array.getElem?_eq_some_iff.1 HB9.out).1 (by omega)).trans HB9.out
 have f12 := free_of_cells hB12
 have c6 := cell_of_cells hB12 6
 have c7 := cell_of_cells hB12 7
 have c8 := cell_of_cells hB12 8
 simp at c6 c7 c8
 have HB12 := Lib.hid hB12
 clear hB12 HB9
 go_wp2_with fail
 obtain ⟨W13, hW13⟩ : ∃ W, ((w12.setCell ⟨B, 6, none⟩ (.int .i64 (gb xs 8))).setCell ⟨B, 7, none⟩ (.int .i64 (gb xs 9))).setCell ⟨B, 8, none⟩ (.int .i64 ((gb xs 10 : Int) * 256 + gb xs 11)) = W := ⟨_, rfl⟩
 have hB13 := heap_setCell_same _ B 8 _ _ (.int .i64 ((gb xs 10 : Int) * 256 + gb xs 11)) (heap_setCell_same _ B 7 _ _ (.int .i64 (gb xs 9)) (heap_setCell_same w12 B 6 _ _ (.int .i64 (gb xs 8)) HB12.out))
 have t13 : Touch w12 W13 (fun k => k = B) := hW13 ▸ (((Touch.refl _ _).into 6 _).into 7 _).into 8 _
 rw [hW13] at hB13 ⊢
 simp at hB13
 have HB13 := Lib.hid hB13
 clear hB13 HB12 f12 c6 c7 c8
 have hrd13 := hrd12.touch t13 (fun k hk => by have : k = B := hk; omega)
 refine (e_U32 G _ _ _ _ _ _ _ _ hrd13).mono ?_
 rintro e w14 ⟨rfl, hrd14, t14⟩
 go_wp2_with fail
 refine (e_U32 G _ _ _ _ _ _ _ _ hrd14).mono ?_
 rintro e w15 ⟨rfl, hrd15, t15⟩
 have t15' : Touch W13 w15 (fun k => k = G) := t14.trans t15 (fun _ _ h => h)
 have hB15 := (t15'.block B (Array.getElem?_eq_some_iff.1 HB13.out).1 (by omega)).trans HB13.out
 have f15 := free_of_cells hB15
 have c9 := cell_of_cells hB15 9
 have c10 := cell_of_cells hB15 10
 simp at c9 c10
 have hB16 := heap_setCell_same _ B 10 _ _ (.int .u32 (beN [gb xs 16, gb xs 17, gb xs 18, gb xs 19] : Nat)) (heap_setCell_same w15 B 9 _ _ (.int .u32 (beN [gb xs 12, gb xs 13, gb xs 14, gb xs 15] : Nat)) hB15)
 simp at hB16
 have hR15 : w15.heap[w.heap.size]? = some (.cells #[.int .i64 0, .int .i64 0, .int .i64 0, .int .i64 0, .int .i64 0, .int .i64 0, .int .i64 0, .int .i64 0, .int .i64 0, .int .u32 0, .int .u32 0] 76 (0, 0)) := by
  have h1 : W1.heap[w.heap.size]? = _ := hW1 ▸ heap_alloc_new w _
  have hs := heap_lt h1
  have hg : w.heap.size ≠ G := by omega
  have hb : w.heap.size ≠ B := by omega
  have h6 := t6'.keeps (t2.keeps h1 (fun h => h)) hg
  exact t15'.keeps (t13.keeps (t12'.keeps (t9.keeps (t8.keeps (t7.keeps h6 (fun h => h)) hg) hb) hg) hb) hg
 have T : Touch w w15 (fun _ => False) := by
  have hB1 : ∀ k, k < w.heap.size → k = B → False := fun k h e => by have := t2'.size; have := t6'.size; omega
  have hG1 : ∀ k, k < w.heap.size → k = G → False := fun k h e => by have := t1.size; omega
  exact ((((((t2'.trans t6' hG1).trans t7 (fun _ _ h => h)).trans t8 hG1).trans t9 hB1).trans t12' hG1).trans t13 hB1).trans t15' hG1
 have HB16 := Lib.hid hB16
 have HR15 := Lib.hid hR15
 have hTy : (Tryz.prog.info? 76).map (·.size) = some 11 := by kernel_rfl
 have HTy := Lib.hid hTy
 have hRB : w.heap.size ≠ B := by have := t2'.size; have := t6'.size; have := t1.size; have : w.heap.size < W1.heap.size := heap_lt (hW1 ▸ heap_alloc_new w _ : W1.heap[w.heap.size]? = _); have := hrd6.lt; omega
 have HRB := Lib.hid hRB
 have HR17 := Lib.hid (((Below.heap_setCell (w15.setCell ⟨B, 9, none⟩ (.int .u32 (beN [gb xs 12, gb xs 13, gb xs 14, gb xs 15] : Nat))) ⟨B, 10, none⟩ (.int .u32 (beN [gb xs 16, gb xs 17, gb xs 18, gb xs 19] : Nat)) _ hRB).trans (Below.heap_setCell w15 ⟨B, 9, none⟩ (.int .u32 (beN [gb xs 12, gb xs 13, gb xs 14, gb xs 15] : Nat)) _ hRB)).trans hR15)
 clear hB15 HB13 hB16 hR15 hTy hRB
 go_wp2_with (refine wpList_load_row rfl 76 (.tmp 4) rfl B rfl _ _ _ _ HB16.out Tryz.underlying76 rfl HTy.out ?_; go_must (refine store_row rfl 76 (.tmp 2) (.tmp 42) rfl w.heap.size _ rfl rfl _ _ HR17.out HTy.out rfl rfl ?_))
 refine ret_row rfl rfl w.heap.size ?t ?cs ?fr _ rfl ?hg Tryz.underlying76 rfl ?hi ?hR
 case hg => exact setRow_heap _ _ _ _ _ _ HR17.out
 case hi => exact HTy.out
 case hR =>
  refine ⟨?_, ?_⟩
  ·rw [HH.out]; simp [hv]; omega
  ·have hB1 : B < w.heap.size → False := fun h => by have := t2'.size; have := t6'.size; omega
   exact (((T.setCell ⟨B, 9, none⟩ _ hB1).setCell ⟨B, 10, none⟩ _ hB1).setRow _ _ (fun h => by omega))
end Go.Proofs.YtpjdcgjoepjmcaaGreat
end
