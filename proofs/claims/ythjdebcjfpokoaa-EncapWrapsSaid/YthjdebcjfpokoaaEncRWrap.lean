/- What the reference's Wrap answers. -/
import Derived.Test.YthjdebcjfpokoaaEncWrap
import Derived.Test.YthjdebcjfpokoaaIpPacket
set_option linter.unusedVariables false
namespace Go.Proofs.Ythjdebcjfpokoaa
open Go.RowKit

theorem or_u16 (x y : Int) (i : Nat) (h0 : 0 ≤ x) (hx : x % 2 ^ i = 0) (h1 : x < 65536) (hy : 0 ≤ y) (hy1 : y < 2 ^ i) (hy2 : y < 65536) : bits BinOp.or IntKind.u16 x y = x + y :=
  bits_join .u16 16 (by decide) (fun n h0 h1 => by simp [IntKind.wrap, IntKind.bits, IntKind.signed]; omega) i x y h0 hx (by omega) hy hy1 (by omega)

set_option maxRecDepth 20000 in
set_option maxHeartbeats 8000000 in
theorem rwrap_any (a : Option Addr) (len cap : Nat) (xs : List Nat) (self dd mtu : Int) (w : World) (hr : RowB w a len cap xs) (hlen : len ≤ 140737488351232) (s1 : 0 ≤ self ∧ self ≤ 4294967295) (s2 : 0 ≤ dd ∧ dd ≤ 4294967295) :
    Calls Try.prog 31 #[.slice a len cap, .int .u32 self, .int .u32 dd, .int .i64 mtu] w fun e w' => WrapIs w w' (tellW xs self dd mtu) (whyW xs mtu) e := by
  have H := rparse_is a len cap xs w hr hlen
  by_cases hy : whyF xs = 0
  case neg =>
    have hW : whyW xs mtu = whyF xs := by unfold whyW; rw [if_pos hy]
    have HW := Lib.hid hW
    have hbn : ((whyF xs : Int) != 0) = true := bne_iff_ne.2 (by omega)
    generalize tellH xs = TH at *
    generalize tellY xs = TY at *
    have H := Lib.hid H
    clear hr hW
    go_enter Try.func31, Try.ntmps31
    go_wp2_with fail
    (with_reducible refine H.out.mono ?_)
    rintro e w2 ⟨a2, c2, rfl, hr2, t2, -⟩
    simp only [hv]
    go_wp2_with fail
    go_ret2
    exact wrapIs_nil HW.out hy (t2.alloc _)
  case pos =>
    have hth : tellH xs = hdr xs := by unfold tellH; rw [if_pos hy]
    rw [hth, hy] at H
    obtain ⟨k1, k2, k3, k4⟩ := why_take xs hy
    have hlt := hdr_lt xs hr.2.2.2.2.1
    have hx := hr.1
    have hxs := hr.2.2.2.2.1
    have HR := Lib.hid hr
    have hW : whyW xs mtu = if (hdr xs).ttl ≤ 1 then 7 else if mtu < ((hdr xs).len : Int) + 20 ∨ 2000 < (hdr xs).len + 20 then 11 else 0 := by unfold whyW; rw [if_neg (by omega)]
    have hF : whyW xs mtu = 0 → tellW xs self dd mtu = builtF (outH (hdr xs) self dd) ++ olderF (xs.take (hdr xs).len) (hdr xs) := fun h => by unfold tellW; rw [if_pos h]; rfl
    have HF := Lib.hid hF
    have HNIL := Lib.hid (fun (w' : World) (y : Nat) (h1 : whyW xs mtu = y) (h2 : y ≠ 0) (t : Touch w w' (fun _ => False)) => wrapIs_nil (self := self) (dd := dd) h1 h2 t)
    have HOK := Lib.hid (fun h1 => outH_ok (hdr xs) h1 self dd s1 s2)
    generalize tellY xs = Y at *
    generalize hdr xs = h at *
    generalize whyW xs mtu = yw at *
    generalize tellW xs self dd mtu = ZZ at *
    obtain ⟨l1, l2, l3, l4, l5, l6, l7, l8⟩ := hlt
    have HK4 := Lib.hid k4
    have H := Lib.hid H
    clear hr k1 k4 hF hth hy
    by_cases ht : h.ttl ≤ 1
    · have ht' : (h.ttl : Int) ≤ 1 := by omega
      rw [if_pos ht] at hW
      have HW := Lib.hid hW
      clear hW
      go_enter Try.func31, Try.ntmps31
      go_wp2_with fail
      (with_reducible refine H.out.mono ?_)
      rintro e w2 ⟨a2, c2, rfl, hr2, t2, -⟩
      simp only [hv]
      go_wp2_with fail
      go_ret2
      exact HNIL.out _ 7 HW.out (by omega) (t2.alloc _)
    · have ht' : ¬ (h.ttl : Int) ≤ 1 := by omega
      rw [if_neg ht] at hW
      by_cases hm1 : mtu < (h.len : Int) + 20
      · rw [if_pos (Or.inl hm1)] at hW
        have HW := Lib.hid hW
        clear hW
        go_enter Try.func31, Try.ntmps31
        go_wp2_with fail
        (with_reducible refine H.out.mono ?_)
        rintro e w2 ⟨a2, c2, rfl, hr2, t2, -⟩
        simp only [hv]
        go_wp2_with fail
        go_ret2
        exact HNIL.out _ 11 HW.out (by omega) (t2.alloc _)
      by_cases hm2 : 2000 < h.len + 20
      · rw [if_pos (Or.inr hm2)] at hW
        have hm2' : (2000 : Int) < (h.len : Int) + 20 := by omega
        have HW := Lib.hid hW
        clear hW
        go_enter Try.func31, Try.ntmps31
        go_wp2_with fail
        (with_reducible refine H.out.mono ?_)
        rintro e w2 ⟨a2, c2, rfl, hr2, t2, -⟩
        simp only [hv]
        go_wp2_with fail
        go_ret2
        exact HNIL.out _ 11 HW.out (by omega) (t2.alloc _)
      · rw [if_neg (by omega)] at hW
        have hm2' : ¬ (2000 : Int) < (h.len : Int) + 20 := by omega
        have HW := Lib.hid hW
        have HF := Lib.hid (HF.out hW)
        clear hW HNIL
        have HB := Lib.hid (fun W => rbuild_any (outH h self dd) (HOK.out ⟨l2, l3, l4, l5⟩) W)
        have HBL := Lib.hid (builtF_length (outH h self dd))
        generalize builtF (outH h self dd) = F at *
        have han := andNot1 h.flags l5
        obtain ⟨fl, hfl⟩ : ∃ fl, h.flags - h.flags % 2 = fl := ⟨_, rfl⟩
        rw [hfl] at han
        simp only [acs, outH, hfl] at HB
        have hcap := HR.out.2.1
        obtain ⟨A, C, hsl, hP⟩ := slice_h a len cap (h.len : Int) h.len rfl (by omega)
        have HP : RowKit.Hid (∀ W, RowB W a len cap xs → RowB W A h.len C (xs.take h.len)) := Lib.hid (fun W hw => by
          have := hP.row W xs hw (by omega)
          simpa using this)
        have hLs : ∀ x ∈ xs.take h.len, x < 256 := fun x hx => hxs x (List.mem_of_mem_take hx)
        have hO : olderF (xs.take h.len) h = (((xs.take h.len).set 8 ((gb (xs.take h.len) 8 + 255) % 256)).set 10 (fixS h / 256).toNat).set 11 (fixS h % 256).toNat := rfl
        have hs := fixS_le h
        have HS : RowKit.Hid (fixF h.sum ((h.ttl : Int) * 256 + h.proto) (((h.ttl : Int) - 1) * 256 + h.proto) = fixS h) := Lib.hid rfl
        rw [hO] at HF
        generalize fixS h = s at *
        generalize xs.take h.len = L at *
        clear hfl hP HOK hO
        go_enter Try.func31, Try.ntmps31
        go_wp2_with fail
        (with_reducible refine H.out.mono ?_)
        rintro e w2 ⟨a2, c2, rfl, hr2, t2, -⟩
        obtain ⟨W3, hW3⟩ : ∃ W, w2.alloc (.cells (hcs h) 24) = W := ⟨_, rfl⟩
        have t3 : Touch w W3 (fun _ => False) := hW3 ▸ t2.alloc _
        have HH : RowKit.Hid (W3.heap[w2.heap.size]? = some (.cells (hcs h) 24 (0, 0))) := Lib.hid (hW3 ▸ heap_alloc_new w2 _)
        have HT := Lib.hid t3
        have HSW := Lib.hid t3.size
        obtain ⟨g0, g1, g2, g3, g4, g5, g6, g7, g8, g9, g10⟩ := hcells_of HH.out
        clear t3 t2 hr2 H
        simp only [hv, hcs] at hW3 ⊢
        go_upto_region 10 with (first
          | (go_at_call 18; (with_reducible refine (HB.out _).mono ?_); rintro e w52 ⟨a52, c52, rfl, hf52⟩; have t52 := hf52.2; have HT := Lib.hid (HT.out.trans t52 (fun _ _ h => h)); have HO := Lib.hid hf52.1; have HH := Lib.hid (t52.keeps HH.out (fun h => h)); have HR := Lib.hid (HP.out _ (HR.out.touch HT.out (fun _ _ => .inr (fun h => h)))); have HL52 := Lib.hid (fun k hk => (hf52.1.own.lt k hk).2); have HS52 := Lib.hid t52.size; obtain ⟨g0, g1, g2, g3, g4, g5, g6, g7, g8, g9, g10⟩ := hcells_of HH.out; clear hf52 t52)
          | (at_builtin; have _u := HL52; refine wpList_appendB rfl _ _ 25 rfl 5 Try.underlying25 infoB w52.heap.size (.slice none 0 0) [] rfl (OwnB.nil _ _ _) _ _ _ L rfl HR.out h.len L rfl HK4.out (by omega) (Nat.le_refl _) w52.heap.size w52 (Below.refl _ _) (Nat.le_refl _) ?_; intro a57 d57 w57 hown hrow hg hb hs57 hp57 hpl; have t57 : Touch w52 w57 (fun _ => False) := Touch.ofBelow hb (fun k h1 h2 => by omega); have HT := Lib.hid (HT.out.trans t57 (fun _ _ h => h)); have HO := Lib.hid (HO.out.touch t57 (fun _ _ h => h)); have HH57 := Lib.hid (t57.keeps HH.out (fun h => h)); have HHL := Lib.hid (heap_lt HH.out); have HO57 := Lib.hid hown; clear hrow hg hb hs57 hp57 hpl t57 hown))
        obtain ⟨a3, c3, hv2, hr2, hp2⟩ := HO57.out.row
        rw [HK4.out] at hv2 hr2
        simp only [Value.slice.injEq, true_and] at hv2
        obtain ⟨rfl, rfl⟩ := hv2
        obtain ⟨b, off, rfl⟩ := hr2.some (by omega)
        obtain hp2 | ⟨g, hp2, hg1, hg2⟩ := hp2
        · cases hp2
        simp only [Option.some.injEq, Addr.mk.injEq] at hp2
        obtain ⟨rfl, rfl, -⟩ := hp2
        have hle := hr2.2.1
        have hkl := HK4.out
        have b8 := gb_lt L hLs 8
        have hsw := HSW.out
        have hs52 := HS52.out
        have hb : b < w.heap.size → False := fun h => by omega
        have hbh : w2.heap.size ≠ b := by have := HHL.out; omega
        have q8 := HO57.out.at hkl 8 (by omega) (by omega)
        rw [← gb_get _ _ (by omega)] at q8
        have fr := HO57.out.free hkl 8
        have e8 : ((gb L 8 : Int) - 1) % 256 = (((gb L 8 + 255) % 256 : Nat) : Int) := by omega
        have ho3 := HO57.out.stored hkl 8 ((gb L 8 + 255) % 256) (by omega)
        have hl3 : (L.set 8 ((gb L 8 + 255) % 256)).length = h.len := by simp [hkl]
        have t3 := (Touch.refl w57 (fun j => j = b)).into 8 (.int .u8 (((gb L 8 + 255) % 256 : Nat) : Int))
        generalize (gb L 8 + 255) % 256 = y8 at *
        generalize L.set 8 y8 = Y8 at *
        obtain ⟨W8, hW8⟩ : ∃ W, w57.setCell ⟨b, 8, none⟩ (.int .u8 (y8 : Int)) = W := ⟨_, rfl⟩
        rw [hW8] at ho3 t3
        have HO8 := Lib.hid (HO.out.touch t3 (fun j hj he => by have h1 := HL52.out j hj; have h2 : j = b := he; omega))
        have hh8 := t3.keeps HH57.out hbh
        have HT8 := Lib.hid (HT.out.trans t3 (fun j hj he => by have h2 : j = b := he; omega))
        obtain ⟨g0, g1, g2, g3, g4, g5, g6, g7, g8, g9, g10⟩ := hcells_of hh8
        have i8 : (8 : Int) < h.len := by omega
        have i10 : (10 : Int) < h.len := by omega
        have i11 : (11 : Int) < h.len := by omega
        have o1 : bits BinOp.or IntKind.u16 ((h.ttl : Int) * 256) (h.proto : Int) = (h.ttl : Int) * 256 + h.proto := or_u16 _ _ 8 (by omega) (by omega) (by omega) (by omega) (by omega) (by omega)
        have o2 : bits BinOp.or IntKind.u16 (((h.ttl : Int) - 1) * 256) (h.proto : Int) = ((h.ttl : Int) - 1) * 256 + h.proto := or_u16 _ _ 8 (by omega) (by omega) (by omega) (by omega) (by omega) (by omega)
        have HY8 := Lib.hid ho3
        have HL8 := Lib.hid hl3
        clear ho3 t3 hl3 hh8 hr2 hW3 HO57
        go_wp2_with fail
        (with_reducible refine (rfix_any _ _ _ _ (by omega) (by omega) (by omega) (by omega) (by omega) (by omega)).mono ?_)
        rintro e w83 ⟨rfl, nq, rfl⟩
        rw [HS.out]
        have ho4 := HY8.out.drewN nq
        have HT4 := Lib.hid (HT8.out.drewN nq)
        have HO4 := Lib.hid (HO8.out.drewN nq)
        clear g0 g1 g2 g3 g4 g5 g6 g7 g8 g9 g10 o1 o2 e8 q8 fr hW8
        generalize W8.drewN nq = W4 at *
        have f10 := ho4.free HL8.out 10
        have f11 := ho4.free HL8.out 11
        have ex1 : s / 256 % 256 = (((s / 256).toNat : Nat) : Int) := by omega
        have ex2 : s % 256 = (((s % 256).toNat : Nat) : Int) := by omega
        have q10 := ho4.at HL8.out 10 (by omega) (by rw [HL8.out]; omega)
        have q11 := ho4.at HL8.out 11 (by omega) (by rw [HL8.out]; omega)
        have ho5 := ho4.stored HL8.out 10 (s / 256).toNat (by omega)
        have ho6 := ho5.stored (by simp [HL8.out]) 11 (s % 256).toNat (by omega)
        rw [← ex2] at ho6
        have es : (((s / 256).toNat : Nat) : Int) = s / 256 := by omega
        rw [es] at ho6
        have t6 := ((Touch.refl W4 (fun j => j = b)).into 10 (.int .u8 (s / 256))).into 11 (.int .u8 (s % 256))
        obtain ⟨W6, hW6⟩ : ∃ W, (W4.setCell ⟨b, 10, none⟩ (.int .u8 (s / 256))).setCell ⟨b, 11, none⟩ (.int .u8 (s % 256)) = W := ⟨_, rfl⟩
        rw [hW6] at ho6 t6
        have hl6 : ((Y8.set 10 (s / 256).toNat).set 11 (s % 256).toNat).length = h.len := by simp [HL8.out]
        have HO6 := Lib.hid (HO4.out.touch t6 (fun j hj he => by have h1 := HL52.out j hj; have h2 : j = b := he; omega))
        have HT6 := Lib.hid (HT4.out.trans t6 (fun j hj he => by have h2 : j = b := he; omega))
        have HRO := Lib.hid (ho6.rowOf hl6)
        have hS6 : W3.heap.size ≤ W6.heap.size := by have := t6.size; have := HS52.out; have := (ho4.where).2; omega
        have HS6 := Lib.hid hS6
        have HL6 := Lib.hid hl6
        have HWW := Lib.hid hW6
        generalize (Y8.set 10 (s / 256).toNat).set 11 (s % 256).toNat = O at *
        clear ho4 ho5 ho6 ex1 ex2 es t6 hl6 hS6 hW6
        go_upto_region 13 with fail
        rw [HWW.out]
        go_wp2_with (at_builtin; refine wpList_appendB rfl _ _ 25 rfl 5 Try.underlying25 infoB W3.heap.size (.slice a52 20 c52) F rfl HO6.out _ _ _ O rfl HRO.out (20 + h.len) (F ++ O) rfl (by rw [List.length_append, HBL.out, HL6.out]) (by omega) HS6.out W3.heap.size W6 (Below.refl _ _) (Nat.le_refl _) ?_; intro a95 d95 w95 hown hrow hg hb hs95 hp95 hpl; have HT := Lib.hid (HT6.out.grown hg (fun x hx hlt => by have h1 := (HO6.out.own.lt x hx).1; have h2 := HSW.out; omega)); have HR95 := Lib.hid hrow; clear hown hrow hg hb hs95 hp95 hpl)
        go_ret2
        rw [HF.out, HW.out]
        exact ⟨_, _, _, rfl, HR95.out, HT.out⟩
end Go.Proofs.Ythjdebcjfpokoaa
