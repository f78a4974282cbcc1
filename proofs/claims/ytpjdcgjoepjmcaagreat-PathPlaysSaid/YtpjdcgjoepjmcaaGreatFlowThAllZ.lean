import Derived.Test.YtpjdcgjoepjmcaaGreatGHZ
set_option linter.unusedVariables false
set_option linter.unusedSimpArgs false
namespace Go.Proofs.YtpjdcgjoepjmcaaGreat
open Go.RowKit
def isAll (f : FlD) : Bool := true
set_option maxRecDepth 20000 in
theorem allclo_any (w : World) (f : FlD) :
 Calls Tryz.prog 62 #[.agg (fca f)] w fun e w' => e = .returned (.bool (isAll f)) ∧ Touch w w' (fun _ => False) := by
 unfold isAll
 obtain ⟨⟨a1, a2, a3, a4, a5⟩, fb, fg, fs⟩ := f
 simp only [fca] at *
 go_enter Tryz.func62, Tryz.ntmps62
 go_wp2_with fail
 go_ret
 exact ⟨rfl, (Touch.refl w _).alloc _⟩
set_option maxRecDepth 20000 in
set_option maxHeartbeats 8000000 in
theorem thoseall_any (R : List FlD → List FlD → Prop) (w : World) (g : Nat) (h : FH) (most idle : Int) (M : List FlD) (d : FS w g h most idle M) (hs : SortsF R (M.filter (isAll))) :
 Calls Tryz.prog 61 #[.pointer (some ⟨g, 0, none⟩), .func (.func 62) #[] #[]] w fun e w' => ∃ a c L L', e = .returned (.slice a L'.length c) ∧ L.Perm (M.filter (isAll)) ∧ L'.Perm L ∧ R L L' ∧ OwnS w' w.heap.size 83 8 (.slice a L'.length c) (L'.map fcl) ∧ Touch w w' (fun _ => False) := by
 obtain ⟨W1, hW1⟩ : ∃ W, w.alloc (.cells #[.slice none 0 0] 61) = W := ⟨_, rfl⟩
 have t1 : Touch w W1 (fun _ => False) := hW1 ▸ (Touch.refl w _).alloc _
 have g1 : W1.heap[w.heap.size]? = some (.cells #[.slice none 0 0] 61 (0, 0)) := hW1 ▸ heap_alloc_new ..
 have s1 : W1.heap.size = w.heap.size + 1 := by rw [← hW1]; simp
 obtain ⟨c0, c1, c2, c3⟩ := (d.still t1).cells
 have HD := Lib.hid d
 have HMAP := Lib.hid (d.still t1).map
 have HT1 := Lib.hid t1
 have HW1 := Lib.hid hW1
 have HG1 := Lib.hid g1
 have HS1 := Lib.hid s1
 have HSORT := Lib.hid hs
 have HCLO : RowKit.Hid (∀ W f, Touch w W (fun _ => False) → Calls Tryz.prog 62 #[.agg (fca f)] W fun e w' => e = .returned (.bool (isAll f)) ∧ Touch W w' (fun _ => False)) := Lib.hid (fun W f _ => allclo_any W f)
 clear hs d hW1 t1 g1 s1
 go_enter Tryz.func61, Tryz.ntmps61
 go_upto_region 4 with (fail)
 rw [HW1.out]
 go_wp2_with (at_range; refine wp_rangeF rfl _ rfl h.mb M rfl HMAP.out ?_; intro w2 left0 cnt0 hrg0 hsn0 t2)
 have hb2 : w2.heap[w.heap.size]? = some (.cells #[.slice none 0 0] 61 (0, 0)) := t2.keeps HG1.out (fun h => h)
 have HT2 := Lib.hid (HT1.out.trans t2 (fun _ _ h => h))
 have HZ2 := Lib.hid t2.size
 have hmb := HMAP.out.lt
 rw [HS1.out] at hrg0 ⊢
 obtain ⟨bx, hbx⟩ : ∃ bx, w.heap.size = bx := ⟨_, rfl⟩
 have HBX := Lib.hid hbx
 rw [hbx] at hb2 hrg0 ⊢
 go_loopw [15] (fun _ wr => ∃ (left : Lit → Bool) (cnt : Nat) (K : List FlD) (a : Option Addr) (c : Nat), RangesF wr h.mb (bx + 1) M left cnt ∧ K.Perm ((seenF M left).filter (isAll)) ∧ wr.heap[bx]? = some (.cells #[.slice a K.length c] 61 (0, 0)) ∧ OwnS wr (bx + 2) 83 8 (.slice a K.length c) (K.map fcl) ∧ Touch w wr (fun _ => False) ∧ K.length ≤ 256) (fun _ wr => wr.rangeLeft h.mb (bx + 1))
 case atStart => exact ⟨left0, cnt0, [], none, 0, hrg0, by rw [hsn0]; exact .refl _, hb2, OwnS.nil _ _ _ _, HT2.out, by decide⟩
 case round =>
  obtain ⟨left, cnt, K, a, c, hrg, hp, hb, ho, ht, hk⟩ := hrel
  have HRG := Lib.hid hrg
  have HP := Lib.hid hp
  have HB := Lib.hid hb
  have HO := Lib.hid ho
  have HT := Lib.hid ht
  have HK := Lib.hid hk
  clear hrg hp hb ho ht hk c0 c1 c2 c3
  go_wp2_with (at_next; refine wp_nextF rfl _ rfl h.mb (bx + 1) M left cnt rfl HRG.out ?_ ?_)
  ·intro hdone
   have hpm : K.Perm (M.filter (isAll)) := by have := HP.out; rw [hdone] at this; exact this
   have hlb := cell_of_cells HB.out 0
   have HSO := Lib.hid (HSORT.out wr (bx + 2) bx a c K hpm HO.out (by omega) HB.out)
   have HPM := Lib.hid hpm
   clear hpm
   go_upto_region 10 with (go_at_call 93; (with_reducible refine HSO.out.mono ?_); rintro e w4 ⟨rfl, L', hl', hr', ho', t4⟩)
   have hb4 : w4.heap[bx]? = some (.cells #[.slice a K.length c] 61 (0, 0)) := t4.keeps HB.out (fun e => by have := (HO.out.own.lt _ e).1; omega)
   have hl4 := cell_of_cells hb4 0
   have HT4 := Lib.hid (HT.out.trans t4 (fun k hk e => by have := (HO.out.own.lt _ e).1; have := HBX.out; omega))
   have HO4 := Lib.hid ho'
   have HL4 := Lib.hid (And.intro hl' hr')
   clear hl' hr' ho' t4 hb4
   go_wp2_with fail
   go_ret
   refine ⟨a, c, K, L', by rw [HL4.out.1.length_eq]; rfl, HPM.out, HL4.out.1, HL4.out.2, ?_, HT4.out⟩
   rw [HL4.out.1.length_eq]
   exact HO4.out.rebase (fun x hx => by have := (HO4.out.own.lt x hx).1; have := HBX.out; omega)
  ·intro x f left' w3 cnt3 hf hp3 hrg3 hlt3 t3 hen3
   have HEN := Lib.hid hen3
   have hen : (Instr.entry (.pointer (some ⟨bx + 1, 0, none⟩))).run Tryz.prog w3 = .ok (.tuple #[x, .agg #[.int .u32 f.t.src, .int .u32 f.t.dst, .int .i64 f.t.proto, .int .i64 f.t.sport, .int .i64 f.t.dport, .int .i64 f.fb, .int .i64 f.fg, .int .i64 f.fs]]) w3 := hen3
   have HF := Lib.hid hf
   have HP3 := Lib.hid hp3
   have HRG3 := Lib.hid hrg3
   have HLT3 := Lib.hid hlt3
   have HT3 := Lib.hid t3
   clear hf hp3 hrg3 hlt3 t3 hen3
   go_upto_region 7 with (fail)
   obtain ⟨w4, hw4⟩ : ∃ W, w3.alloc (.cells (fca f) 83) = W := ⟨_, rfl⟩
   have t4 : Touch w3 w4 (fun _ => False) := hw4 ▸ (Touch.refl w3 _).alloc _
   have g4 : w4.heap[w3.heap.size]? = some (.cells (fca f) 83 (0, 0)) := hw4 ▸ heap_alloc_new ..
   have s4 : w4.heap.size = w3.heap.size + 1 := by rw [← hw4]; simp
   have HW4 := Lib.hid hw4
   have HT4 := Lib.hid (HT3.out.trans t4 (fun _ _ h => h.elim))
   obtain ⟨B, hB⟩ : ∃ B, w3.heap.size = B := ⟨_, rfl⟩
   rw [hB] at g4 s4
   have HB3 := Lib.hid hB
   have HG4 := Lib.hid g4
   have HTW4 := Lib.hid (HT.out.trans HT4.out (fun k hk e => by have := HBX.out; omega))
   have hcl := HCLO.out w4 f HTW4.out
   have HS4 := Lib.hid s4
   have HRL := Lib.hid (HRG.out.lt)
   obtain ⟨x0, x1, x2, x3, x4, x5, x6, x7⟩ := fcells_of g4
   obtain ⟨b, hb⟩ : ∃ b, isAll f = b := ⟨_, rfl⟩
   rw [hb] at hcl
   have HCL := Lib.hid hcl
   have HIS := Lib.hid hb
   clear hen hw4 t4 g4 s4 hcl hb hB
   simp only [fca] at HW4 HCL
   rw [HW4.out, HB3.out]
   have HA4 : RowKit.Hid (Touch w3 w4 (fun _ => False)) := Lib.hid (by rw [← HW4.out]; exact (Touch.refl _ _).alloc _)
   have HRG4 := Lib.hid (HRG3.out.still HA4.out)
   have HB4 : RowKit.Hid (w4.heap[bx]? = some (.cells #[.slice a K.length c] 61 (0, 0))) := Lib.hid (HT4.out.keeps HB.out (fun e => by have e : bx = bx + 1 := e; omega))
   have HO4 := Lib.hid (HO.out.touch HT4.out (fun y hy e => by have := (HO.out.own.lt y hy).1; have e : y = bx + 1 := e; omega))
   cases b with
   | false =>
     have hpn : K.Perm ((seenF M left').filter (isAll)) := HP.out.trans (by
      have h1 := HP3.out.filter (isAll)
      rw [List.filter_cons, if_neg (by rw [HIS.out]; decide)] at h1
      exact h1.symm)
     have HPN := Lib.hid hpn
     clear hpn
     go_wp2_with (go_at_call 62; (with_reducible refine HCL.out.mono ?_); rintro e w5 ⟨rfl, t5⟩; have HT5 := Lib.hid t5; clear t5)
     go_roundw
     ·exact ⟨left', cnt3, K, a, c, HRG4.out.still HT5.out, HPN.out, HT5.out.keeps HB4.out (fun h => h), HO4.out.still HT5.out, HTW4.out.trans HT5.out (fun _ _ h => h), HK.out⟩
     ·have e1 := HRG.out.left_eq
      have e2 := (HRG4.out.still HT5.out).left_eq
      have e3 := HLT3.out
      omega
   | true =>
     have hpn : (K ++ [f]).Perm ((seenF M left').filter (isAll)) := by
      have h1 := HP3.out.filter (isAll)
      rw [List.filter_cons, if_pos HIS.out] at h1
      exact (List.perm_append_comm.trans (HP.out.cons f)).trans h1.symm
     have hkl : (K ++ [f]).length ≤ 256 := by
      have h1 := hpn.length_eq
      have h2 := (List.filter_sublist (l := seenF M left') (p := isAll)).length_le
      have h3 := (List.filter_sublist (l := M) (p := fun f => !left' (klT f.t))).length_le
      have h4 := HD.out.len
      unfold seenF at h1 h2
      omega
     have HPN := Lib.hid hpn
     have HKL := Lib.hid hkl
     have HI8 := Lib.hid infoFlow
     clear hpn hkl
     go_upto_region 8 with (go_at_call 62; (with_reducible refine HCL.out.mono ?_); rintro e w5 ⟨rfl, t5⟩; have HT5 := Lib.hid t5; clear t5)
     have HO5 := Lib.hid (HO4.out.still HT5.out)
     have HRG5 := Lib.hid (HRG4.out.still HT5.out)
     have HB5 : RowKit.Hid (w5.heap[bx]? = some (.cells #[.slice a K.length c] 61 (0, 0))) := Lib.hid (HT5.out.keeps HB4.out (fun h => h))
     have HF5 : RowKit.Hid (w5.heap[B]? = some (.cells (fca f) 83 (0, 0))) := Lib.hid (HT5.out.keeps HG4.out (fun h => h))
     have HOWN : RowKit.Hid (∀ k, (Value.slice a K.length c).ownBlock = some k → bx + 2 ≤ k ∧ k < B) := Lib.hid (fun k hk => ⟨(HO.out.own.lt k hk).1, by have h1 := (HO.out.own.lt k hk).2; have h2 := HT3.out.size; have h3 := HB3.out; omega⟩)
     have HBB : RowKit.Hid (bx + 2 ≤ B) := Lib.hid (by have := HRG3.out.lt; have := HB3.out; omega)
     have HN := Lib.hid ((Touch.refl w5 (fun _ => False)).drew)
     have HL5 := Lib.hid (heap_lt HF5.out)
     clear x0 x1 x2 x3 x4 x5 x6 x7 HSORT HCLO HCL HMAP
     obtain ⟨z0, z1, z2, z3, z4, z5, z6, z7⟩ := fcells_of HF5.out
     have zb := cell_of_cells HB5.out 0
     have HOA := Lib.hid (HO5.out.still ((Touch.refl w5 (fun _ => False)).alloc (.cells #[.int .u32 f.t.src, .int .u32 f.t.dst, .int .i64 f.t.proto, .int .i64 f.t.sport, .int .i64 f.t.dport, .int .i64 f.fb, .int .i64 f.fg, .int .i64 f.fs] 83)))
     have hbase : bx + 2 ≤ w5.heap.size := by have := HL5.out; have := HBB.out; omega
     go_wp2_with (at_builtin; (refine wp_add1 (w := w5) HOA.out rfl rfl rfl (fun u hu => one_fcl f (fcl f) List.mem_cons_self u hu) (by have := HK.out; omega) 61 Tryz.underlying61 _ 56 infoFlowB rfl (by decide) (by decide) hbase rfl _ _ rfl rfl rfl ?_); intro a9 c9 w9 ho9 t9 p9; have HO9 := Lib.hid ho9; have HT9 := Lib.hid t9; clear ho9 t9 p9 z0 z1 z2 z3 z4 z5 z6 z7 zb; have HB9 := Lib.hid (HT9.out.keeps HB5.out (fun e => by have := (HOWN.out _ e).1; omega)); have cc := cell_of_cells HB9.out 0; have ff := free_of_cells HB9.out 0)
     go_roundw
     ·have ts : Touch w9 (w9.setCell ⟨bx, 0, none⟩ (.slice a9 (K.length + 1) c9)) (fun k => k = bx) := (Touch.refl w9 (fun k => k = bx)).setCell _ _ (fun _ => rfl)
      have tz := (HT9.out.mono (T := fun k => (Value.slice a K.length c).ownBlock = some k ∨ k = bx) (fun _ _ h => .inl h)).trans ts (fun _ _ h => .inr h)
      have hrz := HRG5.out.touch tz (fun e => e.elim (fun e => by have h1 := (HOWN.out _ e).1; have h2 := HD.out.map.lt; have h3 := HBX.out; omega) (fun e => by have h2 := HD.out.map.lt; have h3 := HBX.out; omega)) (fun e => e.elim (fun e => by have h1 := (HOWN.out _ e).1; omega) (fun e => by omega))
      refine ⟨left', cnt3, K ++ [f], a9, c9, hrz, HPN.out, ?_, ?_, ?_, HKL.out⟩
      ·rw [List.length_append]
       exact heap_setCell_same w9 bx 0 _ _ _ HB9.out
      ·rw [List.length_append, List.map_append]
       exact HO9.out.touch ts (fun y hy e => by have := (HO9.out.own.lt y hy).1; have e : y = bx := e; omega)
      ·exact (HTW4.out.trans HT5.out (fun _ _ h => h)).trans tz (fun k hk e => e.elim (fun e => by have := (HOWN.out _ e).1; have := HBX.out; omega) (fun e => by have := HBX.out; omega))
     ·have ts : Touch w9 (w9.setCell ⟨bx, 0, none⟩ (.slice a9 (K.length + 1) c9)) (fun k => k = bx) := (Touch.refl w9 (fun k => k = bx)).setCell _ _ (fun _ => rfl)
      have tz := (HT9.out.mono (T := fun k => (Value.slice a K.length c).ownBlock = some k ∨ k = bx) (fun _ _ h => .inl h)).trans ts (fun _ _ h => .inr h)
      have hrz := HRG5.out.touch tz (fun e => e.elim (fun e => by have h1 := (HOWN.out _ e).1; have h2 := HD.out.map.lt; have h3 := HBX.out; omega) (fun e => by have h2 := HD.out.map.lt; have h3 := HBX.out; omega)) (fun e => e.elim (fun e => by have h1 := (HOWN.out _ e).1; omega) (fun e => by omega))
      have e1 := HRG.out.left_eq
      have e2 := hrz.left_eq
      have e3 := HLT3.out
      rw [e1, e2]
      exact e3
end Go.Proofs.YtpjdcgjoepjmcaaGreat
