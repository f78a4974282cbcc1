/- Ends as a function; the known packet: awake answers true. -/
import Derived.Test.YthjdebcjfpokoaaPortFact
set_option linter.unusedVariables false
namespace Go.Proofs.Ythjdebcjfpokoaa
open Go.RowKit

/-- Does this packet end this flow? -/
def endsB (k : KArg) (xs : List Nat) : Bool :=
  decide (whyT xs = 0 ∧ (((tellT xs).src : Int) = k.src ∧ ((tellT xs).dst : Int) = k.dst ∧ ((tellT xs).proto : Int) = k.proto ∧ ((tellT xs).sport : Int) = k.sport ∧ ((tellT xs).dport : Int) = k.dport) ∧ k.proto = 6 ∧ bits BinOp.and IntKind.u8 (gb xs (4 * (tellG xs).ihl + 13) : Nat) 5 ≠ 0)
theorem ends_any (k : KArg) (a : Option Addr) (len cap : Nat) (xs : List Nat) (w : World) (hr : RowB w a len cap xs) :
    Calls Try.prog 26 #[.agg (kcs k), .slice a len cap] w fun e w' => e = .returned (.bool (endsB k xs)) ∧ Touch w w' (fun _ => False) := by
  by_cases hy : whyT xs = 0
  · refine (ends_ok k a len cap xs w hr hy).mono ?_
    rintro e w' ⟨v, rfl, hv, t⟩
    refine ⟨?_, t⟩
    have : v = endsB k xs := by
      rw [Bool.eq_iff_iff, hv]
      unfold endsB isK
      rw [decide_eq_true_iff]
      simp [hy]
    rw [this]
  · refine (ends_bad k a len cap xs w hr hy).mono ?_
    rintro e w' ⟨rfl, t⟩
    refine ⟨?_, t⟩
    have : endsB k xs = false := by unfold endsB; rw [decide_eq_false_iff_not]; exact fun h => hy h.1
    rw [this]
/-- Of a packet that was made. -/
theorem ends_made (k : KArg) (ok : k.Ok) (hm : mayB k = true) (ttl flags : Int) (ys : List Nat) (hl : ys.length ≤ 1000) (o : KArg) :
    endsB o (madeF k ttl flags ys) = true ↔ ((k.proto = 6 ∧ bits BinOp.and IntKind.i64 flags 5 ≠ 0) ∧ o = k) := by
  obtain ⟨z1, z2, z3, z4, z5, z6⟩ := tell_made k ok hm ttl flags ys hl
  obtain ⟨h1, h2, h3, h4, h5⟩ := (may_iff k).1 hm
  have ok0 := ok.src
  have ok1 := ok.dst
  unfold endsB
  rw [decide_eq_true_iff, z1, z2, z4]
  constructor
  · rintro ⟨_, ⟨e1, e2, e3, e4, e5⟩, e6, e7⟩
    have hp : k.proto = 6 := by simp only [] at e3; omega
    refine ⟨⟨hp, ?_⟩, ?_⟩
    · rw [show 4 * 5 + 13 = 33 from rfl, z6 hp, and5_u8 _ (by omega)] at e7
      rw [and5]; exact e7
    · obtain ⟨a1, a2, a3, a4, a5⟩ := o
      obtain ⟨b1, b2, b3, b4, b5⟩ := k
      simp only [KArg.mk.injEq] at *
      omega
  · rintro ⟨⟨hp, hb⟩, rfl⟩
    refine ⟨rfl, ⟨by simp only []; omega, by simp only []; omega, by simp only []; omega, by simp only []; omega, by simp only []; omega⟩, hp, ?_⟩
    rw [show 4 * 5 + 13 = 33 from rfl, z6 hp, and5_u8 _ (by omega)]
    rw [and5] at hb; exact hb

def known21 : KArg := ⟨1, 2, 6, 3, 4⟩
theorem known21_ok : known21.Ok := by
  refine ⟨?_, ?_, ?_, ?_, ?_⟩ <;> simp [known21, isI64]

set_option maxRecDepth 20000 in
set_option maxHeartbeats 4000000 in
theorem awake21 (w : World) :
    Calls Try.prog 22 #[] w fun e w' => e = .returned (.bool true) ∧ Touch w w' (fun _ => False) := by
  have HM : RowKit.Hid (∀ W, Calls Try.prog 23 #[.agg (kcs known21), .int .i64 9, .int .i64 1, .slice none 0 0] W fun e w' => ∃ a' cap', e = .returned (.slice a' 40 cap') ∧ FreshB W w' (.slice a' 40 cap') (madeF known21 9 1 [])) :=
    Lib.hid (fun W => made_any known21 known21_ok 9 1 none 0 0 [] W (RowB.nil _ _ _ (by omega)) (by omega) (by simp [isI64]) (by simp [isI64]) 40 (by decide))
  have hml := madeF_length known21 9 1 []
  have hms : sizeK known21 ([] : List Nat).length = 20 := by decide
  rw [hms] at hml
  obtain ⟨z1, z2, z3, z4, z5, z6⟩ := tell_made known21 known21_ok (by decide) 9 1 [] (by simp)
  have he := (ends_made known21 known21_ok (by decide) 9 1 [] (by simp) known21).2 ⟨⟨by decide, by decide⟩, rfl⟩
  have HE : RowKit.Hid (∀ a cap W, RowB W a 40 cap (madeF known21 9 1 []) → Calls Try.prog 26 #[.agg (kcs known21), .slice a 40 cap] W fun e w' => e = .returned (.bool true) ∧ Touch W w' (fun _ => False)) :=
    Lib.hid (fun a cap W hr => by rw [← he]; exact ends_any known21 a 40 cap _ W hr)
  have HT : RowKit.Hid (∀ a cap W, RowB W a 40 cap (madeF known21 9 1 []) → Calls Try.prog 24 #[.slice a 40 cap] W fun e w' => ∃ G : Hdr, G.ttl = 9 ∧ e = .returned (.tuple #[tv ⟨1, 2, 6, 3, 4⟩, hv G, .int .i64 0]) ∧ Touch W w' (fun _ => False)) :=
    Lib.hid (fun a cap W hr => (tuple_any a 40 cap _ W hr).mono fun e w' h => ⟨tellG (madeF known21 9 1 []), by rw [z3]; decide, by rw [h.1, z1, z2]; rfl, h.2⟩)
  clear he z1 z2 z3 z4 z5 z6 hms
  generalize madeF known21 9 1 [] = M at *
  have HML := Lib.hid hml
  clear hml
  simp only [kcs, known21] at HM HE
  obtain ⟨W1, hW1⟩ : ∃ W, w.alloc (.cells #[.int .u32 1, .int .u32 2, .int .i64 6, .int .i64 3, .int .i64 4] 43) = W := ⟨_, rfl⟩
  have t1 : Touch w W1 (fun _ => False) := hW1 ▸ (Touch.refl _ _).alloc _
  have hk1 : W1.heap[w.heap.size]? = some _ := hW1 ▸ heap_alloc_new w _
  have HK1 := Lib.hid hk1
  have T1 := Lib.hid t1
  have HW1 := Lib.hid hW1
  clear hk1 t1 hW1
  go_enter Try.func22, Try.ntmps22
  go_upto_region 2 with fail
  rw [HW1.out]
  have c0 := cell_of_cells HK1.out 0
  have c1 := cell_of_cells HK1.out 1
  have c2 := cell_of_cells HK1.out 2
  have c3 := cell_of_cells HK1.out 3
  have c4 := cell_of_cells HK1.out 4
  simp at c0 c1 c2 c3 c4
  go_wp2_with fail
  (with_reducible refine (HM.out _).mono ?_)
  rintro e w2 ⟨a2, d2, rfl, hf2⟩
  obtain ⟨a3, d3, hv2, hr2, -⟩ := hf2.1.row
  rw [HML.out] at hv2 hr2
  simp only [Value.slice.injEq, true_and] at hv2
  obtain ⟨rfl, rfl⟩ := hv2
  have t2 := hf2.2
  have T2 := Lib.hid (T1.out.trans t2 (fun _ _ h => h))
  have HK2 := Lib.hid (t2.keeps HK1.out (fun h => h))
  clear hf2 t2 HK1 c0 c1 c2 c3 c4 HM
  go_wp2_with fail
  (with_reducible refine (HT.out _ _ _ hr2).mono ?_)
  rintro e w3 ⟨G, hG, rfl, t3⟩
  have HR3 := Lib.hid (hr2.touch t3 (fun _ _ => .inr (fun h => h)))
  have HK3 := Lib.hid (t3.keeps HK2.out (fun h => h))
  have T3 := Lib.hid (T2.out.trans t3 (fun _ _ h => h))
  clear hr2 t3 HK2 HT
  obtain ⟨W4, hW4⟩ : ∃ W, w3.alloc (.cells #[.int .u32 1, .int .u32 2, .int .i64 6, .int .i64 3, .int .i64 4] 43) = W := ⟨_, rfl⟩
  obtain ⟨W5, hW5⟩ : ∃ W, W4.alloc (.cells (hcs G) 24) = W := ⟨_, rfl⟩
  have t4 : Touch w3 W4 (fun _ => False) := hW4 ▸ (Touch.refl _ _).alloc _
  have t5 : Touch W4 W5 (fun _ => False) := hW5 ▸ (Touch.refl _ _).alloc _
  have t45 := t4.trans t5 (fun _ _ h => h)
  have k5 := t45.keeps HK3.out (fun h => h)
  have q5 : W5.heap[w3.heap.size]? = some _ := t5.keeps (hW4 ▸ heap_alloc_new w3 _) (fun h => h)
  have g5 : W5.heap[W4.heap.size]? = some _ := hW5 ▸ heap_alloc_new W4 _
  have HR5 := Lib.hid (HR3.out.touch t45 (fun _ _ => .inr (fun h => h)))
  have T5 := Lib.hid (T3.out.trans t45 (fun _ _ h => h))
  have c0 := cell_of_cells k5 0
  have c1 := cell_of_cells k5 1
  have c2 := cell_of_cells k5 2
  have c3 := cell_of_cells k5 3
  have c4 := cell_of_cells k5 4
  have d0 := cell_of_cells q5 0
  have d1 := cell_of_cells q5 1
  have d2 := cell_of_cells q5 2
  have d3 := cell_of_cells q5 3
  have d4 := cell_of_cells q5 4
  have g6 := cell_of_cells g5 6
  simp [hcs, hG] at c0 c1 c2 c3 c4 d0 d1 d2 d3 d4 g6
  have hsz4 : W4.heap.size = w3.heap.size + 1 := by rw [← hW4]; simp
  rw [hsz4] at g6
  clear t4 t5 t45 k5 q5 g5 HK3 HR3 T3 T2 T1
  have hG' : (G.ttl : Int) = 9 := by omega
  simp only [tv, tcs, hv, hcs, hG'] at hW4 hW5 ⊢
  clear hG hG'
  go_wp2_with (first | (go_at_call 26; (with_reducible refine (HE.out _ _ _ HR5.out).mono ?_); rintro e w6 ⟨rfl, t6⟩))
  go_ret
  exact ⟨rfl, T5.out.trans t6 (fun _ _ h => h)⟩
end Go.Proofs.Ythjdebcjfpokoaa
