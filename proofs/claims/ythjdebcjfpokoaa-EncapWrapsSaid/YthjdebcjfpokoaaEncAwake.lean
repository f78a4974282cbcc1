/- The known packet: awake answers true. -/
import Derived.Test.YthjdebcjfpokoaaEncFact
import Derived.Test.YthjdebcjfpokoaaPortAwake
set_option linter.unusedVariables false
namespace Go.Proofs.Ythjdebcjfpokoaa
open Go.RowKit

theorem wrap_good {xs : List Nat} (p : Pkt xs) (ht : 2 ≤ (hdr xs).ttl) (hl : xs.length + 20 ≤ 2000) (self dd mtu : Int) (hm : (xs.length : Int) + 20 ≤ mtu) (s1 : 0 ≤ self ∧ self ≤ 4294967295) (s2 : 0 ≤ dd ∧ dd ≤ 4294967295) (a : Option Addr) (len m cap : Nat) (hm : len + 20 = m) (w : World) (hr : RowB w a len cap xs) :
    Calls Try.prog 30 #[.slice a len cap, .int .u32 self, .int .u32 dd, .int .i64 mtu] w fun e w' => ∃ a' c', e = .returned (.tuple #[.slice a' m c', .int .i64 0]) ∧ RowB w' a' m c' (wrapF xs self dd) ∧ Touch w w' (fun _ => False) := by
  have W := wrapped p ht hl self dd mtu (by assumption) s1 s2
  refine (wrap_any a len cap xs self dd mtu w hr s1 s2).mono ?_
  rintro e w' ⟨a', n, c', rfl, hr', t⟩
  rw [W.tell] at hr'
  have hn := hr'.1
  rw [W.len, hr.1, hm] at hn
  subst hn
  rw [W.why]
  exact ⟨a', c', rfl, hr', t⟩
theorem wrap_old {xs : List Nat} (p : Pkt xs) (ht : (hdr xs).ttl ≤ 1) (self dd mtu : Int) (s1 : 0 ≤ self ∧ self ≤ 4294967295) (s2 : 0 ≤ dd ∧ dd ≤ 4294967295) (a : Option Addr) (len cap : Nat) (w : World) (hr : RowB w a len cap xs) :
    Calls Try.prog 30 #[.slice a len cap, .int .u32 self, .int .u32 dd, .int .i64 mtu] w fun e w' => ∃ a' c', e = .returned (.tuple #[.slice a' 0 c', .int .i64 7]) ∧ Touch w w' (fun _ => False) := by
  have hy := why_old p ht mtu
  refine (wrap_any a len cap xs self dd mtu w hr s1 s2).mono ?_
  rintro e w' ⟨a', n, c', rfl, hr', t⟩
  have hn := hr'.1
  unfold tellW at hn
  rw [if_neg (by omega)] at hn
  have : n = 0 := hn.symm
  subst this
  rw [hy]
  exact ⟨a', c', rfl, t⟩
theorem unwrap_good {xs : List Nat} {self dd mtu : Int} (W : Wrapped xs self dd mtu) (a : Option Addr) (n m cap : Nat) (hn : xs.length = n) (w : World) (hr : RowB w a m cap (wrapF xs self dd)) :
    Calls Try.prog 32 #[.slice a m cap] w fun e w' => ∃ a' c', e = .returned (.tuple #[.slice a' n c', .int .u32 self, .int .u32 dd, .int .i64 0]) ∧ RowB w' a' n c' (olderF xs (hdr xs)) ∧ Touch w w' (fun _ => False) := by
  refine (unwrap_any a m cap _ w hr).mono ?_
  rintro e w' ⟨a', k, c', rfl, hr', t⟩
  rw [W.tellU] at hr'
  have hk := hr'.1
  rw [olderF_length, hn] at hk
  subst hk
  rw [W.whyU, W.src, W.dst]
  exact ⟨a', c', rfl, hr', t⟩
/-- A wrapped packet that has gone a step further is unwrapped, too. -/
theorem unwrap_further {xs : List Nat} {self dd mtu : Int} (p : Pkt xs) (ht : 1 ≤ (hdr xs).ttl) (W : Wrapped xs self dd mtu) (a : Option Addr) (n m cap : Nat) (hn : xs.length = n) (w : World) (hr : RowB w a m cap (olderF (wrapF xs self dd) (hdr (wrapF xs self dd)))) :
    Calls Try.prog 32 #[.slice a m cap] w fun e w' => ∃ (a' : Option Addr) (c' s d : Nat), e = .returned (.tuple #[.slice a' n c', .int .u32 s, .int .u32 d, .int .i64 0]) ∧ RowB w' a' n c' (olderF xs (hdr xs)) ∧ Touch w w' (fun _ => False) := by
  obtain ⟨q1, q2⟩ := W.pkt.older (by rw [W.ttl]; omega)
  obtain ⟨r1, r2⟩ := p.older ht
  have hY : tellY (olderF (wrapF xs self dd) (hdr (wrapF xs self dd))) = olderF xs (hdr xs) := by
    unfold tellY
    rw [if_pos q1.why, q1.take, q2]
    simp only [W.ihl]
    rw [show 4 * 5 = 12 + 8 from rfl, ← List.drop_drop, older_drop, List.drop_drop]
    exact W.drop
  have hu : whyU (olderF (wrapF xs self dd) (hdr (wrapF xs self dd))) = 0 := by
    unfold whyU
    rw [if_neg (by rw [q1.why]; simp), if_neg (by rw [q2]; simp only [W.proto]; simp), hY]
    exact r1.why
  refine (unwrap_any a m cap _ w hr).mono ?_
  rintro e w' ⟨a', k, c', rfl, hr', t⟩
  have ht : tellU (olderF (wrapF xs self dd) (hdr (wrapF xs self dd))) = olderF xs (hdr xs) := by unfold tellU; rw [if_pos hu, hY, r1.take]
  rw [ht] at hr'
  have hk := hr'.1
  rw [olderF_length, hn] at hk
  subst hk
  rw [hu]
  exact ⟨a', c', _, _, rfl, hr', t⟩

def known22 : KArg := ⟨1, 2, 17, 3, 4⟩
theorem known22_ok : known22.Ok := by
  refine ⟨?_, ?_, ?_, ?_, ?_⟩ <;> simp [known22, isI64]
set_option maxRecDepth 20000 in
set_option maxHeartbeats 4000000 in
theorem awake22 (w : World) :
    Calls Try.prog 29 #[] w fun e w' => e = .returned (.bool true) ∧ Touch w w' (fun _ => False) := by
  have HM : RowKit.Hid (∀ (t : Int) (ht : isI64 t) W, Calls Try.prog 23 #[.agg (kcs known22), .int .i64 t, .int .i64 0, .slice none 0 0] W fun e w' => ∃ a' cap', e = .returned (.slice a' 28 cap') ∧ FreshB W w' (.slice a' 28 cap') (madeF known22 t 0 [])) :=
    Lib.hid (fun t ht W => made_any known22 known22_ok t 0 none 0 0 [] W (RowB.nil _ _ _ (by omega)) (by omega) ht (by simp [isI64]) 28 (by decide))
  have HML : RowKit.Hid (∀ t, (madeF known22 t 0 []).length = 28) := Lib.hid (fun t => by rw [madeF_length]; decide)
  have hp := fun t => pkt_made known22 known22_ok t 0 [] (by simp) (by simp)
  have h9 : (hdr (madeF known22 9 0 [])).ttl = 9 := by rw [(hp 9).2]; decide
  have h1 : (hdr (madeF known22 1 0 [])).ttl = 1 := by rw [(hp 1).2]; decide
  have HW9 : RowKit.Hid (∀ a cap W, RowB W a 28 cap (madeF known22 9 0 []) → Calls Try.prog 30 #[.slice a 28 cap, .int .u32 7, .int .u32 8, .int .i64 1500] W fun e w' => ∃ a' c', e = .returned (.tuple #[.slice a' 48 c', .int .i64 0]) ∧ RowB w' a' 48 c' (wrapF (madeF known22 9 0 []) 7 8) ∧ Touch W w' (fun _ => False)) :=
    Lib.hid (fun a cap W hr => wrap_good (hp 9).1 (by omega) (by rw [HML.out]; omega) 7 8 1500 (by rw [HML.out]; omega) (by omega) (by omega) a 28 48 cap rfl W hr)
  have HU : RowKit.Hid (∀ a cap W, RowB W a 48 cap (wrapF (madeF known22 9 0 []) 7 8) → Calls Try.prog 32 #[.slice a 48 cap] W fun e w' => ∃ a' c', e = .returned (.tuple #[.slice a' 28 c', .int .u32 7, .int .u32 8, .int .i64 0]) ∧ RowB w' a' 28 c' (olderF (madeF known22 9 0 []) (hdr (madeF known22 9 0 []))) ∧ Touch W w' (fun _ => False)) :=
    Lib.hid (fun a cap W hr => unwrap_good (wrapped (hp 9).1 (by omega) (by rw [HML.out]; omega) 7 8 1500 (by rw [HML.out]; omega) (by omega) (by omega)) a 28 48 cap (HML.out 9) W hr)
  have HW1 : RowKit.Hid (∀ a cap W, RowB W a 28 cap (madeF known22 1 0 []) → Calls Try.prog 30 #[.slice a 28 cap, .int .u32 7, .int .u32 8, .int .i64 1500] W fun e w' => ∃ a' c', e = .returned (.tuple #[.slice a' 0 c', .int .i64 7]) ∧ Touch W w' (fun _ => False)) :=
    Lib.hid (fun a cap W hr => wrap_old (hp 1).1 (by omega) 7 8 1500 (by omega) (by omega) a 28 cap W hr)
  have HM9 := Lib.hid (HM.out 9 (by simp [isI64]))
  have HM1 := Lib.hid (HM.out 1 (by simp [isI64]))
  have HL9 := Lib.hid (HML.out 9)
  have HL1 := Lib.hid (HML.out 1)
  clear hp h9 h1 HM HML
  generalize wrapF (madeF known22 9 0 []) 7 8 = Z at *
  generalize olderF (madeF known22 9 0 []) (hdr (madeF known22 9 0 [])) = O at *
  generalize madeF known22 9 0 [] = M9 at *
  generalize madeF known22 1 0 [] = M1 at *
  simp only [kcs, known22] at HM9 HM1
  obtain ⟨W1, hW1⟩ : ∃ W, w.alloc (.cells #[.int .u32 1, .int .u32 2, .int .i64 17, .int .i64 3, .int .i64 4] 43) = W := ⟨_, rfl⟩
  have t1 : Touch w W1 (fun _ => False) := hW1 ▸ (Touch.refl _ _).alloc _
  have HK : RowKit.Hid (W1.heap[w.heap.size]? = some (.cells (kcs known22) 43 (0, 0))) := Lib.hid (hW1 ▸ heap_alloc_new w _)
  have HT := Lib.hid t1
  have HW := Lib.hid hW1
  have HCK := Lib.hid (fun (W : World) (h : W.heap[w.heap.size]? = some (.cells (kcs known22) 43 (0, 0))) => kcells_of h)
  simp only [known22] at HCK
  clear t1 hW1
  go_enter Try.func29, Try.ntmps29
  go_upto_region 2 with fail
  rw [HW.out]
  obtain ⟨c0, c1, c2, c3, c4⟩ := HCK.out _ HK.out
  go_wp2_with (first
    | (go_at_call 23; (with_reducible refine (HM9.out _).mono ?_); rintro e w2 ⟨a2, d2, rfl, hf2⟩; have hq := ref_row (n := 0) hf2 HL9.out; have t2 := hf2.2; have HT := Lib.hid (HT.out.trans t2 (fun _ _ h => h)); have HK := Lib.hid (t2.keeps HK.out (fun h => h)); have HR9 := Lib.hid hq.1; obtain ⟨c0, c1, c2, c3, c4⟩ := HCK.out _ HK.out; clear hf2 t2 hq)
    | (go_at_call 30; (with_reducible refine (HW9.out _ _ _ HR9.out).mono ?_); rintro e w3 ⟨a3, d3, rfl, hr3, t3⟩; have HT := Lib.hid (HT.out.trans t3 (fun _ _ h => h)); have HK := Lib.hid (t3.keeps HK.out (fun h => h)); have HRZ := Lib.hid hr3; obtain ⟨c0, c1, c2, c3, c4⟩ := HCK.out _ HK.out; clear t3 hr3)
    | (go_at_call 32; (with_reducible refine (HU.out _ _ _ HRZ.out).mono ?_); rintro e w4 ⟨a4, d4, rfl, hr4, t4⟩; have HT := Lib.hid (HT.out.trans t4 (fun _ _ h => h)); have HK := Lib.hid (t4.keeps HK.out (fun h => h)); obtain ⟨c0, c1, c2, c3, c4⟩ := HCK.out _ HK.out; clear t4 hr4)
    | (go_at_call 23; (with_reducible refine (HM1.out _).mono ?_); rintro e w5 ⟨a5, d5, rfl, hf5⟩; have hq := ref_row (n := 0) hf5 HL1.out; have t5 := hf5.2; have HT := Lib.hid (HT.out.trans t5 (fun _ _ h => h)); have HR1 := Lib.hid hq.1; clear hf5 t5 hq)
    | (go_at_call 30; (with_reducible refine (HW1.out _ _ _ HR1.out).mono ?_); rintro e w6 ⟨a6, d6, rfl, t6⟩; have HT := Lib.hid (HT.out.trans t6 (fun _ _ h => h)); clear t6))
  go_ret
  exact ⟨rfl, HT.out⟩
end Go.Proofs.Ythjdebcjfpokoaa
