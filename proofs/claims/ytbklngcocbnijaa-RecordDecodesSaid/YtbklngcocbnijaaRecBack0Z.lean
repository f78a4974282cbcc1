/- RecordBack: what is written is read, as far as its format goes; what is decoded, encoded again, is the same frame: the walk. -/
import Derived.Test.YtbklngcocbnijaaRecDecZ
import Derived.Test.YtbklngcocbnijaaRecLawZ
import Derived.Test.YtbklngcocbnijaaRecMathZ
import Derived.Test.YtbklngcocbnijaaGAZ
import Derived.Test.YtbklngcocbnijaaGCZ
set_option linter.unusedVariables false
set_option linter.unusedSimpArgs false
namespace Go.Proofs.Ytbklngcocbnijaa
open Go.RowKit

theorem in_less (r : RecD) (f : Int) : (inD r f).bs.length ≤ r.bs.length := by
  have hp : (plainD r).bs.length ≤ r.bs.length := by unfold plainD; repeat' split
                                                     all_goals simp
  unfold inD
  split
  · simp only
    split
    · simpa using hp
    · exact hp
  · simp [zeroR]
theorem plain_in3 (r : RecD) : plainD (inD r 3) = plainD r := by
  have h3 : verB 3 = true := by decide
  have e : inD r 3 = plainD r := by unfold inD; rw [if_pos h3]; rfl
  rw [e]
  obtain ⟨k, t, fb, fg, fs, gen, bs, be, un, ct⟩ := r
  by_cases k1 : k = 1; · subst k1; rfl
  by_cases k2 : k = 2; · subst k2; rfl
  by_cases k3 : k = 3; · subst k3; rfl
  by_cases k4 : k = 4; · subst k4; rfl
  by_cases k5 : k = 5; · subst k5; rfl
  by_cases k6 : k = 6; · subst k6; rfl
  simp only [plainD, k1, k2, k3, k4, k5, k6, if_false]
theorem decE_zero {k v : Int} {xs : List Nat} (h : decE k v xs = 0) : verB v = true ∧ decB k v xs = true := by
  unfold decE at h
  by_cases hv : verB v = true
  · rw [if_pos hv] at h
    by_cases hb : decB k v xs = true
    · exact ⟨hv, hb⟩
    · rw [if_neg hb] at h; omega
  · rw [if_neg hv] at h; omega
theorem encE_bad {r : RecD} {v : Int} (h : encE r v ≠ 0) : v < 1 ∨ 3 < v ∨ ((1 ≤ v ∧ v ≤ 3) ∧ mayRB r = false) := by
  unfold encE at h
  by_cases hv : verB v = true
  · rw [if_pos hv] at h
    cases hm : mayRB r with
    | true => rw [hm] at h; simp at h
    | false => exact .inr (.inr ⟨(verB_iff v).1 hv, rfl⟩)
  · have hn : ¬ (1 ≤ v ∧ v ≤ 3) := fun h => hv ((verB_iff v).2 h)
    by_cases h1 : v < 1
    · exact .inl h1
    · exact .inr (.inl (by omega))
theorem encE_good {r : RecD} {v : Int} (h : encE r v = 0) : verB v = true ∧ mayRB r = true := by
  unfold encE at h
  by_cases hv : verB v = true
  · rw [if_pos hv] at h
    cases hm : mayRB r with
    | true => exact ⟨hv, rfl⟩
    | false => rw [hm] at h; simp at h
  · rw [if_neg hv] at h; omega
theorem enc_none (r : RecD) (a : Option Addr) (cap : Nat) (v : Int) (w : World) (hr : RowK w a r.bs.length cap r.bs) (ok : RecOk r) (he : encE r v ≠ 0) :
    Calls Try.prog 24 #[.agg (rcs r a cap), .int .i64 v] w fun e w' => ∃ a' c', e = .returned (.tuple #[.agg #[.int .i64 0, .int .i64 0, .slice a' 0 c'], .int .i64 (encE r v)]) ∧ Touch w w' (fun _ => False) := by
  refine (enc_any r a cap v w hr ok).mono ?_
  rintro e w' ⟨a1, c1, rfl, hf⟩
  have k1 : encK r v = 0 := by unfold encK; rw [if_neg he]
  have k2 : encV r v = 0 := by unfold encV; rw [if_neg he]
  have k3 : encB r v = [] := by unfold encB; rw [if_neg he]
  rw [k1, k2, k3]
  exact ⟨a1, c1, rfl, hf.2⟩

set_option maxRecDepth 20000 in
set_option maxHeartbeats 8000000 in
theorem back_bad (r : RecD) (a : Option Addr) (cap : Nat) (ver : Int) (k2 v2 : Int) (a2 : Option Addr) (cap2 : Nat) (xs : List Nat) (w : World) (ok : RecOk r) (hr : RowK w a r.bs.length cap r.bs) (hk2 : i64 k2) (hy : RowB w a2 xs.length cap2 xs) (hlen : xs.length ≤ 140737488355328) (hl : lightB r = false ∨ lightB r = true ∧ 400 < xs.length) :
    Calls Try.prog 6 #[.agg (rcs r a cap), .int .i64 ver, .agg #[.int .i64 k2, .int .i64 v2, .slice a2 xs.length cap2]] w fun e w' => e = .returned (.bool true) ∧ Touch w w' (fun _ => False) := by
  obtain ⟨W1, hW1⟩ : ∃ W, w.alloc (.cells (rcs r a cap) 29) = W := ⟨_, rfl⟩
  obtain ⟨W2, hW2⟩ : ∃ W, W1.alloc (.cells #[.int .i64 k2, .int .i64 v2, .slice a2 xs.length cap2] 39) = W := ⟨_, rfl⟩
  have t1 : Touch w W1 (fun _ => False) := hW1 ▸ (Touch.refl _ _).alloc _
  have t2 : Touch W1 W2 (fun _ => False) := hW2 ▸ (Touch.refl _ _).alloc _
  have HB : RowKit.Hid (W2.heap[w.heap.size]? = some (.cells (rcs r a cap) 29 (0, 0))) := Lib.hid (t2.keeps (hW1 ▸ heap_alloc_new w _) (fun h => h))
  have HF : RowKit.Hid (W2.heap[W1.heap.size]? = some (.cells #[.int .i64 k2, .int .i64 v2, .slice a2 xs.length cap2] 39 (0, 0))) := Lib.hid (hW2 ▸ heap_alloc_new W1 _)
  have HR := Lib.hid ((hr.still t1).still t2)
  have HY := Lib.hid ((hy.touch t1 (fun _ _ => .inr (fun h => h))).touch t2 (fun _ _ => .inr (fun h => h)))
  have HT := Lib.hid (t1.trans t2 (fun _ _ h => h))
  have HIR := Lib.hid infoRec
  have HIF := Lib.hid infoFr
  have HLL : RowKit.Hid (∀ W, Calls Try.prog 13 #[.agg (rcs r a cap)] W fun e w' => e = .returned (.bool (lightB r)) ∧ Touch W w' (fun _ => False)) := Lib.hid (fun W => light_any r a cap W)
  clear hr hy t1 t2 ok hk2
  rcases hl with hl | ⟨hl, hx⟩
  · rw [hl] at HLL
    simp only [rcs] at hW1
    simp only [rcs]
    go_enter Try.func6, Try.ntmps6
    go_wp2_with (first
      | (refine load_rowG rfl 29 (.tmp 3) rfl w.heap.size rfl _ _ _ _ HB.out Try.underlying29 rfl HIR.out ?_)
      | (go_at_call 13; (with_reducible refine (HLL.out _).mono ?_); rintro e w2 ⟨rfl, t9⟩; (try have HB := Lib.hid (t9.keeps HB.out (fun h => h))); (try have HF := Lib.hid (t9.keeps HF.out (fun h => h))); (try have HX := Lib.hid (t9.keeps HX.out (fun h => h))); (try have HG := Lib.hid (t9.keeps HG.out (fun h => h))); (try have HF2 := Lib.hid (t9.keeps HF2.out (fun h => h))); (try have HX2 := Lib.hid (t9.keeps HX2.out (fun h => h))); (try have HR := Lib.hid (HR.out.still t9)); (try have HY := Lib.hid (HY.out.touch t9 (fun _ _ => .inr (fun h => h)))); (try have RX := Lib.hid (RX.out.still t9)); (try have RG := Lib.hid (RG.out.touch t9 (fun _ _ => .inr (fun h => h)))); (try have RF2 := Lib.hid (RF2.out.touch t9 (fun _ _ => .inr (fun h => h)))); (try have RX2 := Lib.hid (RX2.out.still t9)); have HT := Lib.hid (HT.out.trans t9 (fun _ _ h => h)); clear t9)
      | (go_at_call 14; (with_reducible refine (awake8 _).mono ?_); rintro e w2 ⟨rfl, t9⟩; have HT := Lib.hid (HT.out.trans t9 (fun _ _ h => h)); clear t9))
    go_ret
    exact ⟨rfl, HT.out⟩
  · rw [hl] at HLL
    have i1 : (400 : Int) < xs.length := by omega
    have c2 : W2.cell? ⟨W1.heap.size, 2, none⟩ = some (.slice a2 xs.length cap2) := cell_of_cells HF.out 2
    simp only [rcs] at hW1
    simp only [rcs]
    go_enter Try.func6, Try.ntmps6
    go_wp2_with (first
      | (refine load_rowG rfl 29 (.tmp 3) rfl w.heap.size rfl _ _ _ _ HB.out Try.underlying29 rfl HIR.out ?_)
      | (go_at_call 13; (with_reducible refine (HLL.out _).mono ?_); rintro e w2 ⟨rfl, t9⟩; (try have HB := Lib.hid (t9.keeps HB.out (fun h => h))); (try have HF := Lib.hid (t9.keeps HF.out (fun h => h))); (try have HX := Lib.hid (t9.keeps HX.out (fun h => h))); (try have HG := Lib.hid (t9.keeps HG.out (fun h => h))); (try have HF2 := Lib.hid (t9.keeps HF2.out (fun h => h))); (try have HX2 := Lib.hid (t9.keeps HX2.out (fun h => h))); (try have HR := Lib.hid (HR.out.still t9)); (try have HY := Lib.hid (HY.out.touch t9 (fun _ _ => .inr (fun h => h)))); (try have RX := Lib.hid (RX.out.still t9)); (try have RG := Lib.hid (RG.out.touch t9 (fun _ _ => .inr (fun h => h)))); (try have RF2 := Lib.hid (RF2.out.touch t9 (fun _ _ => .inr (fun h => h)))); (try have RX2 := Lib.hid (RX2.out.still t9)); have HT := Lib.hid (HT.out.trans t9 (fun _ _ h => h)); clear t9; have c2 := cell_of_cells HF.out 2; simp at c2)
      | (go_at_call 14; (with_reducible refine (awake8 _).mono ?_); rintro e w2 ⟨rfl, t9⟩; have HT := Lib.hid (HT.out.trans t9 (fun _ _ h => h)); clear t9))
    go_ret
    exact ⟨rfl, HT.out⟩

end Go.Proofs.Ytbklngcocbnijaa
