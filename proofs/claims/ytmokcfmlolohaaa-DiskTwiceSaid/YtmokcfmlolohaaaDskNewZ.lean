/- A new disk; a map of names is copied. -/
import Derived.Test.YtmokcfmlolohaaaDskNmsZ
set_option linter.unusedVariables false
set_option linter.unusedSimpArgs false
namespace Go.Proofs.Ytmokcfmlolohaaa
open Go.RowKit

theorem mcloneN_any (w : World) (mb : Nat) (M : List NmD) (o : OwnN w mb M) :
    Calls Try.prog 49 #[.map (some mb)] w fun e w' => e = .returned (.map (some w.heap.size)) ∧ OwnN w' w.heap.size M ∧ Touch w w' (fun _ => False) := by
  obtain ⟨hn, D, hD, hP⟩ := o
  have hc : Calls Try.prog 49 #[.map (some mb)] w _ := Go.Proofs.AnyW.maps_Clone_owns Try.mcloneS _ _ mb M.length D w hD
  refine hc.mono ?_
  rintro e w' ⟨rfl, h1, -, hb⟩
  exact ⟨rfl, ⟨hn, D, h1, hP⟩, Touch.ofBelow hb (fun k hk hlt => by omega)⟩
def dkNew (q : Int) : DkS := ⟨min (max q 0) 67108864, 0, 0, [], [], fun _ => ⟨[], 0⟩⟩
def tagNew (mn ms d : Nat) : Nat → DkTg := fun k => if k = mn then .nm else if k = ms then .sm else if k = d then .head else .out
set_option maxRecDepth 20000 in
set_option maxHeartbeats 8000000 in
theorem dnew_any (w : World) (q : Int) (hq : -9223372036854775808 ≤ q ∧ q ≤ 9223372036854775807) :
    Calls Try.prog 14 #[.int .i64 q] w fun e w' => ∃ d h, e = .returned (.pointer (some ⟨d, 0, none⟩)) ∧ DkN w w' d h (dkNew q) := by
  obtain ⟨W1, hW1⟩ : ∃ W, w.alloc (.map #[] 0) = W := ⟨_, rfl⟩
  obtain ⟨W2, hW2⟩ : ∃ W, W1.alloc (.map #[] 0) = W := ⟨_, rfl⟩
  have s1 : W1.heap.size = w.heap.size + 1 := by rw [← hW1]; simp
  have s2 : W2.heap.size = w.heap.size + 2 := by rw [← hW2]; simp; omega
  have t1 : Touch w W1 (fun _ => False) := hW1 ▸ (Touch.refl w _).alloc _
  have t2 : Touch W1 W2 (fun _ => False) := hW2 ▸ (Touch.refl W1 _).alloc _
  have o1 : OwnN W1 w.heap.size [] := hW1 ▸ OwnN.made w
  have o2 : OwnN W2 W1.heap.size [] := hW2 ▸ OwnN.made W1
  have hmk1 := run_makeMap (P := Try.prog) 62 w
  have hmk2 := run_makeMap (P := Try.prog) 62 W1
  rw [hW1] at hmk1
  rw [hW2] at hmk2
  have hmx := fun W => max_runK q 0 W
  have hmi := fun W => min_runK (max q 0) 67108864 W
  obtain ⟨z, hz⟩ : ∃ z, min (max q 0) 67108864 = z := ⟨_, rfl⟩
  have hz1 : 0 ≤ z ∧ z ≤ 67108864 := by omega
  obtain ⟨y, hy⟩ : ∃ y, max q 0 = y := ⟨_, rfl⟩
  rw [hz] at hmi
  rw [hy] at hmi hmx
  have eN : dkNew q = ⟨z, 0, 0, [], [], fun _ => ⟨[], 0⟩⟩ := by unfold dkNew; rw [hz]
  rw [eN]
  obtain ⟨W3, hW3⟩ : ∃ W, W2.alloc (.cells #[.int .i64 z, .map (some w.heap.size), .map (some W1.heap.size), .slice none 0 0, .int .i64 0, .int .i64 0] 65) = W := ⟨_, rfl⟩
  have t3 : Touch W2 W3 (fun _ => False) := hW3 ▸ (Touch.refl W2 _).alloc _
  have g3 : W3.heap[W2.heap.size]? = some (.cells #[.int .i64 z, .map (some w.heap.size), .map (some W1.heap.size), .slice none 0 0, .int .i64 0, .int .i64 0] 65 (0, 0)) := hW3 ▸ heap_alloc_new ..
  have HR : RowKit.Hid (DkN w W3 W2.heap.size ⟨w.heap.size, W1.heap.size, none, 0, fun _ => none, fun _ => 0, tagNew w.heap.size W1.heap.size W2.heap.size⟩ ⟨z, 0, 0, [], [], fun _ => ⟨[], 0⟩⟩) := Lib.hid (by
    have hfoot : ∀ k, tagNew w.heap.size W1.heap.size W2.heap.size k ≠ .out → w.heap.size ≤ k ∧ k ≤ W2.heap.size := by
      intro k hk
      unfold tagNew at hk
      split at hk
      · omega
      · split at hk
        · omega
        · split at hk
          · omega
          · exact absurd rfl hk
    refine ⟨⟨g3, (o1.still t2).still t3, o2.still t3, OwnS.nil _ _ _ _, ?_, ?_, ?_, ?_, (fun x hx => by cases hx), ?_, ?_, (fun c hc => by cases hc), (fun c hc => by cases hc), hz1, ⟨Int.le_refl 0, show (0 : Int) ≤ 9223372036854775807 by decide⟩⟩, (t1.trans t2 (fun _ _ h => h)).trans t3 (fun _ _ h => h), fun k hk => (hfoot k hk).1⟩
    · intro g hg
      have hg : tagNew w.heap.size W1.heap.size W2.heap.size g = .fb := hg
      unfold tagNew at hg
      split at hg
      · cases hg
      · split at hg
        · cases hg
        · split at hg <;> cases hg
    · show tagNew w.heap.size W1.heap.size W2.heap.size W2.heap.size = _
      unfold tagNew
      rw [if_neg (by omega), if_neg (by omega), if_pos rfl]
    · show tagNew w.heap.size W1.heap.size W2.heap.size w.heap.size = _
      unfold tagNew
      rw [if_pos rfl]
    · show tagNew w.heap.size W1.heap.size W2.heap.size W1.heap.size = _
      unfold tagNew
      rw [if_neg (by omega), if_pos rfl]
    · intro k hk
      have := (hfoot k hk).2
      have := heap_lt g3
      omega
    · intro k hk
      have hk : k ≤ 0 := hk
      obtain rfl : k = 0 := by omega
      exact ⟨by simp [dkAll], by simp [dkAll], fun x hx => by simp [dkAll] at hx⟩)
  clear t1 t2 t3 o1 o2 g3 s1 s2 eN hz hy hz1
  go_enter Try.func14, Try.ntmps14
  go_wp2_with fail
  go_ret
  exact ⟨_, _, rfl, HR.out⟩
end Go.Proofs.Ytmokcfmlolohaaa
