/- Records: words of the laws. -/
import Derived.Test.YtbklngcocbnijaaRecAwakeZ
import Derived.Test.YtbklngcocbnijaaGCZ
import Derived.Test.YtbklngcocbnijaaRecFrZ
import Derived.Test.YtbklngcocbnijaaRecMathZ
import Derived.Test.YtbklngcocbnijaaGAZ
set_option linter.unusedVariables false
set_option linter.unusedSimpArgs false
namespace Go.Proofs.Ytbklngcocbnijaa
open Go.RowKit

def lightB (r : RecD) : Bool := decide (r.bs.length ≤ 40)
theorem light_any (r : RecD) (a : Option Addr) (cap : Nat) (w : World) :
    Calls Try.prog 13 #[.agg (rcs r a cap)] w fun e w' => e = .returned (.bool (lightB r)) ∧ Touch w w' (fun _ => False) := by
  have HL : RowKit.Hid (lightB r = decide ((r.bs.length : Int) ≤ 40)) := Lib.hid (by unfold lightB; rw [decide_eq_decide]; omega)
  simp only [rcs]
  go_enter Try.func13, Try.ntmps13
  go_wp2
  go_ret
  exact ⟨by rw [HL.out]; rfl, (Touch.refl _ _).alloc _⟩
/-- Encode where it goes well. -/
theorem enc_fine (r : RecD) (a : Option Addr) (cap : Nat) (v : Int) (w : World) (hr : RowK w a r.bs.length cap r.bs) (ok : RecOk r) (hv : verB v = true) (hm : mayRB r = true) :
    Calls Try.prog 24 #[.agg (rcs r a cap), .int .i64 v] w fun e w' => ∃ a' c', e = .returned (.tuple #[.agg #[.int .i64 r.kind, .int .i64 v, .slice a' (bodyF r v).length c'], .int .i64 0]) ∧ RowB w' a' (bodyF r v).length c' (bodyF r v) ∧ Touch w w' (fun _ => False) := by
  refine (enc_any r a cap v w hr ok).mono ?_
  rintro e w' ⟨a1, c1, rfl, hf⟩
  have he : encE r v = 0 := by unfold encE; rw [if_pos hv, if_pos hm]
  have k1 : encK r v = r.kind := by unfold encK; rw [if_pos he]
  have k2 : encV r v = v := by unfold encV; rw [if_pos he]
  have k3 : encB r v = bodyF r v := by unfold encB; rw [if_pos he]
  rw [he, k1, k2]
  rw [k3] at hf ⊢
  exact ⟨a1, c1, rfl, hf.row'.2, hf.2⟩
theorem bodyF_small (r : RecD) (v : Int) : ∀ x ∈ bodyF r v, x < 256 := by
  have hb : ∀ bs : List BkD, ∀ x ∈ bksF v bs, x < 256 := by
    intro bs x hx
    unfold bksF at hx
    obtain ⟨l, hl, hxl⟩ := List.mem_flatten.1 hx
    obtain ⟨b, _, rfl⟩ := List.mem_map.1 hl
    unfold bkF at hxl
    simp only [List.mem_append] at hxl
    rcases hxl with (h | h) | h
    · exact beB_small _ _ x h
    · exact beB_small _ _ x h
    · split at h
      · cases h
      · exact beB_small _ _ x h
  have ht : ∀ t : TupD, ∀ x ∈ tbF t, x < 256 := by
    intro t x hx
    unfold tbF at hx
    simp only [List.mem_append] at hx
    rcases hx with (((h | h) | h) | h) | h <;> exact beB_small _ _ x h
  intro x hx
  unfold bodyF flowF at hx
  split at hx
  · simp only [List.mem_append] at hx
    rcases hx with ((h | h) | h) | h
    · exact ht _ x h
    · exact beB_small _ _ x h
    · split at h
      · cases h
      · exact beB_small _ _ x h
    · split at h
      · cases h
      · exact beB_small _ _ x h
  split at hx
  · exact ht _ x hx
  split at hx
  · simp only [List.mem_append] at hx
    rcases hx with h | h | h
    · exact beB_small _ _ x h
    · exact beB_small _ _ x h
    · exact hb _ x h
  split at hx
  · simp only [List.mem_append] at hx
    rcases hx with h | h <;> exact beB_small _ _ x h
  split at hx <;> exact beB_small _ _ x hx
end Go.Proofs.Ytbklngcocbnijaa
