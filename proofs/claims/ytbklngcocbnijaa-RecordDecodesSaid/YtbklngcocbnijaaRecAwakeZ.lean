/- The known record: awake answers true. -/
import Derived.Test.YtbklngcocbnijaaRecEncZ
set_option linter.unusedVariables false
set_option linter.unusedSimpArgs false
namespace Go.Proofs.Ytbklngcocbnijaa
open Go.RowKit

def krec : RecD := ⟨5, noT, 0, 0, 0, 0, [], 5, 0, 0⟩
theorem krec_ok : RecOk krec := by
  refine ⟨?_, ⟨?_, ?_, ?_, ?_, ?_⟩, ?_, ?_, ?_, ?_, ?_, ?_, ?_, ?_⟩ <;> first | (intro b hb; cases hb) | (simp only [krec, noT, i64, u32]; omega)
theorem krec_enc : encE krec 2 = 0 ∧ encK krec 2 = 5 ∧ encV krec 2 = 2 ∧ encB krec 2 = [0, 5] := by decide
theorem known_enc (w : World) : Calls Try.prog 24 #[.agg #[.int .i64 5, .int .u32 0, .int .u32 0, .int .i64 0, .int .i64 0, .int .i64 0, .int .i64 0, .int .i64 0, .int .i64 0, .int .i64 0, .slice none 0 0, .int .i64 5, .int .i64 0, .int .i64 0], .int .i64 2] w
    fun e w' => ∃ a c, e = .returned (.tuple #[.agg #[.int .i64 5, .int .i64 2, .slice a 2 c], .int .i64 0]) ∧ RowB w' a 2 c [0, 5] ∧ Touch w w' (fun _ => False) := by
  refine (enc_any krec none 0 2 w (RowS.nil _ _ _ _ (by decide)) krec_ok).mono ?_
  rintro e w' ⟨a, c, rfl, hf⟩
  obtain ⟨k1, k2, k3, k4⟩ := krec_enc
  rw [k1, k2, k3]
  rw [k4] at hf ⊢
  exact ⟨a, c, rfl, hf.row'.2, hf.2⟩
set_option maxRecDepth 20000 in
set_option maxHeartbeats 2000000 in
theorem awake8 (w : World) :
    Calls Try.prog 14 #[] w fun e w' => e = .returned (.bool true) ∧ Touch w w' (fun _ => False) := by
  have HQ := Lib.hid (known_enc w)
  go_enter Try.func14, Try.ntmps14
  go_wp2_with (go_at_call 24; (with_reducible refine HQ.out.mono ?_); rintro e w2 ⟨a, c, rfl, hr, t2⟩; have HT := Lib.hid t2; have hc := hr.2.2.2.2.2; have hcap := hr.2.2.1; have hcap1 := hr.2.1; (obtain ⟨b, off, rfl, hcells⟩ : ∃ b off, a = some ⟨b, off, none⟩ ∧ ∀ i, (h : i < ([0, 5] : List Nat).length) → w2.cell? ⟨b, off + i, none⟩ = some (.int .u8 (([0, 5] : List Nat)[i] : Nat)) := by (rcases hc with h0 | h0; omega; exact h0)); have c1 := hcells 1 (by decide); simp at c1; have hb2 : b < w2.heap.size := cell_lt c1; clear hr t2 hc hcells)
  go_ret
  exact ⟨rfl, HT.out.alloc _⟩
end Go.Proofs.Ytbklngcocbnijaa
