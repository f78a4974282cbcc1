/- Records: as a format keeps them: In of package record. -/
import Derived.Test.YtgmimdnebgncoaaGCZ
import Derived.Test.YtgmimdnebgncoaaRecRPlainZ
import Derived.Test.YtgmimdnebgncoaaRecSameZ
import Derived.Test.YtgmimdnebgncoaaRecMayZ
import Derived.Deep.DeepCutAuto
set_option linter.unusedVariables false
set_option linter.unusedSimpArgs false
namespace Go.Proofs.Ytgmimdnebgncoaa
open Go.RowKit

def w1K (b : BkD) : BkD := ⟨b.id, b.addr, 1⟩
def zeroR : RecD := ⟨0, noT, 0, 0, 0, 0, [], 0, 0, 0⟩
/-- As a format keeps it. -/
def inD (r : RecD) (v : Int) : RecD :=
  if verB v = true then ⟨(plainD r).kind, (plainD r).t, (plainD r).fb, if v < 2 then 0 else (plainD r).fg, if v < 3 then 0 else (plainD r).fs, (plainD r).gen, if v < 2 then (plainD r).bs.map w1K else (plainD r).bs, (plainD r).be, (plainD r).un, (plainD r).ct⟩ else zeroR

theorem w1K_cells (b : BkD) : (w1K b).cells = b.cells.set 2 (.int .i64 1) := rfl
/-- The first k with the weight 1. -/
def halfK (bs : List BkD) (k : Nat) : List BkD := (bs.take k).map w1K ++ bs.drop k
theorem halfK_len (bs : List BkD) (k : Nat) : (halfK bs k).length = bs.length := by simp [halfK]; omega
theorem halfK_zero (bs : List BkD) : halfK bs 0 = bs := by simp [halfK]
theorem halfK_all (bs : List BkD) : halfK bs bs.length = bs.map w1K := by simp [halfK]
theorem halfK_get (bs : List BkD) (k : Nat) (hk' : k < bs.length) (h : k < (halfK bs k).length) : (halfK bs k)[k] = bs[k] := by
  have hl : ((bs.take k).map w1K).length = k := by simp; omega
  have e : (halfK bs k)[k]? = bs[k]? := by
    unfold halfK
    rw [List.getElem?_append_right (by omega), hl, Nat.sub_self, List.getElem?_drop, Nat.add_zero]
  rw [List.getElem?_eq_getElem h, List.getElem?_eq_getElem hk'] at e
  simpa using e
theorem halfK_step (bs : List BkD) (k : Nat) (hk : k < (halfK bs k).length) : (halfK bs k).set k (w1K (halfK bs k)[k]) = halfK bs (k + 1) := by
  have hk' : k < bs.length := by rwa [halfK_len] at hk
  have hl : ((bs.take k).map w1K).length = k := by simp; omega
  rw [halfK_get bs k hk' hk]
  unfold halfK
  rw [List.set_append_right _ _ (by omega), hl, Nat.sub_self, List.take_succ_eq_append_getElem hk', List.drop_eq_getElem_cons hk']
  simp only [List.set_cons_zero, List.map_append, List.map_cons, List.map_nil, List.append_assoc, List.cons_append, List.nil_append]

theorem verB_cases (v : Int) (h : verB v = true) : v = 1 ∨ v = 2 ∨ v = 3 := by have := (verB_iff v).1 h; omega
end Go.Proofs.Ytgmimdnebgncoaa
