/- Manifests: may one be; are two the same. -/
import Derived.Test.YtibpnlhdpdfhiaaDoorFrmFactZ
import Derived.Test.YtibpnlhdpdfhiaaDoorGAZ
set_option linter.unusedVariables false
set_option linter.unusedSimpArgs false
namespace Go.Proofs.YtibpnlhdpdfhiaaDoor
open Go.RowKit

/-! ### Rows of numbers -/
theorem RowI.keep {w w' : World} {a : Option Addr} {len cap : Nat} {zs : List Int} (h : RowI w a len cap zs) (t : Touch w w' (fun _ => False)) : RowI w' a len cap zs := by
  obtain ⟨h1, h2, h3, h4, h5⟩ := h
  refine ⟨h1, h2, h3, h4, ?_⟩
  rcases h5 with h5 | ⟨b, off, ha, hlt, hc⟩
  · exact .inl h5
  · exact .inr ⟨b, off, ha, Nat.lt_of_lt_of_le hlt t.size, fun i hi => (t.cell (p := ⟨b, off + i, none⟩) hlt (fun h => h)).trans (hc i hi)⟩
theorem RowI.place {w : World} {a : Option Addr} {len cap : Nat} {zs : List Int} (h : RowI w a len cap zs) (h0 : 0 < len) : ∃ b off, a = .some ⟨b, off, none⟩ ∧ ∀ i, (h : i < zs.length) → w.cell? ⟨b, off + i, none⟩ = Option.some (.int .i64 zs[i]) := by
  rcases h.2.2.2.2 with h5 | ⟨b, off, ha, _, hc⟩
  · omega
  · exact ⟨b, off, ha, hc⟩

/-! ### May it be? -/
def manV (v : Int) : Bool := decide (1 ≤ v ∧ v ≤ 3)
theorem manV_iff (n : Int) : manV n = true ↔ 1 ≤ n ∧ n ≤ 3 := by unfold manV; exact decide_eq_true_iff
def upM (n : Int) : Int → List Int → Bool
  | _, [] => true
  | last, z :: zs => decide (last < z ∧ z < n) && upM n z zs
def mayM (v n : Int) (zs : List Int) : Bool := manV v && (decide (1 ≤ n ∧ n ≤ 1000000) && (decide (1 ≤ zs.length ∧ zs.length ≤ 64) && upM n 0 zs))
theorem mayM_iff (v n : Int) (zs : List Int) : mayM v n zs = true ↔ (1 ≤ v ∧ v ≤ 3) ∧ (1 ≤ n ∧ n ≤ 1000000) ∧ (1 ≤ zs.length ∧ zs.length ≤ 64) ∧ upM n 0 zs = true := by
  unfold mayM manV
  simp only [Bool.and_eq_true, decide_eq_true_eq]
/-- The last one before the k-th. -/
def lastM (zs : List Int) : Nat → Int
  | 0 => 0
  | k + 1 => zs.getD k 0
theorem upM_cut (n : Int) : ∀ (zs : List Int) (last : Int) (k : Nat), upM n last zs = (upM n last (zs.take k) && upM n (match k with | 0 => last | k + 1 => (zs.take (k + 1)).getLastD last) (zs.drop k))
  | zs, last, 0 => by simp [upM]
  | [], last, k + 1 => by simp [upM]
  | z :: zs, last, k + 1 => by
    have ih := upM_cut n zs z k
    simp only [List.take_succ_cons, upM, List.drop_succ_cons]
    rw [ih]
    cases k with
    | zero => simp [upM]
    | succ k =>
      simp only [List.getLastD_cons, Bool.and_assoc]
theorem getD_take (zs : List Int) (k : Nat) (hk : k < zs.length) (d : Int) : (zs.take (k + 1)).getLastD d = zs.getD k 0 := by
  rw [List.take_succ_eq_append_getElem hk, List.getLastD_concat, List.getD_eq_getElem?_getD, List.getElem?_eq_getElem hk]; rfl
theorem upM_at (n : Int) (zs : List Int) (k : Nat) (hk : k ≤ zs.length) : upM n 0 zs = (upM n 0 (zs.take k) && upM n (lastM zs k) (zs.drop k)) := by
  rw [upM_cut n zs 0 k]
  cases k with
  | zero => rfl
  | succ k => simp only [lastM, getD_take zs k hk]
theorem upM_snoc (n : Int) (zs : List Int) (k : Nat) (hk : k < zs.length) (h : upM n 0 (zs.take k) = true) : upM n 0 (zs.take (k + 1)) = decide (lastM zs k < zs[k] ∧ zs[k] < n) := by
  have h2 := upM_at n (zs.take (k + 1)) k (by rw [List.length_take]; omega)
  have e1 : (zs.take (k + 1)).take k = zs.take k := by rw [List.take_take]; congr 1; omega
  have e2 : (zs.take (k + 1)).drop k = [zs[k]] := by
    rw [List.take_succ_eq_append_getElem hk, List.drop_append_of_le_length (by rw [List.length_take]; omega), List.drop_of_length_le (by rw [List.length_take]; omega), List.nil_append]
  have e3 : lastM (zs.take (k + 1)) k = lastM zs k := by
    cases k with
    | zero => rfl
    | succ k => simp [lastM, List.getD_eq_getElem?_getD, List.getElem?_take, show k < k + 1 + 1 by omega]
  rw [h2, e1, e2, e3, h]
  simp [upM]
theorem upM_no (n : Int) (zs : List Int) (k : Nat) (hk : k < zs.length) (h : upM n 0 (zs.take k) = true) (hn : ¬ (lastM zs k < zs[k] ∧ zs[k] < n)) : upM n 0 zs = false := by
  rw [upM_at n zs (k + 1) hk, upM_snoc n zs k hk h, decide_eq_false hn]; rfl
theorem lastM_range (zs : List Int) (h : ∀ z ∈ zs, -9223372036854775808 ≤ z ∧ z ≤ 9223372036854775807) : ∀ k, k ≤ zs.length → -9223372036854775808 ≤ lastM zs k ∧ lastM zs k ≤ 9223372036854775807
  | 0, _ => by simp [lastM]
  | k + 1, hk => by
    have hk' : k < zs.length := hk
    simp only [lastM, List.getD_eq_getElem?_getD, List.getElem?_eq_getElem hk', Option.getD_some]
    exact h _ (List.getElem_mem hk')
theorem lastM_succ (zs : List Int) (k : Nat) (hk : k < zs.length) : lastM zs (k + 1) = zs[k] := by
  simp [lastM, List.getD_eq_getElem?_getD, List.getElem?_eq_getElem hk]

def mcs (v n : Int) (a : Option Addr) (len cap : Nat) : Array Value := #[.int .i64 v, .int .i64 n, .slice a len cap]
theorem mcells_of {w : World} {B : Nat} {v n : Int} {a : Option Addr} {len cap : Nat} (hb : w.heap[B]? = some (.cells (mcs v n a len cap) 24 (0, 0))) :
    w.cell? ⟨B, 0, none⟩ = some (.int .i64 v) ∧ w.cell? ⟨B, 1, none⟩ = some (.int .i64 n) ∧ w.cell? ⟨B, 2, none⟩ = some (.slice a len cap) :=
  ⟨cell_of_cells hb 0, cell_of_cells hb 1, cell_of_cells hb 2⟩
theorem ret_boolM {a b : Bool} (h : a = b) : Ending.returned (.bool a) = .returned (.bool b) := by rw [h]
theorem manV_any (n : Int) (w : World) : Calls Tryd.prog 42 #[.int .i64 n] w fun e w' => e = .returned (.bool (manV n)) ∧ w = w' := by
  have HM := Lib.hid (manV_iff n)
  generalize manV n = m at *
  go_enter Tryd.func42, Tryd.ntmps42
  go_wp2
  all_goals (go_ret; refine ⟨ret_boolM ?_, rfl⟩; rw [Bool.eq_iff_iff, HM.out]; clear HM; (first | (simp_all; done) | (simp_all; omega)))
theorem rmanV_any (n : Int) (w : World) : Calls Tryd.prog 43 #[.int .i64 n] w fun e w' => e = .returned (.bool (manV n)) ∧ w = w' := by
  have HM := Lib.hid (manV_iff n)
  generalize manV n = m at *
  go_enter Tryd.func43, Tryd.ntmps43
  go_wp2
  all_goals (go_ret; refine ⟨ret_boolM ?_, rfl⟩; rw [Bool.eq_iff_iff, HM.out]; clear HM; (first | (simp_all; done) | (simp_all; omega)))

/-- Where the loop over the segments is. -/
def UpAt (w : World) (n : Int) (zs : List Int) (l i : Value) (wr : World) : Prop :=
  ∃ k : Nat, k ≤ zs.length ∧ i = .int .i64 k ∧ l = .int .i64 (lastM zs k) ∧ upM n 0 (zs.take k) = true ∧ Touch w wr (fun _ => False)
theorem may_no {v n : Int} {zs : List Int} (h : ¬ ((1 ≤ v ∧ v ≤ 3) ∧ (1 ≤ n ∧ n ≤ 1000000) ∧ (1 ≤ zs.length ∧ zs.length ≤ 64) ∧ upM n 0 zs = true)) : mayM v n zs = false := by
  rw [← Bool.not_eq_true, mayM_iff]; exact h

set_option maxRecDepth 20000 in
set_option maxHeartbeats 4000000 in
theorem mmay_any (v n : Int) (a : Option Addr) (len cap : Nat) (zs : List Int) (w : World) (hr : RowI w a len cap zs) :
    Calls Tryd.prog 13 #[.agg #[.int .i64 v, .int .i64 n, .slice a len cap]] w fun e w' => e = .returned (.bool (mayM v n zs)) ∧ Touch w w' (fun _ => False) := by
  have hl := hr.1
  have hcap := hr.2.2.1
  have hcap1 := hr.2.1
  obtain ⟨W1, hW1⟩ : ∃ W, w.alloc (.cells (mcs v n a len cap) 24) = W := ⟨_, rfl⟩
  have t1 : Touch w W1 (fun _ => False) := hW1 ▸ (Touch.refl _ _).alloc _
  have HB1 : RowKit.Hid (W1.heap[w.heap.size]? = some (.cells (mcs v n a len cap) 24 (0, 0))) := Lib.hid (hW1 ▸ heap_alloc_new w _)
  have HSZ : RowKit.Hid (w.heap.size < W1.heap.size) := Lib.hid (by rw [← hW1]; simp)
  have HT1 := Lib.hid t1
  have HR := Lib.hid (hr.keep t1)
  have HL := Lib.hid hl
  have hz : ∀ k, k ≤ len → -9223372036854775808 ≤ lastM zs k ∧ lastM zs k ≤ 9223372036854775807 := fun k hk => lastM_range zs hr.2.2.2.1 k (by omega)
  have HZ := Lib.hid hz
  obtain ⟨c0, c1, c2⟩ := mcells_of HB1.out
  have HMV := Lib.hid (manV_iff v)
  have HMY := Lib.hid (mayM_iff v n zs)
  simp only [mcs] at hW1
  clear hr hl t1 hz
  by_cases hv : 1 ≤ v ∧ v ≤ 3
  case neg =>
    have HF : RowKit.Hid (mayM v n zs = false) := Lib.hid (may_no (fun h => hv h.1))
    have HC : RowKit.Hid (∀ W, Calls Tryd.prog 42 #[.int .i64 v] W fun e w' => e = .returned (.bool false) ∧ W = w') := Lib.hid (fun W => by
      have := manV_any v W
      rwa [show manV v = false by rw [← Bool.not_eq_true, HMV.out]; exact hv] at this)
    clear hv
    go_enter Tryd.func13, Tryd.ntmps13
    go_wp2_with (go_at_call 42; (with_reducible refine (HC.out _).mono ?_); rintro e w9 ⟨rfl, rfl⟩)
    go_ret
    exact ⟨by rw [HF.out]; rfl, HT1.out⟩
  case pos =>
  have HC : RowKit.Hid (∀ W, Calls Tryd.prog 42 #[.int .i64 v] W fun e w' => e = .returned (.bool true) ∧ W = w') := Lib.hid (fun W => by
    have := manV_any v W
    rwa [show manV v = true from HMV.out.2 hv] at this)
  have HV := Lib.hid hv
  clear hv
  by_cases hn : 1 ≤ n ∧ n ≤ 1000000
  case neg =>
    have HF : RowKit.Hid (mayM v n zs = false) := Lib.hid (may_no (fun h => hn h.2.1))
    by_cases hn1 : n < 1
    · clear hn
      go_enter Tryd.func13, Tryd.ntmps13
      go_wp2_with (go_at_call 42; (with_reducible refine (HC.out _).mono ?_); rintro e w9 ⟨rfl, rfl⟩)
      go_ret
      exact ⟨by rw [HF.out]; rfl, HT1.out⟩
    · have hn2 : n > 1000000 := by omega
      clear hn
      go_enter Tryd.func13, Tryd.ntmps13
      go_wp2_with (go_at_call 42; (with_reducible refine (HC.out _).mono ?_); rintro e w9 ⟨rfl, rfl⟩)
      go_ret
      exact ⟨by rw [HF.out]; rfl, HT1.out⟩
  case pos =>
  have hn1 : ¬ n < 1 := by omega
  have hn2 : ¬ n > 1000000 := by omega
  by_cases hs : 1 ≤ len ∧ len ≤ 64
  case neg =>
    have HF : RowKit.Hid (mayM v n zs = false) := Lib.hid (may_no (fun h => hs (by have := h.2.2.1; rwa [HL.out] at this)))
    by_cases hs1 : (len : Int) < 1
    · clear hn hs
      go_enter Tryd.func13, Tryd.ntmps13
      go_wp2_with (go_at_call 42; (with_reducible refine (HC.out _).mono ?_); rintro e w9 ⟨rfl, rfl⟩)
      go_ret
      exact ⟨by rw [HF.out]; rfl, HT1.out⟩
    · have hs2 : (len : Int) > 64 := by omega
      clear hn hs
      go_enter Tryd.func13, Tryd.ntmps13
      go_wp2_with (go_at_call 42; (with_reducible refine (HC.out _).mono ?_); rintro e w9 ⟨rfl, rfl⟩)
      go_ret
      exact ⟨by rw [HF.out]; rfl, HT1.out⟩
  case pos =>
  have hs1 : ¬ (len : Int) < 1 := by omega
  have hs2 : ¬ (len : Int) > 64 := by omega
  go_enter Tryd.func13, Tryd.ntmps13
  go_wp2_with (go_at_call 42; (with_reducible refine (HC.out _).mono ?_); rintro e w9 ⟨rfl, rfl⟩)
  clear c0 c1 c2
  go_loopw [3, 33] (fun l i wr => UpAt W1 n zs l i wr) (fun _ i _ => len - (intOf i).toNat)
  case atStart => exact ⟨0, Nat.zero_le _, rfl, rfl, rfl, Touch.refl _ _⟩
  case round =>
    obtain ⟨k, hk, rfl, rfl, hu, ht⟩ := hrel
    have HU := Lib.hid hu
    have HT := Lib.hid ht
    have HB := Lib.hid ((ht.block _ HSZ.out (fun h => h)).trans HB1.out)
    obtain ⟨c0, c1, c2⟩ := mcells_of HB.out
    have hr := HR.out.keep ht
    rw [HL.out] at hk
    clear hu ht
    by_cases hlt : k < len
    case neg =>
      obtain rfl : len = k := by omega
      have hlt' : ¬ (len : Int) < len := by omega
      have HF : RowKit.Hid (mayM v n zs = true) := Lib.hid (HMY.out.2 ⟨HV.out, hn, by rw [HL.out]; exact hs, by have := HU.out; rwa [← HL.out, List.take_length] at this⟩)
      clear hr hs hn
      go_wp2
      go_ret
      exact ⟨by rw [HF.out]; rfl, HT1.out.trans HT.out (fun _ _ h => h)⟩
    case pos =>
    obtain ⟨b, off, rfl, hc⟩ := hr.place (by omega)
    have hk1 : k < zs.length := by rw [HL.out]; exact hlt
    have d0 := hc k hk1
    have HN := Lib.hid (upM_no n zs k hk1 HU.out)
    have HS := Lib.hid (upM_snoc n zs k hk1 HU.out)
    have HLS := Lib.hid (lastM_succ zs k hk1)
    generalize zs[k] = z at *
    have hlI : (k : Int) < len := by omega
    generalize lastM zs k = y at *
    clear hc hr hs hn
    by_cases hzy : z ≤ y
    · have HF : RowKit.Hid (mayM v n zs = false) := Lib.hid (may_no (fun h => by have := HN.out (by omega); rw [this] at h; exact absurd h.2.2.2 (by decide)))
      go_wp2
      go_ret
      exact ⟨by rw [HF.out]; rfl, HT1.out.trans HT.out (fun _ _ h => h)⟩
    · by_cases hzn : z ≥ n
      · have HF : RowKit.Hid (mayM v n zs = false) := Lib.hid (may_no (fun h => by have := HN.out (by omega); rw [this] at h; exact absurd h.2.2.2 (by decide)))
        go_wp2
        go_ret
        exact ⟨by rw [HF.out]; rfl, HT1.out.trans HT.out (fun _ _ h => h)⟩
      · have HF : RowKit.Hid (y < z ∧ z < n) := Lib.hid ⟨by omega, by omega⟩
        go_wp2
        exact ⟨⟨k + 1, by rw [HL.out]; exact hlt, by go_num, by rw [HLS.out], by rw [HS.out]; exact decide_eq_true HF.out, HT.out⟩, by simp [intOf]; omega⟩
set_option maxRecDepth 20000 in
set_option maxHeartbeats 4000000 in
theorem rmmay_any (v n : Int) (a : Option Addr) (len cap : Nat) (zs : List Int) (w : World) (hr : RowI w a len cap zs) :
    Calls Tryd.prog 14 #[.agg #[.int .i64 v, .int .i64 n, .slice a len cap]] w fun e w' => e = .returned (.bool (mayM v n zs)) ∧ Touch w w' (fun _ => False) := by
  have hl := hr.1
  have hcap := hr.2.2.1
  have hcap1 := hr.2.1
  obtain ⟨W1, hW1⟩ : ∃ W, w.alloc (.cells (mcs v n a len cap) 24) = W := ⟨_, rfl⟩
  have t1 : Touch w W1 (fun _ => False) := hW1 ▸ (Touch.refl _ _).alloc _
  have HB1 : RowKit.Hid (W1.heap[w.heap.size]? = some (.cells (mcs v n a len cap) 24 (0, 0))) := Lib.hid (hW1 ▸ heap_alloc_new w _)
  have HSZ : RowKit.Hid (w.heap.size < W1.heap.size) := Lib.hid (by rw [← hW1]; simp)
  have HT1 := Lib.hid t1
  have HR := Lib.hid (hr.keep t1)
  have HL := Lib.hid hl
  have hz : ∀ k, k ≤ len → -9223372036854775808 ≤ lastM zs k ∧ lastM zs k ≤ 9223372036854775807 := fun k hk => lastM_range zs hr.2.2.2.1 k (by omega)
  have HZ := Lib.hid hz
  obtain ⟨c0, c1, c2⟩ := mcells_of HB1.out
  have HMV := Lib.hid (manV_iff v)
  have HMY := Lib.hid (mayM_iff v n zs)
  simp only [mcs] at hW1
  clear hr hl t1 hz
  by_cases hv : 1 ≤ v ∧ v ≤ 3
  case neg =>
    have HF : RowKit.Hid (mayM v n zs = false) := Lib.hid (may_no (fun h => hv h.1))
    have HC : RowKit.Hid (∀ W, Calls Tryd.prog 43 #[.int .i64 v] W fun e w' => e = .returned (.bool false) ∧ W = w') := Lib.hid (fun W => by
      have := rmanV_any v W
      rwa [show manV v = false by rw [← Bool.not_eq_true, HMV.out]; exact hv] at this)
    clear hv
    go_enter Tryd.func14, Tryd.ntmps14
    go_wp2_with (go_at_call 43; (with_reducible refine (HC.out _).mono ?_); rintro e w9 ⟨rfl, rfl⟩)
    go_ret
    exact ⟨by rw [HF.out]; rfl, HT1.out⟩
  case pos =>
  have HC : RowKit.Hid (∀ W, Calls Tryd.prog 43 #[.int .i64 v] W fun e w' => e = .returned (.bool true) ∧ W = w') := Lib.hid (fun W => by
    have := rmanV_any v W
    rwa [show manV v = true from HMV.out.2 hv] at this)
  have HV := Lib.hid hv
  clear hv
  by_cases hn : 1 ≤ n ∧ n ≤ 1000000
  case neg =>
    have HF : RowKit.Hid (mayM v n zs = false) := Lib.hid (may_no (fun h => hn h.2.1))
    by_cases hn1 : n < 1
    · clear hn
      go_enter Tryd.func14, Tryd.ntmps14
      go_wp2_with (go_at_call 43; (with_reducible refine (HC.out _).mono ?_); rintro e w9 ⟨rfl, rfl⟩)
      all_goals (go_ret; exact ⟨by rw [HF.out]; rfl, HT1.out⟩)
    · have hn2 : n > 1000000 := by omega
      clear hn
      go_enter Tryd.func14, Tryd.ntmps14
      go_wp2_with (go_at_call 43; (with_reducible refine (HC.out _).mono ?_); rintro e w9 ⟨rfl, rfl⟩)
      all_goals (go_ret; exact ⟨by rw [HF.out]; rfl, HT1.out⟩)
  case pos =>
  have hn1 : ¬ n < 1 := by omega
  have hn2 : ¬ n > 1000000 := by omega
  by_cases hs : 1 ≤ len ∧ len ≤ 64
  case neg =>
    have HF : RowKit.Hid (mayM v n zs = false) := Lib.hid (may_no (fun h => hs (by have := h.2.2.1; rwa [HL.out] at this)))
    by_cases hs1 : (len : Int) < 1
    · clear hn hs
      go_enter Tryd.func14, Tryd.ntmps14
      go_wp2_with (go_at_call 43; (with_reducible refine (HC.out _).mono ?_); rintro e w9 ⟨rfl, rfl⟩)
      go_ret
      exact ⟨by rw [HF.out]; rfl, HT1.out⟩
    · have hs2 : (len : Int) > 64 := by omega
      clear hn hs
      go_enter Tryd.func14, Tryd.ntmps14
      go_wp2_with (go_at_call 43; (with_reducible refine (HC.out _).mono ?_); rintro e w9 ⟨rfl, rfl⟩)
      go_ret
      exact ⟨by rw [HF.out]; rfl, HT1.out⟩
  case pos =>
  have hs1 : ¬ (len : Int) < 1 := by omega
  have hs2 : ¬ (len : Int) > 64 := by omega
  go_enter Tryd.func14, Tryd.ntmps14
  go_wp2_with (go_at_call 43; (with_reducible refine (HC.out _).mono ?_); rintro e w9 ⟨rfl, rfl⟩)
  clear c0 c1 c2
  go_loopw [3, 35] (fun l i wr => UpAt W1 n zs l i wr) (fun _ i _ => len - (intOf i).toNat)
  case atStart => exact ⟨0, Nat.zero_le _, rfl, rfl, rfl, Touch.refl _ _⟩
  case round =>
    obtain ⟨k, hk, rfl, rfl, hu, ht⟩ := hrel
    have HU := Lib.hid hu
    have HT := Lib.hid ht
    have HB := Lib.hid ((ht.block _ HSZ.out (fun h => h)).trans HB1.out)
    obtain ⟨c0, c1, c2⟩ := mcells_of HB.out
    have hr := HR.out.keep ht
    rw [HL.out] at hk
    clear hu ht
    by_cases hlt : k < len
    case neg =>
      obtain rfl : len = k := by omega
      have hlt' : ¬ (len : Int) < len := by omega
      have HF : RowKit.Hid (mayM v n zs = true) := Lib.hid (HMY.out.2 ⟨HV.out, hn, by rw [HL.out]; exact hs, by have := HU.out; rwa [← HL.out, List.take_length] at this⟩)
      clear hr hs hn
      go_wp2
      go_ret
      exact ⟨by rw [HF.out]; rfl, HT1.out.trans HT.out (fun _ _ h => h)⟩
    case pos =>
    obtain ⟨b, off, rfl, hc⟩ := hr.place (by omega)
    have hk1 : k < zs.length := by rw [HL.out]; exact hlt
    have d0 := hc k hk1
    have HN := Lib.hid (upM_no n zs k hk1 HU.out)
    have HS := Lib.hid (upM_snoc n zs k hk1 HU.out)
    have HLS := Lib.hid (lastM_succ zs k hk1)
    generalize zs[k] = z at *
    have hlI : (k : Int) < len := by omega
    generalize lastM zs k = y at *
    clear hc hr hs hn
    by_cases hzy : z ≤ y
    · have HF : RowKit.Hid (mayM v n zs = false) := Lib.hid (may_no (fun h => by have := HN.out (by omega); rw [this] at h; exact absurd h.2.2.2 (by decide)))
      go_wp2
      go_ret
      exact ⟨by rw [HF.out]; rfl, HT1.out.trans HT.out (fun _ _ h => h)⟩
    · by_cases hzn : z ≥ n
      · have HF : RowKit.Hid (mayM v n zs = false) := Lib.hid (may_no (fun h => by have := HN.out (by omega); rw [this] at h; exact absurd h.2.2.2 (by decide)))
        go_wp2
        go_ret
        exact ⟨by rw [HF.out]; rfl, HT1.out.trans HT.out (fun _ _ h => h)⟩
      · have HF : RowKit.Hid (y < z ∧ z < n) := Lib.hid ⟨by omega, by omega⟩
        go_wp2
        exact ⟨⟨k + 1, by rw [HL.out]; exact hlt, by go_num, by rw [HLS.out], by rw [HS.out]; exact decide_eq_true HF.out, HT.out⟩, by simp [intOf]; omega⟩

/-! ### Are two the same? -/
def sameM (v n : Int) (A : List Int) (v2 n2 : Int) (B : List Int) : Bool := decide (v = v2 ∧ n = n2 ∧ A = B)
set_option maxRecDepth 20000 in
set_option maxHeartbeats 2000000 in
theorem eqI_any (a a2 : Option Addr) (l1 c1 l2 c2 : Nat) (A B : List Int) (w : World) (hr : RowI w a l1 c1 A) (hr2 : RowI w a2 l2 c2 B) :
    Calls Tryd.prog 44 #[.slice a l1 c1, .slice a2 l2 c2] w fun e w' => e = .returned (.bool (decide (A = B))) ∧ Touch w w' (fun _ => False) := by
  have hl := hr.1
  have hcap := hr.2.2.1
  have hcap1 := hr.2.1
  have hl2 := hr2.1
  have hcap2 := hr2.2.2.1
  have hcap3 := hr2.2.1
  have HR := Lib.hid hr
  have HR2 := Lib.hid hr2
  have HL := Lib.hid hl
  have HL2 := Lib.hid hl2
  clear hr hl hr2 hl2
  by_cases hs : l1 = l2
  case neg =>
    have HF : RowKit.Hid (decide (A = B) = false) := Lib.hid (decide_eq_false (fun e => hs (by rw [← HL.out, ← HL2.out, e])))
    have hb : ((l1 : Int) != l2) = true := bne_iff_ne.2 (by omega)
    go_enter Tryd.func44, Tryd.ntmps44
    go_wp2
    go_ret
    exact ⟨by rw [HF.out]; rfl, Touch.refl _ _⟩
  case pos =>
    subst hs
    have hb : ((l1 : Int) != l1) = false := bne_eq_false_iff_eq.2 rfl
    go_enter Tryd.func44, Tryd.ntmps44
    go_wp2_with fail
    go_loopw [13] (fun i wr => ∃ k : Nat, k ≤ l1 ∧ i = .int .i64 k ∧ A.take k = B.take k ∧ Touch w wr (fun _ => False)) (fun i _ => l1 - (intOf i).toNat)
    case atStart => exact ⟨0, Nat.zero_le _, rfl, rfl, Touch.refl _ _⟩
    case round =>
      obtain ⟨k, hk, rfl, he, ht⟩ := hrel
      have HT := Lib.hid ht
      have HE := Lib.hid he
      clear he
      by_cases hlt : k < l1
      case neg =>
        obtain rfl : l1 = k := by omega
        have hlt' : ¬ (l1 : Int) < l1 := by omega
        have HF : RowKit.Hid (decide (A = B) = true) := Lib.hid (decide_eq_true (by have := HE.out; rwa [← HL.out, List.take_length, HL.out, ← HL2.out, List.take_length] at this))
        clear ht
        go_wp2
        go_ret
        exact ⟨by rw [HF.out]; rfl, HT.out⟩
      case pos =>
      obtain ⟨b, off, rfl, hc⟩ := (HR.out.keep HT.out).place (by omega)
      obtain ⟨b2, off2, rfl, hc2⟩ := (HR2.out.keep HT.out).place (by omega)
      have hk1 : k < A.length := by rw [HL.out]; exact hlt
      have hk2 : k < B.length := by rw [HL2.out]; omega
      have d1 := hc k hk1
      have d2 := hc2 k hk2
      have HA := Lib.hid (List.take_succ_eq_append_getElem hk1)
      have HB := Lib.hid (List.take_succ_eq_append_getElem hk2)
      have HN : RowKit.Hid (A = B → A[k] = B[k]) := Lib.hid (fun e => by subst e; rfl)
      generalize A[k] = x at *
      generalize B[k] = y at *
      have hlI : (k : Int) < l1 := by omega
      clear hc hc2 ht
      by_cases hxy : x = y
      · subst hxy
        have hb : (x != x) = false := bne_eq_false_iff_eq.2 rfl
        go_wp2_with fail
        go_quiet (fail)
        go_wp2
        exact ⟨⟨k + 1, hlt, by go_num, by rw [HA.out, HB.out, HE.out], HT.out.drewN _⟩, by simp [intOf]; omega⟩
      · have hb : (x != y) = true := bne_iff_ne.2 hxy
        have HF : RowKit.Hid (decide (A = B) = false) := Lib.hid (decide_eq_false (fun e => hxy (HN.out e)))
        go_wp2_with fail
        go_quiet (fail)
        go_wp2
        go_ret
        exact ⟨by rw [HF.out]; rfl, HT.out.drewN _⟩

set_option maxRecDepth 20000 in
set_option maxHeartbeats 4000000 in
theorem msame_any (v n : Int) (a : Option Addr) (len cap : Nat) (A : List Int) (v2 n2 : Int) (a2 : Option Addr) (len2 cap2 : Nat) (B : List Int) (w : World) (hr : RowI w a len cap A) (hr2 : RowI w a2 len2 cap2 B) :
    Calls Tryd.prog 15 #[.agg #[.int .i64 v, .int .i64 n, .slice a len cap], .agg #[.int .i64 v2, .int .i64 n2, .slice a2 len2 cap2]] w fun e w' => e = .returned (.bool (sameM v n A v2 n2 B)) ∧ Touch w w' (fun _ => False) := by
  obtain ⟨W1, hW1⟩ : ∃ W, w.alloc (.cells (mcs v n a len cap) 24) = W := ⟨_, rfl⟩
  have t1 : Touch w W1 (fun _ => False) := hW1 ▸ (Touch.refl _ _).alloc _
  have hb1 : W1.heap[w.heap.size]? = some (.cells (mcs v n a len cap) 24 (0, 0)) := hW1 ▸ heap_alloc_new w _
  have hsz : w.heap.size < W1.heap.size := by rw [← hW1]; simp
  obtain ⟨W2, hW2⟩ : ∃ W, W1.alloc (.cells (mcs v2 n2 a2 len2 cap2) 24) = W := ⟨_, rfl⟩
  have t2 : Touch W1 W2 (fun _ => False) := hW2 ▸ (Touch.refl _ _).alloc _
  obtain ⟨c0, c1, c2⟩ := mcells_of ((t2.block _ hsz (fun h => h)).trans hb1)
  obtain ⟨d0, d1, d2⟩ := mcells_of (hW2 ▸ heap_alloc_new W1 _ : W2.heap[W1.heap.size]? = some (.cells (mcs v2 n2 a2 len2 cap2) 24 (0, 0)))
  have HT := Lib.hid (t1.trans t2 (fun _ _ h => h))
  have HR := Lib.hid (hr.keep HT.out)
  have HR2 := Lib.hid (hr2.keep HT.out)
  simp only [mcs] at hW1 hW2
  clear hr hr2 t1 t2 hb1 hsz
  by_cases hv : v = v2
  case neg =>
    have hb : (v == v2) = false := beq_eq_false_iff_ne.2 hv
    have HF : RowKit.Hid (sameM v n A v2 n2 B = false) := Lib.hid (decide_eq_false (fun h => hv h.1))
    go_enter Tryd.func15, Tryd.ntmps15
    go_wp2
    go_ret
    exact ⟨by rw [HF.out]; rfl, HT.out⟩
  case pos =>
  subst hv
  have hb : (v == v) = true := beq_self_eq_true v
  by_cases hn : n = n2
  case neg =>
    have hb2 : (n == n2) = false := beq_eq_false_iff_ne.2 hn
    have HF : RowKit.Hid (sameM v n A v n2 B = false) := Lib.hid (decide_eq_false (fun h => hn h.2.1))
    go_enter Tryd.func15, Tryd.ntmps15
    go_wp2
    go_ret
    exact ⟨by rw [HF.out]; rfl, HT.out⟩
  case pos =>
  subst hn
  have hb2 : (n == n) = true := beq_self_eq_true n
  have HF : RowKit.Hid (sameM v n A v n B = decide (A = B)) := Lib.hid (by unfold sameM; simp)
  go_enter Tryd.func15, Tryd.ntmps15
  go_wp2_with (go_at_call 44; (with_reducible refine (eqI_any _ _ _ _ _ _ _ _ _ HR.out HR2.out).mono ?_); rintro e w9 ⟨rfl, t9⟩; have HT := Lib.hid (HT.out.trans t9 (fun _ _ h => h)); clear t9)
  go_ret
  exact ⟨by rw [HF.out]; rfl, HT.out⟩

set_option maxRecDepth 20000 in
set_option maxHeartbeats 4000000 in
theorem rmsame_any (v n : Int) (a : Option Addr) (len cap : Nat) (A : List Int) (v2 n2 : Int) (a2 : Option Addr) (len2 cap2 : Nat) (B : List Int) (w : World) (hr : RowI w a len cap A) (hr2 : RowI w a2 len2 cap2 B) :
    Calls Tryd.prog 16 #[.agg #[.int .i64 v, .int .i64 n, .slice a len cap], .agg #[.int .i64 v2, .int .i64 n2, .slice a2 len2 cap2]] w fun e w' => e = .returned (.bool (sameM v n A v2 n2 B)) ∧ Touch w w' (fun _ => False) := by
  obtain ⟨W1, hW1⟩ : ∃ W, w.alloc (.cells (mcs v n a len cap) 24) = W := ⟨_, rfl⟩
  have t1 : Touch w W1 (fun _ => False) := hW1 ▸ (Touch.refl _ _).alloc _
  have hb1 : W1.heap[w.heap.size]? = some (.cells (mcs v n a len cap) 24 (0, 0)) := hW1 ▸ heap_alloc_new w _
  have hsz : w.heap.size < W1.heap.size := by rw [← hW1]; simp
  obtain ⟨W2, hW2⟩ : ∃ W, W1.alloc (.cells (mcs v2 n2 a2 len2 cap2) 24) = W := ⟨_, rfl⟩
  have t2 : Touch W1 W2 (fun _ => False) := hW2 ▸ (Touch.refl _ _).alloc _
  have hb2 : W2.heap[W1.heap.size]? = some (.cells (mcs v2 n2 a2 len2 cap2) 24 (0, 0)) := hW2 ▸ heap_alloc_new W1 _
  have HC1 := Lib.hid ((t2.block _ hsz (fun h => h)).trans hb1)
  have HC2 := Lib.hid hb2
  have HS1 : RowKit.Hid (w.heap.size < W2.heap.size) := Lib.hid (Nat.lt_of_lt_of_le hsz t2.size)
  have HS2 : RowKit.Hid (W1.heap.size < W2.heap.size) := Lib.hid (by rw [← hW2]; simp)
  obtain ⟨c0, c1, c2⟩ := mcells_of HC1.out
  obtain ⟨d0, d1, d2⟩ := mcells_of HC2.out
  have HT := Lib.hid (t1.trans t2 (fun _ _ h => h))
  have hl := hr.1
  have hcap := hr.2.2.1
  have hcap1 := hr.2.1
  have hl2 := hr2.1
  have hcap2 := hr2.2.2.1
  have hcap3 := hr2.2.1
  have HR := Lib.hid (hr.keep HT.out)
  have HR2 := Lib.hid (hr2.keep HT.out)
  have HL := Lib.hid hl
  have HL2 := Lib.hid hl2
  simp only [mcs] at hW1 hW2
  clear hr hr2 t1 t2 hb1 hsz hb2 hl hl2
  by_cases hv : v = v2
  case neg =>
    have hb : (v != v2) = true := bne_iff_ne.2 hv
    have HF : RowKit.Hid (sameM v n A v2 n2 B = false) := Lib.hid (decide_eq_false (fun h => hv h.1))
    go_enter Tryd.func16, Tryd.ntmps16
    go_wp2
    all_goals (go_ret; exact ⟨by rw [HF.out]; rfl, HT.out⟩)
  case pos =>
  subst hv
  have hb : (v != v) = false := bne_eq_false_iff_eq.2 rfl
  by_cases hn : n = n2
  case neg =>
    have hb2 : (n != n2) = true := bne_iff_ne.2 hn
    have HF : RowKit.Hid (sameM v n A v n2 B = false) := Lib.hid (decide_eq_false (fun h => hn h.2.1))
    go_enter Tryd.func16, Tryd.ntmps16
    go_wp2
    all_goals (go_ret; exact ⟨by rw [HF.out]; rfl, HT.out⟩)
  case pos =>
  subst hn
  have hb2 : (n != n) = false := bne_eq_false_iff_eq.2 rfl
  by_cases hs : len = len2
  case neg =>
    have hb3 : ((len : Int) != len2) = true := bne_iff_ne.2 (by omega)
    have HF : RowKit.Hid (sameM v n A v n B = false) := Lib.hid (decide_eq_false (fun h => hs (by rw [← HL.out, ← HL2.out, h.2.2])))
    go_enter Tryd.func16, Tryd.ntmps16
    go_wp2
    all_goals (go_ret; exact ⟨by rw [HF.out]; rfl, HT.out⟩)
  case pos =>
  subst hs
  have hb3 : ((len : Int) != len) = false := bne_eq_false_iff_eq.2 rfl
  have HF : RowKit.Hid (sameM v n A v n B = decide (A = B)) := Lib.hid (by unfold sameM; simp)
  go_enter Tryd.func16, Tryd.ntmps16
  go_wp2_with fail
  clear c0 c1 c2 d0 d1 d2
  go_loopw [30] (fun i wr => ∃ k : Nat, k ≤ len ∧ i = .int .i64 k ∧ A.take k = B.take k ∧ Touch W2 wr (fun _ => False)) (fun i _ => len - (intOf i).toNat)
  case atStart => exact ⟨0, Nat.zero_le _, rfl, rfl, Touch.refl _ _⟩
  case round =>
    obtain ⟨k, hk, rfl, he, ht⟩ := hrel
    have HX := Lib.hid ht
    have HE := Lib.hid he
    obtain ⟨c0, c1, c2⟩ := mcells_of ((ht.block _ HS1.out (fun h => h)).trans HC1.out)
    obtain ⟨d0, d1, d2⟩ := mcells_of ((ht.block _ HS2.out (fun h => h)).trans HC2.out)
    clear he
    by_cases hlt : k < len
    case neg =>
      obtain rfl : len = k := by omega
      have hlt' : ¬ (len : Int) < len := by omega
      have HG : RowKit.Hid (decide (A = B) = true) := Lib.hid (decide_eq_true (by have := HE.out; rwa [← HL.out, List.take_length, HL.out, ← HL2.out, List.take_length] at this))
      clear ht
      go_wp2
      go_ret
      exact ⟨by rw [HF.out, HG.out]; rfl, HT.out.trans HX.out (fun _ _ h => h)⟩
    case pos =>
    obtain ⟨b, off, rfl, hc⟩ := (HR.out.keep HX.out).place (by omega)
    obtain ⟨b2, off2, rfl, hc2⟩ := (HR2.out.keep HX.out).place (by omega)
    have hk1 : k < A.length := by rw [HL.out]; exact hlt
    have hk2 : k < B.length := by rw [HL2.out]; omega
    have e1 := hc k hk1
    have e2 := hc2 k hk2
    have HA := Lib.hid (List.take_succ_eq_append_getElem hk1)
    have HB := Lib.hid (List.take_succ_eq_append_getElem hk2)
    have HN : RowKit.Hid (A = B → A[k] = B[k]) := Lib.hid (fun e => by subst e; rfl)
    generalize A[k] = x at *
    generalize B[k] = y at *
    have hlI : (k : Int) < len := by omega
    clear hc hc2 ht c0 c1 d0 d1
    by_cases hxy : x = y
    · subst hxy
      have hb : (x != x) = false := bne_eq_false_iff_eq.2 rfl
      go_wp2_with fail
      go_quiet (fail)
      go_wp2
      exact ⟨⟨k + 1, hlt, by go_num, by rw [HA.out, HB.out, HE.out], HX.out.drewN _⟩, by simp [intOf]; omega⟩
    · have hb : (x != y) = true := bne_iff_ne.2 hxy
      have HG : RowKit.Hid (decide (A = B) = false) := Lib.hid (decide_eq_false (fun e => hxy (HN.out e)))
      go_wp2_with fail
      go_quiet (fail)
      go_wp2
      go_ret
      exact ⟨by rw [HF.out, HG.out]; rfl, (HT.out.trans HX.out (fun _ _ h => h)).drewN _⟩
end Go.Proofs.YtibpnlhdpdfhiaaDoor
