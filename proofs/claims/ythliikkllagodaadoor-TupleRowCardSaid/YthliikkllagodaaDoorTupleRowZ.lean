/- TupleRow: tuples one behind the other are read one by one, up to the end. -/
import Derived.Test.YthliikkllagodaaDoorFrTupleRowZ
import Derived.Test.YthliikkllagodaaDoorTupAwakeZ
import Derived.Test.YthliikkllagodaaDoorTupArgsZ
import Derived.Test.YthliikkllagodaaDoorRowsInZ
import Derived.Test.YthliikkllagodaaDoorTupReadZ
import Derived.Test.YthliikkllagodaaDoorDecMathZ
import Derived.Test.YthliikkllagodaaDoorCalmZ
import Derived.Deep.DeepCutAuto
set_option linter.unusedVariables false
namespace Go.Proofs.YthliikkllagodaaDoor
open Go.ChangeShapes Go.WideShapes Go.ChangeAt Go.RowKit

def tcl (t : TupD) : List Value := (tcs t).toList
def RowT (w : World) (a : Option Addr) (len cap : Nat) (ts : List TupD) : Prop := RowS w a len cap 5 (ts.map tcl)
/-- Those of the first thirty that may be; their bytes. -/
def selT (ts : List TupD) : List TupD := (ts.take 30).filter mayTB
def restT (ts : List TupD) (k : Nat) : List TupD := ((ts.drop k).take (30 - k)).filter mayTB
def bytesT (ts : List TupD) : List Nat := ts.flatMap tbF
theorem bytesT_len (ts : List TupD) : (bytesT ts).length = 13 * ts.length := by
  induction ts with
  | nil => rfl
  | cons t r ih => simp only [bytesT, List.flatMap_cons, List.length_append, tbF_length, List.length_cons] at ih ⊢; omega
theorem selT_le (ts : List TupD) : (selT ts).length ≤ 30 := Nat.le_trans (List.length_filter_le _ _) (by simp; omega)
theorem selT_succ (ts : List TupD) (k : Nat) (h : k < ts.length) : selT (ts.take (k + 1)) = selT (ts.take k) ++ (if decide (k < 30) && mayTB ts[k] then [ts[k]] else []) := by
  unfold selT
  rw [List.take_succ_eq_append_getElem h]
  by_cases hk : k < 30
  · have e1 : (ts.take k ++ [ts[k]]).take 30 = ts.take k ++ [ts[k]] := List.take_of_length_le (by simp; omega)
    have e2 : (ts.take k).take 30 = ts.take k := List.take_of_length_le (by simp; omega)
    rw [e1, e2, List.filter_append]
    simp only [hk, decide_true, Bool.true_and]
    cases hm : mayTB ts[k] <;> simp [hm]
  · rw [List.take_append_of_le_length (by rw [List.length_take]; omega)]
    simp [hk]
theorem restT_zero (ts : List TupD) : restT ts 0 = selT ts := by simp [restT, selT]
theorem restT_end (ts : List TupD) : restT ts ts.length = [] := by simp [restT]
theorem restT_succ (ts : List TupD) (k : Nat) (h : k < ts.length) : restT ts k = (if decide (k < 30) && mayTB ts[k] then [ts[k]] else []) ++ restT ts (k + 1) := by
  unfold restT
  rw [List.drop_eq_getElem_cons h]
  by_cases hk : k < 30
  · rw [show 30 - k = (30 - (k + 1)) + 1 by omega, List.take_succ_cons, List.filter_cons]
    simp only [hk, decide_true, Bool.true_and]
    cases hm : mayTB ts[k] <;> simp
  · rw [show 30 - k = 0 by omega, show 30 - (k + 1) = 0 by omega]
    simp [hk]
theorem bytesT_append (a b : List TupD) : bytesT (a ++ b) = bytesT a ++ bytesT b := by simp [bytesT]
theorem RowT.cells5 {w : World} {b off len cap : Nat} {ts : List TupD} (h : RowT w (some ⟨b, off, none⟩) len cap ts) (i : Nat) (hi : i < ts.length) :
    w.cell? ⟨b, off + i * 5, none⟩ = some (.int .u32 ts[i].src) ∧ w.cell? ⟨b, off + i * 5 + 1, none⟩ = some (.int .u32 ts[i].dst) ∧ w.cell? ⟨b, off + i * 5 + 2, none⟩ = some (.int .i64 ts[i].proto) ∧ w.cell? ⟨b, off + i * 5 + 3, none⟩ = some (.int .i64 ts[i].sport) ∧ w.cell? ⟨b, off + i * 5 + 4, none⟩ = some (.int .i64 ts[i].dport) := by
  have hi' : i < (ts.map tcl).length := by simpa using hi
  have g : ∀ j u, (tcl ts[i])[j]? = some u → w.cell? ⟨b, off + i * 5 + j, none⟩ = some u := fun j u hu => RowS.cell h i hi' j u (by simpa using hu)
  exact ⟨g 0 _ rfl, g 1 _ rfl, g 2 _ rfl, g 3 _ rfl, g 4 _ rfl⟩

/-- A tuple that may be is read; what is behind it is left. -/
theorem read_one (G : Nat) (t : TupD) (r : List TupD) (ok : TupOk t) (hm : mayTB t = true) (w : World) (h : RdD w G (fun _ => False) (bytesT (t :: r)) 0) :
    Calls Tryd.prog 38 #[.pointer (some ⟨G, 0, none⟩)] w fun e w' => e = .returned (.tuple #[.agg (tcs t), .bool true]) ∧ RdD w' G (fun _ => False) (bytesT r) 0 ∧ Touch w w' (fun k => k = G) := by
  have eb : bytesT (t :: r) = tbF t ++ bytesT r := by simp [bytesT]
  have h13 : 13 ≤ (tbF t ++ bytesT r).length := by rw [List.length_append, tbF_length]; omega
  have hB : rtB (tbF t ++ bytesT r) = true := by unfold rtB; rw [tupV_tb t ok hm, hm, decide_eq_true h13]; rfl
  have hF : rtF (tbF t ++ bytesT r) = t := by unfold rtF; rw [if_pos hB, tupV_tb t ok hm]
  have hX : nxtX 13 (tbF t ++ bytesT r) = bytesT r := by
    unfold nxtX; rw [if_pos h13, List.drop_append, tbF_length]
    rw [List.drop_eq_nil_of_le (by rw [tbF_length]; omega)]; simp
  have hE : nxtE 13 (tbF t ++ bytesT r) 0 = 0 := by unfold nxtE; rw [if_pos h13]
  refine (tRead_any G _ _ 0 w h).mono ?_
  rintro e w' ⟨he, h1, h2⟩
  rw [eb, hX, hE] at h1
  rw [eb, hB, hF] at he
  exact ⟨he, h1, h2⟩
theorem read_none (G : Nat) (w : World) (h : RdD w G (fun _ => False) [] 0) :
    Calls Tryd.prog 38 #[.pointer (some ⟨G, 0, none⟩)] w fun e w' => e = .returned (.tuple #[.agg (tcs noT), .bool false]) ∧ Touch w w' (fun k => k = G) :=
  (tRead_any G _ _ 0 w h).mono fun e w' ⟨he, _, h2⟩ => ⟨he, h2⟩

set_option maxRecDepth 20000 in
set_option maxHeartbeats 4000000 in
theorem trow_walk (a : Option Addr) (len cap : Nat) (ts : List TupD) (w : World) (hr : RowT w a len cap ts) (hok : ∀ t ∈ ts, TupOk t) (hT : TabW w) :
    Calls Tryd.prog 10 #[.slice a len cap] w fun e w' => e = .returned (.bool true) ∧ Touch w w' (fun _ => False) := by
  have hl : ts.length = len := by have := hr.hlen; simpa using this
  have hcap := hr.hmax
  have hcap1 := hr.hcap
  have HR := Lib.hid hr
  have HL := Lib.hid hl
  have HOK := Lib.hid hok
  have HTB := Lib.hid hT
  have HIT := Lib.hid infoTup
  obtain ⟨W1, hW1⟩ : ∃ W, w.alloc (.cells #[.slice none 0 0] 58) = W := ⟨_, rfl⟩
  have HWE : RowKit.Hid (WrE W1 w.heap.size w.heap.size []) := Lib.hid (hW1 ▸ WrE.fresh w)
  have HT1 : RowKit.Hid (Touch w W1 (fun _ => False)) := Lib.hid (hW1 ▸ (Touch.refl w _).alloc _)
  have HW1 := Lib.hid hW1
  clear hr hl hok hT hW1
  go_enter Tryd.func10, Tryd.ntmps10
  go_upto_region 2 with (fail)
  rw [HW1.out]
  go_wp2_with fail
  go_loopw [4, 18] (fun n i wr => ∃ k : Nat, k ≤ len ∧ i = .int .i64 k ∧ n = .int .i64 (selT (ts.take k)).length ∧ WrE wr w.heap.size w.heap.size (bytesT (selT (ts.take k))) ∧ Touch w wr (fun _ => False)) (fun _ i _ => len - (intOf i).toNat)
  case atStart => exact ⟨0, by omega, rfl, rfl, HWE.out, HT1.out⟩
  case round =>
    obtain ⟨k, hk, rfl, rfl, hwe, ht⟩ := hrel
    have HWE := Lib.hid hwe
    have HT := Lib.hid ht
    clear hwe ht
    by_cases hlt : k < len
    case pos =>
      have hrr := RowS.still HR.out HT.out
      obtain ⟨b, off, rfl⟩ := hrr.some (by omega)
      have hk1 : k < ts.length := by rw [HL.out]; exact hlt
      obtain ⟨c0, c1, c2, c3, c4⟩ := RowT.cells5 hrr k hk1
      have HS := Lib.hid (selT_succ ts k hk1)
      have HOT := Lib.hid (HOK.out ts[k] (List.getElem_mem hk1))
      have HSL := Lib.hid (selT_le (ts.take k))
      generalize ts[k] = t at *
      obtain ⟨sl, hsl⟩ : ∃ x, selT (ts.take k) = x := ⟨_, rfl⟩
      obtain ⟨sl', hsl'⟩ : ∃ x, selT (ts.take (k + 1)) = x := ⟨_, rfl⟩
      rw [hsl] at HS HWE HSL ⊢
      rw [hsl'] at HS
      have HSE := Lib.hid hsl'
      have hlI : (k : Int) < len := by omega
      have hslen : sl.length ≤ 30 := HSL.out
      obtain ⟨W2, hW2⟩ : ∃ W, wr.alloc (.cells (tcs t) 47) = W := ⟨_, rfl⟩
      have t2 : Touch wr W2 (fun _ => False) := hW2 ▸ (Touch.refl wr _).alloc _
      have g2 : W2.heap[wr.heap.size]? = some (.cells (tcs t) 47 (0, 0)) := hW2 ▸ heap_alloc_new ..
      have HT2 := Lib.hid (HT.out.trans t2 (fun _ _ h => h))
      have HWE2 := Lib.hid (HWE.out.still t2)
      have HG2 := Lib.hid g2
      have HMA := Lib.hid (fun W => mayT_any t W)
      simp only [tcs] at hW2 HMA
      have HW2 := Lib.hid hW2
      clear hrr t2 g2 hW2 hsl hsl'
      by_cases h30 : (k : Int) < 30
      case neg =>
        have HS' : RowKit.Hid (sl' = sl) := Lib.hid (by rw [HS.out, decide_eq_false (by omega)]; simp)
        go_wp2_with fail
        rw [HW2.out]
        exact ⟨⟨k + 1, by omega, by go_num, by rw [HSE.out, HS'.out], by rw [HSE.out, HS'.out]; exact HWE2.out, HT2.out⟩, by simp [intOf]; omega⟩
      case pos =>
        obtain ⟨m, hm⟩ : ∃ x, mayTB t = x := ⟨_, rfl⟩
        rw [hm] at HS HMA
        have HMM := Lib.hid hm
        clear hm
        cases m with
        | false =>
          have HS' : RowKit.Hid (sl' = sl) := Lib.hid (by rw [HS.out]; simp)
          go_wp2_with (go_at_call 31; rw [HW2.out]; (with_reducible refine (HMA.out _).mono ?_); rintro e w3 ⟨rfl, t3⟩; have HT3 := Lib.hid (HT2.out.trans t3 (fun _ _ h => h)); have HWE3 := Lib.hid (HWE2.out.still t3); clear t3)
          exact ⟨⟨k + 1, by omega, by go_num, by rw [HSE.out, HS'.out], by rw [HSE.out, HS'.out]; exact HWE3.out, HT3.out⟩, by simp [intOf]; omega⟩
        | true =>
          have HS' : RowKit.Hid (sl' = sl ++ [t]) := Lib.hid (by rw [HS.out, decide_eq_true (by omega)]; simp)
          have HWR : RowKit.Hid (∀ W, WrE W w.heap.size w.heap.size (bytesT sl) → Calls Tryd.prog 35 #[.pointer (some ⟨w.heap.size, 0, none⟩), .agg (tcs t)] W fun e w' => e = .returned (.tuple #[]) ∧ WrE w' w.heap.size w.heap.size (bytesT sl') ∧ Touch W w' (fun k => w.heap.size ≤ k)) := Lib.hid (fun W h => by
            refine (tWrite_any w.heap.size w.heap.size _ (bytesT sl) t W h.toD HOT.out (by rw [bytesT_len]; omega)).mono ?_
            rintro e w' ⟨he, h1, h2⟩
            refine ⟨he, ?_, h2.mono (fun _ _ h => h.1)⟩
            have := h1.toE
            rw [HS'.out, bytesT_append]
            simpa [bytesT] using this)
          simp only [tcs] at HWR
          go_wp2_with (first
            | (go_at_call 31; rw [HW2.out]; (with_reducible refine (HMA.out _).mono ?_); rintro e w3 ⟨rfl, t3⟩; have HT3 := Lib.hid (HT2.out.trans t3 (fun _ _ h => h)); have HWE3 := Lib.hid (HWE2.out.still t3); have hg3 := t3.keeps HG2.out (fun h => h); obtain ⟨d0, d1, d2, d3, d4⟩ := tcells_of hg3; clear t3 hg3)
            | (go_at_call 35; (with_reducible refine (HWR.out _ HWE3.out).mono ?_); rintro e w4 ⟨rfl, hwe4, t4⟩; have HWE4 := Lib.hid hwe4; have HT4 := Lib.hid (HT3.out.trans t4 (fun k h1 h2 => by omega)); clear hwe4 t4))
          exact ⟨⟨k + 1, by omega, by go_num, by rw [HSE.out, HS'.out, List.length_append]; rfl, by rw [HSE.out]; exact HWE4.out, HT4.out⟩, by simp [intOf]; omega⟩
    case neg =>
      obtain rfl : len = k := by omega
      have e0 : ts.take len = ts := by rw [← HL.out, List.take_length]
      rw [e0] at HWE ⊢
      have hlt' : ¬ (len : Int) < len := by omega
      obtain ⟨xs, hxs⟩ : ∃ x, bytesT (selT ts) = x := ⟨_, rfl⟩
      have hxl : xs.length = 13 * (selT ts).length := by rw [← hxs, bytesT_len]
      have hsl := selT_le ts
      rw [hxs] at HWE
      obtain ⟨n, hn⟩ : ∃ n, xs.length = n := ⟨_, rfl⟩
      have hn3 : n ≤ 390 := by omega
      have HBY := Lib.hid (e_wBytes w.heap.size w.heap.size xs wr HWE.out (by omega) n hn)
      have HNR : RowKit.Hid (∀ W a' c', RowB W a' n c' xs → Calls Tryd.prog 36 #[.slice a' n c'] W fun e w' => ∃ v, e = .returned v ∧ NewRd W w' v n xs) := Lib.hid (fun W a' c' h => newreader_any a' n c' xs W h (by omega))
      have HXS := Lib.hid hxs
      have HN := Lib.hid hn
      have HXL := Lib.hid hxl
      clear hxs hn hxl
      go_wp2_with (first
        | (go_at_call 37; (with_reducible refine HBY.out.mono ?_); rintro e w4 ⟨a4, c4, rfl, hf4⟩; have HR4 := Lib.hid hf4.row'; have HT4 := Lib.hid hf4.2; clear hf4)
        | (go_at_call 36; have _u := HR4; (with_reducible refine (HNR.out _ _ _ HR4.out.2).mono ?_); rintro e w5 ⟨v5, rfl, G, a5, c5, rfl, hrd, t5, hG, ha5⟩; have HRD := Lib.hid hrd; have HT5 := Lib.hid t5; have HGG := Lib.hid hG; have HA5 := Lib.hid ha5; clear hrd t5 hG ha5))
      have HWX : RowKit.Hid (WrE w4 w.heap.size w.heap.size xs) := Lib.hid (HWE.out.still HT4.out)
      have HT9 : RowKit.Hid (Touch w w4 (fun _ => False)) := Lib.hid (HT.out.trans HT4.out (fun _ _ h => h))
      have HRD2 : RowKit.Hid (RdD w5 G (fun _ => False) (bytesT (restT ts 0)) 0) := Lib.hid (by
        rw [restT_zero, HXS.out]
        exact ⟨id, a5, c5, by rw [HN.out]; exact HRD.out, fun x hx => .inr id⟩)
      have HR5 := Lib.hid (RowS.still (RowS.still HR.out HT9.out) HT5.out)
      clear HR4 HBY HNR
      go_loopw [40] (fun i wr => ∃ k : Nat, k ≤ len ∧ i = .int .i64 k ∧ RdD wr G (fun _ => False) (bytesT (restT ts k)) 0 ∧ Touch w4 wr (fun _ => False)) (fun i _ => len - (intOf i).toNat)
      case atStart => exact ⟨0, by omega, rfl, HRD2.out, HT5.out⟩
      case round =>
        obtain ⟨k, hk, rfl, hrd, ht⟩ := hrel
        have HRD := Lib.hid hrd
        have HT6 := Lib.hid ht
        clear hrd ht
        by_cases hlt : k < len
        case pos =>
          have hrr := RowS.still (RowS.still HR.out HT9.out) HT6.out
          obtain ⟨b, off, rfl⟩ := hrr.some (by omega)
          have hk1 : k < ts.length := by rw [HL.out]; exact hlt
          obtain ⟨c0, c1, c2, c3, c4⟩ := RowT.cells5 hrr k hk1
          have HS := Lib.hid (restT_succ ts k hk1)
          have HOT := Lib.hid (HOK.out ts[k] (List.getElem_mem hk1))
          generalize ts[k] = t at *
          obtain ⟨rl, hrl⟩ : ∃ x, restT ts k = x := ⟨_, rfl⟩
          obtain ⟨rl', hrl'⟩ : ∃ x, restT ts (k + 1) = x := ⟨_, rfl⟩
          rw [hrl] at HRD
          rw [hrl, hrl'] at HS
          have HSE := Lib.hid hrl'
          have hlI : (k : Int) < len := by omega
          obtain ⟨W2, hW2⟩ : ∃ W, wr.alloc (.cells (tcs t) 47) = W := ⟨_, rfl⟩
          have t2 : Touch wr W2 (fun _ => False) := hW2 ▸ (Touch.refl wr _).alloc _
          have g2 : W2.heap[wr.heap.size]? = some (.cells (tcs t) 47 (0, 0)) := hW2 ▸ heap_alloc_new ..
          have HT7 := Lib.hid (HT6.out.trans t2 (fun _ _ h => h))
          have HNG : RowKit.Hid (¬ wr.heap.size = G) := Lib.hid (fun e => by have := HRD.out.lt; omega)
          have HRD7 := Lib.hid (HRD.out.still t2)
          have HG2 := Lib.hid g2
          have HMA := Lib.hid (fun W => mayT_any t W)
          simp only [tcs] at hW2 HMA
          have HW2 := Lib.hid hW2
          clear hrr t2 g2 hW2 hrl hrl'
          by_cases h30 : (k : Int) < 30
          case neg =>
            have HS' : RowKit.Hid (rl = rl') := Lib.hid (by rw [HS.out, decide_eq_false (by omega)]; simp)
            go_wp2_with fail
            rw [HW2.out]
            exact ⟨⟨k + 1, by omega, by go_num, by rw [HSE.out, ← HS'.out]; exact HRD7.out, HT7.out⟩, by simp [intOf]; omega⟩
          case pos =>
            obtain ⟨m, hm⟩ : ∃ x, mayTB t = x := ⟨_, rfl⟩
            rw [hm] at HS HMA
            have HMM := Lib.hid hm
            clear hm
            cases m with
            | false =>
              have HS' : RowKit.Hid (rl = rl') := Lib.hid (by rw [HS.out]; simp)
              go_wp2_with (go_at_call 31; rw [HW2.out]; (with_reducible refine (HMA.out _).mono ?_); rintro e w8 ⟨rfl, t8⟩; have HT8 := Lib.hid (HT7.out.trans t8 (fun _ _ h => h)); have HRD8 := Lib.hid (HRD7.out.still t8); clear t8)
              exact ⟨⟨k + 1, by omega, by go_num, by rw [HSE.out, ← HS'.out]; exact HRD8.out, HT8.out⟩, by simp [intOf]; omega⟩
            | true =>
              have HS' : RowKit.Hid (rl = t :: rl') := Lib.hid (by rw [HS.out, decide_eq_true (by omega)]; simp)
              rw [HS'.out] at HRD7
              have HRE : RowKit.Hid (∀ W, RdD W G (fun _ => False) (bytesT (t :: rl')) 0 → Calls Tryd.prog 38 #[.pointer (some ⟨G, 0, none⟩)] W fun e w' => e = .returned (.tuple #[.agg (tcs t), .bool true]) ∧ RdD w' G (fun _ => False) (bytesT rl') 0 ∧ Touch W w' (fun k => k = G)) := Lib.hid (fun W h => read_one G t rl' HOT.out HMM.out W h)
              simp only [tcs] at HRE
              have hG4 : w4.heap.size ≤ G := HGG.out
              go_wp2_with (first
                | (go_at_call 31; rw [HW2.out]; (with_reducible refine (HMA.out _).mono ?_); rintro e w8 ⟨rfl, t8⟩; have HT8 := Lib.hid (HT7.out.trans t8 (fun _ _ h => h)); have HRD8 := Lib.hid (HRD7.out.still t8); have HG8 := Lib.hid (t8.keeps HG2.out (fun h => h)); clear t8)
                | (go_at_call 38; (with_reducible refine (HRE.out _ HRD8.out).mono ?_); rintro e w9 ⟨rfl, hrd9, t9⟩; have HRD9 := Lib.hid hrd9; have HT9' := Lib.hid (HT8.out.trans t9 (fun k h1 h2 => by omega)); have HG9 := Lib.hid (((Touch.refl w9 (fun _ => False)).alloc (.cells (tcs t) 47)).keeps (t9.keeps HG8.out HNG.out) (fun h => h)); obtain ⟨d0, d1, d2, d3, d4⟩ := tcells_of HG9.out; simp only [tcs] at d0 d1 d2 d3 d4; clear hrd9 t9))
              exact ⟨⟨k + 1, by omega, by go_num, by rw [HSE.out]; exact HRD9.out.still ((Touch.refl _ _).alloc _), HT9'.out.alloc _⟩, by simp [intOf]; omega⟩
        case neg =>
          obtain rfl : len = k := by omega
          have hlt' : ¬ (len : Int) < len := by omega
          have e1 : restT ts len = [] := by rw [← HL.out]; exact restT_end ts
          rw [e1] at HRD
          have hG4 : w4.heap.size ≤ G := HGG.out
          have HRN : RowKit.Hid (Calls Tryd.prog 38 #[.pointer (some ⟨G, 0, none⟩)] wr fun e w' => e = .returned (.tuple #[.agg (tcs noT), .bool false]) ∧ Touch wr w' (fun k => k = G)) := Lib.hid (read_none G wr HRD.out)
          have HLN : RowKit.Hid (∀ W, Touch w4 W (fun _ => False) → Calls Tryd.prog 39 #[.pointer (some ⟨w.heap.size, 0, none⟩)] W fun e w' => e = .returned (.int .i64 (13 * (selT ts).length : Nat)) ∧ W = w') := Lib.hid (fun W h => by
            obtain ⟨_, v, hb⟩ := HWX.out.still h
            have hx := HXL.out
            rw [← hx]
            exact (wlen_any w.heap.size v xs w.heap.size W hb).mono fun e w' k => ⟨k.1, k.2.symm⟩)
          have HAW : RowKit.Hid (∀ W, Touch w4 W (fun _ => False) → Calls Tryd.prog 34 #[] W fun e w' => e = .returned (.bool true) ∧ Touch w4 w' (fun _ => False)) :=
            Lib.hid (fun W h => (awake7 W ((HTB.out.touch HT9.out).touch h)).mono fun e w' k => ⟨k.1, h.trans k.2 (fun _ _ h => h)⟩)
          obtain ⟨q, hq⟩ : ∃ q, (selT ts).length = q := ⟨_, rfl⟩
          have hq30 : q ≤ 30 := by omega
          rw [hq] at HLN ⊢
          simp only [tcs, noT] at HRN
          clear hq hsl e1
          go_wp2_with (first
            | (go_at_call 38; (with_reducible refine HRN.out.mono ?_); rintro e w8 ⟨rfl, t8⟩; have HT8 := Lib.hid ((HT6.out.trans t8 (fun k h1 h2 => by omega)).alloc (.cells #[.int .u32 0, .int .u32 0, .int .i64 0, .int .i64 0, .int .i64 0] 47)); clear t8)
            | (go_at_call 39; (with_reducible refine (HLN.out _ HT8.out).mono ?_); rintro e w10 ⟨rfl, rfl⟩)
            | (go_at_call 34; (with_reducible refine (HAW.out _ HT8.out).mono ?_); rintro e w11 ⟨rfl, t11⟩))
          go_ret
          exact ⟨rfl, HT9.out.trans t11 (fun _ _ h => h)⟩
theorem Tr.rowT {H : Type} {enc : TypeId × Value → H} {W : World} {cs : List Value} {d : DataW H} (h : Tr enc Tryd.prog W 69 cs d) :
    ∃ (a : Option Addr) (cap : Nat) (ts : List TupD), cs = [.slice a ts.length cap] ∧ RowT W a ts.length cap ts ∧ (∀ t ∈ ts, TupOk t) := by
  obtain ⟨a, cap, ts, h1, h2, h3, _⟩ := h.rowsOf tcl TupOk 5 Tryd.underlying69 (by kernel_rfl) (fun _ => rfl) (by decide) (fun cs d h => by
    obtain ⟨t, h1, h2⟩ := Tr.tupD h
    exact ⟨t, h1, h2⟩)
  exact ⟨a, cap, ts, h1, h2, h3⟩
set_option maxRecDepth 20000 in
theorem tupleRow_holds : Rows.TupleRowCardSaid := by
  refine tupleRow.said fun H enc W base v0 d0 p0 h0 hT hM => ?_
  obtain ⟨a0, len, cap, rfl⟩ := okWide_slice Tryd.underlying69 h0.ok
  obtain ⟨a, c, ts, h1, h2, h3⟩ := Tr.rowT h0.tr
  simp only [Value.cells, List.cons.injEq, Value.slice.injEq, and_true] at h1
  obtain ⟨rfl, rfl, rfl⟩ := h1
  exact (trow_walk _ _ _ ts W h2 h3 hT).mono fun e w' h => ⟨h.1, h.2.under (Nat.le_refl _)⟩
end Go.Proofs.YthliikkllagodaaDoor
