/- A tuple's hash; a backend by its number; a chooser that there isn't. -/
import Derived.Test.YtfjnhaoiecndpaaCho
import Derived.Test.YtfjnhaoiecndpaaRecW
import Derived.Test.YtfjnhaoiecndpaaRecArgs
import Derived.Deep.DeepCutAuto
set_option linter.unusedVariables false
namespace Go.Proofs.Ytfjnhaoiecndpaa
open Go.RowKit

theorem infoBk3 : (Try.prog.info? 28).map (·.size) = some 3 := by kernel_rfl
def bkZ : BkD := ⟨0, 0, 0⟩
/-- A backend as a value. -/
def bkV' (b : BkD) : Value := .agg #[.int .i64 b.id, .int .u32 b.addr, .int .i64 b.weight]

def hashF (t : TupD) : Nat := mixF 0 (tbF t)
set_option maxRecDepth 20000 in
set_option maxHeartbeats 2000000 in
theorem hash_any (t : TupD) (ok : TupOk t) (w : World) :
    Calls Try.prog 18 #[.agg (tcs t)] w fun e w' => e = .returned (.int .u32 (hashF t : Nat)) ∧ Touch w w' (fun _ => False) := by
  obtain ⟨W1, hW1⟩ : ∃ W, w.alloc (.cells (tcs t) 25) = W := ⟨_, rfl⟩
  have t1 : Touch w W1 (fun _ => False) := hW1 ▸ (Touch.refl w _).alloc _
  have HWE := Lib.hid (WrE.fresh W1).toD
  have t2 := t1.alloc (.cells #[.slice none 0 0] 59)
  have HT := Lib.hid t2
  have hs : W1.heap.size = w.heap.size + 1 := by rw [← hW1]; simp
  have HS := Lib.hid hs
  have g1 : W1.heap[w.heap.size]? = some (.cells (tcs t) 25 (0, 0)) := hW1 ▸ heap_alloc_new ..
  have HW1 := Lib.hid hW1
  have HOK := Lib.hid ok
  obtain ⟨t1', t2', t3', t4', t5'⟩ := t
  simp only [tcs] at g1 HW1 ⊢
  clear hW1 t1 t2 hs g1 ok
  go_enter Try.func18, Try.ntmps18
  go_wp2_with fail
  rw [HW1.out]
  rw [HS.out] at HWE
  refine (tWrite_any (w.heap.size + 1) (w.heap.size + 1) _ [] ⟨t1', t2', t3', t4', t5'⟩ _ HWE.out HOK.out (by simp)).mono ?_
  rintro e w3 ⟨rfl, hw3, t3⟩
  obtain ⟨xs, hxs⟩ : ∃ xs, [] ++ tbF ⟨t1', t2', t3', t4', t5'⟩ = xs := ⟨_, rfl⟩
  have hxl : xs.length ≤ 100 := by rw [← hxs]; simp [tbF, beB_length]
  rw [hxs] at hw3
  have HHF : RowKit.Hid (hashF ⟨t1', t2', t3', t4', t5'⟩ = mixF 0 xs) := Lib.hid (by rw [← hxs]; rfl)
  obtain ⟨n, hn⟩ : ∃ n, xs.length = n := ⟨_, rfl⟩
  have HT3 := Lib.hid (HT.out.trans t3 (fun k hk h => by omega))
  have HBY := Lib.hid (e_wBytes (w.heap.size + 1) (w.heap.size + 1) xs w3 hw3.toE (by omega) n hn)
  have HMX : RowKit.Hid (∀ (a : Option Addr) (c : Nat) (W : World), RowB W a n c xs → Calls Try.prog 31 #[.int .u32 0, .slice a n c] W fun e w' => e = .returned (.int .u32 (mixF 0 xs : Nat)) ∧ ∃ m, w' = W.drewN m) := Lib.hid (fun a c W h => mix_any 0 a n c xs W (by omega) h)
  clear hw3 t3 hxs hn HWE
  go_wp2_with (first
    | (go_at_call 32; (with_reducible refine HBY.out.mono ?_); rintro e w4 ⟨a4, c4, rfl, hf4⟩; have HR4 := Lib.hid hf4.row'; have HT4 := Lib.hid (HT3.out.trans hf4.2 (fun _ _ h => h)); clear hf4)
    | (go_at_call 31; have _u := HR4; (with_reducible refine (HMX.out _ _ _ HR4.out.2).mono ?_); rintro e w5 ⟨rfl, m5, rfl⟩))
  go_ret
  exact ⟨by rw [HHF.out]; rfl, HT4.out.drewN _⟩

theorem hashF_lt (t : TupD) : hashF t < 4294967296 := mixF_lt _ _
def findF (bs : List BkD) (id : Int) : Option BkD := bs.find? (fun b => b.id == id)
def findV (bs : List BkD) (id : Int) : Value := match findF bs id with
  | some b => .tuple #[bkV' b, .bool true]
  | none => .tuple #[bkV' bkZ, .bool false]

set_option maxRecDepth 20000 in
set_option maxHeartbeats 2000000 in
theorem find_any (a : Option Addr) (len cap : Nat) (bs : List BkD) (id : Int) (w : World) (hr : RowK w a len cap bs) :
    Calls Try.prog 19 #[.slice a len cap, .int .i64 id] w fun e w' => e = .returned (findV bs id) ∧ Touch w w' (fun _ => False) := by
  have hl := hr.len
  have hcap := hr.hmax
  have hcap1 := hr.hcap
  obtain ⟨W0, hW0⟩ : ∃ W, w.alloc (.cells #[.int .i64 0, .int .u32 0, .int .i64 0] 28) = W := ⟨_, rfl⟩
  have t0 : Touch w W0 (fun _ => False) := hW0 ▸ (Touch.refl w _).alloc _
  have g0 : W0.heap[w.heap.size]? = some (.cells #[.int .i64 0, .int .u32 0, .int .i64 0] 28 (0, 0)) := hW0 ▸ heap_alloc_new ..
  have HR := Lib.hid (hr.still t0)
  have HL := Lib.hid hl
  have HT0 := Lib.hid t0
  have HG0 := Lib.hid g0
  have HII := Lib.hid infoBk3
  have HW0 := Lib.hid hW0
  clear hr hl t0 g0 hW0
  go_enter Try.func19, Try.ntmps19
  go_upto_region 1 with (fail)
  rw [HW0.out]
  go_wp2_with fail
  go_loopw [10] (fun i wr => ∃ k : Nat, k ≤ len ∧ i = .int .i64 k ∧ findF (bs.take k) id = none ∧ Touch W0 wr (fun _ => False)) (fun i _ => len - (intOf i).toNat)
  case atStart => exact ⟨0, Nat.zero_le _, rfl, rfl, Touch.refl _ _⟩
  case round =>
    obtain ⟨k, hk, rfl, hf, ht⟩ := hrel
    have HT := Lib.hid ht
    have HF := Lib.hid hf
    have HG := Lib.hid (ht.keeps HG0.out (fun h => h))
    clear ht hf
    by_cases hlt : k < len
    case neg =>
      obtain rfl : len = k := by omega
      have hlt' : ¬ (len : Int) < len := by omega
      go_wp2_with (refine store_row rfl 28 (.tmp 4) (.tmp 20) rfl w.heap.size _ rfl rfl _ _ HG.out HII.out rfl rfl ?_)
      refine ret_row1 rfl rfl w.heap.size ?t ?cs ?fr _ rfl ?hg Try.underlying28 rfl ?hi _ rfl ?hR
      case hg => exact setRow_heap _ _ _ _ _ _ HG.out
      case hi => exact HII.out
      case hR =>
        refine ⟨?_, (HT0.out.trans HT.out (fun _ _ h => h)).setRow _ _ (fun h => absurd h (Nat.lt_irrefl _))⟩
        have e := HF.out
        rw [← HL.out, List.take_length] at e
        unfold findV
        rw [e]; rfl
    case pos =>
    have hr := HR.out.still HT.out
    obtain ⟨b, off, rfl⟩ := hr.some (by omega)
    have hk1 : k < bs.length := by rw [HL.out]; exact hlt
    obtain ⟨c0, c1, c2⟩ := hr.cells k hk1
    have HS1 : RowKit.Hid (findF (bs.take (k + 1)) id = if bs[k].id == id then some bs[k] else none) := Lib.hid (by
      rw [List.take_succ_eq_append_getElem hk1]
      unfold findF
      rw [List.find?_append]
      have := HF.out
      unfold findF at this
      rw [this]
      simp only [Option.none_or, List.find?_cons, List.find?_nil]
      split <;> simp_all)
    have HS2 : RowKit.Hid (bs[k].id = id → findF bs id = some bs[k]) := Lib.hid (fun h => by
      have key : bs.find? (fun b => b.id == id) = (bs.take (k + 1) ++ bs.drop (k + 1)).find? (fun b => b.id == id) := by rw [List.take_append_drop]
      have h2 := HS1.out
      unfold findF at h2 ⊢
      rw [key, List.find?_append, h2, if_pos (beq_iff_eq.2 h)]
      rfl)
    generalize bs[k] = f at *
    obtain ⟨W2, hW2⟩ : ∃ W, wr.alloc (.cells #[.int .i64 f.id, .int .u32 f.addr, .int .i64 f.weight] 28) = W := ⟨_, rfl⟩
    have t2 : Touch wr W2 (fun _ => False) := hW2 ▸ (Touch.refl wr _).alloc _
    have g2 : W2.heap[wr.heap.size]? = some (.cells #[.int .i64 f.id, .int .u32 f.addr, .int .i64 f.weight] 28 (0, 0)) := hW2 ▸ heap_alloc_new ..
    have HX0 : RowKit.Hid (W2.cell? ⟨wr.heap.size, 0, none⟩ = some (.int .i64 f.id)) := Lib.hid (cell_of_cells g2 0)
    have HX1 : RowKit.Hid (W2.cell? ⟨wr.heap.size, 1, none⟩ = some (.int .u32 f.addr)) := Lib.hid (cell_of_cells g2 1)
    have HX2 : RowKit.Hid (W2.cell? ⟨wr.heap.size, 2, none⟩ = some (.int .i64 f.weight)) := Lib.hid (cell_of_cells g2 2)
    have HT2 := Lib.hid (HT.out.trans t2 (fun _ _ h => h))
    have HG2 := Lib.hid (t2.keeps HG.out (fun h => h))
    have HW2 := Lib.hid hW2
    have hkI : (k : Int) < len := by omega
    clear hr t2 g2 hW2
    by_cases hid : f.id = id
    · have HV := Lib.hid (HS2.out hid)
      subst hid
      clear HS1 HS2
      go_upto_region 4 with (fail)
      rw [HW2.out]
      have x0 := HX0.out
      have x1 := HX1.out
      have x2 := HX2.out
      go_wp2_with (refine store_row rfl 28 (.tmp 4) (.tmp 18) rfl w.heap.size _ rfl rfl _ _ HG2.out HII.out rfl rfl ?_)
      refine ret_row1 rfl rfl w.heap.size _ #[.int .i64 f.id, .int .u32 f.addr, .int .i64 f.weight] _ _ rfl (setRow_heap _ _ _ _ _ _ HG2.out) Try.underlying28 rfl HII.out (.bool true) rfl ?_
      refine ⟨?_, (HT0.out.trans HT2.out (fun _ _ h => h)).setRow _ _ (fun h => absurd h (Nat.lt_irrefl _))⟩
      unfold findV
      rw [HV.out]
      rfl
    · have hb : (f.id == id) = false := beq_eq_false_iff_ne.2 hid
      go_upto_region 4 with (fail)
      rw [HW2.out]
      have x0 := HX0.out
      go_wp2_with fail
      exact ⟨⟨k + 1, hlt, by go_num, by rw [HS1.out]; simp [hid], HT2.out⟩, by simp [intOf]; omega⟩
end Go.Proofs.Ytfjnhaoiecndpaa
