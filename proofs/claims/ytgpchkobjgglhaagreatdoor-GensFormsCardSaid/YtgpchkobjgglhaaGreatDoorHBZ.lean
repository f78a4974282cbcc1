/- HB: MagW, SumWalk, SumWalk2, SumWalk3, MagR. -/
import Derived.Test.YtgpchkobjgglhaaGreatDoorHAZ
import Derived.Test.YtgpchkobjgglhaaGreatDoorGAZ
import Derived.Deep.LoopGhost
import Derived.StillTailTactics
import Derived.WalkKit
import Derived.WalkLawsBesides
import Derived.LoopTactic
import Derived.Outline
import Derived.Below
import Derived.Lib.Hide
import Derived.Deep.QuietTactic
import Derived.BigQuiet
import Derived.Test.YtgpchkobjgglhaaGreatDoorGCZ
section
/- The slots, the rows as cells; a row takes the next free slot; all slots are filled. -/
set_option linter.unusedVariables false
namespace Go.Proofs.YtgpchkobjgglhaaGreatDoor
open Go.RowKit

def cI (x : Int) : List Value := [.int .i64 x]
def Rw.cells (r : Rw) : List Value := [.int .i64 r.id, .int .i64 r.wt, .int .i64 r.pos, .int .i64 r.sk]
/-- The slots, of the call's own. -/
def OwnT (w : World) (base : Nat) (v : Value) (T : List Int) : Prop := OwnS w base 3 1 v (T.map cI)
section
variable {w w' : World} {B G n c : Nat} {T : List Int} {rs : List Rw} {v : Value}
theorem OwnT.touch {S : Nat → Prop} (h : OwnT w B v T) (t : Touch w w' S) (h1 : ∀ x, v.ownBlock = some x → ¬ S x) : OwnT w' B v T := OwnS.touch h t h1
theorem OwnT.drew1 (h : OwnT w B v T) : OwnT w.drew B v T := h.touch (Touch.refl w (fun _ => False)).drew (fun _ _ h => h)
theorem OwnT.len (h : OwnT w B (.slice (some ⟨G, 0, none⟩) n c) T) : T.length = n := by have := (OwnS.row' h).1; simpa using this
theorem OwnT.at_ (h : OwnT w B (.slice (some ⟨G, 0, none⟩) n c) T) (i : Nat) (hi : i < T.length) : w.cell? ⟨G, i, none⟩ = some (.int .i64 T[i]) := by
  have := (OwnS.row' h).2.1.cell i (by simpa using hi) 0 (.int .i64 T[i]) (by simp [cI])
  simpa using this
theorem OwnT.free (h : OwnT w B (.slice (some ⟨G, 0, none⟩) n c) T) (i : Nat) : w.frozen? ⟨G, i, none⟩ = false := OwnS.free h i
theorem OwnT.stored (h : OwnT w B (.slice (some ⟨G, 0, none⟩) n c) T) (i : Nat) (hi : i < T.length) (x : Int) : OwnT (w.setCell ⟨G, i, none⟩ (.int .i64 x)) B (.slice (some ⟨G, 0, none⟩) n c) (T.set i x) := by
  have := OwnS.stored h i (by simpa using hi) 0 (by omega) (.int .i64 x)
  simp only [Nat.mul_one, Nat.add_zero] at this
  unfold OwnT
  rw [List.map_set]
  simpa [cI] using this
theorem OwnT.lt (h : OwnT w B (.slice (some ⟨G, 0, none⟩) n c) T) : B ≤ G ∧ G < w.heap.size := (OwnS.row' h).2.2 _ rfl
end

theorem mod_turn {q all x : Nat} (h : x < all) : (q * all + x) % all = x := by
  rw [Nat.mul_comm, Nat.mul_add_mod, Nat.mod_eq_of_lt h]

end Go.Proofs.YtgpchkobjgglhaaGreatDoor

end

section
/- What the functions of package sum answer: low, Fold, Part, Net, Fix, and the reference's own. Conditions: the numbers lie within their kinds; the bytes are read as a row of bytes. -/
set_option linter.unusedVariables false
namespace Go.Proofs.YtgpchkobjgglhaaGreatDoor
open Go.RowKit

end Go.Proofs.YtgpchkobjgglhaaGreatDoor

end

section
/- What the other functions of package sum answer: Fold, Net, Fix, Crc, Mix, and the reference's own. -/
set_option linter.unusedVariables false
namespace Go.Proofs.YtgpchkobjgglhaaGreatDoor
open Go.RowKit

theorem xor_ones16 (a : Nat) (h : a < 65536) : 65535 ^^^ a = 65535 - a := by
  have e : 65535 ^^^ a = (BitVec.allOnes 16 ^^^ BitVec.ofNat 16 a).toNat := by
    rw [BitVec.toNat_xor, BitVec.toNat_allOnes, BitVec.toNat_ofNat, Nat.mod_eq_of_lt h]
  rw [e, BitVec.allOnes_xor, BitVec.toNat_not, BitVec.toNat_ofNat, Nat.mod_eq_of_lt h]
theorem xor_ones32 (a : Nat) (h : a < 4294967296) : 4294967295 ^^^ a = 4294967295 - a := by
  have e : 4294967295 ^^^ a = (BitVec.allOnes 32 ^^^ BitVec.ofNat 32 a).toNat := by
    rw [BitVec.toNat_xor, BitVec.toNat_allOnes, BitVec.toNat_ofNat, Nat.mod_eq_of_lt h]
  rw [e, BitVec.allOnes_xor, BitVec.toNat_not, BitVec.toNat_ofNat, Nat.mod_eq_of_lt h]
theorem not16 (s : Int) (h : 0 ≤ s) (h2 : s ≤ 65535) : bits BinOp.xor IntKind.u16 IntKind.u16.max s = 65535 - s := by
  obtain ⟨a, rfl⟩ := Int.eq_ofNat_of_zero_le h
  have e : IntKind.u16.max = ((65535 : Nat) : Int) := rfl
  rw [e, u16_xor_nat 65535 a (by omega) (by omega), xor_ones16 a (by omega)]
  omega
theorem not32 (a : Nat) (h : a < 4294967296) : bits BinOp.xor IntKind.u32 IntKind.u32.max (a : Int) = 4294967295 - a := by
  have e : IntKind.u32.max = ((4294967295 : Nat) : Int) := rfl
  rw [e, u32_xor_nat 4294967295 a (by omega) (by omega), xor_ones32 a (by omega)]
  omega

end Go.Proofs.YtgpchkobjgglhaaGreatDoor

end

section
/- What Net, Fix, Mix of package sum answer, and the reference's own. -/
set_option linter.unusedVariables false
namespace Go.Proofs.YtgpchkobjgglhaaGreatDoor
open Go.RowKit

theorem or8 (x y : Nat) (hx : x < 256) (hy : y < 256) : bits BinOp.or IntKind.u32 ((x : Int) * 256) (y : Int) = (x : Int) * 256 + y :=
  bits_join .u32 32 (by decide) (fun n a b => by rw [IntKind.wrap_u32]; omega) 8 _ _ (by omega) (by omega) (by omega) (by omega) (by omega) (by omega)

def fixF (sum old now : Int) : Int := foldF (65535 - sum + (65535 - old) + now)

end Go.Proofs.YtgpchkobjgglhaaGreatDoor

end

section
/- May a table have so many slots; a backend's row; may a set of backends be. -/
set_option linter.unusedVariables false
namespace Go.Proofs.YtgpchkobjgglhaaGreatDoor
open Go.RowKit

def mayS (n : Nat) : Bool := (List.range 16).all (fun k => decide (¬ (2 ≤ k ∧ k * k ≤ n ∧ n % k = 0)))
theorem mayS_iff (n : Nat) : mayS n = true ↔ ∀ k, k < 16 → ¬ (2 ≤ k ∧ k * k ≤ n ∧ n % k = 0) := by
  unfold mayS; rw [List.all_eq_true]; simp only [List.mem_range, decide_eq_true_iff]
theorem prm_may {n : Nat} (h : Prm n) : mayS n = true := by
  rw [mayS_iff]
  rintro k hk ⟨h2, hkk, hm⟩
  have hlt : k < n := by
    have := Nat.mul_le_mul_right k h2
    have := h.lo
    omega
  obtain ⟨i, _, he⟩ := h.inv k hlt (by omega)
  have hd : k ∣ n := Nat.dvd_of_mod_eq_zero hm
  have h1 : k ∣ k * i % n := (Nat.dvd_mod_iff hd).2 ⟨i, rfl⟩
  rw [he] at h1
  have := Nat.le_of_dvd (by omega) h1
  omega

theorem isWeight_any (n : Int) (w : World) :
    Calls Tryz.prog 27 #[.int .i64 n] w fun e w' => e = .returned (.bool (decide (1 ≤ n ∧ n ≤ 10))) ∧ w' = w := by
  have HM : RowKit.Hid (decide (1 ≤ n ∧ n ≤ 10) = true ↔ 1 ≤ n ∧ n ≤ 10) := Lib.hid decide_eq_true_iff
  generalize decide (1 ≤ n ∧ n ≤ 10) = m at *
  go_enter Tryz.func27, Tryz.ntmps27
  go_wp2
  all_goals (go_ret; refine ⟨ret_bool ?_, rfl⟩; rw [Bool.eq_iff_iff, HM.out]; clear HM; (first | (simp_all; done) | (simp_all; omega)))

/-- One of a set may stand where it stands. -/
def okAt (bs : List BkD) (i : Nat) : Bool := match bs[i]? with
  | none => true
  | some b => mayKB b && (i == 0 || match bs[i - 1]? with | none => true | some a => decide (a.id < b.id))
def gmay (bs : List BkD) : Bool := decide (bs.length ≤ 16) && (List.range bs.length).all (okAt bs)
theorem gmay_iff (bs : List BkD) : gmay bs = true ↔ bs.length ≤ 16 ∧ ∀ i, i < bs.length → okAt bs i = true := by
  unfold gmay; rw [Bool.and_eq_true, decide_eq_true_iff, List.all_eq_true]; simp only [List.mem_range]
theorem okAt_zero {bs : List BkD} {b : BkD} (h : bs[0]? = some b) : okAt bs 0 = mayKB b := by unfold okAt; rw [h]; simp
theorem okAt_succ {bs : List BkD} {i : Nat} {a b : BkD} (h : bs[i + 1]? = some b) (h2 : bs[i]? = some a) : okAt bs (i + 1) = (mayKB b && decide (a.id < b.id)) := by unfold okAt; rw [h]; simp [h2]

set_option maxRecDepth 20000 in
set_option maxHeartbeats 1000000 in
theorem gmay_any (a : Option Addr) (len cap : Nat) (bs : List BkD) (w : World) (hr : RowK w a len cap bs) :
    Calls Tryz.prog 11 #[.slice a len cap] w fun e w' => e = .returned (.bool (gmay bs)) ∧ Touch w w' (fun _ => False) := by
  have hl := hr.len
  have hcap := hr.hmax
  have hcap1 := hr.hcap
  have HG := Lib.hid (gmay_iff bs)
  have HR := Lib.hid hr
  have HL := Lib.hid hl
  by_cases h16 : len ≤ 16
  case neg =>
    have HF : RowKit.Hid (gmay bs = false) := Lib.hid (by
      cases hh : gmay bs with
      | false => rfl
      | true => have := (HG.out.1 hh).1; omega)
    have h16I : (len : Int) > 16 := by omega
    clear hr hl
    go_enter Tryz.func11, Tryz.ntmps11
    go_wp2
    go_ret
    exact ⟨by rw [HF.out]; rfl, Touch.refl _ _⟩
  case pos =>
  clear hr hl
  go_enter Tryz.func11, Tryz.ntmps11
  go_wp2_with fail
  go_loopw [10] (fun i wr => ∃ k : Nat, k ≤ len ∧ i = .int .i64 k ∧ Touch w wr (fun _ => False) ∧ ∀ j, j < k → okAt bs j = true) (fun i _ => len - (intOf i).toNat)
  case atStart => exact ⟨0, Nat.zero_le _, rfl, Touch.refl _ _, fun j hj => by omega⟩
  case round =>
    obtain ⟨k, hk, rfl, ht, he⟩ := hrel
    have HT := Lib.hid ht
    have HE := Lib.hid he
    clear he ht
    by_cases hlt : k < len
    case neg =>
      obtain rfl : len = k := by omega
      have hlt' : ¬ (len : Int) < len := by omega
      have HF : RowKit.Hid (gmay bs = true) := Lib.hid (HG.out.2 ⟨by rw [HL.out]; exact h16, fun i hi => HE.out i (by rw [← HL.out]; exact hi)⟩)
      go_wp2
      go_ret
      exact ⟨by rw [HF.out]; rfl, HT.out⟩
    case pos =>
    have hr := HR.out.still HT.out
    obtain ⟨b, off, rfl⟩ := hr.some (by omega)
    have hk1 : k < bs.length := by rw [HL.out]; exact hlt
    obtain ⟨c0, c1, c2⟩ := hr.cells k hk1
    have HK : RowKit.Hid (bs[k]? = some bs[k]) := Lib.hid (List.getElem?_eq_getElem hk1)
    have HFA : RowKit.Hid (okAt bs k = false → gmay bs = false) := Lib.hid (fun h => by
      cases hh : gmay bs with
      | false => rfl
      | true => rw [(HG.out.1 hh).2 k hk1] at h; cases h)
    have HMK := Lib.hid (mayKB_iff bs[k])
    obtain ⟨W1, hW1⟩ : ∃ W, wr.alloc (.cells #[.int .i64 bs[k].id, .int .u32 bs[k].addr, .int .i64 bs[k].weight] 27) = W := ⟨_, rfl⟩
    have t1 : Touch wr W1 (fun _ => False) := hW1 ▸ (Touch.refl wr _).alloc _
    have HR1 := Lib.hid (hr.still t1)
    have g1 : W1.heap[wr.heap.size]? = some (.cells #[.int .i64 bs[k].id, .int .u32 bs[k].addr, .int .i64 bs[k].weight] 27 (0, 0)) := hW1 ▸ heap_alloc_new ..
    have x0 : W1.cell? ⟨wr.heap.size, 0, none⟩ = some (.int .i64 bs[k].id) := cell_of_cells g1 0
    have x2 : W1.cell? ⟨wr.heap.size, 2, none⟩ = some (.int .i64 bs[k].weight) := cell_of_cells g1 2
    have HT1 := Lib.hid (HT.out.trans t1 (fun _ _ h => h))
    have HW1 := Lib.hid hW1
    clear hr t1 g1 hW1
    have hlI : (k : Int) < len := by omega
    by_cases hm : mayKB bs[k] = true
    case neg =>
      have HOK : RowKit.Hid (gmay bs = false) := Lib.hid (HFA.out (by unfold okAt; rw [HK.out]; simp [hm]))
      have hn : ¬ ((0 ≤ bs[k].id ∧ bs[k].id ≤ 65535) ∧ 1 ≤ bs[k].weight ∧ bs[k].weight ≤ 10) := fun h => hm (HMK.out.2 h)
      clear HMK hm HK
      generalize bs[k] = f at *
      clear x0 x2
      by_cases hid : 0 ≤ f.id ∧ f.id ≤ 65535
      · have hd : decide (1 ≤ f.weight ∧ f.weight ≤ 10) = false := decide_eq_false (fun h => hn ⟨hid, h⟩)
        have HWT : RowKit.Hid (∀ W, Calls Tryz.prog 27 #[.int .i64 f.weight] W fun e w' => e = .returned (.bool false) ∧ w' = W) := Lib.hid (fun W => by rw [← hd]; exact isWeight_any _ W)
        obtain ⟨hid1, hid2⟩ := hid
        clear hn hd
        go_wp2_with (go_at_call 27; (with_reducible refine (HWT.out _).mono ?_); rintro e w9 ⟨rfl, rfl⟩)
        go_ret
        exact ⟨by rw [HOK.out]; rfl, by rw [HW1.out]; exact HT1.out⟩
      · clear hn
        by_cases h0 : f.id < 0
        · clear hid
          go_wp2
          go_ret
          exact ⟨by rw [HOK.out]; rfl, by rw [HW1.out]; exact HT1.out⟩
        · have h1 : f.id > 65535 := by omega
          clear hid
          go_wp2
          go_ret
          exact ⟨by rw [HOK.out]; rfl, by rw [HW1.out]; exact HT1.out⟩
    case pos =>
      have hmm := HMK.out.1 hm
      have hd : decide (1 ≤ bs[k].weight ∧ bs[k].weight ≤ 10) = true := decide_eq_true hmm.2
      have HWT : RowKit.Hid (∀ W, Calls Tryz.prog 27 #[.int .i64 bs[k].weight] W fun e w' => e = .returned (.bool true) ∧ w' = W) := Lib.hid (fun W => by rw [← hd]; exact isWeight_any _ W)
      obtain ⟨⟨hid1, hid2⟩, _⟩ := hmm
      clear HMK hd
      cases k with
      | zero =>
        have HOK : RowKit.Hid (okAt bs 0 = true) := Lib.hid (by rw [okAt_zero HK.out]; exact hm)
        clear hm HK HFA
        generalize bs[0] = f at *
        simp only [Nat.zero_mul, Nat.add_zero] at c0 c1 c2
        have hx2 := Lib.hid x0
        clear x0 x2
        go_wp2_with (go_at_call 27; (with_reducible refine (HWT.out _).mono ?_); rintro e w9 ⟨rfl, rfl⟩)
        rw [HW1.out]
        go_quiet (fail)
        go_wp2
        exact ⟨⟨1, hlt, rfl, HT1.out.drewN _, fun j hj => by (obtain rfl : j = 0 := (by omega)); exact HOK.out⟩, by simp [intOf]; omega⟩
      | succ k =>
        have hk0 : k < bs.length := by omega
        obtain ⟨d0, -, -⟩ := HR1.out.cells k hk0
        obtain ⟨p, hp⟩ : ∃ p, bs[k] = p := ⟨_, rfl⟩
        rw [hp] at d0
        have hok := okAt_succ HK.out (show bs[k]? = some p by rw [List.getElem?_eq_getElem hk0, hp])
        rw [hm, Bool.true_and] at hok
        have HOK := Lib.hid hok
        clear hm hok HK hp
        generalize bs[k + 1] = f at *
        have hx0 := Lib.hid x0
        have hd0 := Lib.hid d0
        clear x0 x2 d0
        by_cases hlt2 : p.id < f.id
        · have hc : decide (f.id ≤ p.id) = false := decide_eq_false (by omega)
          go_wp2_with (go_at_call 27; (with_reducible refine (HWT.out _).mono ?_); rintro e w9 ⟨rfl, rfl⟩)
          rw [HW1.out]
          have x0 := hx0.out
          have d0 := hd0.out
          go_quiet (fail)
          go_wp2
          refine ⟨⟨k + 2, hlt, by go_num, HT1.out.drewN _, fun j hj => ?_⟩, by simp [intOf]; omega⟩
          rcases Nat.lt_or_ge j (k + 1) with h9 | h9
          · exact HE.out j h9
          · obtain rfl : j = k + 1 := by omega
            rw [HOK.out]; exact decide_eq_true hlt2
        · have HF : RowKit.Hid (gmay bs = false) := Lib.hid (HFA.out (by rw [HOK.out]; exact decide_eq_false hlt2))
          have hc : decide (f.id ≤ p.id) = true := decide_eq_true (by omega)
          go_wp2_with (go_at_call 27; (with_reducible refine (HWT.out _).mono ?_); rintro e w9 ⟨rfl, rfl⟩)
          rw [HW1.out]
          have x0 := hx0.out
          have d0 := hd0.out
          go_quiet (fail)
          go_wp2
          go_ret
          exact ⟨by rw [HF.out]; rfl, HT1.out.drewN _⟩
end Go.Proofs.YtgpchkobjgglhaaGreatDoor

end
