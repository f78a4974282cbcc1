/- What ParseAddr and Parse tell of a text. -/
import Derived.Test.YtgpchkobjgglhaaGreatDoorStrCallsZ
import Derived.Test.YtgpchkobjgglhaaGreatDoorGCZ
import Derived.Test.YtgpchkobjgglhaaGreatDoorKBZ
import Derived.Deep.DeepCutAuto
set_option linter.unusedVariables false
namespace Go.Proofs.YtgpchkobjgglhaaGreatDoor
open Go.RowKit

/-- The parts of an address, one behind the other. -/
def foldA (acc : Nat) : List ByteArray → Option Nat
  | [] => some acc
  | p :: r => match puV p.data.toList with | some u => foldA (acc * 256 % 4294967296 + u) r | none => none
def paO (l : List UInt8) : Option Nat := match foldA 0 (partsOf l 46) with | some a => if addrL a = l then some a else none | none => none
def paV (l : List UInt8) : Nat := (paO l).getD 0
def paB (l : List UInt8) : Bool := (paO l).isSome
theorem puV_lt {l : List UInt8} {u : Nat} (h : puV l = some u) : u < 256 := by
  unfold puV at h
  cases hp : Lib.parseUintB 8 l with
  | ok v => rw [hp] at h; simp at h; subst h; have := Lib.parseUintB_le hp; omega
  | «syntax» => rw [hp] at h; cases h
  | range => rw [hp] at h; cases h
theorem foldA_lt : ∀ (l : List ByteArray) (acc a : Nat), acc < 4294967296 → foldA acc l = some a → a < 4294967296
  | [], acc, a, h, e => by simp [foldA] at e; omega
  | p :: r, acc, a, h, e => by
    unfold foldA at e
    cases hp : puV p.data.toList with
    | none => rw [hp] at e; cases e
    | some u => rw [hp] at e; have := puV_lt hp; exact foldA_lt r _ a (by omega) e
theorem paV_lt (l : List UInt8) : paV l < 4294967296 := by
  unfold paV paO
  cases h : foldA 0 (partsOf l 46) with
  | none => show (0 : Nat) < 4294967296; decide
  | some a =>
    have := foldA_lt _ 0 a (by decide) h
    by_cases e : addrL a = l <;> simp [e]; exact this

theorem or_u32 (x y : Int) (i : Nat) (h0 : 0 ≤ x) (hx : x % 2 ^ i = 0) (h1 : x < 4294967296) (hy : 0 ≤ y) (hy1 : y < 2 ^ i) (hy2 : y < 4294967296) : bits BinOp.or IntKind.u32 x y = x + y :=
  bits_join .u32 32 (by decide) (fun n h0 h1 => by simp [IntKind.wrap, IntKind.bits, IntKind.signed]; omega) i x y h0 hx (by omega) hy hy1 (by omega)
theorem splitB_size (sep : ByteArray) : ∀ (k : Nat) (s : ByteArray), ∀ p ∈ Lib.splitB sep 0 k s, p.size ≤ s.size
  | 0, s, p, hp => by rw [Lib.splitB_zero] at hp; obtain rfl := List.mem_singleton.1 hp; exact Nat.le_refl _
  | k + 1, s, p, hp => by
    unfold Lib.splitB at hp
    split at hp
    · obtain rfl := List.mem_singleton.1 hp; exact Nat.le_refl _
    · rcases List.mem_cons.1 hp with rfl | h
      · rw [ByteArray.size_extract]; omega
      · have := splitB_size sep k _ p h
        rw [ByteArray.size_extract] at this; omega

set_option maxRecDepth 20000 in
set_option maxHeartbeats 4000000 in
theorem parseAddr_any (l : List UInt8) (w : World) (hl : l.length < 4294967281) (hT : TabW w) (hE : ErrW w) (hM : MaxW w) :
    Calls Tryz.prog 44 #[.string (mkS l)] w fun e w' => e = .returned (.tuple #[.int .u32 (paV l : Nat), .bool (paB l)]) ∧ Touch w w' (fun _ => False) := by
  have HSP := Lib.hid (split_call l 46 w hl hM)
  have HTB := Lib.hid hT
  have HER := Lib.hid hE
  obtain ⟨ps, hps⟩ : ∃ x, partsOf l 46 = x := ⟨_, rfl⟩
  have HPS := Lib.hid hps
  rw [hps] at HSP
  have hpl : ps.length ≤ l.length + 1 := by
    rw [← hps, partsOf_len]
    have := Lib.countB_le (mkS [46]) (by simp [mkS_size]) _ (mkS l) (Nat.le_refl _)
    rw [mkS_size] at this; omega
  have hpl2 : ps.length ≤ 4294967281 := by omega
  have hPZ : ∀ p ∈ ps, p.size ≤ l.length := by rw [← hps, ← mkS_size l]; exact splitB_size _ _ _
  clear hps hT hE hpl
  go_enter Tryz.func44, Tryz.ntmps44
  go_wp2_with fail
  refine HSP.out.mono ?_
  rintro e w1 ⟨rfl, hw1⟩
  have t1 : Touch w w1 (fun _ => False) := hw1 ▸ (Touch.refl w _).alloc _
  have g1 : w1.heap[w.heap.size]? = some (.cells (ps.map Value.string).toArray 9 (0, 0)) := hw1 ▸ heap_alloc_new ..
  have HG1 := Lib.hid g1
  have HT1 := Lib.hid t1
  clear t1 g1 hw1
  go_wp2_with fail
  go_loopw [4, 12] (fun a i wr => ∃ (k acc : Nat), k ≤ ps.length ∧ i = .int .i64 k ∧ a = .int .u32 (acc : Nat) ∧ acc < 4294967296 ∧ foldA 0 ps = foldA acc (ps.drop k) ∧ Touch w1 wr (fun _ => False)) (fun _ i _ => ps.length - (intOf i).toNat)
  case atStart => exact ⟨0, 0, by omega, rfl, rfl, by decide, by simp, Touch.refl _ _⟩
  case round =>
    obtain ⟨k, acc, hk, rfl, rfl, hacc, hf, ht⟩ := hrel
    have HF := Lib.hid hf
    have HT2 := Lib.hid ht
    clear hf ht
    by_cases hlt : k < ps.length
    case pos =>
      have hp := hPZ ps[k] (List.getElem_mem hlt)
      have hc : wr.cell? ⟨w.heap.size, k, none⟩ = some (.string ps[k]) := by
        rw [cell_of_cells (HT2.out.keeps HG1.out (fun h => h)) k]; simp [hlt]
      have HD : RowKit.Hid (ps.drop k = ps[k] :: ps.drop (k + 1)) := Lib.hid (List.drop_eq_getElem_cons hlt)
      generalize ps[k] = p at *
      obtain ⟨q, rfl⟩ : ∃ q, p = mkS q := ⟨p.data.toList, (mkS_of p).symm⟩
      rw [mkS_size] at hp
      have hkI : (k : Int) < ps.length := by omega
      obtain ⟨o, ho⟩ : ∃ o, puV q = o := ⟨_, rfl⟩
      have HEE := Lib.hid ((HER.out.touch HT1.out).touch HT2.out)
      cases o with
      | none =>
        have HPU := Lib.hid (pu_bad q wr (by omega) ho HEE.out)
        have HZ : RowKit.Hid (foldA 0 ps = none) := Lib.hid (by rw [HF.out, HD.out]; unfold foldA; rw [mkS_data, ho])
        go_wp2_with (go_at_call 62; (with_reducible refine HPU.out.mono ?_); rintro e w3 ⟨n, N, rfl, t3⟩)
        go_ret2
        have e1 : paV l = 0 ∧ paB l = false := by unfold paV paB paO; rw [HPS.out, HZ.out]; exact ⟨rfl, rfl⟩
        exact ⟨by rw [e1.1, e1.2]; rfl, (HT1.out.trans HT2.out (fun _ _ h => h)).trans t3 (fun _ _ h => h)⟩
      | some u =>
        have HPU := Lib.hid (pu_ok q u wr (by omega) ho)
        have hu := puV_lt ho
        have HZ : RowKit.Hid (foldA 0 ps = foldA (acc * 256 % 4294967296 + u) (ps.drop (k + 1))) := Lib.hid (by rw [HF.out, HD.out]; conv => lhs; unfold foldA; rw [mkS_data, ho])
        clear ho
        go_wp2_with (go_at_call 62; (with_reducible refine HPU.out.mono ?_); rintro e w3 ⟨rfl, t3⟩)
        have ho : bits BinOp.or IntKind.u32 ((acc : Int) * 256 % 4294967296) (u : Int) = ((acc * 256 % 4294967296 + u : Nat) : Int) := by
          rw [or_u32 _ _ 8 (by omega) (by omega) (by omega) (by omega) (by omega) (by omega)]; omega
        rw [ho]
        exact ⟨⟨k + 1, acc * 256 % 4294967296 + u, by omega, by go_num, rfl, by omega, HZ.out, HT2.out.trans t3 (fun _ _ h => h)⟩, by simp [intOf]; omega⟩
    case neg =>
      obtain rfl : k = ps.length := by omega
      have hlt' : ¬ ((ps.length : Nat) : Int) < ps.length := by omega
      have HZ : RowKit.Hid (foldA 0 ps = some acc) := Lib.hid (by rw [HF.out, List.drop_length]; rfl)
      have HA := Lib.hid (addr_any acc wr (by omega) (by omega) ((HTB.out.touch HT1.out).touch HT2.out))
      by_cases he : addrL acc = l
      case pos =>
        have hss : mkS (addrL acc) = mkS l := by rw [he]
        have e1 : paV l = acc ∧ paB l = true := by unfold paV paB paO; rw [HPS.out, HZ.out]; simp [he]
        rw [hss] at HA
        clear he hss
        go_wp2_with (go_at_call 38; (with_reducible refine HA.out.mono ?_); rintro e w3 ⟨rfl, t3⟩)
        go_ret2
        exact ⟨by rw [e1.1, e1.2]; rfl, (HT1.out.trans HT2.out (fun _ _ h => h)).trans t3 (fun _ _ h => h)⟩
      case neg =>
        have hss : ((mkS (addrL acc)).toList == (mkS l).toList) = false := beq_eq_false_iff_ne.2 (fun e => he (mkS_inj (by rw [Lib.toList_data, Lib.toList_data] at e; exact ByteArray.ext (Array.ext' e))))
        have e1 : paV l = 0 ∧ paB l = false := by unfold paV paB paO; rw [HPS.out, HZ.out]; simp [he]
        generalize mkS (addrL acc) = sa at *
        clear he
        go_wp2_with (go_at_call 38; (with_reducible refine HA.out.mono ?_); rintro e w3 ⟨rfl, t3⟩)
        go_ret2
        exact ⟨by rw [e1.1, e1.2]; rfl, (HT1.out.trans HT2.out (fun _ _ h => h)).trans t3 (fun _ _ h => h)⟩

def numberL (l : List UInt8) : Int := if l = [116, 99, 112] then 6 else if l = [117, 100, 112] then 17 else 0
theorem mkS_ne {a b : List UInt8} (h : a ≠ b) : ((mkS a).toList == (mkS b).toList) = false :=
  beq_eq_false_iff_ne.2 (fun e => h (mkS_inj (by rw [Lib.toList_data, Lib.toList_data] at e; exact ByteArray.ext (Array.ext' e))))
theorem mkS_toList (l : List UInt8) : (mkS l).toList = l := by rw [Lib.toList_data, mkS_data]
theorem cut_len (l : List UInt8) (c : UInt8) : (cutL l c).1.length ≤ l.length ∧ (cutL l c).2.length ≤ l.length := by
  unfold cutL Lib.cut
  split
  · exact ⟨by rw [List.length_take]; omega, by rw [List.length_drop]; omega⟩
  · exact ⟨Nat.le_refl _, by simp⟩
/-- The tuple that a text might be; is it that? -/
def parseT (l : List UInt8) : TupD :=
  let a := cutL l 32; let b := cutL a.2 62; let c := cutL b.1 58; let d := cutL b.2 58
  ⟨paV c.1, paV d.1, numberL a.1, atV c.2, atV d.2⟩
def parseB (l : List UInt8) : Bool := mayTB (parseT l) && decide (textL (parseT l) = l)
def parseR (l : List UInt8) : TupD := if parseB l = true then parseT l else noT
theorem numberL_cases (l : List UInt8) : numberL l = 6 ∨ numberL l = 17 ∨ numberL l = 0 := by
  unfold numberL; split
  · exact .inl rfl
  · split
    · exact .inr (.inl rfl)
    · exact .inr (.inr rfl)
theorem parseT_ok (l : List UInt8) : TupOk (parseT l) := by
  refine ⟨?_, ?_, ?_, ?_, ?_⟩
  · have := paV_lt (cutL (cutL (cutL l 32).2 62).1 58).1; exact ⟨by simp [parseT], by simp only [parseT]; omega⟩
  · have := paV_lt (cutL (cutL (cutL l 32).2 62).2 58).1; exact ⟨by simp [parseT], by simp only [parseT]; omega⟩
  · rcases numberL_cases (cutL l 32).1 with h | h | h <;> (simp only [parseT, i64, h]; omega)
  · exact atV_bounds _
  · exact atV_bounds _
end Go.Proofs.YtgpchkobjgglhaaGreatDoor
