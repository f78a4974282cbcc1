/- What ParseAddr and Parse tell of a text. -/
import Derived.Test.YthliikkllagodaaDoorStrCallsZ
import Derived.Test.YthliikkllagodaaDoorGCZ
import Derived.Test.YthliikkllagodaaDoorBitsZ
import Derived.Deep.DeepCutAuto
set_option linter.unusedVariables false
namespace Go.Proofs.YthliikkllagodaaDoor
open Go.RowKit

/-- The parts of an address, one behind the other. -/
def foldA (acc : Nat) : List ByteArray → Option Nat
  | [] => some acc
  | p :: r => match puV p.data.toList with | some u => foldA (acc * 256 % 4294967296 + u) r | none => none
def paO (l : List UInt8) : Option Nat := match foldA 0 (partsOf l 46) with | some a => if addrL a = l then some a else none | none => none
def paV (l : List UInt8) : Nat := (paO l).getD 0
def paB (l : List UInt8) : Bool := (paO l).isSome
theorem puV_lt {l : List UInt8} {u : Nat} (h : puV l = some u) : u < 256 := by
  unfold puV at h
  cases hp : Lib.parseUintB 8 l with
  | ok v => rw [hp] at h; simp at h; subst h; have := Lib.parseUintB_le hp; omega
  | «syntax» => rw [hp] at h; cases h
  | range => rw [hp] at h; cases h
theorem foldA_lt : ∀ (l : List ByteArray) (acc a : Nat), acc < 4294967296 → foldA acc l = some a → a < 4294967296
  | [], acc, a, h, e => by simp [foldA] at e; omega
  | p :: r, acc, a, h, e => by
    unfold foldA at e
    cases hp : puV p.data.toList with
    | none => rw [hp] at e; cases e
    | some u => rw [hp] at e; have := puV_lt hp; exact foldA_lt r _ a (by omega) e
theorem paV_lt (l : List UInt8) : paV l < 4294967296 := by
  unfold paV paO
  cases h : foldA 0 (partsOf l 46) with
  | none => show (0 : Nat) < 4294967296; decide
  | some a =>
    have := foldA_lt _ 0 a (by decide) h
    by_cases e : addrL a = l <;> simp [e]; exact this

theorem or_u32 (x y : Int) (i : Nat) (h0 : 0 ≤ x) (hx : x % 2 ^ i = 0) (h1 : x < 4294967296) (hy : 0 ≤ y) (hy1 : y < 2 ^ i) (hy2 : y < 4294967296) : bits BinOp.or IntKind.u32 x y = x + y :=
  bits_join .u32 32 (by decide) (fun n h0 h1 => by simp [IntKind.wrap, IntKind.bits, IntKind.signed]; omega) i x y h0 hx (by omega) hy hy1 (by omega)
theorem splitB_size (sep : ByteArray) : ∀ (k : Nat) (s : ByteArray), ∀ p ∈ Lib.splitB sep 0 k s, p.size ≤ s.size
  | 0, s, p, hp => by rw [Lib.splitB_zero] at hp; obtain rfl := List.mem_singleton.1 hp; exact Nat.le_refl _
  | k + 1, s, p, hp => by
    unfold Lib.splitB at hp
    split at hp
    · obtain rfl := List.mem_singleton.1 hp; exact Nat.le_refl _
    · rcases List.mem_cons.1 hp with rfl | h
      · rw [ByteArray.size_extract]; omega
      · have := splitB_size sep k _ p h
        rw [ByteArray.size_extract] at this; omega

set_option maxRecDepth 20000 in
set_option maxHeartbeats 4000000 in
theorem parseAddr_any (l : List UInt8) (w : World) (hl : l.length < 4294967281) (hT : TabW w) (hE : ErrW w) (hM : MaxW w) :
    Calls Tryd.prog 28 #[.string (mkS l)] w fun e w' => e = .returned (.tuple #[.int .u32 (paV l : Nat), .bool (paB l)]) ∧ Touch w w' (fun _ => False) := by
  have HSP := Lib.hid (split_call l 46 w hl hM)
  have HTB := Lib.hid hT
  have HER := Lib.hid hE
  obtain ⟨ps, hps⟩ : ∃ x, partsOf l 46 = x := ⟨_, rfl⟩
  have HPS := Lib.hid hps
  rw [hps] at HSP
  have hpl : ps.length ≤ l.length + 1 := by
    rw [← hps, partsOf_len]
    have := Lib.countB_le (mkS [46]) (by simp [mkS_size]) _ (mkS l) (Nat.le_refl _)
    rw [mkS_size] at this; omega
  have hpl2 : ps.length ≤ 4294967281 := by omega
  have hPZ : ∀ p ∈ ps, p.size ≤ l.length := by rw [← hps, ← mkS_size l]; exact splitB_size _ _ _
  clear hps hT hE hpl
  go_enter Tryd.func28, Tryd.ntmps28
  go_wp2_with fail
  refine HSP.out.mono ?_
  rintro e w1 ⟨rfl, hw1⟩
  have t1 : Touch w w1 (fun _ => False) := hw1 ▸ (Touch.refl w _).alloc _
  have g1 : w1.heap[w.heap.size]? = some (.cells (ps.map Value.string).toArray 9 (0, 0)) := hw1 ▸ heap_alloc_new ..
  have HG1 := Lib.hid g1
  have HT1 := Lib.hid t1
  clear t1 g1 hw1
  go_wp2_with fail
  go_loopw [4, 12] (fun a i wr => ∃ (k acc : Nat), k ≤ ps.length ∧ i = .int .i64 k ∧ a = .int .u32 (acc : Nat) ∧ acc < 4294967296 ∧ foldA 0 ps = foldA acc (ps.drop k) ∧ Touch w1 wr (fun _ => False)) (fun _ i _ => ps.length - (intOf i).toNat)
  case atStart => exact ⟨0, 0, by omega, rfl, rfl, by decide, by simp, Touch.refl _ _⟩
  case round =>
    obtain ⟨k, acc, hk, rfl, rfl, hacc, hf, ht⟩ := hrel
    have HF := Lib.hid hf
    have HT2 := Lib.hid ht
    clear hf ht
    by_cases hlt : k < ps.length
    case pos =>
      have hp := hPZ ps[k] (List.getElem_mem hlt)
      have hc : wr.cell? ⟨w.heap.size, k, none⟩ = some (.string ps[k]) := by
        rw [cell_of_cells (HT2.out.keeps HG1.out (fun h => h)) k]; simp [hlt]
      have HD : RowKit.Hid (ps.drop k = ps[k] :: ps.drop (k + 1)) := Lib.hid (List.drop_eq_getElem_cons hlt)
      generalize ps[k] = p at *
      obtain ⟨q, rfl⟩ : ∃ q, p = mkS q := ⟨p.data.toList, (mkS_of p).symm⟩
      rw [mkS_size] at hp
      have hkI : (k : Int) < ps.length := by omega
      obtain ⟨o, ho⟩ : ∃ o, puV q = o := ⟨_, rfl⟩
      have HEE := Lib.hid ((HER.out.touch HT1.out).touch HT2.out)
      cases o with
      | none =>
        have HPU := Lib.hid (pu_bad q wr (by omega) ho HEE.out)
        have HZ : RowKit.Hid (foldA 0 ps = none) := Lib.hid (by rw [HF.out, HD.out]; unfold foldA; rw [mkS_data, ho])
        go_wp2_with (go_at_call 73; (with_reducible refine HPU.out.mono ?_); rintro e w3 ⟨n, N, rfl, t3⟩)
        go_ret2
        have e1 : paV l = 0 ∧ paB l = false := by unfold paV paB paO; rw [HPS.out, HZ.out]; exact ⟨rfl, rfl⟩
        exact ⟨by rw [e1.1, e1.2]; rfl, (HT1.out.trans HT2.out (fun _ _ h => h)).trans t3 (fun _ _ h => h)⟩
      | some u =>
        have HPU := Lib.hid (pu_ok q u wr (by omega) ho)
        have hu := puV_lt ho
        have HZ : RowKit.Hid (foldA 0 ps = foldA (acc * 256 % 4294967296 + u) (ps.drop (k + 1))) := Lib.hid (by rw [HF.out, HD.out]; conv => lhs; unfold foldA; rw [mkS_data, ho])
        clear ho
        go_wp2_with (go_at_call 73; (with_reducible refine HPU.out.mono ?_); rintro e w3 ⟨rfl, t3⟩)
        have ho : bits BinOp.or IntKind.u32 ((acc : Int) * 256 % 4294967296) (u : Int) = ((acc * 256 % 4294967296 + u : Nat) : Int) := by
          rw [or_u32 _ _ 8 (by omega) (by omega) (by omega) (by omega) (by omega) (by omega)]; omega
        rw [ho]
        exact ⟨⟨k + 1, acc * 256 % 4294967296 + u, by omega, by go_num, rfl, by omega, HZ.out, HT2.out.trans t3 (fun _ _ h => h)⟩, by simp [intOf]; omega⟩
    case neg =>
      obtain rfl : k = ps.length := by omega
      have hlt' : ¬ ((ps.length : Nat) : Int) < ps.length := by omega
      have HZ : RowKit.Hid (foldA 0 ps = some acc) := Lib.hid (by rw [HF.out, List.drop_length]; rfl)
      have HA := Lib.hid (addr_any acc wr (by omega) (by omega) ((HTB.out.touch HT1.out).touch HT2.out))
      by_cases he : addrL acc = l
      case pos =>
        have hss : mkS (addrL acc) = mkS l := by rw [he]
        have e1 : paV l = acc ∧ paB l = true := by unfold paV paB paO; rw [HPS.out, HZ.out]; simp [he]
        rw [hss] at HA
        clear he hss
        go_wp2_with (go_at_call 29; (with_reducible refine HA.out.mono ?_); rintro e w3 ⟨rfl, t3⟩)
        go_ret2
        exact ⟨by rw [e1.1, e1.2]; rfl, (HT1.out.trans HT2.out (fun _ _ h => h)).trans t3 (fun _ _ h => h)⟩
      case neg =>
        have hss : ((mkS (addrL acc)).toList == (mkS l).toList) = false := beq_eq_false_iff_ne.2 (fun e => he (mkS_inj (by rw [Lib.toList_data, Lib.toList_data] at e; exact ByteArray.ext (Array.ext' e))))
        have e1 : paV l = 0 ∧ paB l = false := by unfold paV paB paO; rw [HPS.out, HZ.out]; simp [he]
        generalize mkS (addrL acc) = sa at *
        clear he
        go_wp2_with (go_at_call 29; (with_reducible refine HA.out.mono ?_); rintro e w3 ⟨rfl, t3⟩)
        go_ret2
        exact ⟨by rw [e1.1, e1.2]; rfl, (HT1.out.trans HT2.out (fun _ _ h => h)).trans t3 (fun _ _ h => h)⟩

theorem infoTup5 : (Tryd.prog.info? 47).map (·.size) = some 5 := by kernel_rfl
def numberL (l : List UInt8) : Int := if l = [116, 99, 112] then 6 else if l = [117, 100, 112] then 17 else 0
theorem mkS_ne {a b : List UInt8} (h : a ≠ b) : ((mkS a).toList == (mkS b).toList) = false :=
  beq_eq_false_iff_ne.2 (fun e => h (mkS_inj (by rw [Lib.toList_data, Lib.toList_data] at e; exact ByteArray.ext (Array.ext' e))))
theorem mkS_toList (l : List UInt8) : (mkS l).toList = l := by rw [Lib.toList_data, mkS_data]
theorem tnumber_any (l : List UInt8) (w : World) :
    Calls Tryd.prog 77 #[.string (mkS l)] w fun e w' => e = .returned (.int .i64 (numberL l)) ∧ w = w' := by
  have ht := mkS_toList l
  by_cases h1 : l = [116, 99, 112]
  · have HN : RowKit.Hid (numberL l = 6) := Lib.hid (by unfold numberL; rw [if_pos h1])
    have b1 : ((mkS l).toList == [116, 99, 112]) = true := by rw [ht, h1]; rfl
    rw [HN.out]
    generalize mkS l = s at *
    clear h1 ht
    go_enter Tryd.func77, Tryd.ntmps77
    go_wp2_with fail
    go_ret
    exact ⟨rfl, rfl⟩
  have b1 : ((mkS l).toList == [116, 99, 112]) = false := by rw [ht]; exact beq_eq_false_iff_ne.2 h1
  by_cases h2 : l = [117, 100, 112]
  · have HN : RowKit.Hid (numberL l = 17) := Lib.hid (by unfold numberL; rw [if_neg h1, if_pos h2])
    have b2 : ((mkS l).toList == [117, 100, 112]) = true := by rw [ht, h2]; rfl
    rw [HN.out]
    generalize mkS l = s at *
    clear h1 h2 ht
    go_enter Tryd.func77, Tryd.ntmps77
    go_wp2_with fail
    go_ret
    exact ⟨rfl, rfl⟩
  have b2 : ((mkS l).toList == [117, 100, 112]) = false := by rw [ht]; exact beq_eq_false_iff_ne.2 h2
  have HN : RowKit.Hid (numberL l = 0) := Lib.hid (by unfold numberL; rw [if_neg h1, if_neg h2])
  rw [HN.out]
  generalize mkS l = s at *
  clear h1 h2 ht
  go_enter Tryd.func77, Tryd.ntmps77
  go_wp2_with fail
  go_ret
  exact ⟨rfl, rfl⟩

theorem cut_len (l : List UInt8) (c : UInt8) : (cutL l c).1.length ≤ l.length ∧ (cutL l c).2.length ≤ l.length := by
  unfold cutL Lib.cut
  split
  · exact ⟨by rw [List.length_take]; omega, by rw [List.length_drop]; omega⟩
  · exact ⟨Nat.le_refl _, by simp⟩
set_option maxRecDepth 20000 in
set_option maxHeartbeats 4000000 in
theorem parseEnd_any (l : List UInt8) (w : World) (hl : l.length < 4294967281) (hT : TabW w) (hE : ErrW w) (hM : MaxW w) :
    Calls Tryd.prog 78 #[.string (mkS l)] w fun e w' => e = .returned (.tuple #[.int .u32 (paV (cutL l 58).1 : Nat), .int .i64 (atV (cutL l 58).2)]) ∧ Touch w w' (fun _ => False) := by
  have hcl := cut_len l 58
  have HCU := Lib.hid (cut_call l 58 w hl hM)
  have HPA : RowKit.Hid (∀ W, Touch w W (fun _ => False) → Calls Tryd.prog 28 #[.string (mkS (cutL l 58).1)] W fun e w' => e = .returned (.tuple #[.int .u32 (paV (cutL l 58).1 : Nat), .bool (paB (cutL l 58).1)]) ∧ Touch w w' (fun _ => False)) :=
    Lib.hid (fun W h => (parseAddr_any _ W (by omega) (hT.touch h) (hE.touch h) (hM.touch h)).mono fun e w' k => ⟨k.1, h.trans k.2 (fun _ _ h => h)⟩)
  have HAT : RowKit.Hid (∀ W, Touch w W (fun _ => False) → Calls Tryd.prog 68 #[.string (mkS (cutL l 58).2)] W fun e w' => ∃ v : Value, e = .returned (.tuple #[.int .i64 (atV (cutL l 58).2), v]) ∧ Touch w w' (fun _ => False)) :=
    Lib.hid (fun W h => (at_any _ W (by omega) (hE.touch h)).mono fun e w' ⟨v, k1, k2⟩ => ⟨v, k1, h.trans k2 (fun _ _ h => h)⟩)
  generalize cutL l 58 = q at *
  generalize cutB l 58 = qb at *
  generalize mkS q.1 = s1 at *
  generalize mkS q.2 = s2 at *
  generalize paV q.1 = v1 at *
  generalize paB q.1 = v2 at *
  generalize atV q.2 = v3 at *
  clear hl hT hE hM hcl
  go_enter Tryd.func78, Tryd.ntmps78
  go_wp2_with (first
    | (go_at_call 76; (with_reducible refine HCU.out.mono ?_); rintro e w1 ⟨rfl, t1⟩)
    | (go_at_call 28; (with_reducible refine (HPA.out _ t1).mono ?_); rintro e w2 ⟨rfl, t2⟩)
    | (go_at_call 68; (with_reducible refine (HAT.out _ t2).mono ?_); rintro e w3 ⟨v, rfl, t3⟩))
  go_ret2
  exact ⟨rfl, t3⟩

/-- The tuple that a text might be; is it that? -/
def parseT (l : List UInt8) : TupD :=
  let a := cutL l 32; let b := cutL a.2 62; let c := cutL b.1 58; let d := cutL b.2 58
  ⟨paV c.1, paV d.1, numberL a.1, atV c.2, atV d.2⟩
def parseB (l : List UInt8) : Bool := mayTB (parseT l) && decide (textL (parseT l) = l)
def parseR (l : List UInt8) : TupD := if parseB l = true then parseT l else noT
theorem numberL_cases (l : List UInt8) : numberL l = 6 ∨ numberL l = 17 ∨ numberL l = 0 := by
  unfold numberL; split
  · exact .inl rfl
  · split
    · exact .inr (.inl rfl)
    · exact .inr (.inr rfl)
theorem parseT_ok (l : List UInt8) : TupOk (parseT l) := by
  refine ⟨?_, ?_, ?_, ?_, ?_⟩
  · have := paV_lt (cutL (cutL (cutL l 32).2 62).1 58).1; exact ⟨by simp [parseT], by simp only [parseT]; omega⟩
  · have := paV_lt (cutL (cutL (cutL l 32).2 62).2 58).1; exact ⟨by simp [parseT], by simp only [parseT]; omega⟩
  · rcases numberL_cases (cutL l 32).1 with h | h | h <;> (simp only [parseT, i64, h]; omega)
  · exact atV_bounds _
  · exact atV_bounds _
set_option maxRecDepth 20000 in
set_option maxHeartbeats 4000000 in
theorem parse_any (l : List UInt8) (w : World) (hl : l.length < 4294967281) (hT : TabW w) (hE : ErrW w) (hM : MaxW w) :
    Calls Tryd.prog 32 #[.string (mkS l)] w fun e w' => e = .returned (.tuple #[.agg (tcs (parseR l)), .bool (parseB l)]) ∧ Touch w w' (fun _ => False) := by
  have hc1 := cut_len l 32
  have hc2 := cut_len (cutL l 32).2 62
  have HC1 := Lib.hid (fun W (h : Touch w W (fun _ => False)) => cut_call l 32 W hl (hM.touch h))
  have HC2 : RowKit.Hid (∀ W, Touch w W (fun _ => False) → Calls Tryd.prog 76 #[.string (mkS (cutL l 32).2), .string ⟨#[62]⟩] W fun e w' => e = .returned (.tuple #[.string (mkS (cutL (cutL l 32).2 62).1), .string (mkS (cutL (cutL l 32).2 62).2), .bool (cutB (cutL l 32).2 62)]) ∧ Touch W w' (fun _ => False)) :=
    Lib.hid (fun W h => (cut_call _ 62 W (by omega) (hM.touch h)))
  have HNU := Lib.hid (fun W => tnumber_any (cutL l 32).1 W)
  have HE1 : RowKit.Hid (∀ W, Touch w W (fun _ => False) → Calls Tryd.prog 78 #[.string (mkS (cutL (cutL l 32).2 62).1)] W fun e w' => e = .returned (.tuple #[.int .u32 (parseT l).src, .int .i64 (parseT l).sport]) ∧ Touch W w' (fun _ => False)) :=
    Lib.hid (fun W h => (parseEnd_any _ W (by omega) (hT.touch h) (hE.touch h) (hM.touch h)))
  have HE2 : RowKit.Hid (∀ W, Touch w W (fun _ => False) → Calls Tryd.prog 78 #[.string (mkS (cutL (cutL l 32).2 62).2)] W fun e w' => e = .returned (.tuple #[.int .u32 (parseT l).dst, .int .i64 (parseT l).dport]) ∧ Touch W w' (fun _ => False)) :=
    Lib.hid (fun W h => (parseEnd_any _ W (by omega) (hT.touch h) (hE.touch h) (hM.touch h)))
  have hpr : numberL (cutL l 32).1 = (parseT l).proto := rfl
  have HMA := Lib.hid (fun W => mayT_any (parseT l) W)
  have HTX : RowKit.Hid (∀ W, Touch w W (fun _ => False) → Calls Tryd.prog 33 #[.agg (tcs (parseT l))] W fun e w' => e = .returned (.string (mkS (textL (parseT l)))) ∧ Touch W w' (fun _ => False)) :=
    Lib.hid (fun W h => (text_any _ (parseT_ok l) W (hT.touch h)))
  have HPB : RowKit.Hid (parseB l = (mayTB (parseT l) && decide (textL (parseT l) = l))) := Lib.hid rfl
  have HPR : RowKit.Hid (parseR l = if parseB l = true then parseT l else noT) := Lib.hid rfl
  have HST : RowKit.Hid (((mkS (textL (parseT l))).toList == (mkS l).toList) = decide (textL (parseT l) = l)) := Lib.hid (by
    rw [mkS_toList, mkS_toList]; by_cases h : textL (parseT l) = l <;> simp [h])
  rw [hpr] at HNU
  obtain ⟨mb, hmb⟩ : ∃ x, mayTB (parseT l) = x := ⟨_, rfl⟩
  obtain ⟨db, hdb⟩ : ∃ x, decide (textL (parseT l) = l) = x := ⟨_, rfl⟩
  rw [hmb] at HMA HPB
  rw [hdb] at HPB HST
  generalize mkS (textL (parseT l)) = st at *
  generalize parseB l = pb at *
  generalize parseR l = pr at *
  generalize parseT l = pt at *
  generalize mkS (cutL (cutL l 32).2 62).1 = s1 at *
  generalize mkS (cutL (cutL l 32).2 62).2 = s2 at *
  generalize mkS (cutL l 32).1 = s3 at *
  generalize mkS (cutL l 32).2 = s4 at *
  generalize cutB (cutL l 32).2 62 = b1 at *
  generalize cutB l 32 = b2 at *
  generalize mkS l = s at *
  obtain ⟨x1, x2, x3, x4, x5⟩ := pt
  simp only at HE1 HE2 HNU
  simp only [tcs] at HMA HTX
  clear hl hT hE hM hc1 hc2 hpr hmb hdb
  obtain ⟨W1, hW1⟩ : ∃ W, w.alloc (.cells #[.int .u32 0, .int .u32 0, .int .i64 0, .int .i64 0, .int .i64 0] 47) = W := ⟨_, rfl⟩
  have T1 : RowKit.Hid (Touch w W1 (fun _ => False)) := Lib.hid (hW1 ▸ (Touch.refl w _).alloc _)
  have HZ : RowKit.Hid (W1.heap[w.heap.size]? = some (.cells #[.int .u32 0, .int .u32 0, .int .i64 0, .int .i64 0, .int .i64 0] 47 (0, 0))) := Lib.hid (hW1 ▸ heap_alloc_new ..)
  have HW1 := Lib.hid hW1
  clear hW1
  cases mb <;> cases db
  all_goals
    have HS := HST.out
    go_enter Tryd.func32, Tryd.ntmps32
    go_upto_region 1 with (fail)
    rw [HW1.out]
    go_wp2_with (first
      | (go_at_call 76; (with_reducible refine (HC1.out _ T1.out).mono ?_); rintro e w2 ⟨rfl, t2⟩; have T2 := Lib.hid (T1.out.trans t2 (fun _ _ h => h)); have HZ2 := Lib.hid (t2.keeps HZ.out (fun h => h)); clear t2)
      | (go_at_call 76; (with_reducible refine (HC2.out _ T2.out).mono ?_); rintro e w3 ⟨rfl, t3⟩; have T3 := Lib.hid (T2.out.trans t3 (fun _ _ h => h)); have HZ3 := Lib.hid (t3.keeps HZ2.out (fun h => h)); clear t3)
      | (go_at_call 77; (with_reducible refine (HNU.out _).mono ?_); rintro e w9 ⟨rfl, rfl⟩)
      | (go_at_call 78; (with_reducible refine (HE1.out _ (T3.out.alloc _)).mono ?_); rintro e w4 ⟨rfl, t4⟩; have HZ4 := Lib.hid (t4.keeps (((Touch.refl w3 (fun _ => False)).alloc _).keeps HZ3.out (fun h => h)) (fun h => h)); have HB4 := Lib.hid (t4.keeps (heap_alloc_new w3 _) (fun h => h)); have T4 := Lib.hid ((T3.out.alloc _).trans t4 (fun _ _ h => h)); clear t4; have b0 := cell_of_cells HB4.out 0; have b3 := cell_of_cells HB4.out 3; have f0 := free_of_cells HB4.out 0; have f3 := free_of_cells HB4.out 3))
    have hB : w.heap.size < w3.heap.size := by have := T1.out.size; have := T3.out.size; have := heap_lt HZ3.out; omega
    have g5 := heap_setCell_same _ w3.heap.size 3 _ _ (.int .i64 x4) (heap_setCell_same w4 w3.heap.size 0 _ _ (.int .u32 x1) HB4.out)
    have t5 := ((Touch.refl w4 (fun k => k = w3.heap.size)).setCell ⟨w3.heap.size, 0, none⟩ (.int .u32 x1) (fun _ => rfl)).setCell ⟨w3.heap.size, 3, none⟩ (.int .i64 x4) (fun _ => rfl)
    obtain ⟨W5, hW5⟩ : ∃ W, (w4.setCell ⟨w3.heap.size, 0, none⟩ (.int .u32 x1)).setCell ⟨w3.heap.size, 3, none⟩ (.int .i64 x4) = W := ⟨_, rfl⟩
    rw [hW5] at g5 t5 ⊢
    have T5 := Lib.hid (T4.out.trans t5 (fun k h1 h2 => by have e : k = w3.heap.size := h2; omega))
    have HZ5 := Lib.hid (t5.keeps HZ4.out (fun e => by have e' : w.heap.size = w3.heap.size := e; omega))
    have HG5 := Lib.hid g5
    clear t5 g5 hW5 HB4 HZ4 T4 b0 b3 f0 f3
    refine (HE2.out W5 T5.out).mono ?_
    rintro e w6 ⟨rfl, t6⟩
    have T6 := Lib.hid (T5.out.trans t6 (fun _ _ h => h))
    have HZ6 := Lib.hid (t6.keeps HZ5.out (fun h => h))
    have HG6 := Lib.hid (t6.keeps HG5.out (fun h => h))
    have b1 := cell_of_cells HG6.out 1
    have b4 := cell_of_cells HG6.out 4
    have f1 := free_of_cells HG6.out 1
    have f4 := free_of_cells HG6.out 4
    have b0 := cell_of_cells HG6.out 0
    have b2 := cell_of_cells HG6.out 2
    have b3 := cell_of_cells HG6.out 3
    clear t6 HZ5 T5 HG5
    go_wp2_with fail
    have g7 := heap_setCell_same _ w3.heap.size 4 _ _ (.int .i64 x5) (heap_setCell_same w6 w3.heap.size 1 _ _ (.int .u32 x2) HG6.out)
    have t7 := ((Touch.refl w6 (fun k => k = w3.heap.size)).setCell ⟨w3.heap.size, 1, none⟩ (.int .u32 x2) (fun _ => rfl)).setCell ⟨w3.heap.size, 4, none⟩ (.int .i64 x5) (fun _ => rfl)
    obtain ⟨W7, hW7⟩ : ∃ W, (w6.setCell ⟨w3.heap.size, 1, none⟩ (.int .u32 x2)).setCell ⟨w3.heap.size, 4, none⟩ (.int .i64 x5) = W := ⟨_, rfl⟩
    rw [hW7] at g7 t7 ⊢
    have T7 := Lib.hid (T6.out.trans t7 (fun k h1 h2 => by have e : k = w3.heap.size := h2; omega))
    have HZ7 := Lib.hid (t7.keeps HZ6.out (fun e => by have e' : w.heap.size = w3.heap.size := e; omega))
    have HG7 : RowKit.Hid (W7.heap[w3.heap.size]? = some (.cells #[.int .u32 x1, .int .u32 x2, .int .i64 x3, .int .i64 x4, .int .i64 x5] 47 (0, 0))) := Lib.hid g7
    clear t7 g7 hW7 HG6 HZ6 T6 b0 b1 b2 b3 b4 f1 f4
    refine (HMA.out W7).mono ?_
    rintro e w8 ⟨rfl, t8⟩
    have T8 := Lib.hid (T7.out.trans t8 (fun _ _ h => h))
    have HZ8 := Lib.hid (t8.keeps HZ7.out (fun h => h))
    have HG8 := Lib.hid (t8.keeps HG7.out (fun h => h))
    clear t8 HZ7 T7 HG7
    have HIT := Lib.hid infoTup5
    have c0 := cell_of_cells HG8.out 0
    have c1 := cell_of_cells HG8.out 1
    have c2 := cell_of_cells HG8.out 2
    have c3 := cell_of_cells HG8.out 3
    have c4 := cell_of_cells HG8.out 4
    go_wp2_with (first
      | (refine store_row rfl 47 (.tmp 2) (.tmp 49) rfl w.heap.size _ rfl rfl _ _ HZ8.out HIT.out rfl rfl ?_)
      | (go_at_call 33; (with_reducible refine (HTX.out _ T8.out).mono ?_); rintro e w9 ⟨rfl, t9⟩; have T8 := Lib.hid (T8.out.trans t9 (fun _ _ h => h)); have HZ8 := Lib.hid (t9.keeps HZ8.out (fun h => h)); have HG8 := Lib.hid (t9.keeps HG8.out (fun h => h)); clear t9; have c0 := cell_of_cells HG8.out 0; have c1 := cell_of_cells HG8.out 1; have c2 := cell_of_cells HG8.out 2; have c3 := cell_of_cells HG8.out 3; have c4 := cell_of_cells HG8.out 4)
      | (refine store_row rfl 47 (.tmp 2) (.tmp 50) rfl w.heap.size _ rfl rfl _ _ HZ8.out HIT.out rfl rfl ?_))
  all_goals
    have hpb := HPB.out
    simp only [Bool.and_true, Bool.and_false] at hpb
    have hpr := HPR.out
    rw [hpb] at hpr
    simp only [Bool.false_eq_true, if_false, if_true] at hpr
    rw [hpb, hpr]
    refine ret_row1 rfl rfl w.heap.size 47 _ (0, 0) _ rfl (setRow_heap _ _ _ _ _ _ HZ8.out) Tryd.underlying47 rfl infoTup5 _ rfl ?_
    exact ⟨rfl, T8.out.setRow _ _ (fun h => absurd h (Nat.lt_irrefl _))⟩
end Go.Proofs.YthliikkllagodaaDoor
