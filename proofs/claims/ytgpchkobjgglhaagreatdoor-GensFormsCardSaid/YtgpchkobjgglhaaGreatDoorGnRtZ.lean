/- The reference's text of a set of backends. -/
import Derived.Test.YtgpchkobjgglhaaGreatDoorGnRaZ
import Derived.Test.YtgpchkobjgglhaaGreatDoorGnRwZ
import Derived.Test.YtgpchkobjgglhaaGreatDoorHAZ
import Derived.Deep.DeepCutAuto
set_option linter.unusedVariables false
set_option linter.unusedSimpArgs false
namespace Go.Proofs.YtgpchkobjgglhaaGreatDoor
open Go.RowKit

theorem enter_itoaR (a : Value) (w : World) : (callFunc 37 #[a]).run Tryz.prog w = .ok (.enter 37 #[a]) w := by kernel_rfl
theorem enter_raddrR (a : Value) (w : World) : (callFunc 40 #[a]).run Tryz.prog w = .ok (.enter 40 #[a]) w := by kernel_rfl
theorem catB_run (a b : ByteArray) (h : a.size + b.size ≤ 1000000) (x y : Operand) (W : World) :
    (do eqGuard BinOp.add 9 x y (.string a) (.string b); binOp BinOp.add 9 (.string a) (.string b) : Sem Value).run Tryz.prog W = .ok (.string (a ++ b)) W := by
  have h2 : a.size + b.size ≤ 9223372036854775807 := by omega
  go_simp
def bpf (bs : List BkD) (k : Nat) : List UInt8 := Lib.join ((bs.take k).map bkL) [44]
theorem joinTail_snoc (sep : List UInt8) (x : List UInt8) : ∀ L : List (List UInt8), Lib.joinTail sep (L ++ [x]) = Lib.joinTail sep L ++ sep ++ x := by
  intro L
  induction L with
  | nil => simp [Lib.joinTail]
  | cons y L ih => simp [Lib.joinTail, ih]
theorem bpf_0 (bs : List BkD) : bpf bs 0 = [] := by simp [bpf, Lib.join]
theorem bpf_1 {bs : List BkD} (h : 0 < bs.length) : bpf bs 1 = bkL bs[0] := by
  unfold bpf
  rw [List.take_succ_eq_append_getElem h]
  simp [Lib.join_cons, Lib.joinTail]
theorem bpf_next {bs : List BkD} {k : Nat} (h : k + 1 < bs.length) : bpf bs (k + 1 + 1) = bpf bs (k + 1) ++ [44] ++ bkL bs[k + 1] := by
  unfold bpf
  rw [List.take_succ_eq_append_getElem h, List.map_append]
  cases bs with
  | nil => simp at h
  | cons y r => simp [Lib.join_cons, joinTail_snoc]
theorem bpf_len {bs : List BkD} (ok : ∀ b ∈ bs, BkOk b) (k : Nat) : (bpf bs k).length ≤ 1 + 132 * k := by
  have h := bksL_len (bs.take k) (fun b hb => ok b (List.mem_of_mem_take hb))
  have hl : (bs.take k).length ≤ k := by rw [List.length_take]; omega
  unfold bksL at h
  unfold bpf
  by_cases he : bs.take k = []
  · rw [he]; simp [Lib.join]
  · rw [if_neg he] at h; omega
set_option maxRecDepth 20000 in
set_option maxHeartbeats 8000000 in
theorem rbtext_any (a : Option Addr) (len cap : Nat) (bs : List BkD) (w : World) (hr : RowK w a len cap bs) (hok : ∀ b ∈ bs, BkOk b) (hlen : len ≤ 1000) (hT : TabW w) :
    Calls Tryz.prog 21 #[.slice a len cap] w fun e w' => e = .returned (.string (mkS (bksL bs))) ∧ Touch w w' (fun _ => False) := by
  have hl := hr.len
  by_cases h0 : len = 0
  · subst h0
    have hb : bs = [] := List.eq_nil_of_length_eq_zero hl
    subst hb
    clear hr hok
    go_enter Tryz.func21, Tryz.ntmps21
    go_wp2
    go_ret
    exact ⟨rfl, Touch.refl _ _⟩
  have hcap := hr.hmax
  have hcap1 := hr.hcap
  have HR := Lib.hid hr
  have HL := Lib.hid hl
  have HOK := Lib.hid hok
  have HT0 := Lib.hid hT
  have hz0 : ((len : Int) == 0) = false := by simpa using h0
  clear hr hok hl hT
  go_enter Tryz.func21, Tryz.ntmps21
  go_wp2_with fail
  go_loopw [3, 11] (fun s3 s11 wr => ∃ k : Nat, k ≤ len ∧ s11 = .int .i64 k ∧ s3 = .string (mkS (bpf bs k)) ∧ Touch w wr (fun _ => False)) (fun _ s11 _ => len - (RowKit.intOf s11).toNat)
  case atStart => exact ⟨0, Nat.zero_le _, rfl, by rw [bpf_0]; rfl, Touch.refl _ _⟩
  case round =>
    obtain ⟨k, hk, rfl, rfl, ht⟩ := hrel
    have HT := Lib.hid ht
    clear ht
    by_cases hlt : k < len
    case neg =>
      obtain rfl : len = k := by omega
      have hlt' : ¬ (len : Int) < len := by omega
      have HE : RowKit.Hid (bpf bs len = bksL bs) := Lib.hid (by unfold bpf bksL; rw [if_neg (fun h => h0 (by rw [← HL.out, h]; rfl)), ← HL.out, List.take_length])
      go_wp2_with fail
      go_ret
      exact ⟨by rw [HE.out]; rfl, HT.out⟩
    case pos =>
    have hr := HR.out.still HT.out
    obtain ⟨b, off, rfl⟩ := hr.some (by omega)
    have hk1 : k < bs.length := by rw [HL.out]; exact hlt
    obtain ⟨c0, c1, c2⟩ := hr.cells k hk1
    have HF := Lib.hid (HOK.out _ (List.getElem_mem hk1))
    have hlI : (k : Int) < len := by omega
    have hp := bpf_len HOK.out k
    rw [← mkS_size] at hp
    have HNX : RowKit.Hid (mkS (bpf bs (k + 1)) = mkS (bpf bs k) ++ (if k = 0 then mkS [] else mkS [44]) ++ mkS (bkL bs[k])) := Lib.hid (by
      cases k with
      | zero => rw [if_pos rfl, bpf_0, bpf_1 hk1, mkS_append, mkS_append]; rfl
      | succ k => rw [if_neg (by omega), mkS_append, mkS_append, bpf_next hk1])
    generalize bs[k] = f at *
    have HSB : RowKit.Hid (mkS (bkL f) = mkS (Lib.itoa f.id) ++ mkS [64] ++ mkS (addrL f.addr) ++ mkS [42] ++ mkS (Lib.itoa f.weight)) := Lib.hid (by rw [mkS_append, mkS_append, mkS_append, mkS_append]; rfl)
    obtain ⟨W2, hW2⟩ : ∃ W, wr.alloc (.cells #[.int .i64 f.id, .int .u32 f.addr, .int .i64 f.weight] 27) = W := ⟨_, rfl⟩
    obtain ⟨KB, hKB⟩ : ∃ b, wr.heap.size = b := ⟨_, rfl⟩
    have t1 : Touch wr W2 (fun _ => False) := hW2 ▸ (Touch.refl wr _).alloc _
    have g2 : W2.heap[KB]? = some (.cells #[.int .i64 f.id, .int .u32 f.addr, .int .i64 f.weight] 27 (0, 0)) := hKB ▸ hW2 ▸ heap_alloc_new ..
    have HT2 := Lib.hid (HT.out.trans t1 (fun _ _ h => h))
    have HBC : RowKit.Hid (∀ W, Touch W2 W (fun _ => False) → W.cell? ⟨KB, 0, none⟩ = some (.int .i64 f.id) ∧ W.cell? ⟨KB, 1, none⟩ = some (.int .u32 f.addr) ∧ W.cell? ⟨KB, 2, none⟩ = some (.int .i64 f.weight)) := Lib.hid (fun W t => by
      have h := t.keeps g2 (fun h => h)
      exact ⟨cell_of_cells h 0, cell_of_cells h 1, cell_of_cells h 2⟩)
    have HTB : RowKit.Hid (∀ W, Touch W2 W (fun _ => False) → TabW W) := Lib.hid (fun W t => HT0.out.touch (HT2.out.trans t (fun _ _ h => h)))
    have HI1 := Lib.hid (fun W (t : Touch W2 W (fun _ => False)) => itoa_call f.id W HF.out.id.1 HF.out.id.2 (HTB.out W t))
    have HI2 := Lib.hid (fun W (t : Touch W2 W (fun _ => False)) => itoa_call f.weight W HF.out.weight.1 HF.out.weight.2 (HTB.out W t))
    have HAD := Lib.hid (fun W (t : Touch W2 W (fun _ => False)) => raddr_any f.addr W HF.out.addr.1 HF.out.addr.2 (HTB.out W t))
    have HW2 := Lib.hid (And.intro hW2 hKB)
    have z1 : (mkS (Lib.itoa f.id)).size ≤ 21 := by rw [mkS_size]; exact Lib.itoa_length_le _ HF.out.id.1 HF.out.id.2
    have z2 : (mkS (Lib.itoa f.weight)).size ≤ 21 := by rw [mkS_size]; exact Lib.itoa_length_le _ HF.out.weight.1 HF.out.weight.2
    have z3 : (mkS (addrL f.addr)).size ≤ 87 := by rw [mkS_size]; exact addrL_len _ HF.out.addr.1 HF.out.addr.2
    rw [HSB.out] at HNX
    have hp2 : (mkS (bpf bs k)).size ≤ 132001 := by omega
    generalize mkS (Lib.itoa f.id) = si at *
    generalize mkS (Lib.itoa f.weight) = sw at *
    generalize mkS (addrL f.addr) = sa at *
    generalize mkS (bpf bs k) = sp at *
    clear hr t1 g2 hW2 hKB hp HSB
    go_upto_region 7 with (fail)
    rw [HW2.out.1, HW2.out.2]
    clear c0 c1 c2
    by_cases hk0 : k = 0
    · subst hk0
      rw [if_pos rfl] at HNX
      go_upto_region 9 with (fail)
      have hS := (Touch.refl W2 (fun _ => False)).drew
      refine wp_region_sched (fun w' => Touch W2 w' (fun _ => False)) [(0, true), (1, true), (2, true), (5, true), (6, true), (10, true), (11, true), (3, false), (4, true), (7, false), (8, true), (9, true), (12, false), (13, true), (14, true), (15, true)] (by kernel_rfl) (by kernel_rfl) rfl (by kernel_rfl) hS ?_
      (refine walkS_take (v := ?_) (some 20) rfl rfl (fun _ _ _ h => h) (by rfl) ?_ ?_; rotate_left; (focus (intro w' hw'; obtain ⟨k0, k1, k2⟩ := HBC.out w' hw'; go_simp; (try with_reducible rfl))); (try simp only [Act.put, List.setIfInBounds_toArray, List.set_cons_zero, List.set_cons_succ]))
      (refine walkS_take (v := ?_) (some 21) rfl rfl (fun _ _ _ h => h) (by rfl) ?_ ?_; rotate_left; (focus (intro w' hw'; obtain ⟨k0, k1, k2⟩ := HBC.out w' hw'; go_simp; (try with_reducible rfl))); (try simp only [Act.put, List.setIfInBounds_toArray, List.set_cons_zero, List.set_cons_succ]))
      (refine walkS_take (v := ?_) (some 22) rfl rfl (fun _ _ _ h => h) (by rfl) ?_ ?_; rotate_left; (focus (intro w' hw'; obtain ⟨k0, k1, k2⟩ := HBC.out w' hw'; go_simp; (try with_reducible rfl))); (try simp only [Act.put, List.setIfInBounds_toArray, List.set_cons_zero, List.set_cons_succ]))
      (refine walkS_take (v := ?_) (some 25) rfl rfl (fun _ _ _ h => h) (by rfl) ?_ ?_; rotate_left; (focus (intro w' hw'; obtain ⟨k0, k1, k2⟩ := HBC.out w' hw'; go_simp; (try with_reducible rfl))); (try simp only [Act.put, List.setIfInBounds_toArray, List.set_cons_zero, List.set_cons_succ]))
      (refine walkS_take (v := ?_) (some 26) rfl rfl (fun _ _ _ h => h) (by rfl) ?_ ?_; rotate_left; (focus (intro w' hw'; obtain ⟨k0, k1, k2⟩ := HBC.out w' hw'; go_simp; (try with_reducible rfl))); (try simp only [Act.put, List.setIfInBounds_toArray, List.set_cons_zero, List.set_cons_succ]))
      (refine walkS_take (v := ?_) (some 30) rfl rfl (fun _ _ _ h => h) (by rfl) ?_ ?_; rotate_left; (focus (intro w' hw'; obtain ⟨k0, k1, k2⟩ := HBC.out w' hw'; go_simp; (try with_reducible rfl))); (try simp only [Act.put, List.setIfInBounds_toArray, List.set_cons_zero, List.set_cons_succ]))
      (refine walkS_take (v := ?_) (some 31) rfl rfl (fun _ _ _ h => h) (by rfl) ?_ ?_; rotate_left; (focus (intro w' hw'; obtain ⟨k0, k1, k2⟩ := HBC.out w' hw'; go_simp; (try with_reducible rfl))); (try simp only [Act.put, List.setIfInBounds_toArray, List.set_cons_zero, List.set_cons_succ]))
      (refine walkS_call 23 _ _ _ _ ((HI1.out _ hS)) rfl rfl rfl (by rfl) rfl (enter_itoaR _ _) ?_; rintro e w' ⟨rfl, t⟩; have hS := hS.trans t (fun _ _ h => h); clear t; refine ⟨_, rfl, hS, fun hS => ?_⟩; (try simp only [Act.put, List.setIfInBounds_toArray, List.set_cons_zero, List.set_cons_succ]))
      (refine walkS_bin (some 24) _ _ _ _ _ _ _ _ (catB_run _ _ (by have e1 : (ByteArray.mk #[64]).size = 1 := rfl; have e2 : (ByteArray.mk #[42]).size = 1 := rfl; have e3 : (ByteArray.mk #[44]).size = 1 := rfl; simp only [ByteArray.size_append, e1, e2, e3]; omega)) rfl rfl rfl rfl rfl (fun _ _ _ h => h) (by rfl) ?_; (try simp only [Act.put, List.setIfInBounds_toArray, List.set_cons_zero, List.set_cons_succ]))
      (refine walkS_call 27 _ _ _ _ ((HAD.out _ hS)) rfl rfl rfl (by rfl) rfl (enter_raddrR _ _) ?_; rintro e w' ⟨rfl, t⟩; have hS := hS.trans t (fun _ _ h => h); clear t; refine ⟨_, rfl, hS, fun hS => ?_⟩; (try simp only [Act.put, List.setIfInBounds_toArray, List.set_cons_zero, List.set_cons_succ]))
      (refine walkS_bin (some 28) _ _ _ _ _ _ _ _ (catB_run _ _ (by have e1 : (ByteArray.mk #[64]).size = 1 := rfl; have e2 : (ByteArray.mk #[42]).size = 1 := rfl; have e3 : (ByteArray.mk #[44]).size = 1 := rfl; simp only [ByteArray.size_append, e1, e2, e3]; omega)) rfl rfl rfl rfl rfl (fun _ _ _ h => h) (by rfl) ?_; (try simp only [Act.put, List.setIfInBounds_toArray, List.set_cons_zero, List.set_cons_succ]))
      (refine walkS_bin (some 29) _ _ _ _ _ _ _ _ (catB_run _ _ (by have e1 : (ByteArray.mk #[64]).size = 1 := rfl; have e2 : (ByteArray.mk #[42]).size = 1 := rfl; have e3 : (ByteArray.mk #[44]).size = 1 := rfl; simp only [ByteArray.size_append, e1, e2, e3]; omega)) rfl rfl rfl rfl rfl (fun _ _ _ h => h) (by rfl) ?_; (try simp only [Act.put, List.setIfInBounds_toArray, List.set_cons_zero, List.set_cons_succ]))
      (refine walkS_call 32 _ _ _ _ ((HI2.out _ hS)) rfl rfl rfl (by rfl) rfl (enter_itoaR _ _) ?_; rintro e w' ⟨rfl, t⟩; have hS := hS.trans t (fun _ _ h => h); clear t; refine ⟨_, rfl, hS, fun hS => ?_⟩; (try simp only [Act.put, List.setIfInBounds_toArray, List.set_cons_zero, List.set_cons_succ]))
      (refine walkS_bin (some 33) _ _ _ _ _ _ _ _ (catB_run _ _ (by have e1 : (ByteArray.mk #[64]).size = 1 := rfl; have e2 : (ByteArray.mk #[42]).size = 1 := rfl; have e3 : (ByteArray.mk #[44]).size = 1 := rfl; simp only [ByteArray.size_append, e1, e2, e3]; omega)) rfl rfl rfl rfl rfl (fun _ _ _ h => h) (by rfl) ?_; (try simp only [Act.put, List.setIfInBounds_toArray, List.set_cons_zero, List.set_cons_succ]))
      (refine walkS_bin (some 34) _ _ _ _ _ _ _ _ (catB_run _ _ (by have e1 : (ByteArray.mk #[64]).size = 1 := rfl; have e2 : (ByteArray.mk #[42]).size = 1 := rfl; have e3 : (ByteArray.mk #[44]).size = 1 := rfl; simp only [ByteArray.size_append, e1, e2, e3]; omega)) rfl rfl rfl rfl rfl (fun _ _ _ h => h) (by rfl) ?_; (try simp only [Act.put, List.setIfInBounds_toArray, List.set_cons_zero, List.set_cons_succ]))
      (refine walkS_take (v := ?_) (some 3) rfl rfl (fun _ _ _ h => h) (by rfl) ?_ ?_; rotate_left; (focus (intro w' hw'; obtain ⟨k0, k1, k2⟩ := HBC.out w' hw'; go_simp; (try with_reducible rfl))); (try simp only [Act.put, List.setIfInBounds_toArray, List.set_cons_zero, List.set_cons_succ]))
      refine walkS_done ?_
      have HX := Lib.hid (HT2.out.trans hS (fun _ _ h => h))
      clear hS
      go_wp2_with fail
      go_roundw
      · exact ⟨1, by omega, rfl, by rw [HNX.out, show mkS [] = ByteArray.empty from rfl, ByteArray.append_empty]; simp [mkS, ByteArray.append_assoc], HX.out⟩
      · simp only [RowKit.intOf]; omega
    · rw [if_neg hk0] at HNX
      have hkI : (k : Int) > 0 := by omega
      go_upto_region 9 with (fail)
      have hS := (Touch.refl W2 (fun _ => False)).drew
      refine wp_region_sched (fun w' => Touch W2 w' (fun _ => False)) [(0, true), (1, true), (2, true), (5, true), (6, true), (10, true), (11, true), (3, false), (4, true), (7, false), (8, true), (9, true), (12, false), (13, true), (14, true), (15, true)] (by kernel_rfl) (by kernel_rfl) rfl (by kernel_rfl) hS ?_
      (refine walkS_take (v := ?_) (some 20) rfl rfl (fun _ _ _ h => h) (by rfl) ?_ ?_; rotate_left; (focus (intro w' hw'; obtain ⟨k0, k1, k2⟩ := HBC.out w' hw'; go_simp; (try with_reducible rfl))); (try simp only [Act.put, List.setIfInBounds_toArray, List.set_cons_zero, List.set_cons_succ]))
      (refine walkS_take (v := ?_) (some 21) rfl rfl (fun _ _ _ h => h) (by rfl) ?_ ?_; rotate_left; (focus (intro w' hw'; obtain ⟨k0, k1, k2⟩ := HBC.out w' hw'; go_simp; (try with_reducible rfl))); (try simp only [Act.put, List.setIfInBounds_toArray, List.set_cons_zero, List.set_cons_succ]))
      (refine walkS_take (v := ?_) (some 22) rfl rfl (fun _ _ _ h => h) (by rfl) ?_ ?_; rotate_left; (focus (intro w' hw'; obtain ⟨k0, k1, k2⟩ := HBC.out w' hw'; go_simp; (try with_reducible rfl))); (try simp only [Act.put, List.setIfInBounds_toArray, List.set_cons_zero, List.set_cons_succ]))
      (refine walkS_take (v := ?_) (some 25) rfl rfl (fun _ _ _ h => h) (by rfl) ?_ ?_; rotate_left; (focus (intro w' hw'; obtain ⟨k0, k1, k2⟩ := HBC.out w' hw'; go_simp; (try with_reducible rfl))); (try simp only [Act.put, List.setIfInBounds_toArray, List.set_cons_zero, List.set_cons_succ]))
      (refine walkS_take (v := ?_) (some 26) rfl rfl (fun _ _ _ h => h) (by rfl) ?_ ?_; rotate_left; (focus (intro w' hw'; obtain ⟨k0, k1, k2⟩ := HBC.out w' hw'; go_simp; (try with_reducible rfl))); (try simp only [Act.put, List.setIfInBounds_toArray, List.set_cons_zero, List.set_cons_succ]))
      (refine walkS_take (v := ?_) (some 30) rfl rfl (fun _ _ _ h => h) (by rfl) ?_ ?_; rotate_left; (focus (intro w' hw'; obtain ⟨k0, k1, k2⟩ := HBC.out w' hw'; go_simp; (try with_reducible rfl))); (try simp only [Act.put, List.setIfInBounds_toArray, List.set_cons_zero, List.set_cons_succ]))
      (refine walkS_take (v := ?_) (some 31) rfl rfl (fun _ _ _ h => h) (by rfl) ?_ ?_; rotate_left; (focus (intro w' hw'; obtain ⟨k0, k1, k2⟩ := HBC.out w' hw'; go_simp; (try with_reducible rfl))); (try simp only [Act.put, List.setIfInBounds_toArray, List.set_cons_zero, List.set_cons_succ]))
      (refine walkS_call 23 _ _ _ _ ((HI1.out _ hS)) rfl rfl rfl (by rfl) rfl (enter_itoaR _ _) ?_; rintro e w' ⟨rfl, t⟩; have hS := hS.trans t (fun _ _ h => h); clear t; refine ⟨_, rfl, hS, fun hS => ?_⟩; (try simp only [Act.put, List.setIfInBounds_toArray, List.set_cons_zero, List.set_cons_succ]))
      (refine walkS_bin (some 24) _ _ _ _ _ _ _ _ (catB_run _ _ (by have e1 : (ByteArray.mk #[64]).size = 1 := rfl; have e2 : (ByteArray.mk #[42]).size = 1 := rfl; have e3 : (ByteArray.mk #[44]).size = 1 := rfl; simp only [ByteArray.size_append, e1, e2, e3]; omega)) rfl rfl rfl rfl rfl (fun _ _ _ h => h) (by rfl) ?_; (try simp only [Act.put, List.setIfInBounds_toArray, List.set_cons_zero, List.set_cons_succ]))
      (refine walkS_call 27 _ _ _ _ ((HAD.out _ hS)) rfl rfl rfl (by rfl) rfl (enter_raddrR _ _) ?_; rintro e w' ⟨rfl, t⟩; have hS := hS.trans t (fun _ _ h => h); clear t; refine ⟨_, rfl, hS, fun hS => ?_⟩; (try simp only [Act.put, List.setIfInBounds_toArray, List.set_cons_zero, List.set_cons_succ]))
      (refine walkS_bin (some 28) _ _ _ _ _ _ _ _ (catB_run _ _ (by have e1 : (ByteArray.mk #[64]).size = 1 := rfl; have e2 : (ByteArray.mk #[42]).size = 1 := rfl; have e3 : (ByteArray.mk #[44]).size = 1 := rfl; simp only [ByteArray.size_append, e1, e2, e3]; omega)) rfl rfl rfl rfl rfl (fun _ _ _ h => h) (by rfl) ?_; (try simp only [Act.put, List.setIfInBounds_toArray, List.set_cons_zero, List.set_cons_succ]))
      (refine walkS_bin (some 29) _ _ _ _ _ _ _ _ (catB_run _ _ (by have e1 : (ByteArray.mk #[64]).size = 1 := rfl; have e2 : (ByteArray.mk #[42]).size = 1 := rfl; have e3 : (ByteArray.mk #[44]).size = 1 := rfl; simp only [ByteArray.size_append, e1, e2, e3]; omega)) rfl rfl rfl rfl rfl (fun _ _ _ h => h) (by rfl) ?_; (try simp only [Act.put, List.setIfInBounds_toArray, List.set_cons_zero, List.set_cons_succ]))
      (refine walkS_call 32 _ _ _ _ ((HI2.out _ hS)) rfl rfl rfl (by rfl) rfl (enter_itoaR _ _) ?_; rintro e w' ⟨rfl, t⟩; have hS := hS.trans t (fun _ _ h => h); clear t; refine ⟨_, rfl, hS, fun hS => ?_⟩; (try simp only [Act.put, List.setIfInBounds_toArray, List.set_cons_zero, List.set_cons_succ]))
      (refine walkS_bin (some 33) _ _ _ _ _ _ _ _ (catB_run _ _ (by have e1 : (ByteArray.mk #[64]).size = 1 := rfl; have e2 : (ByteArray.mk #[42]).size = 1 := rfl; have e3 : (ByteArray.mk #[44]).size = 1 := rfl; simp only [ByteArray.size_append, e1, e2, e3]; omega)) rfl rfl rfl rfl rfl (fun _ _ _ h => h) (by rfl) ?_; (try simp only [Act.put, List.setIfInBounds_toArray, List.set_cons_zero, List.set_cons_succ]))
      (refine walkS_bin (some 34) _ _ _ _ _ _ _ _ (catB_run _ _ (by have e1 : (ByteArray.mk #[64]).size = 1 := rfl; have e2 : (ByteArray.mk #[42]).size = 1 := rfl; have e3 : (ByteArray.mk #[44]).size = 1 := rfl; simp only [ByteArray.size_append, e1, e2, e3]; omega)) rfl rfl rfl rfl rfl (fun _ _ _ h => h) (by rfl) ?_; (try simp only [Act.put, List.setIfInBounds_toArray, List.set_cons_zero, List.set_cons_succ]))
      (refine walkS_take (v := ?_) (some 3) rfl rfl (fun _ _ _ h => h) (by rfl) ?_ ?_; rotate_left; (focus (intro w' hw'; obtain ⟨k0, k1, k2⟩ := HBC.out w' hw'; go_simp; (try with_reducible rfl))); (try simp only [Act.put, List.setIfInBounds_toArray, List.set_cons_zero, List.set_cons_succ]))
      refine walkS_done ?_
      have HX := Lib.hid (HT2.out.trans hS (fun _ _ h => h))
      clear hS
      go_wp2_with fail
      go_roundw
      · exact ⟨k + 1, by omega, by go_num, by rw [HNX.out]; simp [mkS, ByteArray.append_assoc], HX.out⟩
      · simp only [RowKit.intOf]; omega
end Go.Proofs.YtgpchkobjgglhaaGreatDoor
