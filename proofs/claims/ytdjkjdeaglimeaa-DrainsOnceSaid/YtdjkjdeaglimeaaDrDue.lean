/- Backends that drain: Due. -/
import Derived.Test.YtdjkjdeaglimeaaDrB
import Derived.Test.YtdjkjdeaglimeaaAdd1
set_option linter.unusedVariables false
set_option linter.unusedSimpArgs false
namespace Go.Proofs.Ytdjkjdeaglimeaa
open Go.RowKit

def dueD (M : List DR) (now : Int) : List DR := M.takeWhile (fun d => decide (d.u ≤ now))
def restD (M : List DR) (now : Int) : List DR := M.dropWhile (fun d => decide (d.u ≤ now))
theorem due_qd (M : List DR) (now : Int) : dueQ (M.map qd) now = (dueD M now).map qd ∧ restQ (M.map qd) now = (restD M now).map qd := by
  unfold dueQ restQ dueD restD
  rw [List.takeWhile_map, List.dropWhile_map]
  exact ⟨rfl, rfl⟩
theorem due_rest (M : List DR) (now : Int) : dueD M now ++ restD M now = M := List.takeWhile_append_dropWhile
def icells (A : List DR) : List (List Value) := A.map (fun d => [.int .i64 d.b])
/-- What Due hands back, and what it leaves. -/
def DDue (w w' : World) (s : Nat) (h : DH) (A R : List DR) (v : Value) : Prop :=
  ∃ a c h', v = .slice a A.length c ∧ OwnS w' w.heap.size 3 1 (.slice a A.length c) (icells A) ∧ DS w' s h' R ∧ Touch w w' (footD s h) ∧ (∀ k, footD s h' k → footD s h k ∨ w.heap.size ≤ k) ∧ ∀ x, a = some x → ¬ footD s h' x.block
theorem infoIntD : (Try.prog.info? 3).map (fun i => (i.zero, i.size, i.bytes)) = some (some (.int .i64 0), 1, 8) := by kernel_rfl
def gd (M : List DR) (i : Nat) : DR := M.getD i ⟨0, 0⟩
theorem gd_get (M : List DR) (i : Nat) (h : i < M.length) : gd M i = M[i] := by unfold gd; rw [List.getD_eq_getElem?_getD, List.getElem?_eq_getElem h]; rfl
theorem gd_mem (M : List DR) (i : Nat) (h : i < M.length) : gd M i ∈ M := by rw [gd_get M i h]; exact List.getElem_mem h
theorem gq_qd (A : List DR) (i : Nat) (h : i < A.length) : gq (A.map qd) i = qd (gd A i) := by
  rw [gq_get _ i (by simpa using h), List.getElem_map, gd_get A i h]
theorem own_some {a : Option Addr} {n c k : Nat} (h : (Value.slice a n c).ownBlock = some k) : ∃ y, a = some y ∧ y.block = k := by
  cases a with
  | none => simp [Value.ownBlock] at h
  | some y => exact ⟨y, rfl, by simpa [Value.ownBlock] using h⟩
set_option maxRecDepth 20000 in
set_option maxHeartbeats 8000000 in
theorem ddue_any (w : World) (s : Nat) (h : DH) (M : List DR) (d : DS w s h M) (now : Int) :
    Calls Try.prog 31 #[.pointer (some ⟨s, 0, none⟩), .int .i64 now] w fun e w' => ∃ v, e = .returned v ∧ DDue w w' s h (dueD M now) (restD M now) v := by
  obtain ⟨c0, c1⟩ := d.cells
  have HD := Lib.hid d
  have hdu := qdue_any w h.bq h.hq (M.map qd) d.q now
  rw [(due_qd M now).1, (due_qd M now).2] at hdu
  have HDU := Lib.hid hdu
  have HAR := Lib.hid (due_rest M now)
  generalize dueD M now = A at *
  generalize restD M now = R at *
  have hlen : A.length ≤ 1024 := by have := d.len; have h2 := congrArg List.length HAR.out; simp at h2; omega
  clear d hdu
  obtain ⟨N, hN⟩ : ∃ N, A.length = N := ⟨_, rfl⟩
  have HN := Lib.hid hN
  rw [hN] at hlen
  go_enter Try.func31, Try.ntmps31
  go_wp2_with fail
  (with_reducible refine HDU.out.mono ?_)
  rintro e w2 ⟨v, rfl, s2⟩
  obtain ⟨a2, c2, hq2, rfl, ho2, q2, t2, f2, n2⟩ := s2
  have HMID := Lib.hid (HD.out.mid (Touch.refl w _) t2)
  have HROW := Lib.hid ho2.row'
  have HQ2 := Lib.hid q2
  have HT2 := Lib.hid t2
  have HF2 := Lib.hid f2
  simp only [List.length_map] at HROW ⊢
  rw [hN] at HROW ⊢
  clear ho2 q2 t2 f2 n2 c0 c1 hN
  go_wp2_with fail
  go_loopw [5, 17] (fun s5 s17 wr => ∃ (j : Nat) (a : Option Addr) (c : Nat), j ≤ N ∧ s17 = .int .i64 j ∧ s5 = .slice a j c ∧ OwnS wr w2.heap.size 3 1 (.slice a j c) (icells (A.take j)) ∧ OwnZ wr 3 2 h.mb (A.drop j ++ R) ∧ Touch w2 wr (fun k => k = h.mb)) (fun _ s17 _ => N - (RowKit.intOf s17).toNat)
  case atStart => exact ⟨0, none, 0, Nat.zero_le _, rfl, rfl, OwnS.nil _ _ _ _, by rw [List.drop_zero, HAR.out]; exact HMID.out.2, Touch.refl _ _⟩
  case round =>
    obtain ⟨j, a, c, hj, rfl, rfl, ho, hm, ht⟩ := hrel
    have HO := Lib.hid ho
    have HM := Lib.hid hm
    have HT := Lib.hid ht
    clear ho hm ht
    by_cases hlt : j < N
    case neg =>
      obtain rfl : N = j := by omega
      go_wp2_with fail
      go_ret
      have hA : A.take N = A := List.take_of_length_le (by rw [HN.out]; exact Nat.le_refl _)
      have hA2 : A.drop N = [] := List.drop_eq_nil_of_le (by rw [HN.out]; exact Nat.le_refl _)
      have ho := HO.out
      have hm := HM.out
      rw [hA] at ho
      rw [hA2, List.nil_append] at hm
      have hs := heap_lt HD.out.head
      have hmb := HD.out.map.lt
      have hz := HT2.out.size
      have n2' : ¬ footQ h.bq hq2 s := fun hf => by
        rcases HF2.out _ hf with h1 | h1
        · exact HD.out.n2 h1
        · omega
      have n3' : ¬ footQ h.bq hq2 h.mb := fun hf => by
        rcases HF2.out _ hf with h1 | h1
        · exact HD.out.n3 h1
        · omega
      refine ⟨_, rfl, a, c, ⟨h.mb, h.bq, hq2⟩, by rw [HN.out]; rfl, by rw [HN.out]; exact ho.rebase (fun x hx => Nat.le_trans hz (ho.own.lt x hx).1), ⟨HT.out.keeps HMID.out.1 HD.out.n1, HQ2.out.touch HT.out (fun k hk e => n3' (e ▸ hk)), hm, HD.out.n1, n2', n3', fun x hx => HD.out.ok x (by rw [← HAR.out]; exact List.mem_append_right _ hx)⟩, ?_, ?_, ?_⟩
      · exact (HT2.out.mono (T := footD s h) (fun k _ hk => .inr (.inr hk))).trans HT.out (fun k _ hk => .inr (.inl hk))
      · rintro k (rfl | rfl | hk)
        · exact .inl (.inl rfl)
        · exact .inl (.inr (.inl rfl))
        · exact (HF2.out k hk).imp (fun h => .inr (.inr h)) (fun h => h)
      · intro x hx hf
        have h1 := (ho.row'.2.2 x hx).1
        rcases hf with hf | hf | hf
        · omega
        · dsimp only at hf; omega
        · have := HQ2.out.footlt _ hf; omega
    case pos =>
      have hrow := HROW.out.2.1.touch HT.out (fun y hy => .inr (fun e => by have h1 := (HROW.out.2.2 y hy).1; have h2 := HD.out.map.lt; omega))
      obtain ⟨g, off, rfl⟩ := hrow.some (by omega)
      have d0 := cell_one hrow j (by rw [List.length_map, HN.out]; omega)
      rw [gq_qd A j (by rw [HN.out]; exact hlt)] at d0
      have hcap := hrow.hcap
      have hmax := hrow.hmax
      obtain ⟨x, hx⟩ : ∃ x, gd A j = x := ⟨_, rfl⟩
      have hxm : x ∈ A := by rw [← hx]; exact gd_mem A j (by rw [HN.out]; exact hlt)
      have hin := HD.out.ok x (by rw [← HAR.out]; exact List.mem_append_left _ hxm)
      have hxi : i64D x.b := by unfold inN at hin; constructor <;> omega
      have htk : icells (A.take j) ++ [[.int .i64 x.b]] = icells (A.take (j + 1)) := by
        unfold icells
        rw [List.take_succ_eq_append_getElem (by rw [HN.out]; exact hlt), List.map_append, ← gd_get A j (by rw [HN.out]; exact hlt), hx]
        rfl
      have hdr : A.drop j ++ R = x :: (A.drop (j + 1) ++ R) := by
        rw [List.drop_eq_getElem_cons (by rw [HN.out]; exact hlt), List.cons_append, ← gd_get A j (by rw [HN.out]; exact hlt), hx]
      have hdel : delD (A.drop j ++ R) x.b = A.drop (j + 1) ++ R := by
        have hnd := HM.out.nd
        rw [hdr] at hnd ⊢
        rw [List.map_cons, List.nodup_cons] at hnd
        have := delD_none hnd.1
        unfold delD at this ⊢
        rw [List.filter_cons, if_neg (by simp), this]
      rw [hx] at d0
      have hqk : (qd x).key = nK x.b.toNat := rfl
      rw [hqk] at d0
      have HNUM : RowKit.Hid (∀ W, Calls Try.prog 47 #[.string (nK x.b.toNat)] W fun e w' => e = .returned (.int .i64 x.b) ∧ Touch W w' (fun _ => False)) := Lib.hid (fun W => dnum_any W x.b hin)
      generalize nK x.b.toNat = K at *
      have HTK := Lib.hid htk
      have HDEL := Lib.hid hdel
      have HXI := Lib.hid hxi
      have HII := Lib.hid infoIntD
      have hlI : (j : Int) < N := by omega
      clear hrow hx hxm hin hxi htk hdr hdel hqk
      go_wp2_with fail
      (with_reducible refine (HNUM.out _).mono ?_)
      rintro e w3 ⟨rfl, t3⟩
      have t4 : Touch wr (w3.alloc (.cells #[.int .i64 x.b] 3)) (fun _ => False) := t3.alloc _
      have HO4 := Lib.hid (HO.out.still t4)
      have HM3 := Lib.hid (HM.out.still t3)
      have HT3 := Lib.hid t3
      have hsz : w2.heap.size ≤ w3.heap.size := Nat.le_trans HT.out.size t3.size
      clear t3 t4 d0
      go_upto_region 8 with (at_builtin; (with_reducible refine wp_add1 (w := w3) HO4.out rfl rfl rfl (by simp [Value.oneCell']) (by omega) 67 Try.underlying67 _ 8 HII.out rfl (by decide) (by decide) hsz rfl _ _ rfl rfl rfl ?_); intro a5 c5 w5 ho5 t5 p5; have HO5 := Lib.hid ho5; have HT5 := Lib.hid t5; clear ho5 t5 p5)
      have HM5 := Lib.hid (HM3.out.touch HT5.out (fun e => by have h1 := (HO.out.own.lt _ e).1; have h2 := HD.out.map.lt; have h3 := HT2.out.size; omega))
      have hs0 : w5.heap[s]? = some (.cells #[.map (some h.mb), .pointer (some ⟨h.bq, 0, none⟩)] 95 (0, 0)) := HT5.out.keeps (HT3.out.keeps (HT.out.keeps HMID.out.1 HD.out.n1) (fun h => h)) (fun e => by have h1 := (HO.out.own.lt _ e).1; have h2 := heap_lt HD.out.head; have h3 := HT2.out.size; omega)
      have HCC : RowKit.Hid (∀ W, Touch w5 W (fun k => k = h.mb) → W.cell? ⟨s, 0, none⟩ = some (.map (some h.mb))) := Lib.hid (fun W t => cell_of_cells (t.keeps hs0 HD.out.n1) 0)
      clear hs0
      have hS := (Touch.refl w5 (fun k => k = h.mb)).drew
      refine wp_region_tree (fun w' => Touch w5 w' (fun k => k = h.mb)) (.take 0 (.take 1 (.take 2 (.take 3 (.take 4 (.one 5 (.one 6 .fin))))))) (by kernel_rfl) (by kernel_rfl) (by kernel_rfl) (by kernel_rfl) hS ?_
      refine walkT_take ?_
      (refine takeN_take (v := ?_) (some 26) rfl rfl (fun _ _ _ h => h) (by rfl) ?_ ?_; rotate_left; (focus (intro w' hw'; have y0 := HCC.out w' hw'; go_simp; (try with_reducible rfl))); (try simp only [Act.put, List.setIfInBounds_toArray, List.set_cons_zero, List.set_cons_succ]))
      refine walkT_take ?_
      (refine takeN_take (v := ?_) (some 27) rfl rfl (fun _ _ _ h => h) (by rfl) ?_ ?_; rotate_left; (focus (intro w' hw'; have y0 := HCC.out w' hw'; go_simp; (try with_reducible rfl))); (try simp only [Act.put, List.setIfInBounds_toArray, List.set_cons_zero, List.set_cons_succ]))
      refine walkT_take ?_
      (refine takeN_take (v := ?_) (some 28) rfl rfl (fun _ _ _ h => h) (by rfl) ?_ ?_; rotate_left; (focus (intro w' hw'; have y0 := HCC.out w' hw'; go_simp; (try with_reducible rfl))); (try simp only [Act.put, List.setIfInBounds_toArray, List.set_cons_zero, List.set_cons_succ]))
      refine walkT_take ?_
      (refine takeN_take (v := ?_) (some 29) rfl rfl (fun _ _ _ h => h) (by rfl) ?_ ?_; rotate_left; (focus (intro w' hw'; have y0 := HCC.out w' hw'; go_simp; (try with_reducible rfl))); (try simp only [Act.put, List.setIfInBounds_toArray, List.set_cons_zero, List.set_cons_succ]))
      refine walkT_take ?_
      (refine takeN_take (v := ?_) (some 30) rfl rfl (fun _ _ _ h => h) (by rfl) ?_ ?_; rotate_left; (focus (intro w' hw'; have y0 := HCC.out w' hw'; go_simp; (try with_reducible rfl))); (try simp only [Act.put, List.setIfInBounds_toArray, List.set_cons_zero, List.set_cons_succ]))
      refine walkT_one ?_
      (refine runN_call 31 47 _ _ _ (HNUM.out _) rfl rfl rfl (by rfl) rfl (enter_dnum _ _) ?_; rintro e w6 ⟨rfl, t6⟩; have hm6 := (HM5.out.still ((Touch.refl w5 (fun _ => False)).drew)).still t6; obtain ⟨wz, hz1, hz2, hz3⟩ := hm6.drop Try.underlying3 mapIT x.b HXI.out 0; have HZ := Lib.hid (And.intro hz2 ((((Touch.refl w5 (fun k => k = h.mb)).drew).trans t6 (fun _ _ h => h.elim)).trans hz3 (fun _ _ h => h))); refine ⟨_, rfl, hS.trans t6 (fun _ _ h => h.elim), fun hS => ?_⟩; clear hz2 hz3 hm6 t6; (try simp only [Act.put, List.setIfInBounds_toArray, List.set_cons_zero, List.set_cons_succ]))
      refine walkT_one ?_
      (refine runN_do (v := .tuple #[]) (w' := wz) none rfl rfl (by rfl) (by go_simp; (try with_reducible rfl)) HZ.out.2 (fun hS => ?_); (try simp only [Act.put, List.setIfInBounds_toArray, List.set_cons_zero, List.set_cons_succ]))
      refine walkT_fin ?_
      go_wp2_with fail
      go_roundw
      · refine ⟨j + 1, a5, c5, by omega, by go_num, rfl, ?_, ?_, ?_⟩
        · rw [← HTK.out]
          exact HO5.out.touch HZ.out.2 (fun y hy e => by have h1 := (HO5.out.own.lt y hy).1; have h2 := HD.out.map.lt; have h3 := HT2.out.size; omega)
        · rw [← HDEL.out]; exact HZ.out.1
        · exact ((HT.out.trans HT3.out (fun _ _ h => h.elim)).trans HT5.out (fun k hk e => by have h1 := (HO.out.own.lt _ e).1; omega)).trans HZ.out.2 (fun _ _ h => h)
      · simp only [RowKit.intOf]; omega
end Go.Proofs.Ytdjkjdeaglimeaa
