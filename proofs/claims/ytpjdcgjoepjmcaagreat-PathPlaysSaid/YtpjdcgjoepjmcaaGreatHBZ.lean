import Derived.Test.YtpjdcgjoepjmcaaGreatHAZ
import Derived.Test.YtpjdcgjoepjmcaaGreatGAZ
import Derived.Deep.LoopGhost
import Derived.StillTailTactics
import Derived.WalkKit
import Derived.WalkLawsBesides
import Derived.LoopTactic
import Derived.Outline
import Derived.Below
import Derived.Lib.Hide
import Derived.Deep.QuietTactic
import Derived.BigQuiet
import Derived.Test.YtpjdcgjoepjmcaaGreatGCZ
set_option linter.unusedVariables false
section
namespace Go.Proofs.YtpjdcgjoepjmcaaGreat
open Go.RowKit
def cI (x : Int) : List Value := [.int .i64 x]
def Rw.cells (r : Rw) : List Value := [.int .i64 r.id, .int .i64 r.wt, .int .i64 r.pos, .int .i64 r.sk]
def OwnT (w : World) (base : Nat) (v : Value) (T : List Int) : Prop := OwnS w base 3 1 v (T.map cI)
def OwnW (w : World) (base : Nat) (v : Value) (rs : List Rw) : Prop := OwnS w base 165 4 v (rs.map Rw.cells)
section
variable {w w' : World} {B G n c : Nat} {T : List Int} {rs : List Rw} {v : Value}
theorem OwnT.touch {S : Nat → Prop} (h : OwnT w B v T) (t : Touch w w' S) (h1 : ∀ x, v.ownBlock = some x → ¬ S x) : OwnT w' B v T := OwnS.touch h t h1
theorem OwnT.drew1 (h : OwnT w B v T) : OwnT w.drew B v T := h.touch (Touch.refl w (fun _ => False)).drew (fun _ _ h => h)
theorem OwnW.drew1 (h : OwnW w B v rs) : OwnW w.drew B v rs := OwnS.touch h (Touch.refl w (fun _ => False)).drew (fun _ _ h => h)
theorem OwnT.len (h : OwnT w B (.slice (some ⟨G, 0, none⟩) n c) T) : T.length = n := by have := (OwnS.row' h).1; simpa using this
theorem OwnT.at_ (h : OwnT w B (.slice (some ⟨G, 0, none⟩) n c) T) (i : Nat) (hi : i < T.length) : w.cell? ⟨G, i, none⟩ = some (.int .i64 T[i]) := by
 have := (OwnS.row' h).2.1.cell i (by simpa using hi) 0 (.int .i64 T[i]) (by simp [cI])
 simpa using this
theorem OwnT.free (h : OwnT w B (.slice (some ⟨G, 0, none⟩) n c) T) (i : Nat) : w.frozen? ⟨G, i, none⟩ = false := OwnS.free h i
theorem OwnT.stored (h : OwnT w B (.slice (some ⟨G, 0, none⟩) n c) T) (i : Nat) (hi : i < T.length) (x : Int) : OwnT (w.setCell ⟨G, i, none⟩ (.int .i64 x)) B (.slice (some ⟨G, 0, none⟩) n c) (T.set i x) := by
 have := OwnS.stored h i (by simpa using hi) 0 (by omega) (.int .i64 x)
 simp only [Nat.mul_one, Nat.add_zero] at this
 unfold OwnT
 rw [List.map_set]
 simpa [cI] using this
theorem OwnT.lt (h : OwnT w B (.slice (some ⟨G, 0, none⟩) n c) T) : B ≤ G ∧ G < w.heap.size := (OwnS.row' h).2.2 _ rfl
theorem OwnW.touch {S : Nat → Prop} (h : OwnW w B v rs) (t : Touch w w' S) (h1 : ∀ x, v.ownBlock = some x → ¬ S x) : OwnW w' B v rs := OwnS.touch h t h1
theorem OwnW.len (h : OwnW w B (.slice (some ⟨G, 0, none⟩) n c) rs) : rs.length = n := by have := (OwnS.row' h).1; simpa using this
theorem OwnW.at_ (h : OwnW w B (.slice (some ⟨G, 0, none⟩) n c) rs) {i : Nat} {r : Rw} (hi : rs[i]? = some r) :
 w.cell? ⟨G, i * 4, none⟩ = some (.int .i64 r.id) ∧ w.cell? ⟨G, i * 4 + 1, none⟩ = some (.int .i64 r.wt) ∧ w.cell? ⟨G, i * 4 + 2, none⟩ = some (.int .i64 r.pos) ∧ w.cell? ⟨G, i * 4 + 3, none⟩ = some (.int .i64 r.sk) := by
 obtain ⟨hl, rfl⟩ := List.getElem?_eq_some_iff.1 hi
 have key := fun j u hu => (OwnS.row' h).2.1.cell i (by simpa using hl) j u hu
 simp only [Nat.zero_add, List.getElem_map] at key
 exact ⟨key 0 _ rfl, key 1 _ rfl, key 2 _ rfl, key 3 _ rfl⟩
theorem OwnW.free (h : OwnW w B (.slice (some ⟨G, 0, none⟩) n c) rs) (i : Nat) : w.frozen? ⟨G, i, none⟩ = false := OwnS.free h i
theorem OwnW.stored (h : OwnW w B (.slice (some ⟨G, 0, none⟩) n c) rs) {i : Nat} {r : Rw} (hi : rs[i]? = some r) (x : Nat) : OwnW (w.setCell ⟨G, i * 4 + 2, none⟩ (.int .i64 (x : Nat))) B (.slice (some ⟨G, 0, none⟩) n c) (rs.set i { r with pos := x }) := by
 obtain ⟨hl, rfl⟩ := List.getElem?_eq_some_iff.1 hi
 have := OwnS.stored h i (by simpa using hl) 2 (by omega) (.int .i64 (x : Nat))
 unfold OwnW
 rw [List.map_set]
 simpa [Rw.cells] using this
theorem OwnW.lt (h : OwnW w B (.slice (some ⟨G, 0, none⟩) n c) rs) : B ≤ G ∧ G < w.heap.size := (OwnS.row' h).2.2 _ rfl
end
set_option maxRecDepth 20000 in
set_option maxHeartbeats 1000000 in
theorem take_any (B B2 G R n c m c2 i : Nat) (T : List Int) (rs : List Rw) (r : Rw) (w : World)
 (hT : OwnT w B (.slice (some ⟨G, 0, none⟩) n c) T) (hR : OwnW w B2 (.slice (some ⟨R, 0, none⟩) m c2) rs) (hne : G ≠ R) (hr : rs[i]? = some r) (hp : r.pos < n) (hsk : r.sk < 256) (hn : n ≤ 251) (hnc : n ≤ c) (hi16 : i < 16)
 (ha : walkF T r.sk n r.pos < n) (hf : T.getD (walkF T r.sk n r.pos) 0 = -1) :
 Calls Tryz.prog 100 #[.pointer (some ⟨R, i * 4, none⟩), .slice (some ⟨G, 0, none⟩) n c] w fun e w' => e = .returned (.tuple #[]) ∧ OwnT w' B (.slice (some ⟨G, 0, none⟩) n c) (takeT (T, rs) i).1 ∧ OwnW w' B2 (.slice (some ⟨R, 0, none⟩) m c2) (takeT (T, rs) i).2 ∧ Touch w w' (fun k => k = G ∨ k = R) := by
 have hTl := hT.len
 have HTK := Lib.hid (takeT_some (S := (T, rs)) hr)
 simp only [hTl] at HTK
 obtain ⟨A, hA⟩ : ∃ A, walkF T r.sk n r.pos = A := ⟨_, rfl⟩
 rw [hA] at ha hf HTK
 have HST : RowKit.Hid (walkF T r.sk n r.pos = A) := Lib.hid hA
 have HF := Lib.hid hf
 have HT := Lib.hid hT
 have HTL := Lib.hid hTl
 have HRR := Lib.hid hr
 have HS0 : RowKit.Hid (rs.set i { r with pos := r.pos } = rs) := Lib.hid (by
  obtain ⟨hl, e⟩ := List.getElem?_eq_some_iff.1 hr
  apply List.ext_getElem? ; intro j
  rw [List.getElem?_set]
  split
  ·rename_i hij; subst hij; simp [hl, e]
  ·rfl)
 have hil : i < rs.length := (List.getElem?_eq_some_iff.1 hr).1
 have HR := Lib.hid hR
 clear hT hR hA hf hTl hr
 go_enter Tryz.func100, Tryz.ntmps100
 go_wp2_with fail
 go_loopg [] n (fun f wr => ∃ a : Nat, a < n ∧ walkF T r.sk f a = A ∧ OwnT wr B (.slice (some ⟨G, 0, none⟩) n c) T ∧ OwnW wr B2 (.slice (some ⟨R, 0, none⟩) m c2) (rs.set i { r with pos := a }) ∧ Touch w wr (fun k => k = R))
 case atStart => exact ⟨r.pos, hp, HST.out, HT.out, by rw [HS0.out]; exact HR.out, Touch.refl _ _⟩
 case round =>
  obtain ⟨a, han, hwk, hT, hR, ht⟩ := hrel
  have hq : (rs.set i { r with pos := a })[i]? = some { r with pos := a } := by rw [List.getElem?_set, if_pos rfl, if_pos hil]
  obtain ⟨d0, d1, d2, d3⟩ := hR.at_ hq
  have fR := hR.free (i * 4 + 2)
  have fG := hT.free a
  have hal : a < T.length := by rw [HTL.out]; exact han
  have c0 := hT.at_ a hal
  have HG := Lib.hid hT.lt
  have HR9 := Lib.hid hR.lt
  simp only at d0 d1 d2 d3
  by_cases hx : T[a] = -1
  ·have hAa : a = A := by
    rw [← hwk]
    cases gk with
    | zero => rfl
    | succ f => unfold walkF; rw [if_pos (by rw [List.getD_eq_getElem?_getD, List.getElem?_eq_getElem hal, hx]; rfl)]
   have HB : RowKit.Hid (OwnT (wr.setCell ⟨G, a, none⟩ (.int .i64 r.id)) B (.slice (some ⟨G, 0, none⟩) n c) (takeT (T, rs) i).1) := Lib.hid (by
    rw [HTK.out, ← hAa]; exact hT.stored a hal r.id)
   have HC : RowKit.Hid (OwnW (wr.setCell ⟨G, a, none⟩ (.int .i64 r.id)) B2 (.slice (some ⟨R, 0, none⟩) m c2) (takeT (T, rs) i).2) := Lib.hid (by
    rw [HTK.out, ← hAa]
    exact hR.touch ((Touch.refl wr (fun k => k = G)).setCell ⟨G, a, none⟩ _ (fun _ => rfl)) (fun x hx => by cases hx; exact fun e => hne e.symm))
   have HD : RowKit.Hid (Touch w (wr.setCell ⟨G, a, none⟩ (.int .i64 r.id)) (fun k => k = G ∨ k = R)) := Lib.hid ((ht.mono (fun _ _ h => .inr h)).setCell _ _ (fun _ => .inl rfl))
   rw [hx] at c0
   clear hT hR ht hwk hAa hx hq
   go_wp2_with fail
   go_still_tail 10, (by kernel_rfl)
   go_wp2_with fail
   go_end0
   exact ⟨rfl, HB.out.drew1, HC.out.drew1, HD.out.drew⟩
  ·obtain ⟨f, rfl⟩ : ∃ f, gk = f + 1 := by
    cases gk with
    | zero =>
      exfalso
      have e : a = A := hwk
      apply hx
      have := HF.out
      rw [← e, List.getD_eq_getElem?_getD, List.getElem?_eq_getElem hal] at this
      simpa using this
    | succ f => exact ⟨f, rfl⟩
   have hwk2 : walkF T r.sk f ((a + r.sk) % n) = A := by
    rw [← hwk]
    conv => rhs; unfold walkF
    rw [if_neg (by rw [List.getD_eq_getElem?_getD, List.getElem?_eq_getElem hal]; simpa using hx), HTL.out]
   have hsv := hR.stored hq ((a + r.sk) % n)
   rw [List.set_set] at hsv
   have hrem : Int.tmod ((a : Int) + (r.sk : Int)) (n : Int) = (((a + r.sk) % n : Nat) : Int) := by
    rw [Int.tmod_eq_emod_of_nonneg (by omega)]; norm_cast
   have hrem2 : ((a : Int) + (r.sk : Int)) % (n : Int) = (((a + r.sk) % n : Nat) : Int) := by norm_cast
   have HB : RowKit.Hid (OwnT (wr.setCell ⟨R, i * 4 + 2, none⟩ (.int .i64 ((a + r.sk) % n : Nat))) B (.slice (some ⟨G, 0, none⟩) n c) T) := Lib.hid (
    hT.touch ((Touch.refl wr (fun k => k = R)).setCell ⟨R, i * 4 + 2, none⟩ _ (fun _ => rfl)) (fun x hx => by cases hx; exact hne))
   have HC := Lib.hid hsv
   have HD : RowKit.Hid (Touch w (wr.setCell ⟨R, i * 4 + 2, none⟩ (.int .i64 ((a + r.sk) % n : Nat))) (fun k => k = R)) := Lib.hid (ht.setCell _ _ (fun _ => rfl))
   have HW := Lib.hid hwk2
   have hlt : (a + r.sk) % n < n := Nat.mod_lt _ (by omega)
   generalize (a + r.sk) % n = a2 at *
   generalize T[a] = x at *
   clear hT hR ht hwk hwk2 hq hsv
   have hw1 : IntKind.i64.wrap ((a : Int) + (r.sk : Int)) = (a : Int) + (r.sk : Int) := IntWalk.i64_in _ (by omega)
   have hw2 : IntKind.i64.wrap (a2 : Int) = (a2 : Int) := IntWalk.i64_in _ (by omega)
   have hn0 : ((n : Int) == 0) = false := beq_eq_false_iff_ne.2 (by omega)
   have hn1 : ¬ n = 0 := by omega
   go_wp2_with fail
   go_still_tail 15, (by kernel_rfl)
   clear hw1 hw2
   go_wp2_with fail
   go_roundg f
   case measure => omega
   case rel => exact ⟨a2, hlt, HW.out, HB.out.drew1, HC.out.drew1, HD.out.drew⟩
theorem mod_turn {q all x : Nat} (h : x < all) : (q * all + x) % all = x := by
 rw [Nat.mul_comm, Nat.mul_add_mod, Nat.mod_eq_of_lt h]
set_option maxRecDepth 20000 in
set_option maxHeartbeats 1000000 in
theorem fill_any (B B2 G R n c m c2 : Nat) (rs : List Rw) (w : World) (h : Rws rs n) (h0 : 0 < rs.length)
 (hT : OwnT w B (.slice (some ⟨G, 0, none⟩) n c) (List.replicate n (-1))) (hR : OwnW w B2 (.slice (some ⟨R, 0, none⟩) m c2) rs) (hne : G ≠ R) (hnc : n ≤ c) :
 Calls Tryz.prog 70 #[.slice (some ⟨G, 0, none⟩) n c, .slice (some ⟨R, 0, none⟩) m c2] w fun e w' => e = .returned (.tuple #[]) ∧ OwnT w' B (.slice (some ⟨G, 0, none⟩) n c) (stM rs n n).1 ∧ Touch w w' (fun k => k = G ∨ k = R) := by
 have hm : rs.length = m := hR.len
 have hm16 : m ≤ 16 := by have := h.len; omega
 have hn251 := h.prm.hi
 have hn3 := h.prm.lo
 have HT0 : RowKit.Hid (OwnT w B (.slice (some ⟨G, 0, none⟩) n c) (stM rs n 0).1) := Lib.hid hT
 have HR0 : RowKit.Hid (OwnW w B2 (.slice (some ⟨R, 0, none⟩) m c2) (stM rs n 0).2) := Lib.hid hR
 obtain ⟨N, hN⟩ : ∃ N, allW rs = N := ⟨_, rfl⟩
 have HN := Lib.hid hN
 have hNpos : 0 < N := by rw [← hN]; exact allW_pos (fun r hr => (h.each r hr).2.2.1) h0
 have HH := Lib.hid h
 have HM := Lib.hid hm
 have HINV : RowKit.Hid (∀ k, k ≤ n → MInv rs n k (stM rs n k)) := Lib.hid (inv_all h h0)
 have H0 := Lib.hid h0
 clear hT hR hN h hm h0
 go_enter Tryz.func70, Tryz.ntmps70
 go_wp2_with fail
 go_loopg [4] n (fun f s wr => ∃ q k : Nat, k = q * N ∧ k ≤ n ∧ f = n - k ∧ s = .int .i64 ((n : Int) - (k : Int)) ∧ OwnT wr B (.slice (some ⟨G, 0, none⟩) n c) (stM rs n k).1 ∧ OwnW wr B2 (.slice (some ⟨R, 0, none⟩) m c2) (stM rs n k).2 ∧ Touch w wr (fun k => k = G ∨ k = R))
 case atStart => exact ⟨0, 0, by omega, by omega, by omega, by simp, HT0.out, HR0.out, Touch.refl _ _⟩
 case round =>
  obtain ⟨q, k0, hk0, hkn, hgk, rfl, hT, hR, ht⟩ := hrel
  have HK0 := Lib.hid hk0
  have HGK := Lib.hid hgk
  have HT := Lib.hid hT
  have HR := Lib.hid hR
  have HTO := Lib.hid ht
  clear hT hR ht hk0 hgk
  go_wp2_with fail
  go_loopg [4, 10] m (fun f s i wr => ∃ x k : Nat, x ≤ m ∧ k = k0 + pre rs x ∧ k ≤ n ∧ f = m - x ∧ i = .int .i64 x ∧ s = .int .i64 ((n : Int) - (k : Int)) ∧ OwnT wr B (.slice (some ⟨G, 0, none⟩) n c) (stM rs n k).1 ∧ OwnW wr B2 (.slice (some ⟨R, 0, none⟩) m c2) (stM rs n k).2 ∧ Touch w wr (fun k => k = G ∨ k = R))
  case atStart => exact ⟨0, k0, Nat.zero_le _, by rw [pre_zero]; rfl, hkn, by omega, by simp, rfl, HT.out, HR.out, HTO.out⟩
  case round =>
   obtain ⟨x, k1, hxm, hk1, hkn1, hg2, rfl, rfl, hT, hR, ht⟩ := hrel
   have HK1 := Lib.hid hk1
   have HG2 := Lib.hid hg2
   have HT := Lib.hid hT
   have HTO := Lib.hid ht
   by_cases hx : x < m
   ·have hxl : x < (stM rs n k1).2.length := by rw [(HINV.out k1 hkn1).rl, HM.out]; exact hx
    have hr1 : (stM rs n k1).2[x]? = some (stM rs n k1).2[x] := List.getElem?_eq_getElem hxl
    obtain ⟨hpos, r, hq, e1, e2, e3⟩ := (HINV.out k1 hkn1).same x _ hr1
    have c1 := (hR.at_ hr1).2.1
    rw [e2] at c1
    have hre := HH.out.each r (List.mem_of_getElem? hq)
    have hw1 : 1 ≤ r.wt := hre.2.2.1
    have hw2 : r.wt ≤ 10 := hre.2.2.2.1
    have HQ := Lib.hid hq
    have HR := Lib.hid hR
    clear hT hR ht hk1 hr1 hpos e1 e2 e3 hg2 hre hxl hq
    go_wp2_with fail
    go_loopg [4, 18] r.wt (fun f s j wr => ∃ y k : Nat, y ≤ r.wt ∧ k = k1 + y ∧ k ≤ n ∧ f = r.wt - y ∧ j = .int .i64 y ∧ s = .int .i64 ((n : Int) - (k : Int)) ∧ OwnT wr B (.slice (some ⟨G, 0, none⟩) n c) (stM rs n k).1 ∧ OwnW wr B2 (.slice (some ⟨R, 0, none⟩) m c2) (stM rs n k).2 ∧ Touch w wr (fun k => k = G ∨ k = R))
    case atStart => exact ⟨0, k1, Nat.zero_le _, rfl, hkn1, by omega, by simp, rfl, HT.out, HR.out, HTO.out⟩
    case round =>
     obtain ⟨y, k, hyw, hk, hkn, hg3, rfl, rfl, hT, hR, ht⟩ := hrel
     by_cases hy : y < r.wt
     ·by_cases hkz : k < n
      ·have hm : k % N = pre rs x + y := by
        rw [hk, HK1.out, HK0.out, Nat.add_assoc, mod_turn]
        have := pre_wt_le rs x r HQ.out
        have := HN.out
        omega
       have hwho : who rs (k % allW rs) = x := by rw [HN.out, hm]; exact who_pre rs x y r HQ.out hy
       have hxl : x < (stM rs n k).2.length := by rw [(HINV.out k hkn).rl, HM.out]; exact hx
       have hr1 : (stM rs n k).2[x]? = some (stM rs n k).2[x] := List.getElem?_eq_getElem hxl
       obtain ⟨hpos, r2, hq2, e1, e2, e3⟩ := (HINV.out k hkn).same x _ hr1
       rw [HQ.out] at hq2
       simp only [Option.some.injEq] at hq2
       subst hq2
       have hre := HH.out.each r (List.mem_of_getElem? HQ.out)
       have hwok := walk_ok HH.out.prm (HINV.out k hkn).tl hpos (by omega : 1 ≤ ((stM rs n k).2[x]).sk) (by omega) (by have := (HINV.out k hkn).free; omega)
       have hTK := take_any B B2 G R n c m c2 x _ _ _ wr hT hR hne hr1 hpos (by omega) hn251 hnc (by omega) hwok.1 hwok.2
       have HE : RowKit.Hid (takeT ((stM rs n k).1, (stM rs n k).2) x = stM rs n (k + 1)) := Lib.hid (by
        show takeT (stM rs n k) x = takeT (stM rs n k) (who rs (k % allW rs)); rw [hwho])
       rw [HE.out] at hTK
       have HTK := Lib.hid hTK
       have HTO := Lib.hid ht
       have HK := Lib.hid hk
       have HG3 := Lib.hid hg3
       clear hTK hT hR ht hk hg3 hwok hre hr1 hpos e1 e2 e3 hm hwho hxl
       have hb1 : ¬ ((n : Int) - (k : Int) = 0) := by omega
       go_wp2_with (go_at_call 100; (with_reducible refine HTK.out.mono ?_); rintro e w4 ⟨rfl, h1, h2, h3⟩; have H1 := Lib.hid h1; have H2 := Lib.hid h2; have H3 := Lib.hid h3; clear h1 h2 h3)
       go_roundg (r.wt - (y + 1))
       case measure => have := HG3.out; omega
       case rel => exact ⟨y + 1, k + 1, by omega, by have := HK.out; omega, by omega, rfl, by go_num, by go_num, H1.out, H2.out, HTO.out.trans H3.out (fun _ _ h => h)⟩
      ·obtain rfl : k = n := by omega
       have HT := Lib.hid hT
       have HTO := Lib.hid ht
       clear hT hR ht hk hg3
       have hb1 : (k : Int) - (k : Int) = 0 := by omega
       go_wp2_with fail
       refine bodyPost_ret (results_none rfl _ _ _) rfl ?_
       exact ⟨rfl, HT.out, HTO.out⟩
     ·obtain rfl : y = r.wt := by omega
      have HT := Lib.hid hT
      have HR := Lib.hid hR
      have HTO := Lib.hid ht
      have HK := Lib.hid hk
      clear hT hR ht hk hg3
      go_wp2_with fail
      go_roundg (m - (x + 1))
      case measure => have := HG2.out; omega
      case rel => exact ⟨x + 1, k, by omega, by rw [HK.out, HK1.out, pre_succ rs x r HQ.out]; omega, hkn, rfl, by go_num, rfl, HT.out, HR.out, HTO.out⟩
   ·obtain rfl : x = m := by omega
    have HR := Lib.hid hR
    clear hT hR ht hk1 hg2
    go_wp2_with fail
    go_roundg (n - k1)
    case measure =>
     have e1 := HK1.out
     rw [← HM.out, pre_all, HN.out] at e1
     have := HGK.out
     omega
    case rel =>
     refine ⟨q + 1, k1, ?_, hkn1, rfl, rfl, HT.out, HR.out, HTO.out⟩
     have e1 := HK1.out
     rw [← HM.out, pre_all, HN.out, HK0.out] at e1
     rw [e1, Nat.succ_mul]
end Go.Proofs.YtpjdcgjoepjmcaaGreat
end
section
namespace Go.Proofs.YtpjdcgjoepjmcaaGreat
open Go.RowKit
set_option maxHeartbeats 400000 in
theorem low_any (s : Int) (w : World) (h : 0 ≤ s) (h2 : s ≤ 4294967295) :
 Calls Tryz.prog 171 #[.int .u32 s] w fun e w' => e = .returned (.int .u32 (lowF s)) ∧ ∃ n, w' = w.drewN n := by
 go_enter Tryz.func171, Tryz.ntmps171
 go_wp2
 go_loop [0] (fun t => ∃ x : Int, 0 ≤ x ∧ x ≤ 4294967295 ∧ lowF x = lowF s ∧ t = .int .u32 x) (fun t => (intOf t).toNat)
 case atStart => exact ⟨s, h, h2, rfl, rfl⟩
 case round =>
  obtain ⟨t, ht, ht2, he, rfl⟩ := hrel
  have HE := Lib.hid he
  clear he
  go_wp2
  ·have hlt : 65535 < t := by assumption
   have hb : bits BinOp.and IntKind.u32 t 65535 = t % 65536 := bits_mask .u32 32 (by decide) (fun n a b => by rw [IntKind.wrap_u32]; omega) 16 (by decide) t ht (by omega)
   have e : (t / 65536 + bits BinOp.and IntKind.u32 t 65535) % 4294967296 = t / 65536 + t % 65536 := by rw [hb]; omega
   rw [e]
   refine ⟨⟨_, by omega, by omega, ?_, rfl⟩, ?_⟩
   ·rw [lowF_step t hlt]; exact HE.out
   ·simp [intOf]; omega
  ·have hle : t ≤ 65535 := by assumption
   go_ret
   refine ⟨?_, 0, rfl⟩
   have e : lowF s = t := by rw [← HE.out]; exact lowF_small t ht (by omega)
   rw [e]; rfl
set_option maxHeartbeats 400000 in
theorem part_any (s : Int) (a : Option Addr) (len cap : Nat) (xs : List Nat) (w : World) (h : 0 ≤ s) (h2 : s ≤ 4294967295) (hr : RowB w a len cap xs) :
 Calls Tryz.prog 141 #[.int .u32 s, .slice a len cap] w fun e w' => e = .returned (.int .u32 (partF s xs)) ∧ ∃ n, w' = w.drewN n := by
 go_enter Tryz.func141, Tryz.ntmps141
 go_wp2_with (go_at_call 171; refine (low_any _ _ (by omega) (by omega)).mono ?_; rintro e w' ⟨rfl, n, rfl⟩)
 go_loopw [0, 1] (fun s1 b1 wr => ∃ (t : Int) (a : Option Addr) (len cap : Nat) (ys : List Nat), 0 ≤ t ∧ t ≤ 65535 ∧ partF t ys = partF s xs ∧ RowB wr a len cap ys ∧ s1 = .int .u32 t ∧ b1 = .slice a len cap ∧ Drew w wr) (fun _ b1 _ => lenOf b1)
 case atStart => exact ⟨_, a, len, cap, xs, (lowF_le s).1, (lowF_le s).2, partF_low s xs h, hr.drewN _, rfl, rfl, Drew.mk _ _⟩
 case round =>
  obtain ⟨t, a, len, cap, ys, ht, ht2, he, hr, rfl, rfl, hdr⟩ := hrel
  have HE := Lib.hid he
  clear he
  have hr' := hr
  obtain ⟨hl, hlc, hcm, hlm, hx, hc⟩ := hr
  have HL := Lib.hid hl
  clear hl
  by_cases h1 : 1 < len
  ·obtain h0 | ⟨b, off, rfl, hcell⟩ := hc
   ·omega
   ·match ys, HL with
    | [], HL => have := HL.out; simp at this; omega
    | [_], HL => have := HL.out; simp at this; omega
    | x :: y :: r, HL =>
      have hlen := HL.out
      have c0 := hcell 0 (by simp)
      have c1 := hcell 1 (by simp)
      simp at c0 c1 hlen
      have b0 := hx x (by simp)
      have b1 := hx y (by simp)
      have i1 : (1 : Int) < (len : Int) := by omega
      have i0 : 0 < len := by omega
      go_wp2
      have e1 : IntKind.u32.wrap (x : Int) = x := IntWalk.u32_in _ (by omega)
      have e2 : IntKind.u32.wrap ((x : Int) * 256) = x * 256 := IntWalk.u32_in _ (by omega)
      have e3 : IntKind.u32.wrap (t + (x : Int) * 256) = t + x * 256 := IntWalk.u32_in _ (by omega)
      have e4 : IntKind.u32.wrap (y : Int) = y := IntWalk.u32_in _ (by omega)
      have e5 : IntKind.u32.wrap (t + (x : Int) * 256 + y) = t + x * 256 + y := IntWalk.u32_in _ (by omega)
      have g0 : 0 ≤ t + (x : Int) * 256 + y := by omega
      have g1 : t + (x : Int) * 256 + y ≤ 4294967295 := by omega
      go_quiet ((go_at_call 171; exact Calls.quiet_of (low_any _ _ g0 g1)))
      clear e1 e2 e3 e4 e5
      have hrd := hr'.drop 2 (by omega)
      have HR := Lib.hid hrd
      have HE' := Lib.hid (partF_cons t x y r ht)
      clear hrd hcell hr' hlen
      go_wp2
      refine ⟨⟨_, _, _, _, r, (lowF_le _).1, (lowF_le _).2, ?_, ?_, rfl, rfl, hdr.more _⟩, by simp [lenOf]; omega⟩
      ·rw [HE'.out]; exact HE.out
      ·exact HR.out.drewN _
  ·obtain h0 | ⟨b, off, rfl, hcell⟩ := hc
   ·have hy : ys = [] := by have := HL.out; exact List.length_eq_zero_iff.1 (by omega)
    subst hy
    subst h0
    have HP := Lib.hid (partF_nil t ht ht2)
    clear hr'
    go_wp2
    go_ret
    refine ⟨?_, hdr⟩
    rw [← HE.out, HP.out]; rfl
   ·by_cases h0 : len = 0
    ·have hy : ys = [] := by have := HL.out; exact List.length_eq_zero_iff.1 (by omega)
     subst hy
     subst h0
     have HP := Lib.hid (partF_nil t ht ht2)
     clear hr' hcell
     go_wp2
     go_ret
     refine ⟨?_, hdr⟩
     rw [← HE.out, HP.out]; rfl
    ·obtain rfl : len = 1 := by omega
     match ys, HL with
     | [], HL => have := HL.out; simp at this
     | _ :: _ :: _, HL => have := HL.out; simp at this
     | [x], HL =>
       have c0 := hcell 0 (by simp)
       simp at c0
       have b0 := hx x (by simp)
       have HP := Lib.hid (partF_one t x)
       clear hr' hcell
       go_wp2_with (go_at_call 171; refine (low_any _ _ (by omega) (by omega)).mono ?_; rintro e w' ⟨rfl, n, rfl⟩)
       go_ret
       refine ⟨?_, hdr.more _⟩
       rw [← HE.out, HP.out]; rfl
end Go.Proofs.YtpjdcgjoepjmcaaGreat
end
section
namespace Go.Proofs.YtpjdcgjoepjmcaaGreat
open Go.RowKit
theorem xor_ones16 (a : Nat) (h : a < 65536) : 65535 ^^^ a = 65535 - a := by
 have e : 65535 ^^^ a = (BitVec.allOnes 16 ^^^ BitVec.ofNat 16 a).toNat := by
  rw [BitVec.toNat_xor, BitVec.toNat_allOnes, BitVec.toNat_ofNat, Nat.mod_eq_of_lt h]
 rw [e, BitVec.allOnes_xor, BitVec.toNat_not, BitVec.toNat_ofNat, Nat.mod_eq_of_lt h]
theorem not16 (s : Int) (h : 0 ≤ s) (h2 : s ≤ 65535) : bits BinOp.xor IntKind.u16 IntKind.u16.max s = 65535 - s := by
 obtain ⟨a, rfl⟩ := Int.eq_ofNat_of_zero_le h
 have e : IntKind.u16.max = ((65535 : Nat) : Int) := rfl
 rw [e, u16_xor_nat 65535 a (by omega) (by omega), xor_ones16 a (by omega)]
 omega
set_option maxHeartbeats 400000 in
theorem fold_any (s : Int) (w : World) (h : 0 ≤ s) (h2 : s ≤ 4294967295) :
 Calls Tryz.prog 140 #[.int .u32 s] w fun e w' => e = .returned (.int .u16 (foldF s)) ∧ ∃ n, w' = w.drewN n := by
 have hb := lowF_le s
 have hs : IntKind.u16.signed = false := rfl
 have hn := not16 _ hb.1 hb.2
 go_enter Tryz.func140, Tryz.ntmps140
 go_wp2_with (go_at_call 171; refine (low_any _ _ (by omega) (by omega)).mono ?_; rintro e w' ⟨rfl, n, rfl⟩)
 go_ret
 exact ⟨rfl, n, rfl⟩
end Go.Proofs.YtpjdcgjoepjmcaaGreat
end
section
namespace Go.Proofs.YtpjdcgjoepjmcaaGreat
open Go.RowKit
set_option maxHeartbeats 400000 in
theorem rlow_any (s : Int) (w : World) (h : 0 ≤ s) (h2 : s ≤ 4294967295) :
 Calls Tryz.prog 147 #[.int .u32 s] w fun e w' => e = .returned (.int .u32 (lowF s)) ∧ ∃ n, w' = w.drewN n := by
 go_enter Tryz.func147, Tryz.ntmps147
 go_wp2
 go_loop [0] (fun t => ∃ x : Int, 0 ≤ x ∧ x ≤ 4294967295 ∧ lowF x = lowF s ∧ t = .int .u32 x) (fun t => (intOf t).toNat)
 case atStart => exact ⟨s, h, h2, rfl, rfl⟩
 case round =>
  obtain ⟨t, ht, ht2, he, rfl⟩ := hrel
  have HE := Lib.hid he
  clear he
  go_wp2
  ·have hlt : 65535 < t := by assumption
   have hb : bits BinOp.and IntKind.u32 t 65535 = t % 65536 := bits_mask .u32 32 (by decide) (fun n a b => by rw [IntKind.wrap_u32]; omega) 16 (by decide) t ht (by omega)
   have e : (t / 65536 + bits BinOp.and IntKind.u32 t 65535) % 4294967296 = t / 65536 + t % 65536 := by rw [hb]; omega
   rw [e]
   refine ⟨⟨_, by omega, by omega, ?_, rfl⟩, ?_⟩
   ·rw [lowF_step t hlt]; exact HE.out
   ·simp [intOf]; omega
  ·have hle : t ≤ 65535 := by assumption
   go_ret
   refine ⟨?_, 0, rfl⟩
   have e : lowF s = t := by rw [← HE.out]; exact lowF_small t ht (by omega)
   rw [e]; rfl
set_option maxHeartbeats 400000 in
theorem rfold_any (s : Int) (w : World) (h : 0 ≤ s) (h2 : s ≤ 4294967295) :
 Calls Tryz.prog 126 #[.int .u32 s] w fun e w' => e = .returned (.int .u16 (foldF s)) ∧ ∃ n, w' = w.drewN n := by
 have hb := lowF_le s
 have hs : IntKind.u16.signed = false := rfl
 have hn := not16 _ hb.1 hb.2
 go_enter Tryz.func126, Tryz.ntmps126
 go_wp2_with (go_at_call 147; refine (rlow_any _ _ (by omega) (by omega)).mono ?_; rintro e w' ⟨rfl, n, rfl⟩)
 go_ret
 exact ⟨rfl, n, rfl⟩
theorem or8 (x y : Nat) (hx : x < 256) (hy : y < 256) : bits BinOp.or IntKind.u32 ((x : Int) * 256) (y : Int) = (x : Int) * 256 + y :=
 bits_join .u32 32 (by decide) (fun n a b => by rw [IntKind.wrap_u32]; omega) 8 _ _ (by omega) (by omega) (by omega) (by omega) (by omega) (by omega)
set_option maxHeartbeats 400000 in
theorem rpart_any (s : Int) (a : Option Addr) (len cap : Nat) (xs : List Nat) (w : World) (h : 0 ≤ s) (h2 : s ≤ 4294967295) (hr : RowB w a len cap xs) :
 Calls Tryz.prog 133 #[.int .u32 s, .slice a len cap] w fun e w' => e = .returned (.int .u32 (partF s xs)) ∧ ∃ n, w' = w.drewN n := by
 go_enter Tryz.func133, Tryz.ntmps133
 go_wp2_with (go_at_call 147; refine (rlow_any _ _ (by omega) (by omega)).mono ?_; rintro e w' ⟨rfl, n, rfl⟩)
 go_loopw [0, 5] (fun s1 i wr => ∃ (t : Int) (k : Nat), 0 ≤ t ∧ t ≤ 65535 ∧ k ≤ len + 1 ∧ partF t (xs.drop k) = partF s xs ∧ s1 = .int .u32 t ∧ i = .int .i64 k ∧ Drew w wr) (fun _ i _ => len + 1 - (intOf i).toNat)
 case atStart => exact ⟨_, 0, (lowF_le s).1, (lowF_le s).2, by omega, partF_low s xs h, rfl, rfl, Drew.mk _ _⟩
 case round =>
  obtain ⟨t, k, ht, ht2, hk, he, rfl, rfl, hdr⟩ := hrel
  have HE := Lib.hid he
  clear he
  have hr' := hr.drew hdr
  obtain ⟨hl, hlc, hcm, hlm, hx, hc⟩ := hr'
  have HL := Lib.hid hl
  clear hl
  have HX := Lib.hid hx
  clear hx
  by_cases h1 : k < len
  ·obtain h0 | ⟨b, off, rfl, hcell⟩ := hc
   ·omega
   ·have hkx : k < xs.length := by rw [HL.out]; exact h1
    have c0 := hcell k hkx
    have b0 := HX.out _ (List.getElem_mem hkx)
    have HS := Lib.hid (drop_cons hkx)
    by_cases h3 : k + 1 < len
    ·have hkx1 : k + 1 < xs.length := by rw [HL.out]; exact h3
     have c1 := hcell (k + 1) hkx1
     have b1 := HX.out _ (List.getElem_mem hkx1)
     have HS1 := Lib.hid (drop_cons hkx1)
     generalize xs[k] = x at *
     generalize xs[k + 1] = y at *
     have hor := or8 x y b0 b1
     clear hcell
     have i0 : (k : Int) < len := by omega
     have i1 : (k : Int) + 1 < len := by omega
     have HP := Lib.hid (partF_cons t x y (xs.drop (k + 1 + 1)) ht)
     go_wp2_with (go_at_call 147; refine (rlow_any _ _ (by omega) (by omega)).mono ?_; rintro e w' ⟨rfl, n, rfl⟩)
     have HG : Hid (partF (lowF (t + ((x : Int) * 256 + y))) (xs.drop (k + 2)) = partF s xs) := Lib.hid (by
      rw [show t + ((x : Int) * 256 + y) = t + (x : Int) * 256 + y from by omega, show k + 2 = k + 1 + 1 from rfl, HP.out, ← HS1.out, ← HS.out]
      exact HE.out)
     exact ⟨⟨_, k + 2, (lowF_le _).1, (lowF_le _).2, by omega, HG.out, rfl, by go_num, hdr.more _⟩, by simp [intOf]; omega⟩
    ·have hlen : xs.drop (k + 1) = [] := List.drop_of_length_le (by rw [HL.out]; omega)
     generalize xs[k] = x at *
     have HG : Hid (partF (lowF (t + (x : Int) * 256)) (xs.drop (k + 2)) = partF s xs) := Lib.hid (by
      rw [← HE.out, HS.out, hlen, partF_one]
      rw [List.drop_of_length_le (by rw [HL.out]; omega), partF_nil _ (lowF_le _).1 (lowF_le _).2])
     have i0 : (k : Int) < len := by omega
     have i1 : ¬ (k : Int) + 1 < len := by omega
     clear hcell hlen
     go_wp2_with (go_at_call 147; refine (rlow_any _ _ (by omega) (by omega)).mono ?_; rintro e w' ⟨rfl, n, rfl⟩)
     exact ⟨⟨_, k + 2, (lowF_le _).1, (lowF_le _).2, by omega, HG.out, rfl, by go_num, hdr.more _⟩, by simp [intOf]; omega⟩
  ·have HG : Hid (partF s xs = t) := Lib.hid (by
    rw [← HE.out, List.drop_of_length_le (by rw [HL.out]; omega), partF_nil t ht ht2])
   have i0 : ¬ (k : Int) < len := by omega
   clear hc
   go_wp2
   go_ret
   rw [HG.out]
   exact ⟨rfl, hdr⟩
set_option maxHeartbeats 400000 in
theorem net_any (a : Option Addr) (len cap : Nat) (xs : List Nat) (w : World) (hr : RowB w a len cap xs) :
 Calls Tryz.prog 119 #[.slice a len cap] w fun e w' => e = .returned (.int .u16 (netF xs)) ∧ ∃ n, w' = w.drewN n := by
 have hp := partF_le 0 xs
 go_enter Tryz.func119, Tryz.ntmps119
 go_wp2_with (first | (go_at_call 141; refine (part_any _ _ _ _ xs _ (by omega) (by omega) hr).mono ?_; rintro e w' ⟨rfl, n, rfl⟩) | (go_at_call 140; refine (fold_any _ _ (by omega) (by omega)).mono ?_; rintro e w' ⟨rfl, n, rfl⟩))
 go_ret
 exact ⟨rfl, _, rfl⟩
set_option maxHeartbeats 400000 in
theorem rnet_any (a : Option Addr) (len cap : Nat) (xs : List Nat) (w : World) (hr : RowB w a len cap xs) :
 Calls Tryz.prog 98 #[.slice a len cap] w fun e w' => e = .returned (.int .u16 (netF xs)) ∧ ∃ n, w' = w.drewN n := by
 have hp := partF_le 0 xs
 go_enter Tryz.func98, Tryz.ntmps98
 go_wp2_with (first | (go_at_call 133; refine (rpart_any _ _ _ _ xs _ (by omega) (by omega) hr).mono ?_; rintro e w' ⟨rfl, n, rfl⟩) | (go_at_call 126; refine (rfold_any _ _ (by omega) (by omega)).mono ?_; rintro e w' ⟨rfl, n, rfl⟩))
 go_ret
 exact ⟨rfl, _, rfl⟩
def fixF (sum old now : Int) : Int := foldF (65535 - sum + (65535 - old) + now)
set_option maxHeartbeats 400000 in
theorem fix_any (s o n : Int) (w : World) (hs : 0 ≤ s) (hs2 : s ≤ 65535) (ho : 0 ≤ o) (ho2 : o ≤ 65535) (hn : 0 ≤ n) (hn2 : n ≤ 65535) :
 Calls Tryz.prog 120 #[.int .u16 s, .int .u16 o, .int .u16 n] w fun e w' => e = .returned (.int .u16 (fixF s o n)) ∧ ∃ n, w' = w.drewN n := by
 have e1 := not16 s hs hs2
 have e2 := not16 o ho ho2
 have hg : IntKind.u16.signed = false := rfl
 go_enter Tryz.func120, Tryz.ntmps120
 go_wp2_with (go_at_call 140; refine (fold_any _ _ (by omega) (by omega)).mono ?_; rintro e w' ⟨rfl, n, rfl⟩)
 go_ret
 exact ⟨rfl, _, rfl⟩
set_option maxHeartbeats 400000 in
theorem rfix_any (s o n : Int) (w : World) (hs : 0 ≤ s) (hs2 : s ≤ 65535) (ho : 0 ≤ o) (ho2 : o ≤ 65535) (hn : 0 ≤ n) (hn2 : n ≤ 65535) :
 Calls Tryz.prog 90 #[.int .u16 s, .int .u16 o, .int .u16 n] w fun e w' => e = .returned (.int .u16 (fixF s o n)) ∧ ∃ n, w' = w.drewN n := by
 have e1 := not16 s hs hs2
 have e2 := not16 o ho ho2
 have hg : IntKind.u16.signed = false := rfl
 go_enter Tryz.func90, Tryz.ntmps90
 go_wp2_with (go_at_call 126; refine (rfold_any _ _ (by omega) (by omega)).mono ?_; rintro e w' ⟨rfl, n, rfl⟩)
 go_ret
 exact ⟨rfl, _, rfl⟩
set_option maxHeartbeats 400000 in
theorem mix_any (sd : Nat) (a : Option Addr) (len cap : Nat) (xs : List Nat) (w : World) (hsd : sd < 4294967296) (hr : RowB w a len cap xs) :
 Calls Tryz.prog 135 #[.int .u32 sd, .slice a len cap] w fun e w' => e = .returned (.int .u32 (mixF sd xs : Nat)) ∧ ∃ n, w' = w.drewN n := by
 obtain ⟨hl, hlc, hcm, hlm, hx, hc⟩ := hr
 have HL := Lib.hid hl
 clear hl
 have HX := Lib.hid hx
 clear hx
 have hx0 : bits BinOp.xor IntKind.u32 (sd : Int) 2166136261 = ((sd ^^^ 2166136261 : Nat) : Int) := u32_xor_nat sd 2166136261 hsd (by omega)
 go_enter Tryz.func135, Tryz.ntmps135
 go_wp2
 go_loop [5, 12] (fun s i => ∃ (k c : Nat), k ≤ len ∧ c < 4294967296 ∧ i = .int .i64 k ∧ s = .int .u32 c ∧ mixAll c (xs.drop k) = mixAll (sd ^^^ 2166136261) xs) (fun _ i => len - (intOf i).toNat)
 case atStart => exact ⟨0, sd ^^^ 2166136261, Nat.zero_le _, xor_lt32 _ _ hsd (by omega), rfl, rfl, rfl⟩
 case round =>
  obtain ⟨k, c, hk, hcl, rfl, rfl, he⟩ := hrel
  have HE := Lib.hid he
  clear he
  by_cases hlt : k < len
  ·obtain h0 | ⟨b, off, rfl, hcell⟩ := hc
   ·omega
   ·have hkx : k < xs.length := by rw [HL.out]; exact hlt
    have c0 := hcell k hkx
    clear hcell
    have hb : xs[k] < 256 := HX.out _ (List.getElem_mem hkx)
    have HS := Lib.hid (drop_cons hkx)
    generalize xs[k] = x at *
    have hxo := u32_xor_nat c x hcl (by omega)
    have hlt' : (k : Int) < len := by omega
    have hm : Hid (((c ^^^ x : Nat) : Int) * 16777619 % 4294967296 = ((mixByte c x : Nat) : Int)) := Lib.hid (by unfold mixByte; omega)
    have HC : Hid (mixAll (mixByte c x) (List.drop (k + 1) xs) = mixAll (sd ^^^ 2166136261) xs) := Lib.hid (by
     rw [← mixAll_cons, ← HS.out]; exact HE.out)
    clear hx0
    go_wp2
    rw [hm.out]
    exact ⟨⟨k + 1, mixByte c x, by omega, mixByte_lt _ _, by go_num, rfl, HC.out⟩, by simp [intOf]; omega⟩
  ·have HA : Hid (c = mixAll (sd ^^^ 2166136261) xs) := Lib.hid (by
    rw [← HE.out, List.drop_of_length_le (by rw [HL.out]; omega)]; rfl)
   have hlt' : ¬ (k : Int) < len := by omega
   have hq : bits BinOp.xor IntKind.u32 (c : Int) ((c : Int) / 32768) = ((c ^^^ c / 32768 : Nat) : Int) := by
    have e := u32_xor_nat c (c / 32768) hcl (by omega)
    simpa using e
   have hm : IntKind.u32.wrap (((c ^^^ c / 32768 : Nat) : Int) * 2246822507) = ((mixEnd c : Nat) : Int) := by
    rw [IntKind.wrap_u32]; unfold mixEnd; omega
   have hq2 : Hid (bits BinOp.xor IntKind.u32 ((mixEnd c : Nat) : Int) ((mixEnd c : Int) / 8192) = ((mixEnd c ^^^ mixEnd c / 8192 : Nat) : Int)) := Lib.hid (by
    have e := u32_xor_nat (mixEnd c) (mixEnd c / 8192) (mixEnd_lt _) (by have := mixEnd_lt c; omega)
    simpa using e)
   have HM : Hid (mixF sd xs = mixEnd c ^^^ mixEnd c / 8192) := Lib.hid (by unfold mixF; rw [← HA.out])
   clear hx0 hc
   go_wp2
   rw [hq2.out]
   go_ret
   rw [HM.out]
   exact ⟨rfl, 0, rfl⟩
set_option maxHeartbeats 400000 in
theorem rmix_any (sd : Nat) (a : Option Addr) (len cap : Nat) (xs : List Nat) (w : World) (hsd : sd < 4294967296) (hr : RowB w a len cap xs) :
 Calls Tryz.prog 102 #[.int .u32 sd, .slice a len cap] w fun e w' => e = .returned (.int .u32 (mixF sd xs : Nat)) ∧ ∃ n, w' = w.drewN n := by
 obtain ⟨hl, hlc, hcm, hlm, hx, hc⟩ := hr
 have HL := Lib.hid hl
 clear hl
 have HX := Lib.hid hx
 clear hx
 have hx0 : bits BinOp.xor IntKind.u32 (sd : Int) 2166136261 = ((sd ^^^ 2166136261 : Nat) : Int) := u32_xor_nat sd 2166136261 hsd (by omega)
 go_enter Tryz.func102, Tryz.ntmps102
 go_wp2
 go_loop [5, 12] (fun s i => ∃ (k c : Nat), k ≤ len ∧ c < 4294967296 ∧ i = .int .i64 k ∧ s = .int .u32 c ∧ mixAll c (xs.drop k) = mixAll (sd ^^^ 2166136261) xs) (fun _ i => len - (intOf i).toNat)
 case atStart => exact ⟨0, sd ^^^ 2166136261, Nat.zero_le _, xor_lt32 _ _ hsd (by omega), rfl, rfl, rfl⟩
 case round =>
  obtain ⟨k, c, hk, hcl, rfl, rfl, he⟩ := hrel
  have HE := Lib.hid he
  clear he
  by_cases hlt : k < len
  ·obtain h0 | ⟨b, off, rfl, hcell⟩ := hc
   ·omega
   ·have hkx : k < xs.length := by rw [HL.out]; exact hlt
    have c0 := hcell k hkx
    clear hcell
    have hb : xs[k] < 256 := HX.out _ (List.getElem_mem hkx)
    have HS := Lib.hid (drop_cons hkx)
    generalize xs[k] = x at *
    have hxo := u32_xor_nat c x hcl (by omega)
    have hlt' : (k : Int) < len := by omega
    have hm : Hid (((c ^^^ x : Nat) : Int) * 16777619 % 4294967296 = ((mixByte c x : Nat) : Int)) := Lib.hid (by unfold mixByte; omega)
    have HC : Hid (mixAll (mixByte c x) (List.drop (k + 1) xs) = mixAll (sd ^^^ 2166136261) xs) := Lib.hid (by
     rw [← mixAll_cons, ← HS.out]; exact HE.out)
    clear hx0
    go_wp2
    rw [hm.out]
    exact ⟨⟨k + 1, mixByte c x, by omega, mixByte_lt _ _, by go_num, rfl, HC.out⟩, by simp [intOf]; omega⟩
  ·have HA : Hid (c = mixAll (sd ^^^ 2166136261) xs) := Lib.hid (by
    rw [← HE.out, List.drop_of_length_le (by rw [HL.out]; omega)]; rfl)
   have hlt' : ¬ (k : Int) < len := by omega
   have hq : bits BinOp.xor IntKind.u32 (c : Int) ((c : Int) / 32768) = ((c ^^^ c / 32768 : Nat) : Int) := by
    have e := u32_xor_nat c (c / 32768) hcl (by omega)
    simpa using e
   have hm : IntKind.u32.wrap (((c ^^^ c / 32768 : Nat) : Int) * 2246822507) = ((mixEnd c : Nat) : Int) := by
    rw [IntKind.wrap_u32]; unfold mixEnd; omega
   have hq2 : Hid (bits BinOp.xor IntKind.u32 ((mixEnd c : Nat) : Int) ((mixEnd c : Int) / 8192) = ((mixEnd c ^^^ mixEnd c / 8192 : Nat) : Int)) := Lib.hid (by
    have e := u32_xor_nat (mixEnd c) (mixEnd c / 8192) (mixEnd_lt _) (by have := mixEnd_lt c; omega)
    simpa using e)
   have HM : Hid (mixF sd xs = mixEnd c ^^^ mixEnd c / 8192) := Lib.hid (by unfold mixF; rw [← HA.out])
   clear hx0 hc
   go_wp2
   rw [hq2.out]
   go_ret
   rw [HM.out]
   exact ⟨rfl, 0, rfl⟩
end Go.Proofs.YtpjdcgjoepjmcaaGreat
end
section
namespace Go.Proofs.YtpjdcgjoepjmcaaGreat
open Go.RowKit
def mayS (n : Nat) : Bool := (List.range 16).all (fun k => decide (¬ (2 ≤ k ∧ k * k ≤ n ∧ n % k = 0)))
theorem mayS_iff (n : Nat) : mayS n = true ↔ ∀ k, k < 16 → ¬ (2 ≤ k ∧ k * k ≤ n ∧ n % k = 0) := by
 unfold mayS; rw [List.all_eq_true]; simp only [List.mem_range, decide_eq_true_iff]
theorem prm_may {n : Nat} (h : Prm n) : mayS n = true := by
 rw [mayS_iff]
 rintro k hk ⟨h2, hkk, hm⟩
 have hlt : k < n := by
  have := Nat.mul_le_mul_right k h2
  have := h.lo
  omega
 obtain ⟨i, _, he⟩ := h.inv k hlt (by omega)
 have hd : k ∣ n := Nat.dvd_of_mod_eq_zero hm
 have h1 : k ∣ k * i % n := (Nat.dvd_mod_iff hd).2 ⟨i, rfl⟩
 rw [he] at h1
 have := Nat.le_of_dvd (by omega) h1
 omega
set_option maxHeartbeats 400000 in
theorem mayS_any (n : Nat) (w : World) (h3 : 3 ≤ n) (h251 : n ≤ 251) :
 Calls Tryz.prog 36 #[.int .i64 n] w fun e w' => e = .returned (.bool (mayS n)) ∧ w = w' := by
 have hw : ∀ k : Nat, k ≤ 16 → k * k ≤ 256 := fun k hk => Nat.mul_le_mul hk hk
 have HW := Lib.hid hw
 have HM := Lib.hid (mayS_iff n)
 clear hw
 go_enter Tryz.func36, Tryz.ntmps36
 go_wp2_with fail
 go_loop [3] (fun i => ∃ k : Nat, 2 ≤ k ∧ k ≤ 16 ∧ i = .int .i64 k ∧ ∀ j, j < k → ¬ (2 ≤ j ∧ j * j ≤ n ∧ n % j = 0)) (fun i => 16 - (intOf i).toNat)
 case atStart => exact ⟨2, by omega, by omega, rfl, fun j h1 h2 => by omega⟩
 case round =>
  obtain ⟨k, hk2, hk, rfl, ha⟩ := hrel
  have HA := Lib.hid ha
  have hw := HW.out k hk
  obtain ⟨K, hK⟩ : ∃ K, k * k = K := ⟨_, rfl⟩
  have hKI : (k : Int) * (k : Int) = (K : Int) := by rw [← hK]; norm_cast
  have hrem : Int.tmod (n : Int) (k : Int) = ((n % k : Nat) : Int) := by
   rw [Int.tmod_eq_emod_of_nonneg (by omega)]; norm_cast
  have hrem2 : (n : Int) % (k : Int) = ((n % k : Nat) : Int) := by norm_cast
  rw [hK] at hw
  have HK := Lib.hid hK
  obtain ⟨M, hM⟩ : ∃ M, n % k = M := ⟨_, rfl⟩
  have HMM := Lib.hid hM
  rw [hM] at hrem hrem2
  have hn0 : ((k : Int) == 0) = false := beq_eq_false_iff_ne.2 (by omega)
  have hn1 : ¬ k = 0 := by omega
  have hw0 : IntKind.i64.wrap (K : Int) = (K : Int) := IntWalk.i64_in _ (by omega)
  have hwm : IntKind.i64.wrap (M : Int) = (M : Int) := IntWalk.i64_in _ (by rw [← hM]; have := Nat.mod_le n k; omega)
  have hw1 : IntKind.i64.wrap ((k : Int) + 1) = (k : Int) + 1 := IntWalk.i64_in _ (by omega)
  clear ha hK hM
  by_cases hc : K ≤ n
  ·have hcI : (K : Int) ≤ (n : Int) := by omega
   have hk15 : k ≤ 15 := by
    rcases Nat.lt_or_ge k 16 with h9 | h9
    ·omega
    ·have e : k = 16 := by omega
     have := HK.out
     rw [e] at this
     omega
   by_cases hm : M = 0
   ·subst hm
    have HF : RowKit.Hid (mayS n = false) := Lib.hid (by
     cases hh : mayS n with
     | false => rfl
     | true => exact absurd ⟨hk2, by rw [HK.out]; exact hc, HMM.out⟩ (HM.out.1 hh k (by omega)))
    go_wp2
    go_ret
    exact ⟨by rw [HF.out]; rfl, rfl⟩
   ·have hmI : ¬ (M : Int) = 0 := by omega
    have hmI2 : ((M : Int) == 0) = false := beq_eq_false_iff_ne.2 hmI
    go_wp2
    refine ⟨⟨k + 1, by omega, by omega, by go_num, fun j h1 => ?_⟩, by simp [intOf]; omega⟩
    rcases Nat.lt_or_ge j k with h9 | h9
    ·exact HA.out j h9
    ·have e : j = k := by omega
     subst e
     rintro ⟨_, _, h4⟩
     exact hm (HMM.out ▸ h4)
  ·have hcI : ¬ (K : Int) ≤ (n : Int) := by omega
   have HT : RowKit.Hid (mayS n = true) := Lib.hid (by
    rw [HM.out]
    intro j hj
    rcases Nat.lt_or_ge j k with h9 | h9
    ·exact HA.out j h9
    ·rintro ⟨_, h5, _⟩
     have := Nat.mul_le_mul h9 h9
     have := HK.out
     omega)
   go_wp2
   go_ret
   exact ⟨by rw [HT.out]; rfl, rfl⟩
theorem isWeight_any (n : Int) (w : World) :
 Calls Tryz.prog 74 #[.int .i64 n] w fun e w' => e = .returned (.bool (decide (1 ≤ n ∧ n ≤ 10))) ∧ w' = w := by
 have HM : RowKit.Hid (decide (1 ≤ n ∧ n ≤ 10) = true ↔ 1 ≤ n ∧ n ≤ 10) := Lib.hid decide_eq_true_iff
 generalize decide (1 ≤ n ∧ n ≤ 10) = m at *
 go_enter Tryz.func74, Tryz.ntmps74
 go_wp2
 all_goals (go_ret; refine ⟨ret_bool ?_, rfl⟩; rw [Bool.eq_iff_iff, HM.out]; clear HM; (first | (simp_all; done) | (simp_all; omega)))
set_option maxRecDepth 20000 in
set_option maxHeartbeats 1000000 in
theorem row_any (id : Int) (n : Nat) (w : World) (hp : Prm n) (hi : i64 id) :
 Calls Tryz.prog 101 #[.int .i64 id, .int .i64 n] w fun e w' => e = .returned (.tuple #[.int .i64 (offF id n : Nat), .int .i64 (skF id n : Nat)]) ∧ Touch w w' (fun _ => False) := by
 obtain ⟨hi1, hi2⟩ := hi
 have h3 := hp.lo
 have h251 := hp.hi
 have HM := Lib.hid (mayS_any n w h3 h251)
 rw [prm_may hp] at HM
 go_enter Tryz.func101, Tryz.ntmps101
 go_wp2_with (go_at_call 36; (with_reducible refine HM.out.mono ?_); rintro e w9 ⟨rfl, rfl⟩)
 have HR : RowKit.Hid (RowB (w.alloc (.cells #[.int .u8 (id / 16777216 % 256), .int .u8 (id / 65536 % 256), .int .u8 (id / 256 % 256), .int .u8 (id % 256)] 5)) (some ⟨w.heap.size, 0, none⟩) 4 4 (id4 id)) := Lib.hid (by
  refine RowB.new w _ rfl _ _ _ 4 (id4 id) rfl (by omega) (id4_small id) (fun i hi => ?_)
  have h4 : i < 4 := hi
  rcases (by omega : i = 0 ∨ i = 1 ∨ i = 2 ∨ i = 3) with rfl | rfl | rfl | rfl <;> simp [id4] <;> omega)
 obtain ⟨W1, hW1⟩ : ∃ W, w.alloc (.cells #[.int .u8 (id / 16777216 % 256), .int .u8 (id / 65536 % 256), .int .u8 (id / 256 % 256), .int .u8 (id % 256)] 5) = W := ⟨_, rfl⟩
 rw [hW1] at HR ⊢
 have HT : RowKit.Hid (Touch w W1 (fun _ => False)) := Lib.hid (hW1 ▸ (Touch.refl w _).alloc _)
 have HX := Lib.hid (id4_small id)
 obtain ⟨G, hG⟩ : ∃ G, w.heap.size = G := ⟨_, rfl⟩
 rw [hG] at HR ⊢
 clear hG hW1
 obtain ⟨X1, hX1⟩ : ∃ X, mixF 1 (id4 id) = X := ⟨_, rfl⟩
 obtain ⟨X2, hX2⟩ : ∃ X, mixF 2 (id4 id) = X := ⟨_, rfl⟩
 have hl1 := mixF_lt 1 (id4 id)
 have hl2 := mixF_lt 2 (id4 id)
 have HM1 : RowKit.Hid (∀ W, RowB W (some ⟨G, 0, none⟩) 4 4 (id4 id) → Calls Tryz.prog 135 #[.int .u32 1, .slice (some ⟨G, 0, none⟩) 4 4] W fun e w' => e = .returned (.int .u32 (X1 : Nat)) ∧ ∃ n, w' = W.drewN n) := Lib.hid (fun W h => by rw [← hX1]; exact mix_any 1 _ _ _ _ W (by omega) h)
 have HM2 : RowKit.Hid (∀ W, RowB W (some ⟨G, 0, none⟩) 4 4 (id4 id) → Calls Tryz.prog 135 #[.int .u32 2, .slice (some ⟨G, 0, none⟩) 4 4] W fun e w' => e = .returned (.int .u32 (X2 : Nat)) ∧ ∃ n, w' = W.drewN n) := Lib.hid (fun W h => by rw [← hX2]; exact mix_any 2 _ _ _ _ W (by omega) h)
 have HO : RowKit.Hid (offF id n = X1 % n) := Lib.hid (by unfold offF; rw [hX1])
 have HS : RowKit.Hid (skF id n = X2 % (n - 1) + 1) := Lib.hid (by unfold skF; rw [hX2])
 rw [hX1] at hl1
 rw [hX2] at hl2
 clear hX1 hX2
 have hn0 : ((n : Int) == 0) = false := beq_eq_false_iff_ne.2 (by omega)
 have hn1 : ¬ n = 0 := by omega
 have hn2 : (((n : Int) - 1) == 0) = false := beq_eq_false_iff_ne.2 (by omega)
 have hn3 : ¬ ((n : Int) - 1 = 0) := by omega
 refine (HM1.out _ HR.out).mono ?_
 rintro e w4 ⟨rfl, n4, rfl⟩
 have hr1 : Int.tmod (X1 : Int) (n : Int) = ((X1 % n : Nat) : Int) := by rw [Int.tmod_eq_emod_of_nonneg (by omega)]; norm_cast
 have hr2 : (X1 : Int) % (n : Int) = ((X1 % n : Nat) : Int) := by norm_cast
 have hq1 : Int.tmod (X2 : Int) ((n : Int) - 1) = ((X2 % (n - 1) : Nat) : Int) := by rw [Int.tmod_eq_emod_of_nonneg (by omega), show (n : Int) - 1 = ((n - 1 : Nat) : Int) from by omega]; norm_cast
 have hq2 : (X2 : Int) % ((n : Int) - 1) = ((X2 % (n - 1) : Nat) : Int) := by rw [show (n : Int) - 1 = ((n - 1 : Nat) : Int) from by omega]; norm_cast
 have hb1 : X1 % n < n := Nat.mod_lt _ (by omega)
 have hb2 : X2 % (n - 1) < n - 1 := Nat.mod_lt _ (by omega)
 generalize X1 % n = O1 at *
 generalize X2 % (n - 1) = O2 at *
 go_wp2_with (go_at_call 135; (with_reducible refine (HM2.out _ (HR.out.drewN _)).mono ?_); rintro e w4 ⟨rfl, n5, rfl⟩)
 go_ret2
 exact ⟨by rw [HO.out, HS.out]; rfl, HT.out.drewN _⟩
def okAt (bs : List BkD) (i : Nat) : Bool := match bs[i]? with
 | none => true
 | some b => mayKB b && (i == 0 || match bs[i - 1]? with | none => true | some a => decide (a.id < b.id))
def gmay (bs : List BkD) : Bool := decide (bs.length ≤ 16) && (List.range bs.length).all (okAt bs)
theorem gmay_iff (bs : List BkD) : gmay bs = true ↔ bs.length ≤ 16 ∧ ∀ i, i < bs.length → okAt bs i = true := by
 unfold gmay; rw [Bool.and_eq_true, decide_eq_true_iff, List.all_eq_true]; simp only [List.mem_range]
theorem okAt_zero {bs : List BkD} {b : BkD} (h : bs[0]? = some b) : okAt bs 0 = mayKB b := by unfold okAt; rw [h]; simp
theorem okAt_succ {bs : List BkD} {i : Nat} {a b : BkD} (h : bs[i + 1]? = some b) (h2 : bs[i]? = some a) : okAt bs (i + 1) = (mayKB b && decide (a.id < b.id)) := by unfold okAt; rw [h]; simp [h2]
set_option maxRecDepth 20000 in
set_option maxHeartbeats 1000000 in
theorem gmay_any (a : Option Addr) (len cap : Nat) (bs : List BkD) (w : World) (hr : RowK w a len cap bs) :
 Calls Tryz.prog 39 #[.slice a len cap] w fun e w' => e = .returned (.bool (gmay bs)) ∧ Touch w w' (fun _ => False) := by
 have hl := hr.len
 have hcap := hr.hmax
 have hcap1 := hr.hcap
 have HG := Lib.hid (gmay_iff bs)
 have HR := Lib.hid hr
 have HL := Lib.hid hl
 by_cases h16 : len ≤ 16
 case neg =>
  have HF : RowKit.Hid (gmay bs = false) := Lib.hid (by
   cases hh : gmay bs with
   | false => rfl
   | true => have := (HG.out.1 hh).1; omega)
  have h16I : (len : Int) > 16 := by omega
  clear hr hl
  go_enter Tryz.func39, Tryz.ntmps39
  go_wp2
  go_ret
  exact ⟨by rw [HF.out]; rfl, Touch.refl _ _⟩
 case pos =>
 clear hr hl
 go_enter Tryz.func39, Tryz.ntmps39
 go_wp2_with fail
 go_loopw [10] (fun i wr => ∃ k : Nat, k ≤ len ∧ i = .int .i64 k ∧ Touch w wr (fun _ => False) ∧ ∀ j, j < k → okAt bs j = true) (fun i _ => len - (intOf i).toNat)
 case atStart => exact ⟨0, Nat.zero_le _, rfl, Touch.refl _ _, fun j hj => by omega⟩
 case round =>
  obtain ⟨k, hk, rfl, ht, he⟩ := hrel
  have HT := Lib.hid ht
  have HE := Lib.hid he
  clear he ht
  by_cases hlt : k < len
  case neg =>
   obtain rfl : len = k := by omega
   have hlt' : ¬ (len : Int) < len := by omega
   have HF : RowKit.Hid (gmay bs = true) := Lib.hid (HG.out.2 ⟨by rw [HL.out]; exact h16, fun i hi => HE.out i (by rw [← HL.out]; exact hi)⟩)
   go_wp2
   go_ret
   exact ⟨by rw [HF.out]; rfl, HT.out⟩
  case pos =>
  have hr := HR.out.still HT.out
  obtain ⟨b, off, rfl⟩ := hr.some (by omega)
  have hk1 : k < bs.length := by rw [HL.out]; exact hlt
  obtain ⟨c0, c1, c2⟩ := hr.cells k hk1
  have HK : RowKit.Hid (bs[k]? = some bs[k]) := Lib.hid (List.getElem?_eq_getElem hk1)
  have HFA : RowKit.Hid (okAt bs k = false → gmay bs = false) := Lib.hid (fun h => by
   cases hh : gmay bs with
   | false => rfl
   | true => rw [(HG.out.1 hh).2 k hk1] at h; cases h)
  have HMK := Lib.hid (mayKB_iff bs[k])
  obtain ⟨W1, hW1⟩ : ∃ W, wr.alloc (.cells #[.int .i64 bs[k].id, .int .u32 bs[k].addr, .int .i64 bs[k].weight] 70) = W := ⟨_, rfl⟩
  have t1 : Touch wr W1 (fun _ => False) := hW1 ▸ (Touch.refl wr _).alloc _
  have HR1 := Lib.hid (hr.still t1)
  have g1 : W1.heap[wr.heap.size]? = some (.cells #[.int .i64 bs[k].id, .int .u32 bs[k].addr, .int .i64 bs[k].weight] 70 (0, 0)) := hW1 ▸ heap_alloc_new ..
  have x0 : W1.cell? ⟨wr.heap.size, 0, none⟩ = some (.int .i64 bs[k].id) := cell_of_cells g1 0
  have x2 : W1.cell? ⟨wr.heap.size, 2, none⟩ = some (.int .i64 bs[k].weight) := cell_of_cells g1 2
  have HT1 := Lib.hid (HT.out.trans t1 (fun _ _ h => h))
  have HW1 := Lib.hid hW1
  clear hr t1 g1 hW1
  have hlI : (k : Int) < len := by omega
  by_cases hm : mayKB bs[k] = true
  case neg =>
   have HOK : RowKit.Hid (gmay bs = false) := Lib.hid (HFA.out (by unfold okAt; rw [HK.out]; simp [hm]))
   have hn : ¬ ((0 ≤ bs[k].id ∧ bs[k].id ≤ 65535) ∧ 1 ≤ bs[k].weight ∧ bs[k].weight ≤ 10) := fun h => hm (HMK.out.2 h)
   clear HMK hm HK
   generalize bs[k] = f at *
   clear x0 x2
   by_cases hid : 0 ≤ f.id ∧ f.id ≤ 65535
   ·have hd : decide (1 ≤ f.weight ∧ f.weight ≤ 10) = false := decide_eq_false (fun h => hn ⟨hid, h⟩)
    have HWT : RowKit.Hid (∀ W, Calls Tryz.prog 74 #[.int .i64 f.weight] W fun e w' => e = .returned (.bool false) ∧ w' = W) := Lib.hid (fun W => by rw [← hd]; exact isWeight_any _ W)
    obtain ⟨hid1, hid2⟩ := hid
    clear hn hd
    go_wp2_with (go_at_call 74; (with_reducible refine (HWT.out _).mono ?_); rintro e w9 ⟨rfl, rfl⟩)
    go_ret
    exact ⟨by rw [HOK.out]; rfl, by rw [HW1.out]; exact HT1.out⟩
   ·clear hn
    by_cases h0 : f.id < 0
    ·clear hid
     go_wp2
     go_ret
     exact ⟨by rw [HOK.out]; rfl, by rw [HW1.out]; exact HT1.out⟩
    ·have h1 : f.id > 65535 := by omega
     clear hid
     go_wp2
     go_ret
     exact ⟨by rw [HOK.out]; rfl, by rw [HW1.out]; exact HT1.out⟩
  case pos =>
   have hmm := HMK.out.1 hm
   have hd : decide (1 ≤ bs[k].weight ∧ bs[k].weight ≤ 10) = true := decide_eq_true hmm.2
   have HWT : RowKit.Hid (∀ W, Calls Tryz.prog 74 #[.int .i64 bs[k].weight] W fun e w' => e = .returned (.bool true) ∧ w' = W) := Lib.hid (fun W => by rw [← hd]; exact isWeight_any _ W)
   obtain ⟨⟨hid1, hid2⟩, _⟩ := hmm
   clear HMK hd
   cases k with
   | zero =>
     have HOK : RowKit.Hid (okAt bs 0 = true) := Lib.hid (by rw [okAt_zero HK.out]; exact hm)
     clear hm HK HFA
     generalize bs[0] = f at *
     simp only [Nat.zero_mul, Nat.add_zero] at c0 c1 c2
     have hx2 := Lib.hid x0
     clear x0 x2
     go_wp2_with (go_at_call 74; (with_reducible refine (HWT.out _).mono ?_); rintro e w9 ⟨rfl, rfl⟩)
     rw [HW1.out]
     go_quiet (fail)
     go_wp2
     exact ⟨⟨1, hlt, rfl, HT1.out.drewN _, fun j hj => by (obtain rfl : j = 0 := (by omega)); exact HOK.out⟩, by simp [intOf]; omega⟩
   | succ k =>
     have hk0 : k < bs.length := by omega
     obtain ⟨d0, -, -⟩ := HR1.out.cells k hk0
     obtain ⟨p, hp⟩ : ∃ p, bs[k] = p := ⟨_, rfl⟩
     rw [hp] at d0
     have hok := okAt_succ HK.out (show bs[k]? = some p by rw [List.getElem?_eq_getElem hk0, hp])
     rw [hm, Bool.true_and] at hok
     have HOK := Lib.hid hok
     clear hm hok HK hp
     generalize bs[k + 1] = f at *
     have hx0 := Lib.hid x0
     have hd0 := Lib.hid d0
     clear x0 x2 d0
     by_cases hlt2 : p.id < f.id
     ·have hc : decide (f.id ≤ p.id) = false := decide_eq_false (by omega)
      go_wp2_with (go_at_call 74; (with_reducible refine (HWT.out _).mono ?_); rintro e w9 ⟨rfl, rfl⟩)
      rw [HW1.out]
      have x0 := hx0.out
      have d0 := hd0.out
      go_quiet (fail)
      go_wp2
      refine ⟨⟨k + 2, hlt, by go_num, HT1.out.drewN _, fun j hj => ?_⟩, by simp [intOf]; omega⟩
      rcases Nat.lt_or_ge j (k + 1) with h9 | h9
      ·exact HE.out j h9
      ·obtain rfl : j = k + 1 := by omega
       rw [HOK.out]; exact decide_eq_true hlt2
     ·have HF : RowKit.Hid (gmay bs = false) := Lib.hid (HFA.out (by rw [HOK.out]; exact decide_eq_false hlt2))
      have hc : decide (f.id ≤ p.id) = true := decide_eq_true (by omega)
      go_wp2_with (go_at_call 74; (with_reducible refine (HWT.out _).mono ?_); rintro e w9 ⟨rfl, rfl⟩)
      rw [HW1.out]
      have x0 := hx0.out
      have d0 := hd0.out
      go_quiet (fail)
      go_wp2
      go_ret
      exact ⟨by rw [HF.out]; rfl, HT1.out.drewN _⟩
end Go.Proofs.YtpjdcgjoepjmcaaGreat
end
