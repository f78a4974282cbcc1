/- The slots, the rows as cells; a row takes the next free slot; all slots are filled. -/
import Derived.Test.YtfjnhaoiecndpaaMag
import Derived.Test.YtfjnhaoiecndpaaRowS
import Derived.Test.YtfjnhaoiecndpaaMakeB
import Derived.Test.YtfjnhaoiecndpaaAgg
import Derived.Deep.LoopGhost
import Derived.StillTailTactics
set_option linter.unusedVariables false
namespace Go.Proofs.Ytfjnhaoiecndpaa
open Go.RowKit

def cI (x : Int) : List Value := [.int .i64 x]
def Rw.cells (r : Rw) : List Value := [.int .i64 r.id, .int .i64 r.wt, .int .i64 r.pos, .int .i64 r.sk]
/-- The slots, of the call's own. -/
def OwnT (w : World) (base : Nat) (v : Value) (T : List Int) : Prop := OwnS w base 3 1 v (T.map cI)
/-- The rows, of the call's own. -/
def OwnW (w : World) (base : Nat) (v : Value) (rs : List Rw) : Prop := OwnS w base 73 4 v (rs.map Rw.cells)
section
variable {w w' : World} {B G n c : Nat} {T : List Int} {rs : List Rw} {v : Value}
theorem OwnT.touch {S : Nat → Prop} (h : OwnT w B v T) (t : Touch w w' S) (h1 : ∀ x, v.ownBlock = some x → ¬ S x) : OwnT w' B v T := OwnS.touch h t h1
theorem OwnT.drew1 (h : OwnT w B v T) : OwnT w.drew B v T := h.touch (Touch.refl w (fun _ => False)).drew (fun _ _ h => h)
theorem OwnW.drew1 (h : OwnW w B v rs) : OwnW w.drew B v rs := OwnS.touch h (Touch.refl w (fun _ => False)).drew (fun _ _ h => h)
theorem OwnT.len (h : OwnT w B (.slice (some ⟨G, 0, none⟩) n c) T) : T.length = n := by have := (OwnS.row' h).1; simpa using this
theorem OwnT.at_ (h : OwnT w B (.slice (some ⟨G, 0, none⟩) n c) T) (i : Nat) (hi : i < T.length) : w.cell? ⟨G, i, none⟩ = some (.int .i64 T[i]) := by
  have := (OwnS.row' h).2.1.cell i (by simpa using hi) 0 (.int .i64 T[i]) (by simp [cI])
  simpa using this
theorem OwnT.free (h : OwnT w B (.slice (some ⟨G, 0, none⟩) n c) T) (i : Nat) : w.frozen? ⟨G, i, none⟩ = false := OwnS.free h i
theorem OwnT.stored (h : OwnT w B (.slice (some ⟨G, 0, none⟩) n c) T) (i : Nat) (hi : i < T.length) (x : Int) : OwnT (w.setCell ⟨G, i, none⟩ (.int .i64 x)) B (.slice (some ⟨G, 0, none⟩) n c) (T.set i x) := by
  have := OwnS.stored h i (by simpa using hi) 0 (by omega) (.int .i64 x)
  simp only [Nat.mul_one, Nat.add_zero] at this
  unfold OwnT
  rw [List.map_set]
  simpa [cI] using this
theorem OwnT.lt (h : OwnT w B (.slice (some ⟨G, 0, none⟩) n c) T) : B ≤ G ∧ G < w.heap.size := (OwnS.row' h).2.2 _ rfl
theorem OwnW.touch {S : Nat → Prop} (h : OwnW w B v rs) (t : Touch w w' S) (h1 : ∀ x, v.ownBlock = some x → ¬ S x) : OwnW w' B v rs := OwnS.touch h t h1
theorem OwnW.len (h : OwnW w B (.slice (some ⟨G, 0, none⟩) n c) rs) : rs.length = n := by have := (OwnS.row' h).1; simpa using this
theorem OwnW.at_ (h : OwnW w B (.slice (some ⟨G, 0, none⟩) n c) rs) {i : Nat} {r : Rw} (hi : rs[i]? = some r) :
    w.cell? ⟨G, i * 4, none⟩ = some (.int .i64 r.id) ∧ w.cell? ⟨G, i * 4 + 1, none⟩ = some (.int .i64 r.wt) ∧ w.cell? ⟨G, i * 4 + 2, none⟩ = some (.int .i64 r.pos) ∧ w.cell? ⟨G, i * 4 + 3, none⟩ = some (.int .i64 r.sk) := by
  obtain ⟨hl, rfl⟩ := List.getElem?_eq_some_iff.1 hi
  have key := fun j u hu => (OwnS.row' h).2.1.cell i (by simpa using hl) j u hu
  simp only [Nat.zero_add, List.getElem_map] at key
  exact ⟨key 0 _ rfl, key 1 _ rfl, key 2 _ rfl, key 3 _ rfl⟩
theorem OwnW.free (h : OwnW w B (.slice (some ⟨G, 0, none⟩) n c) rs) (i : Nat) : w.frozen? ⟨G, i, none⟩ = false := OwnS.free h i
theorem OwnW.stored (h : OwnW w B (.slice (some ⟨G, 0, none⟩) n c) rs) {i : Nat} {r : Rw} (hi : rs[i]? = some r) (x : Nat) : OwnW (w.setCell ⟨G, i * 4 + 2, none⟩ (.int .i64 (x : Nat))) B (.slice (some ⟨G, 0, none⟩) n c) (rs.set i { r with pos := x }) := by
  obtain ⟨hl, rfl⟩ := List.getElem?_eq_some_iff.1 hi
  have := OwnS.stored h i (by simpa using hl) 2 (by omega) (.int .i64 (x : Nat))
  unfold OwnW
  rw [List.map_set]
  simpa [Rw.cells] using this
theorem OwnW.lt (h : OwnW w B (.slice (some ⟨G, 0, none⟩) n c) rs) : B ≤ G ∧ G < w.heap.size := (OwnS.row' h).2.2 _ rfl
end

set_option maxRecDepth 20000 in
set_option maxHeartbeats 1000000 in
theorem take_any (B B2 G R n c m c2 i : Nat) (T : List Int) (rs : List Rw) (r : Rw) (w : World)
    (hT : OwnT w B (.slice (some ⟨G, 0, none⟩) n c) T) (hR : OwnW w B2 (.slice (some ⟨R, 0, none⟩) m c2) rs) (hne : G ≠ R) (hr : rs[i]? = some r) (hp : r.pos < n) (hsk : r.sk < 256) (hn : n ≤ 251) (hnc : n ≤ c) (hi16 : i < 16)
    (ha : walkF T r.sk n r.pos < n) (hf : T.getD (walkF T r.sk n r.pos) 0 = -1) :
    Calls Try.prog 42 #[.pointer (some ⟨R, i * 4, none⟩), .slice (some ⟨G, 0, none⟩) n c] w fun e w' => e = .returned (.tuple #[]) ∧ OwnT w' B (.slice (some ⟨G, 0, none⟩) n c) (takeT (T, rs) i).1 ∧ OwnW w' B2 (.slice (some ⟨R, 0, none⟩) m c2) (takeT (T, rs) i).2 ∧ Touch w w' (fun k => k = G ∨ k = R) := by
  have hTl := hT.len
  have HTK := Lib.hid (takeT_some (S := (T, rs)) hr)
  simp only [hTl] at HTK
  obtain ⟨A, hA⟩ : ∃ A, walkF T r.sk n r.pos = A := ⟨_, rfl⟩
  rw [hA] at ha hf HTK
  have HST : RowKit.Hid (walkF T r.sk n r.pos = A) := Lib.hid hA
  have HF := Lib.hid hf
  have HT := Lib.hid hT
  have HTL := Lib.hid hTl
  have HRR := Lib.hid hr
  have HS0 : RowKit.Hid (rs.set i { r with pos := r.pos } = rs) := Lib.hid (by
    obtain ⟨hl, e⟩ := List.getElem?_eq_some_iff.1 hr
    apply List.ext_getElem? ; intro j
    rw [List.getElem?_set]
    split
    · rename_i hij; subst hij; simp [hl, e]
    · rfl)
  have hil : i < rs.length := (List.getElem?_eq_some_iff.1 hr).1
  have HR := Lib.hid hR
  clear hT hR hA hf hTl hr
  go_enter Try.func42, Try.ntmps42
  go_wp2_with fail
  go_loopg [] n (fun f wr => ∃ a : Nat, a < n ∧ walkF T r.sk f a = A ∧ OwnT wr B (.slice (some ⟨G, 0, none⟩) n c) T ∧ OwnW wr B2 (.slice (some ⟨R, 0, none⟩) m c2) (rs.set i { r with pos := a }) ∧ Touch w wr (fun k => k = R))
  case atStart => exact ⟨r.pos, hp, HST.out, HT.out, by rw [HS0.out]; exact HR.out, Touch.refl _ _⟩
  case round =>
    obtain ⟨a, han, hwk, hT, hR, ht⟩ := hrel
    have hq : (rs.set i { r with pos := a })[i]? = some { r with pos := a } := by rw [List.getElem?_set, if_pos rfl, if_pos hil]
    obtain ⟨d0, d1, d2, d3⟩ := hR.at_ hq
    have fR := hR.free (i * 4 + 2)
    have fG := hT.free a
    have hal : a < T.length := by rw [HTL.out]; exact han
    have c0 := hT.at_ a hal
    have HG := Lib.hid hT.lt
    have HR9 := Lib.hid hR.lt
    simp only at d0 d1 d2 d3
    by_cases hx : T[a] = -1
    · have hAa : a = A := by
        rw [← hwk]
        cases gk with
        | zero => rfl
        | succ f => unfold walkF; rw [if_pos (by rw [List.getD_eq_getElem?_getD, List.getElem?_eq_getElem hal, hx]; rfl)]
      have HB : RowKit.Hid (OwnT (wr.setCell ⟨G, a, none⟩ (.int .i64 r.id)) B (.slice (some ⟨G, 0, none⟩) n c) (takeT (T, rs) i).1) := Lib.hid (by
        rw [HTK.out, ← hAa]; exact hT.stored a hal r.id)
      have HC : RowKit.Hid (OwnW (wr.setCell ⟨G, a, none⟩ (.int .i64 r.id)) B2 (.slice (some ⟨R, 0, none⟩) m c2) (takeT (T, rs) i).2) := Lib.hid (by
        rw [HTK.out, ← hAa]
        exact hR.touch ((Touch.refl wr (fun k => k = G)).setCell ⟨G, a, none⟩ _ (fun _ => rfl)) (fun x hx => by cases hx; exact fun e => hne e.symm))
      have HD : RowKit.Hid (Touch w (wr.setCell ⟨G, a, none⟩ (.int .i64 r.id)) (fun k => k = G ∨ k = R)) := Lib.hid ((ht.mono (fun _ _ h => .inr h)).setCell _ _ (fun _ => .inl rfl))
      rw [hx] at c0
      clear hT hR ht hwk hAa hx hq
      go_wp2_with fail
      go_still_tail 10, (by kernel_rfl)
      go_wp2_with fail
      go_end0
      exact ⟨rfl, HB.out.drew1, HC.out.drew1, HD.out.drew⟩
    · obtain ⟨f, rfl⟩ : ∃ f, gk = f + 1 := by
        cases gk with
        | zero =>
          exfalso
          have e : a = A := hwk
          apply hx
          have := HF.out
          rw [← e, List.getD_eq_getElem?_getD, List.getElem?_eq_getElem hal] at this
          simpa using this
        | succ f => exact ⟨f, rfl⟩
      have hwk2 : walkF T r.sk f ((a + r.sk) % n) = A := by
        rw [← hwk]
        conv => rhs; unfold walkF
        rw [if_neg (by rw [List.getD_eq_getElem?_getD, List.getElem?_eq_getElem hal]; simpa using hx), HTL.out]
      have hsv := hR.stored hq ((a + r.sk) % n)
      rw [List.set_set] at hsv
      have hrem : Int.tmod ((a : Int) + (r.sk : Int)) (n : Int) = (((a + r.sk) % n : Nat) : Int) := by
        rw [Int.tmod_eq_emod_of_nonneg (by omega)]; norm_cast
      have hrem2 : ((a : Int) + (r.sk : Int)) % (n : Int) = (((a + r.sk) % n : Nat) : Int) := by norm_cast
      have HB : RowKit.Hid (OwnT (wr.setCell ⟨R, i * 4 + 2, none⟩ (.int .i64 ((a + r.sk) % n : Nat))) B (.slice (some ⟨G, 0, none⟩) n c) T) := Lib.hid (
        hT.touch ((Touch.refl wr (fun k => k = R)).setCell ⟨R, i * 4 + 2, none⟩ _ (fun _ => rfl)) (fun x hx => by cases hx; exact hne))
      have HC := Lib.hid hsv
      have HD : RowKit.Hid (Touch w (wr.setCell ⟨R, i * 4 + 2, none⟩ (.int .i64 ((a + r.sk) % n : Nat))) (fun k => k = R)) := Lib.hid (ht.setCell _ _ (fun _ => rfl))
      have HW := Lib.hid hwk2
      have hlt : (a + r.sk) % n < n := Nat.mod_lt _ (by omega)
      generalize (a + r.sk) % n = a2 at *
      generalize T[a] = x at *
      clear hT hR ht hwk hwk2 hq hsv
      have hw1 : IntKind.i64.wrap ((a : Int) + (r.sk : Int)) = (a : Int) + (r.sk : Int) := IntWalk.i64_in _ (by omega)
      have hw2 : IntKind.i64.wrap (a2 : Int) = (a2 : Int) := IntWalk.i64_in _ (by omega)
      have hn0 : ((n : Int) == 0) = false := beq_eq_false_iff_ne.2 (by omega)
      have hn1 : ¬ n = 0 := by omega
      go_wp2_with fail
      go_still_tail 15, (by kernel_rfl)
      clear hw1 hw2
      go_wp2_with fail
      go_roundg f
      case measure => omega
      case rel => exact ⟨a2, hlt, HW.out, HB.out.drew1, HC.out.drew1, HD.out.drew⟩

theorem mod_turn {q all x : Nat} (h : x < all) : (q * all + x) % all = x := by
  rw [Nat.mul_comm, Nat.mul_add_mod, Nat.mod_eq_of_lt h]

set_option maxRecDepth 20000 in
set_option maxHeartbeats 1000000 in
theorem fill_any (B B2 G R n c m c2 : Nat) (rs : List Rw) (w : World) (h : Rws rs n) (h0 : 0 < rs.length)
    (hT : OwnT w B (.slice (some ⟨G, 0, none⟩) n c) (List.replicate n (-1))) (hR : OwnW w B2 (.slice (some ⟨R, 0, none⟩) m c2) rs) (hne : G ≠ R) (hnc : n ≤ c) :
    Calls Try.prog 34 #[.slice (some ⟨G, 0, none⟩) n c, .slice (some ⟨R, 0, none⟩) m c2] w fun e w' => e = .returned (.tuple #[]) ∧ OwnT w' B (.slice (some ⟨G, 0, none⟩) n c) (stM rs n n).1 ∧ Touch w w' (fun k => k = G ∨ k = R) := by
  have hm : rs.length = m := hR.len
  have hm16 : m ≤ 16 := by have := h.len; omega
  have hn251 := h.prm.hi
  have hn3 := h.prm.lo
  have HT0 : RowKit.Hid (OwnT w B (.slice (some ⟨G, 0, none⟩) n c) (stM rs n 0).1) := Lib.hid hT
  have HR0 : RowKit.Hid (OwnW w B2 (.slice (some ⟨R, 0, none⟩) m c2) (stM rs n 0).2) := Lib.hid hR
  obtain ⟨N, hN⟩ : ∃ N, allW rs = N := ⟨_, rfl⟩
  have HN := Lib.hid hN
  have hNpos : 0 < N := by rw [← hN]; exact allW_pos (fun r hr => (h.each r hr).2.2.1) h0
  have HH := Lib.hid h
  have HM := Lib.hid hm
  have HINV : RowKit.Hid (∀ k, k ≤ n → MInv rs n k (stM rs n k)) := Lib.hid (inv_all h h0)
  have H0 := Lib.hid h0
  clear hT hR hN h hm h0
  go_enter Try.func34, Try.ntmps34
  go_wp2_with fail
  go_loopg [4] n (fun f s wr => ∃ q k : Nat, k = q * N ∧ k ≤ n ∧ f = n - k ∧ s = .int .i64 ((n : Int) - (k : Int)) ∧ OwnT wr B (.slice (some ⟨G, 0, none⟩) n c) (stM rs n k).1 ∧ OwnW wr B2 (.slice (some ⟨R, 0, none⟩) m c2) (stM rs n k).2 ∧ Touch w wr (fun k => k = G ∨ k = R))
  case atStart => exact ⟨0, 0, by omega, by omega, by omega, by simp, HT0.out, HR0.out, Touch.refl _ _⟩
  case round =>
    obtain ⟨q, k0, hk0, hkn, hgk, rfl, hT, hR, ht⟩ := hrel
    have HK0 := Lib.hid hk0
    have HGK := Lib.hid hgk
    have HT := Lib.hid hT
    have HR := Lib.hid hR
    have HTO := Lib.hid ht
    clear hT hR ht hk0 hgk
    go_wp2_with fail
    go_loopg [4, 10] m (fun f s i wr => ∃ x k : Nat, x ≤ m ∧ k = k0 + pre rs x ∧ k ≤ n ∧ f = m - x ∧ i = .int .i64 x ∧ s = .int .i64 ((n : Int) - (k : Int)) ∧ OwnT wr B (.slice (some ⟨G, 0, none⟩) n c) (stM rs n k).1 ∧ OwnW wr B2 (.slice (some ⟨R, 0, none⟩) m c2) (stM rs n k).2 ∧ Touch w wr (fun k => k = G ∨ k = R))
    case atStart => exact ⟨0, k0, Nat.zero_le _, by rw [pre_zero]; rfl, hkn, by omega, by simp, rfl, HT.out, HR.out, HTO.out⟩
    case round =>
      obtain ⟨x, k1, hxm, hk1, hkn1, hg2, rfl, rfl, hT, hR, ht⟩ := hrel
      have HK1 := Lib.hid hk1
      have HG2 := Lib.hid hg2
      have HT := Lib.hid hT
      have HTO := Lib.hid ht
      by_cases hx : x < m
      · have hxl : x < (stM rs n k1).2.length := by rw [(HINV.out k1 hkn1).rl, HM.out]; exact hx
        have hr1 : (stM rs n k1).2[x]? = some (stM rs n k1).2[x] := List.getElem?_eq_getElem hxl
        obtain ⟨hpos, r, hq, e1, e2, e3⟩ := (HINV.out k1 hkn1).same x _ hr1
        have c1 := (hR.at_ hr1).2.1
        rw [e2] at c1
        have hre := HH.out.each r (List.mem_of_getElem? hq)
        have hw1 : 1 ≤ r.wt := hre.2.2.1
        have hw2 : r.wt ≤ 10 := hre.2.2.2.1
        have HQ := Lib.hid hq
        have HR := Lib.hid hR
        clear hT hR ht hk1 hr1 hpos e1 e2 e3 hg2 hre hxl hq
        go_wp2_with fail
        go_loopg [4, 18] r.wt (fun f s j wr => ∃ y k : Nat, y ≤ r.wt ∧ k = k1 + y ∧ k ≤ n ∧ f = r.wt - y ∧ j = .int .i64 y ∧ s = .int .i64 ((n : Int) - (k : Int)) ∧ OwnT wr B (.slice (some ⟨G, 0, none⟩) n c) (stM rs n k).1 ∧ OwnW wr B2 (.slice (some ⟨R, 0, none⟩) m c2) (stM rs n k).2 ∧ Touch w wr (fun k => k = G ∨ k = R))
        case atStart => exact ⟨0, k1, Nat.zero_le _, rfl, hkn1, by omega, by simp, rfl, HT.out, HR.out, HTO.out⟩
        case round =>
          obtain ⟨y, k, hyw, hk, hkn, hg3, rfl, rfl, hT, hR, ht⟩ := hrel
          by_cases hy : y < r.wt
          · by_cases hkz : k < n
            · have hm : k % N = pre rs x + y := by
                rw [hk, HK1.out, HK0.out, Nat.add_assoc, mod_turn]
                have := pre_wt_le rs x r HQ.out
                have := HN.out
                omega
              have hwho : who rs (k % allW rs) = x := by rw [HN.out, hm]; exact who_pre rs x y r HQ.out hy
              have hxl : x < (stM rs n k).2.length := by rw [(HINV.out k hkn).rl, HM.out]; exact hx
              have hr1 : (stM rs n k).2[x]? = some (stM rs n k).2[x] := List.getElem?_eq_getElem hxl
              obtain ⟨hpos, r2, hq2, e1, e2, e3⟩ := (HINV.out k hkn).same x _ hr1
              rw [HQ.out] at hq2
              simp only [Option.some.injEq] at hq2
              subst hq2
              have hre := HH.out.each r (List.mem_of_getElem? HQ.out)
              have hwok := walk_ok HH.out.prm (HINV.out k hkn).tl hpos (by omega : 1 ≤ ((stM rs n k).2[x]).sk) (by omega) (by have := (HINV.out k hkn).free; omega)
              have hTK := take_any B B2 G R n c m c2 x _ _ _ wr hT hR hne hr1 hpos (by omega) hn251 hnc (by omega) hwok.1 hwok.2
              have HE : RowKit.Hid (takeT ((stM rs n k).1, (stM rs n k).2) x = stM rs n (k + 1)) := Lib.hid (by
                show takeT (stM rs n k) x = takeT (stM rs n k) (who rs (k % allW rs)); rw [hwho])
              rw [HE.out] at hTK
              have HTK := Lib.hid hTK
              have HTO := Lib.hid ht
              have HK := Lib.hid hk
              have HG3 := Lib.hid hg3
              clear hTK hT hR ht hk hg3 hwok hre hr1 hpos e1 e2 e3 hm hwho hxl
              have hb1 : ¬ ((n : Int) - (k : Int) = 0) := by omega
              go_wp2_with (go_at_call 42; (with_reducible refine HTK.out.mono ?_); rintro e w4 ⟨rfl, h1, h2, h3⟩; have H1 := Lib.hid h1; have H2 := Lib.hid h2; have H3 := Lib.hid h3; clear h1 h2 h3)
              go_roundg (r.wt - (y + 1))
              case measure => have := HG3.out; omega
              case rel => exact ⟨y + 1, k + 1, by omega, by have := HK.out; omega, by omega, rfl, by go_num, by go_num, H1.out, H2.out, HTO.out.trans H3.out (fun _ _ h => h)⟩
            · obtain rfl : k = n := by omega
              have HT := Lib.hid hT
              have HTO := Lib.hid ht
              clear hT hR ht hk hg3
              have hb1 : (k : Int) - (k : Int) = 0 := by omega
              go_wp2_with fail
              refine bodyPost_ret (results_none rfl _ _ _) rfl ?_
              exact ⟨rfl, HT.out, HTO.out⟩
          · obtain rfl : y = r.wt := by omega
            have HT := Lib.hid hT
            have HR := Lib.hid hR
            have HTO := Lib.hid ht
            have HK := Lib.hid hk
            clear hT hR ht hk hg3
            go_wp2_with fail
            go_roundg (m - (x + 1))
            case measure => have := HG2.out; omega
            case rel => exact ⟨x + 1, k, by omega, by rw [HK.out, HK1.out, pre_succ rs x r HQ.out]; omega, hkn, rfl, by go_num, rfl, HT.out, HR.out, HTO.out⟩
      · obtain rfl : x = m := by omega
        have HR := Lib.hid hR
        clear hT hR ht hk1 hg2
        go_wp2_with fail
        go_roundg (n - k1)
        case measure =>
          have e1 := HK1.out
          rw [← HM.out, pre_all, HN.out] at e1
          have := HGK.out
          omega
        case rel =>
          refine ⟨q + 1, k1, ?_, hkn1, rfl, rfl, HT.out, HR.out, HTO.out⟩
          have e1 := HK1.out
          rw [← HM.out, pre_all, HN.out, HK0.out] at e1
          rw [e1, Nat.succ_mul]
end Go.Proofs.Ytfjnhaoiecndpaa
