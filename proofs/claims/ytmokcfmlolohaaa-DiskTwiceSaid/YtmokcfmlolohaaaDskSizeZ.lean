/- How many bytes all files have; whether there is room. -/
import Derived.Test.YtmokcfmlolohaaaDskBegZ
set_option linter.unusedVariables false
set_option linter.unusedSimpArgs false
namespace Go.Proofs.Ytmokcfmlolohaaa
open Go.RowKit

def dkLen (st : DkS) (x : NmD) : Nat := match x.f with
  | some g => (st.F g).b.length
  | none => 0
def dkSum (st : DkS) (M : List NmD) : Nat := (M.map (dkLen st)).sum
def dkSz (st : DkS) : Nat := dkSum st st.N
theorem dkSum_perm {st : DkS} {M M' : List NmD} (h : M.Perm M') : dkSum st M = dkSum st M' := (h.map _).sum_nat
theorem dkSum_cons (st : DkS) (x : NmD) (M : List NmD) : dkSum st (x :: M) = dkLen st x + dkSum st M := by simp [dkSum]
theorem dkSum_le {st : DkS} {K : Nat} {M : List NmD} (h : ∀ x ∈ M, dkLen st x ≤ K) : dkSum st M ≤ M.length * K := by
  induction M with
  | nil => simp [dkSum]
  | cons x M ih =>
    rw [dkSum_cons, List.length_cons, Nat.succ_mul]
    have := h x List.mem_cons_self
    have := ih (fun y hy => h y (List.mem_cons_of_mem _ hy))
    omega
theorem DkM.lens {w : World} {d : Nat} {h : DkH} {st : DkS} (m : DkM w d h st) : ∀ x ∈ st.N, dkLen st x ≤ 1048576 := by
  intro x hx
  obtain ⟨_, _, g, e, hg⟩ := m.goodN.ref x hx
  unfold dkLen
  rw [e]
  exact (m.files g hg).len
theorem DkM.sz {w : World} {d : Nat} {h : DkH} {st : DkS} (m : DkM w d h st) : dkSz st ≤ 209715200 := by
  have h1 := dkSum_le m.lens
  have h2 := m.goodN.len
  unfold dkSz
  have : st.N.length * 1048576 ≤ 200 * 1048576 := Nat.mul_le_mul_right _ h2
  omega
set_option maxRecDepth 20000 in
set_option maxHeartbeats 8000000 in
theorem dsize_any (w : World) (d : Nat) (h : DkH) (st : DkS) (m : DkM w d h st) :
    Calls Try.prog 30 #[.pointer (some ⟨d, 0, none⟩)] w fun e w' => e = .returned (.int .i64 (dkSz st)) ∧ Touch w w' (fun _ => False) := by
  obtain ⟨c0, c1, -, -, -, -⟩ := m.cells
  have HM := Lib.hid m
  have hmn := m.nm.lt
  clear m
  go_enter Try.func30, Try.ntmps30
  go_wp2_with (at_range; refine wp_rangeN rfl _ rfl h.mn st.N rfl HM.out.nm ?_; intro w2 left0 cnt0 hrg0 hsn0 t2)
  obtain ⟨r, hr⟩ : ∃ r, w.heap.size = r := ⟨_, rfl⟩
  have HRR := Lib.hid hr
  rw [hr] at hrg0 hmn ⊢
  simp only [Act.put, List.setIfInBounds_toArray, List.set_cons_zero, List.set_cons_succ]
  go_loopw [3] (fun s3 wr => ∃ (left : Lit → Bool) (cnt n : Nat), RangesN wr h.mn r st.N left cnt ∧ n = dkSum st (seenN st.N left) ∧ s3 = .int .i64 n ∧ Touch w wr (fun _ => False)) (fun _ wr => wr.rangeLeft h.mn r)
  case atStart => exact ⟨left0, cnt0, 0, hrg0, by rw [hsn0]; rfl, rfl, t2⟩
  case round =>
    obtain ⟨left, cnt, n, hrg, hn, rfl, ht⟩ := hrel
    have HRG := Lib.hid hrg
    have HT := Lib.hid ht
    have HN := Lib.hid hn
    clear hrg hn ht c0 c1 hrg0 hsn0 t2
    go_wp2_with (at_next; refine wp_nextN rfl _ rfl h.mn r st.N left cnt rfl HRG.out ?_ ?_)
    · intro hdone
      have e : n = dkSz st := by have := HN.out; rw [hdone] at this; exact this
      rw [e]
      go_wp2_with fail
      go_ret
      exact ⟨rfl, HT.out⟩
    · intro f left' w3 cnt3 hf hp3 hrg3 hlt3 t3 hen3
      obtain ⟨-, -, g, eg, hg⟩ := HM.out.goodN.ref f hf
      have hm3 : DkM w3 d h st := (HM.out.still HT.out).touch t3 (fun k hk e => by have := HM.out.lt k hk; have := HRR.out; have e : k = r := e; omega)
      obtain ⟨y0, -⟩ := (hm3.files g hg).cells
      have hle : dkLen st f ≤ 1048576 := HM.out.lens f hf
      have hlf : dkLen st f = (st.F g).b.length := by unfold dkLen; rw [eg]
      rw [hlf] at hle
      rw [eg] at hen3
      simp only [pvN, Option.map_some] at hen3
      have hsum : dkSum st (seenN st.N left') = n + (st.F g).b.length := by
        rw [dkSum_perm hp3, dkSum_cons, hlf, HN.out]; omega
      have hsz : n + (st.F g).b.length ≤ 209715200 := by
        have h1 : dkSum st (seenN st.N left') ≤ (seenN st.N left').length * 1048576 := dkSum_le (fun x hx => HM.out.lens x (List.mem_filter.1 hx).1)
        have h2 : (seenN st.N left').length ≤ st.N.length := List.length_filter_le _ _
        have h3 := HM.out.goodN.len
        have : (seenN st.N left').length * 1048576 ≤ 200 * 1048576 := Nat.mul_le_mul_right _ (by omega)
        omega
      obtain ⟨L, hL⟩ : ∃ L, (st.F g).b.length = L := ⟨_, rfl⟩
      rw [hL] at y0 hsum hsz
      have hwr : wrap64 ((n : Int) + L) = ((n + L : Nat) : Int) := by unfold wrap64; omega
      have HX : RowKit.Hid (∃ (left : Lit → Bool) (cnt n' : Nat), RangesN w3 h.mn r st.N left cnt ∧ n' = dkSum st (seenN st.N left) ∧ Value.int .i64 ((n + L : Nat) : Int) = .int .i64 n' ∧ Touch w w3 (fun _ => False)) := Lib.hid ⟨left', cnt3, n + L, hrg3, hsum.symm, rfl, HT.out.trans t3 (fun k hk e => by have := HRR.out; have e : k = r := e; omega)⟩
      have HRL := Lib.hid (And.intro hrg3.left_eq hlt3)
      clear hf hp3 hrg3 hlt3 t3 hm3 hle hlf hsum hsz eg hg hL
      go_wp2_with fail
      rw [hwr]
      go_roundw
      · exact HX.out
      · have e1 := HRG.out.left_eq
        have e2 := HRL.out
        omega
end Go.Proofs.Ytmokcfmlolohaaa
