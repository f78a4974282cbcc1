/- The known queue: awake answers true. -/
import Derived.Test.YtdjkjdeaglimeaaDueSame
import Derived.Test.YtdjkjdeaglimeaaDueSet
set_option linter.unusedVariables false
set_option linter.unusedSimpArgs false
namespace Go.Proofs.Ytdjkjdeaglimeaa
open Go.RowKit

def ka : ByteArray := ⟨#[97]⟩
def kb : ByteArray := ⟨#[98]⟩
def kc : ByteArray := ⟨#[99]⟩
theorem lt_data (a b : QR) : ltQ a b = (decide (a.time < b.time) || (decide (a.time = b.time) && blB a.key.data.toList b.key.data.toList)) := by
  unfold ltQ; rw [Lib.toList_data, Lib.toList_data]
theorem aw1 : setQ [] kb 5 = [⟨kb, 5⟩] := by decide +kernel
theorem aw2 : setQ [⟨kb, 5⟩] ka 5 = [⟨ka, 5⟩, ⟨kb, 5⟩] := by
  have h1 : ltQ ⟨kb, 5⟩ ⟨ka, 5⟩ = false := by rw [lt_data]; decide +kernel
  have h2 : setE [⟨kb, 5⟩] ka 5 = 0 := by decide +kernel
  have h3 : delQ [⟨kb, 5⟩] ka = [⟨kb, 5⟩] := by decide +kernel
  unfold setQ
  rw [if_pos h2, h3]
  unfold insQ
  rw [h1]; rfl
theorem aw3 : setQ [⟨ka, 5⟩, ⟨kb, 5⟩] kc 9 = [⟨ka, 5⟩, ⟨kb, 5⟩, ⟨kc, 9⟩] := by
  have h1 : ltQ ⟨kb, 5⟩ ⟨kc, 9⟩ = true := by rw [lt_data]; decide +kernel
  have h0 : ltQ ⟨ka, 5⟩ ⟨kc, 9⟩ = true := by rw [lt_data]; decide +kernel
  have h2 : setE [⟨ka, 5⟩, ⟨kb, 5⟩] kc 9 = 0 := by decide +kernel
  have h3 : delQ [⟨ka, 5⟩, ⟨kb, 5⟩] kc = [⟨ka, 5⟩, ⟨kb, 5⟩] := by decide +kernel
  unfold setQ
  rw [if_pos h2, h3]
  simp only [insQ, h0, h1, if_true]
theorem aw4 : dueQ [⟨ka, 5⟩, ⟨kb, 5⟩, ⟨kc, 9⟩] 5 = [⟨ka, 5⟩, ⟨kb, 5⟩] := by decide +kernel
theorem aw5 : restQ [⟨ka, 5⟩, ⟨kb, 5⟩, ⟨kc, 9⟩] 5 = [⟨kc, 9⟩] := by decide +kernel
/-- What Due hands back is read. -/
theorem DueIs.row {w w' : World} {b : Nat} {h : QH} {A R : List QR} {v : Value} (d : DueIs w w' b h A R v) : ∃ a c, v = .slice a A.length c ∧ RowS w' a A.length c 1 (kcells A) := by
  obtain ⟨a, c, h1, rfl, ho, _⟩ := d
  obtain ⟨_, hr, _⟩ := ho.row'
  exact ⟨a, c, rfl, hr⟩
theorem cell_one {w : World} {g o n c : Nat} {A : List QR} (r : RowS w (some ⟨g, o, none⟩) n c 1 (kcells A)) (i : Nat) (hi : i < A.length) : w.cell? ⟨g, o + i, none⟩ = some (.string (gq A i).key) := by
  have := r.cell i (by simpa [kcells] using hi) 0 (.string (gq A i).key) (by simp [kcells, gq_get A i hi])
  simpa using this
/-- A queue that was made since w. -/
structure QN (w w' : World) (b : Nat) (h : QH) (L : List QR) : Prop where
  q : QL w' b h L
  t : Touch w w' (fun _ => False)
  f : ∀ k, footQ b h k → w.heap.size ≤ k
theorem QN.step {w w1 w2 : World} {b : Nat} {h : QH} {L L' : List QR} (n : QN w w1 b h L) (s : QLStep w1 w2 b h L') : ∃ h', QN w w2 b h' L' ∧ (∀ k, footQ b h' k → footQ b h k ∨ w1.heap.size ≤ k) ∧ Touch w1 w2 (footQ b h) := by
  obtain ⟨h', q, t, f⟩ := s
  refine ⟨h', ⟨q, n.t.trans t (fun k hk hf => by have := n.f k hf; omega), fun k hk => ?_⟩, f, t⟩
  rcases f k hk with h | h
  · exact n.f k h
  · exact Nat.le_trans n.t.size h
theorem QN.due {w w1 w2 : World} {b : Nat} {h : QH} {L A R : List QR} {v : Value} (n : QN w w1 b h L) (s : DueIs w1 w2 b h A R v) :
    ∃ a c h1, v = .slice a A.length c ∧ RowS w2 a A.length c 1 (kcells A) ∧ (∀ x, a = some x → w1.heap.size ≤ x.block ∧ x.block < w2.heap.size ∧ ¬ footQ b h1 x.block) ∧ QN w w2 b h1 R ∧ (∀ k, footQ b h1 k → footQ b h k ∨ w1.heap.size ≤ k) ∧ Touch w1 w2 (footQ b h) := by
  obtain ⟨a, c, h1, rfl, ho, q, t, f, d⟩ := s
  obtain ⟨_, hr, hb⟩ := ho.row'
  refine ⟨a, c, h1, rfl, hr, fun x hx => ⟨(hb x hx).1, (hb x hx).2, ?_⟩, ⟨q, n.t.trans t (fun k hk hf => by have := n.f k hf; omega), fun k hk => ?_⟩, f, t⟩
  · exact d x.block (by subst hx; rfl)
  · rcases f k hk with h | h
    · exact n.f k h
    · exact Nat.le_trans n.t.size h
theorem QN.touch {w w1 w2 : World} {b : Nat} {h : QH} {L : List QR} {S : Nat → Prop} (n : QN w w1 b h L) (t : Touch w1 w2 S) (h1 : ∀ k, footQ b h k → ¬ S k) (h2 : ∀ k, k < w.heap.size → ¬ S k) : QN w w2 b h L :=
  ⟨n.q.touch t h1, n.t.trans t (fun k hk hs => h2 k hk hs), n.f⟩
theorem QN.still {w w1 w2 : World} {b : Nat} {h : QH} {L : List QR} (n : QN w w1 b h L) (t : Touch w1 w2 (fun _ => False)) : QN w w2 b h L := n.touch t (fun _ _ h => h) (fun _ _ h => h)
theorem QN.new {w w1 w2 : World} {b : Nat} {h : QH} (t0 : Touch w w1 (fun _ => False)) (q : QL w2 b h []) (t : Touch w1 w2 (fun _ => False)) (f : ∀ k, footQ b h k → w1.heap.size ≤ k) : QN w w2 b h [] :=
  ⟨q, t0.trans t (fun _ _ h => h), fun k hk => Nat.le_trans t0.size (f k hk)⟩
set_option maxRecDepth 20000 in
set_option maxHeartbeats 8000000 in
theorem awake10 (w : World) : Calls Try.prog 24 #[] w fun e w' => e = .returned (.bool true) ∧ Touch w w' (fun _ => False) := by
  have hka : ka.size ≤ 281474976710656 := by decide
  have hkb : kb.size ≤ 281474976710656 := by decide
  have hkc : kc.size ≤ 281474976710656 := by decide
  go_enter Try.func24, Try.ntmps24
  go_wp2_with fail
  refine (qnew_any w).mono ?_
  rintro e w0 ⟨rfl, q0, t0, f0⟩
  have N0 := Lib.hid (QN.new (Touch.refl w _) q0 t0 f0)
  have h1 := qset_any w0 _ _ _ q0 kb hkb 5
  rw [aw1] at h1
  have HS1 := Lib.hid h1
  clear h1 q0 t0 f0
  generalize hbb : w.heap.size = b at *
  go_wp2_with fail
  refine HS1.out.mono ?_
  rintro e w1 ⟨rfl, s1⟩
  obtain ⟨hh1, n1, -, -⟩ := N0.out.step s1
  have h2 := qset_any w1 _ _ _ n1.q ka hka 5
  rw [aw2] at h2
  have HS2 := Lib.hid h2
  have N1 := Lib.hid n1
  clear h2 s1 n1
  go_wp2_with fail
  refine HS2.out.mono ?_
  rintro e w2 ⟨rfl, s2⟩
  obtain ⟨hh2, n2, -, -⟩ := N1.out.step s2
  have h3 := qset_any w2 _ _ _ n2.q kc hkc 9
  rw [aw3] at h3
  have HS3 := Lib.hid h3
  have N2 := Lib.hid n2
  clear h3 s2 n2
  go_wp2_with fail
  refine HS3.out.mono ?_
  rintro e w3 ⟨rfl, s3⟩
  obtain ⟨hh3, n3, -, -⟩ := N2.out.step s3
  have h4 := qdue_any w3 _ _ _ n3.q 5
  rw [aw4, aw5] at h4
  have HS4 := Lib.hid h4
  have N3 := Lib.hid n3
  clear h4 s3 n3
  go_wp2_with fail
  refine HS4.out.mono ?_
  rintro e w4 ⟨v, rfl, s4⟩
  obtain ⟨a, c, hh4, rfl, hr, -, n4, -, -⟩ := N3.out.due s4
  obtain ⟨g, o, rfl⟩ := hr.some (by decide)
  have y0 := cell_one hr 0 (by decide)
  have y1 := cell_one hr 1 (by decide)
  have hmax := hr.hmax
  have hcap := hr.hcap
  have HL := Lib.hid (qlen_any w4 _ _ _ n4.q)
  have HT := Lib.hid n4.t
  clear s4 hr n4
  have x0 : w4.cell? ⟨g, o, none⟩ = some (.string ⟨#[97]⟩) := y0
  have x1 : w4.cell? ⟨g, o + 1, none⟩ = some (.string ⟨#[98]⟩) := y1
  clear y0 y1
  go_wp2_with fail
  refine HL.out.mono ?_
  rintro e w5 ⟨rfl, rfl⟩
  go_wp2_with fail
  go_ret
  exact ⟨rfl, HT.out⟩
end Go.Proofs.Ytdjkjdeaglimeaa
