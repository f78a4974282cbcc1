/- The reference's Due. -/
import Derived.Test.YtdjkjdeaglimeaaDueRDrop
set_option linter.unusedVariables false
set_option linter.unusedSimpArgs false
namespace Go.Proofs.Ytdjkjdeaglimeaa
open Go.RowKit

/-- What the reference's Due hands back, and what it leaves. -/
def RDueIs (w w' : World) (b : Nat) (a0 : Option Addr) (A R : List QR) (v : Value) : Prop :=
  ∃ a c a1 c1, v = .slice a A.length c ∧ OwnS w' w.heap.size 9 1 (.slice a A.length c) (kcells A) ∧ RQ w' b a1 c1 R ∧ Touch w w' (fun k => k = b) ∧ (∀ y, a1 = some y → R.length = 0 ∨ y.block < w.heap.size) ∧ ∀ y, a1 = some y → ∃ z, a0 = some z ∧ y.block = z.block
theorem RowS.tail {w : World} {g off n c k : Nat} {l : List Value} {L : List (List Value)} (h : RowS w (Option.some ⟨g, off, none⟩) (n + 1) c k (l :: L)) : RowS w (Option.some ⟨g, off + k, none⟩) n (c - 1) k L := by
  refine ⟨by simpa using h.hlen, by have := h.hcap; omega, by have := h.hmax; omega, fun x hx => h.each x (List.mem_cons_of_mem _ hx), ?_⟩
  rcases h.at_ with h0 | ⟨b, o, e, hlt, hc⟩
  · omega
  · simp only [Option.some.injEq, Addr.mk.injEq, and_true] at e
    obtain ⟨rfl, rfl⟩ := e
    refine .inr ⟨g, off + k, rfl, hlt, fun i hi j u hu => ?_⟩
    have := hc (i + 1) (by simpa using hi) j u (by simpa using hu)
    rw [show off + (i + 1) * k + j = off + k + i * k + j by rw [Nat.add_mul]; omega] at this
    exact this
set_option maxRecDepth 20000 in
set_option maxHeartbeats 4000000 in
theorem rdue_any (w : World) (b : Nat) (a0 : Option Addr) (c0 : Nat) (L : List QR) (q : RQ w b a0 c0 L) (hl : L.length ≤ 1024) (now : Int) :
    Calls Try.prog 19 #[.pointer (some ⟨b, 0, none⟩), .int .i64 now] w fun e w' => ∃ v, e = .returned v ∧ RDueIs w w' b a0 (dueQ L now) (restQ L now) v := by
  have HII := Lib.hid infoStr
  have hbl : b < w.heap.size := heap_lt q.head
  go_enter Try.func19, Try.ntmps19
  go_wp2_with fail
  go_loopw [5] (fun s5 wr => ∃ (A R : List QR), L = A ++ R ∧ (∀ r ∈ A, r.time ≤ now) ∧ RDueIs w wr b a0 A R s5) (fun s5 _ => L.length - lenQ s5)
  case atStart => exact ⟨[], L, rfl, by simp, none, 0, a0, c0, rfl, OwnS.nil _ _ _ _, q, Touch.refl _ _, q.lt, fun y hy => ⟨y, hy, rfl⟩⟩
  case round =>
    obtain ⟨A, R, hL, hA, a, c, a1, c1, rfl, ho, hq, ht, hb1, hz1⟩ := hrel
    have HL := Lib.hid hL
    have HA := Lib.hid hA
    have HO := Lib.hid ho
    have HQ := Lib.hid hq
    have HT := Lib.hid ht
    have HB1 := Lib.hid hb1
    have HZ1 := Lib.hid hz1
    have hlen : A.length + R.length = L.length := by rw [hL]; simp
    have x0 : wr.cell? ⟨b, 0, none⟩ = some (.slice a1 R.length c1) := cell_of_cells hq.head 0
    have f0 := free_of_cells hq.head 0
    have hcap := hq.row.hcap
    have hmax := hq.row.hmax
    clear hL hA ho hq ht hb1 hz1 q
    cases R with
    | nil =>
      go_wp2_with fail
      go_ret
      obtain ⟨e1, e2⟩ := due_split (now := now) (R := []) (by simp) A HA.out
      rw [HL.out, e1, e2]
      exact ⟨_, rfl, a, c, a1, c1, rfl, HO.out, HQ.out, HT.out, HB1.out, HZ1.out⟩
    | cons x R =>
      obtain ⟨g, off, rfl⟩ := HQ.out.row.some (by simp)
      obtain ⟨y0, y1⟩ := HQ.out.cell2 0 (by simp)
      have d0 : wr.cell? ⟨g, off, none⟩ = some (.string x.key) := by simpa [gq] using y0
      have d1 : wr.cell? ⟨g, off + 1, none⟩ = some (.int .i64 x.time) := by simpa [gq] using y1
      clear y0 y1
      simp only [List.length_cons] at hlen x0 hcap
      by_cases hx : now < x.time
      · have hx2 : ¬ x.time ≤ now := by omega
        clear hx
        go_wp2_with fail
        go_ret
        obtain ⟨e1, e2⟩ := due_split (now := now) (R := x :: R) (fun y R' e => by cases e; omega) A HA.out
        rw [HL.out, e1, e2]
        exact ⟨_, rfl, a, c, some ⟨g, off, none⟩, c1, rfl, HO.out, HQ.out, HT.out, HB1.out, HZ1.out⟩
      · have hx2 : x.time ≤ now := by omega
        have HX2 := Lib.hid hx2
        have t5 := (Touch.refl wr (fun _ => False)).alloc (.cells #[.string x.key] 9)
        have HN5 := Lib.hid (news_of (heap_alloc_new wr (.cells #[.string x.key] 9)))
        have HO5 := Lib.hid (HO.out.still t5)
        have HQ5 := Lib.hid (HQ.out.still t5)
        have HT5 := Lib.hid (HT.out.trans t5 (fun _ _ h => h.elim))
        have hown : (wr.alloc (.cells #[.string x.key] 9)).ownsRow w.heap.size 9 1 (.slice a A.length c) A.length (kcells A).flatten := by
          have := HO5.out.own
          rwa [kcells, List.length_map] at this
        have HOWN := Lib.hid hown
        have HB5 : RowKit.Hid (Below w.heap.size (wr.alloc (.cells #[.string x.key] 9)) (wr.alloc (.cells #[.string x.key] 9))) := Lib.hid ((Touch.refl _ (fun _ => False)).below (fun _ _ h => h.elim) HT5.out.size)
        clear hx t5 hown
        go_upto_region 4 with (at_builtin; (with_reducible refine wp_appR HOWN.out 35 Try.underlying35 _ 16 HII.out rfl (by decide) ⟨wr.heap.size, 0, none⟩ 1 1 _ rfl HN5.out (by simp [Value.oneCell']) (by simp only [maxLen]; omega) (by omega) HB5.out (Nat.le_refl _) HT5.out.size rfl _ _ rfl rfl rfl ?_); intro a4 c4 w6 ho4 hg4 hb4 hp4; have HO6 := Lib.hid ho4; have HG6 := Lib.hid hg4; have HP6 := Lib.hid hp4; clear ho4 hg4 hb4 hp4)
        have hgw : g < w.heap.size := (HB1.out _ rfl).resolve_left (by simp)
        have T6 : Touch (wr.alloc (.cells #[.string x.key] 9)) w6 (fun k => (Value.slice a A.length c).ownBlock = some k) := (Touch.refl _ _).grown HG6.out (fun k hk _ => hk)
        have hq6h := T6.keeps HQ5.out.head (fun e => by have := (HOWN.out.lt b e).1; omega)
        have hq6r := HQ5.out.row.touch T6 (fun y hy => .inr (fun e => by have := (HOWN.out.lt _ e).1; have hy : (⟨g, off, none⟩ : Addr) = y := by simpa using hy
                                                                         subst hy; dsimp only at this; omega))
        have HT6 : RowKit.Hid (Touch w w6 (fun k => k = b)) := Lib.hid (HT5.out.grown HG6.out (fun k hk hlt => by have := (HOWN.out.lt k hk).1; omega))
        have HS6 : RowKit.Hid (OwnS w6 w.heap.size 9 1 (.slice a4 (A.length + 1) c4) (kcells (A ++ [x]))) := Lib.hid (by
          unfold kcells
          rw [List.map_append, List.map_cons, List.map_nil]
          refine HO5.out.add (L2 := [[.string x.key]]) (by simp) ?_
          have := HO6.out
          simpa [kcells] using this)
        have x6 : w6.cell? ⟨b, 0, none⟩ = some (.slice (some ⟨g, off, none⟩) (R.length + 1) c1) := cell_of_cells hq6h 0
        have f6 := free_of_cells hq6h 0
        have HH6 := Lib.hid hq6h
        have HR6 := Lib.hid hq6r
        clear T6 hq6h hq6r x0 f0 d0 d1
        go_wp2_with fail
        obtain ⟨a9, ha9⟩ : ∃ a9, (if c1 = 1 then some (⟨g, off, none⟩ : Addr) else some ⟨g, off + 2, none⟩) = a9 := ⟨_, rfl⟩
        rw [ha9]
        have hbk : ∀ y, a9 = some y → y.block = g := fun y hy => by
          rw [← ha9] at hy
          split at hy <;> (simp only [Option.some.injEq] at hy; subst hy; rfl)
        have t9 : Touch w6 (w6.setCell ⟨b, 0, none⟩ (.slice a9 R.length (c1 - 1))) (fun k => k = b) := (Touch.refl w6 (fun k => k = b)).setCell _ _ (fun _ => rfl)
        have hgb : R.length = 0 ∨ g ≠ b := by
          rcases HQ.out.ne _ rfl with h | h
          · simp at h
          · exact .inr h
        have hrow : RowS w6 a9 R.length (c1 - 1) 2 (R.map qcl) := by
          rw [← ha9]
          have h6 := HR6.out
          by_cases h1 : c1 = 1
          · have hR0 : R = [] := List.eq_nil_of_length_eq_zero (by omega)
            subst hR0
            rw [if_pos h1]
            exact RowS.nil _ _ _ _ (by omega)
          · rw [if_neg h1]
            exact RowS.tail (l := qcl x) (by simpa using h6)
        refine ⟨⟨A ++ [x], R, by rw [HL.out]; simp, fun r hr => ?_, a4, c4, a9, c1 - 1, by rw [List.length_append]; rfl, ?_, ⟨?_, ?_, fun y hy => ?_, ?_, fun y hy => .inr (by rw [hbk y hy]; have := HT6.out.size; have := t9.size; omega)⟩, HT6.out.trans t9 (fun _ _ h => h), fun y hy => .inr (by rw [hbk y hy]; exact hgw), fun y hy => by obtain ⟨z, hz, ez⟩ := HZ1.out _ rfl; exact ⟨z, hz, by rw [hbk y hy]; exact ez⟩⟩, by simp only [lenQ]; omega⟩
        · rcases List.mem_append.1 hr with hr | hr
          · exact HA.out r hr
          · rw [List.mem_singleton.1 hr]; exact HX2.out
        · rw [List.length_append]
          exact HS6.out.touch t9 (fun y hy e => by have := (HS6.out.own.lt y hy).1; have e : y = b := e; omega)
        · exact heap_setCell_same w6 b 0 _ _ _ HH6.out
        · exact hrow.touch t9 (fun y hy => by
            rcases hgb with h | h
            · exact .inl h
            · exact .inr (fun e => h (by rw [← hbk y hy]; exact e)))
        · rw [hbk y hy]; exact hgb
        · rw [← ha9]; split
          · exact .inr ⟨_, _, rfl⟩
          · exact .inr ⟨_, _, rfl⟩
end Go.Proofs.Ytdjkjdeaglimeaa
