/- Tuples: the numbers that Read takes, by calls handed in. -/
import Derived.Test.YtgmimdnebgncoaaRecRdZ
import Derived.Test.YtgmimdnebgncoaaGAZ
set_option linter.unusedVariables false
set_option linter.unusedSimpArgs false
namespace Go.Proofs.Ytgmimdnebgncoaa
open Go.RowKit

theorem infoU32 : (Try.prog.info? 22).map (fun i => (i.zero, i.size, i.bytes)) = some (some (.int .u32 0), 1, 4) := by kernel_rfl
theorem infoI64 : (Try.prog.info? 3).map (fun i => (i.zero, i.size, i.bytes)) = some (some (.int .i64 0), 1, 8) := by kernel_rfl
/-- Behind some of the calls: the row that was made so far, the reader. -/
def NumS (w : World) (G : Nat) (D : Nat → Prop) (xs : List Nat) (err : Int) (E : TypeId) (vs : List Value) (n : Nat) (l : Value) (wr : World) : Prop :=
  wr.ownsRow w.heap.size E 1 l vs.length vs ∧ RdD wr G (fun k => D k ∨ w.heap.size ≤ k) (nxtX n xs) (nxtE n xs err) ∧ Touch w wr (fun k => k = G)
/-- What numbers answers: a row of the call's own. -/
def NumIs (w : World) (G : Nat) (D : Nat → Prop) (xs : List Nat) (err : Int) (vs : List Value) (n : Nat) (e : Ending) (wr : World) : Prop :=
  ∃ g c, e = .returned (.slice (some ⟨g, 0, none⟩) vs.length c) ∧ w.heap.size ≤ g ∧ g < wr.heap.size ∧ (∀ (j : Nat) u, vs[j]? = some u → wr.cell? ⟨g, j, none⟩ = some u) ∧ RdD wr G D (nxtX n xs) (nxtE n xs err) ∧ Touch w wr (fun k => k = G)
theorem NumS.toIs {w : World} {G : Nat} {D : Nat → Prop} {xs : List Nat} {err : Int} {E : TypeId} {vs : List Value} {n : Nat} {l : Value} {wr : World} (h : NumS w G D xs err E vs n l wr) (h0 : 0 < vs.length) : NumIs w G D xs err vs n (.returned l) wr := by
  obtain ⟨ho, hr, ht⟩ := h
  have ho2 := ho
  obtain ⟨h1, ⟨_, h2⟩ | ⟨g, cap, cur, hl, hb, hg, _⟩⟩ := ho
  · omega
  · subst hl
    refine ⟨g, cap, rfl, hb, heap_lt hg, fun j u hu => ?_, hr.mono (fun k h => .inl h), ht⟩
    have := ho2.cells (g := g) rfl j u hu
    have ea : (⟨g, 0, none⟩ : Addr).add j = ⟨g, j, none⟩ := by
      unfold Addr.add
      simp only
      by_cases hj : j = 0
      · subst hj; rfl
      · rw [if_neg hj]; simp
    rwa [ea] at this
theorem owns_slice {w : World} {base : Nat} {E : TypeId} {k : Nat} {v : Value} {n : Nat} {xs : List Value} (h : w.ownsRow base E k v n xs) : ∃ a c, v = .slice a n c := by
  rcases h.2 with ⟨h, h2⟩ | ⟨g, cap, cur, h, _⟩
  · exact ⟨none, 0, by rw [h, h2]⟩
  · exact ⟨_, cap, h⟩

def NAt32 (w : World) (G : Nat) (D : Nat → Prop) (xs : List Nat) (err : Int) (l i : Value) (wr : World) : Prop :=
  (i = .int .i64 0 ∧ NumS w G D xs err 22 [] 0 l wr) ∨ (i = .int .i64 1 ∧ NumS w G D xs err 22 [.int .u32 (valN 4 xs : Nat)] 4 l wr) ∨ (i = .int .i64 2 ∧ NumS w G D xs err 22 [.int .u32 (valN 4 xs : Nat), .int .u32 (valN 4 (nxtX 4 xs) : Nat)] 8 l wr)
set_option maxRecDepth 20000 in
set_option maxHeartbeats 4000000 in
theorem num32_any (G : Nat) (D : Nat → Prop) (xs : List Nat) (err : Int) (B : Nat) (T : TypeId) (w : World) (h : RdD w G D xs err) (hb : w.heap[B]? = some (.cells #[.func (.func 45) #[] #[], .func (.func 45) #[] #[]] T (0, 0))) (hne : B ≠ G) :
    Calls Try.prog 44 #[.pointer (some ⟨G, 0, none⟩), .slice (some ⟨B, 0, none⟩) 2 2] w (NumIs w G D xs err [.int .u32 (valN 4 xs : Nat), .int .u32 (valN 4 (nxtX 4 xs) : Nat)] 8) := by
  have HB := Lib.hid hb
  have HNE := Lib.hid hne
  have HII := Lib.hid infoU32
  have HS : RowKit.Hid (NumS w G D xs err 22 [] 0 (.slice none 0 0) w) := Lib.hid ⟨World.ownsRow_nil w _ _ _, by rw [nxtX_zero, nxtE_zero]; exact h.above, Touch.refl _ _⟩
  have HLT : RowKit.Hid (G < w.heap.size) := Lib.hid h.lt
  clear h hb hne
  go_enter Try.func44, Try.ntmps44
  go_wp2_with fail
  go_loopw [5, 10] (fun l i wr => NAt32 w G D xs err l i wr) (fun _ i _ => 2 - (intOf i).toNat)
  case atStart => exact .inl ⟨rfl, HS.out⟩
  case round =>
    clear HS
    rcases hrel with ⟨rfl, hs⟩ | ⟨rfl, hs⟩ | ⟨rfl, hs⟩
    · obtain ⟨al, cl, rfl⟩ := owns_slice hs.1
      have HS := Lib.hid hs
      simp only [List.length_nil, List.length_cons, Nat.zero_add] at HS
      have hbr := hs.2.2.keeps HB.out HNE.out
      have c0 := cell_of_cells hbr 0
      simp at c0
      have HC := Lib.hid (d_rU32 G _ _ _ _ hs.2.1)
      rw [nxtX_zero, nxtE_zero] at HC
      clear hs hbr
      go_wp2_with (first
        | (go_at_call 45; (with_reducible refine HC.out.mono ?_); rintro e w2 ⟨rfl, h2, t2⟩; have t3 := t2.alloc (.cells #[.int .u32 (valN 4 xs : Nat)] 22); have HQ := Lib.hid (news_of (heap_alloc_new w2 (.cells #[.int .u32 (valN 4 xs : Nat)] 22))); have HO3 := Lib.hid (ownsRow_touch HS.out.1 t3 (fun x hx e => by have := (HS.out.1.lt x hx).1; have := HLT.out; omega)); have HR3 := Lib.hid (h2.still ((Touch.refl w2 (fun _ => False)).alloc (.cells #[.int .u32 (valN 4 xs : Nat)] 22))); have T3 := Lib.hid (HS.out.2.2.trans t3 (fun _ _ h => h)); clear h2 t2 t3)
        | (at_builtin; (with_reducible refine wp_appR HO3.out 92 Try.underlying92 _ 4 HII.out rfl (by decide) ⟨w2.heap.size, 0, none⟩ 1 1 _ rfl HQ.out (by simp [Value.oneCell']) (by simp [maxLen]) (by simp) (Below.refl _ _) (Nat.le_refl _) T3.out.size rfl _ _ rfl rfl rfl ?_); intro a4 c4 w4 ho4 hg4 hb4 hp4; have HO4 := Lib.hid ho4; have HG4 := Lib.hid hg4; clear ho4 hg4 hb4 hp4))
      have HR4 := Lib.hid (HR3.out.touch ((Touch.refl _ (fun x => w.heap.size ≤ x)).grown HG4.out (fun x hx hl => (HO3.out.lt x hx).1)) (fun x hl h => .inr h))
      have HT4 := Lib.hid (T3.out.grown HG4.out (fun x hx hl => by have := (HO3.out.lt x hx).1; omega))
      simp only [nxtX_nxtX, nxtE_nxtE, List.length_nil, List.length_cons, Nat.zero_add, List.nil_append, List.cons_append] at HR4 HO4
      refine ⟨.inr (.inl ⟨by go_num, HO4.out, HR4.out, HT4.out⟩), by simp [intOf]⟩
    · obtain ⟨al, cl, rfl⟩ := owns_slice hs.1
      have HS := Lib.hid hs
      simp only [List.length_nil, List.length_cons, Nat.zero_add] at HS
      have hbr := hs.2.2.keeps HB.out HNE.out
      have c0 := cell_of_cells hbr 1
      simp at c0
      have HC := Lib.hid (d_rU32 G _ _ _ _ hs.2.1)
      skip
      clear hs hbr
      go_wp2_with (first
        | (go_at_call 45; (with_reducible refine HC.out.mono ?_); rintro e w2 ⟨rfl, h2, t2⟩; have t3 := t2.alloc (.cells #[.int .u32 (valN 4 (nxtX 4 xs) : Nat)] 22); have HQ := Lib.hid (news_of (heap_alloc_new w2 (.cells #[.int .u32 (valN 4 (nxtX 4 xs) : Nat)] 22))); have HO3 := Lib.hid (ownsRow_touch HS.out.1 t3 (fun x hx e => by have := (HS.out.1.lt x hx).1; have := HLT.out; omega)); have HR3 := Lib.hid (h2.still ((Touch.refl w2 (fun _ => False)).alloc (.cells #[.int .u32 (valN 4 (nxtX 4 xs) : Nat)] 22))); have T3 := Lib.hid (HS.out.2.2.trans t3 (fun _ _ h => h)); clear h2 t2 t3)
        | (at_builtin; (with_reducible refine wp_appR HO3.out 92 Try.underlying92 _ 4 HII.out rfl (by decide) ⟨w2.heap.size, 0, none⟩ 1 1 _ rfl HQ.out (by simp [Value.oneCell']) (by simp [maxLen]) (by simp) (Below.refl _ _) (Nat.le_refl _) T3.out.size rfl _ _ rfl rfl rfl ?_); intro a4 c4 w4 ho4 hg4 hb4 hp4; have HO4 := Lib.hid ho4; have HG4 := Lib.hid hg4; clear ho4 hg4 hb4 hp4))
      have HR4 := Lib.hid (HR3.out.touch ((Touch.refl _ (fun x => w.heap.size ≤ x)).grown HG4.out (fun x hx hl => (HO3.out.lt x hx).1)) (fun x hl h => .inr h))
      have HT4 := Lib.hid (T3.out.grown HG4.out (fun x hx hl => by have := (HO3.out.lt x hx).1; omega))
      simp only [nxtX_nxtX, nxtE_nxtE, List.length_nil, List.length_cons, Nat.zero_add, List.nil_append, List.cons_append] at HR4 HO4
      refine ⟨.inr (.inr ⟨by go_num, HO4.out, HR4.out, HT4.out⟩), by simp [intOf]⟩
    · have HS := Lib.hid hs
      clear hs
      go_wp2
      go_ret
      exact HS.out.toIs (by simp)

def NAt64 (w : World) (G : Nat) (D : Nat → Prop) (xs : List Nat) (err : Int) (l i : Value) (wr : World) : Prop :=
  (i = .int .i64 0 ∧ NumS w G D xs err 3 [] 0 l wr) ∨ (i = .int .i64 1 ∧ NumS w G D xs err 3 [.int .i64 (valN 1 xs : Nat)] 1 l wr) ∨ (i = .int .i64 2 ∧ NumS w G D xs err 3 [.int .i64 (valN 1 xs : Nat), .int .i64 (valN 2 (nxtX 1 xs) : Nat)] 3 l wr) ∨ (i = .int .i64 3 ∧ NumS w G D xs err 3 [.int .i64 (valN 1 xs : Nat), .int .i64 (valN 2 (nxtX 1 xs) : Nat), .int .i64 (valN 2 (nxtX 3 xs) : Nat)] 5 l wr)
set_option maxRecDepth 20000 in
set_option maxHeartbeats 4000000 in
theorem num64_any (G : Nat) (D : Nat → Prop) (xs : List Nat) (err : Int) (B : Nat) (T : TypeId) (w : World) (h : RdD w G D xs err) (hb : w.heap[B]? = some (.cells #[.func (.func 47) #[] #[], .func (.func 48) #[] #[], .func (.func 48) #[] #[]] T (0, 0))) (hne : B ≠ G) :
    Calls Try.prog 46 #[.pointer (some ⟨G, 0, none⟩), .slice (some ⟨B, 0, none⟩) 3 3] w (NumIs w G D xs err [.int .i64 (valN 1 xs : Nat), .int .i64 (valN 2 (nxtX 1 xs) : Nat), .int .i64 (valN 2 (nxtX 3 xs) : Nat)] 5) := by
  have HB := Lib.hid hb
  have HNE := Lib.hid hne
  have HII := Lib.hid infoI64
  have HS : RowKit.Hid (NumS w G D xs err 3 [] 0 (.slice none 0 0) w) := Lib.hid ⟨World.ownsRow_nil w _ _ _, by rw [nxtX_zero, nxtE_zero]; exact h.above, Touch.refl _ _⟩
  have HLT : RowKit.Hid (G < w.heap.size) := Lib.hid h.lt
  clear h hb hne
  go_enter Try.func46, Try.ntmps46
  go_wp2_with fail
  go_loopw [5, 10] (fun l i wr => NAt64 w G D xs err l i wr) (fun _ i _ => 3 - (intOf i).toNat)
  case atStart => exact .inl ⟨rfl, HS.out⟩
  case round =>
    clear HS
    rcases hrel with ⟨rfl, hs⟩ | ⟨rfl, hs⟩ | ⟨rfl, hs⟩ | ⟨rfl, hs⟩
    · obtain ⟨al, cl, rfl⟩ := owns_slice hs.1
      have HS := Lib.hid hs
      simp only [List.length_nil, List.length_cons, Nat.zero_add] at HS
      have hbr := hs.2.2.keeps HB.out HNE.out
      have c0 := cell_of_cells hbr 0
      simp at c0
      have HC := Lib.hid (d_rU8 G _ _ _ _ hs.2.1)
      rw [nxtX_zero, nxtE_zero] at HC
      clear hs hbr
      go_wp2_with (first
        | (go_at_call 47; (with_reducible refine HC.out.mono ?_); rintro e w2 ⟨rfl, h2, t2⟩; have t3 := t2.alloc (.cells #[.int .i64 (valN 1 xs : Nat)] 3); have HQ := Lib.hid (news_of (heap_alloc_new w2 (.cells #[.int .i64 (valN 1 xs : Nat)] 3))); have HO3 := Lib.hid (ownsRow_touch HS.out.1 t3 (fun x hx e => by have := (HS.out.1.lt x hx).1; have := HLT.out; omega)); have HR3 := Lib.hid (h2.still ((Touch.refl w2 (fun _ => False)).alloc (.cells #[.int .i64 (valN 1 xs : Nat)] 3))); have T3 := Lib.hid (HS.out.2.2.trans t3 (fun _ _ h => h)); clear h2 t2 t3)
        | (at_builtin; (with_reducible refine wp_appR HO3.out 96 Try.underlying96 _ 8 HII.out rfl (by decide) ⟨w2.heap.size, 0, none⟩ 1 1 _ rfl HQ.out (by simp [Value.oneCell']) (by simp [maxLen]) (by simp) (Below.refl _ _) (Nat.le_refl _) T3.out.size rfl _ _ rfl rfl rfl ?_); intro a4 c4 w4 ho4 hg4 hb4 hp4; have HO4 := Lib.hid ho4; have HG4 := Lib.hid hg4; clear ho4 hg4 hb4 hp4))
      have HR4 := Lib.hid (HR3.out.touch ((Touch.refl _ (fun x => w.heap.size ≤ x)).grown HG4.out (fun x hx hl => (HO3.out.lt x hx).1)) (fun x hl h => .inr h))
      have HT4 := Lib.hid (T3.out.grown HG4.out (fun x hx hl => by have := (HO3.out.lt x hx).1; omega))
      simp only [nxtX_nxtX, nxtE_nxtE, List.length_nil, List.length_cons, Nat.zero_add, List.nil_append, List.cons_append] at HR4 HO4
      refine ⟨.inr (.inl ⟨by go_num, HO4.out, HR4.out, HT4.out⟩), by simp [intOf]⟩
    · obtain ⟨al, cl, rfl⟩ := owns_slice hs.1
      have HS := Lib.hid hs
      simp only [List.length_nil, List.length_cons, Nat.zero_add] at HS
      have hbr := hs.2.2.keeps HB.out HNE.out
      have c0 := cell_of_cells hbr 1
      simp at c0
      have HC := Lib.hid (d_rU16 G _ _ _ _ hs.2.1)
      skip
      clear hs hbr
      go_wp2_with (first
        | (go_at_call 48; (with_reducible refine HC.out.mono ?_); rintro e w2 ⟨rfl, h2, t2⟩; have t3 := t2.alloc (.cells #[.int .i64 (valN 2 (nxtX 1 xs) : Nat)] 3); have HQ := Lib.hid (news_of (heap_alloc_new w2 (.cells #[.int .i64 (valN 2 (nxtX 1 xs) : Nat)] 3))); have HO3 := Lib.hid (ownsRow_touch HS.out.1 t3 (fun x hx e => by have := (HS.out.1.lt x hx).1; have := HLT.out; omega)); have HR3 := Lib.hid (h2.still ((Touch.refl w2 (fun _ => False)).alloc (.cells #[.int .i64 (valN 2 (nxtX 1 xs) : Nat)] 3))); have T3 := Lib.hid (HS.out.2.2.trans t3 (fun _ _ h => h)); clear h2 t2 t3)
        | (at_builtin; (with_reducible refine wp_appR HO3.out 96 Try.underlying96 _ 8 HII.out rfl (by decide) ⟨w2.heap.size, 0, none⟩ 1 1 _ rfl HQ.out (by simp [Value.oneCell']) (by simp [maxLen]) (by simp) (Below.refl _ _) (Nat.le_refl _) T3.out.size rfl _ _ rfl rfl rfl ?_); intro a4 c4 w4 ho4 hg4 hb4 hp4; have HO4 := Lib.hid ho4; have HG4 := Lib.hid hg4; clear ho4 hg4 hb4 hp4))
      have HR4 := Lib.hid (HR3.out.touch ((Touch.refl _ (fun x => w.heap.size ≤ x)).grown HG4.out (fun x hx hl => (HO3.out.lt x hx).1)) (fun x hl h => .inr h))
      have HT4 := Lib.hid (T3.out.grown HG4.out (fun x hx hl => by have := (HO3.out.lt x hx).1; omega))
      simp only [nxtX_nxtX, nxtE_nxtE, List.length_nil, List.length_cons, Nat.zero_add, List.nil_append, List.cons_append] at HR4 HO4
      refine ⟨.inr (.inr (.inl ⟨by go_num, HO4.out, HR4.out, HT4.out⟩)), by simp [intOf]⟩
    · obtain ⟨al, cl, rfl⟩ := owns_slice hs.1
      have HS := Lib.hid hs
      simp only [List.length_nil, List.length_cons, Nat.zero_add] at HS
      have hbr := hs.2.2.keeps HB.out HNE.out
      have c0 := cell_of_cells hbr 2
      simp at c0
      have HC := Lib.hid (d_rU16 G _ _ _ _ hs.2.1)
      skip
      clear hs hbr
      go_wp2_with (first
        | (go_at_call 48; (with_reducible refine HC.out.mono ?_); rintro e w2 ⟨rfl, h2, t2⟩; have t3 := t2.alloc (.cells #[.int .i64 (valN 2 (nxtX 3 xs) : Nat)] 3); have HQ := Lib.hid (news_of (heap_alloc_new w2 (.cells #[.int .i64 (valN 2 (nxtX 3 xs) : Nat)] 3))); have HO3 := Lib.hid (ownsRow_touch HS.out.1 t3 (fun x hx e => by have := (HS.out.1.lt x hx).1; have := HLT.out; omega)); have HR3 := Lib.hid (h2.still ((Touch.refl w2 (fun _ => False)).alloc (.cells #[.int .i64 (valN 2 (nxtX 3 xs) : Nat)] 3))); have T3 := Lib.hid (HS.out.2.2.trans t3 (fun _ _ h => h)); clear h2 t2 t3)
        | (at_builtin; (with_reducible refine wp_appR HO3.out 96 Try.underlying96 _ 8 HII.out rfl (by decide) ⟨w2.heap.size, 0, none⟩ 1 1 _ rfl HQ.out (by simp [Value.oneCell']) (by simp [maxLen]) (by simp) (Below.refl _ _) (Nat.le_refl _) T3.out.size rfl _ _ rfl rfl rfl ?_); intro a4 c4 w4 ho4 hg4 hb4 hp4; have HO4 := Lib.hid ho4; have HG4 := Lib.hid hg4; clear ho4 hg4 hb4 hp4))
      have HR4 := Lib.hid (HR3.out.touch ((Touch.refl _ (fun x => w.heap.size ≤ x)).grown HG4.out (fun x hx hl => (HO3.out.lt x hx).1)) (fun x hl h => .inr h))
      have HT4 := Lib.hid (T3.out.grown HG4.out (fun x hx hl => by have := (HO3.out.lt x hx).1; omega))
      simp only [nxtX_nxtX, nxtE_nxtE, List.length_nil, List.length_cons, Nat.zero_add, List.nil_append, List.cons_append] at HR4 HO4
      refine ⟨.inr (.inr (.inr ⟨by go_num, HO4.out, HR4.out, HT4.out⟩)), by simp [intOf]⟩
    · have HS := Lib.hid hs
      clear hs
      go_wp2
      go_ret
      exact HS.out.toIs (by simp)

end Go.Proofs.Ytgmimdnebgncoaa
