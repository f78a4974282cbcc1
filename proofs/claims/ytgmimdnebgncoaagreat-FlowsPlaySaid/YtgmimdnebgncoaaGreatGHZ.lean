/- GH: FlowRange, FlowThose, FlowSort1. -/
import Derived.Test.YtgmimdnebgncoaaGreatGFZ
import Derived.Maps.RangeWalk
import Derived.Test.YtgmimdnebgncoaaGreatShelf
section
/- Flows: the map ranged over. -/
set_option linter.unusedVariables false
set_option linter.unusedSimpArgs false
namespace Go.Proofs.YtgmimdnebgncoaaGreat
open Go.RowKit

theorem key_u32 {n : Nat} {a : Value} {ls : List Lit} (h : Tryz.prog.keyLits (n + 1) 31 [a] = some ls) : ∃ x, a = .int .u32 x ∧ (Lit.int .u32 x).wf = true := by
  unfold Program.keyLits at h
  simp only [Tryz.underlying31] at h
  cases a <;> simp at h
  obtain ⟨⟨rfl, h2⟩, _⟩ := h
  exact ⟨_, rfl, h2⟩
theorem key_int {n : Nat} {a : Value} {ls : List Lit} (h : Tryz.prog.keyLits (n + 1) 3 [a] = some ls) : ∃ x, a = .int .i64 x ∧ (Lit.int .i64 x).wf = true := by
  unfold Program.keyLits at h
  simp only [Tryz.underlying3] at h
  cases a <;> simp at h
  obtain ⟨⟨rfl, h2⟩, _⟩ := h
  exact ⟨_, rfl, h2⟩
theorem wf_u32 {x : Int} (h : (Lit.int .u32 x).wf = true) : 0 ≤ x ∧ x ≤ 4294967295 := by
  simp [Lit.wf, IntKind.min, IntKind.max, IntKind.signed, IntKind.bits] at h
  omega
theorem wf_i64 {x : Int} (h : (Lit.int .i64 x).wf = true) : -9223372036854775808 ≤ x ∧ x ≤ 9223372036854775807 := by
  simp [Lit.wf, IntKind.min, IntKind.max, IntKind.signed, IntKind.bits] at h
  omega
set_option maxRecDepth 20000 in
theorem keyT_inv {v : Value} {kl : Lit} (h : keyOf Tryz.prog 33 v = some kl) : ∃ t : TupD, v = .agg (tcs t) ∧ TupOk t := by
  obtain ⟨m, hm⟩ : ∃ m, Tryz.prog.types.size = m + 1 := ⟨Tryz.prog.types.size - 1, by kernel_rfl⟩
  have h1 : Tryz.prog.cellsOf 31 = 1 := by kernel_rfl
  have h2 : Tryz.prog.cellsOf 3 = 1 := by kernel_rfl
  have h3 : Tryz.prog.cellsOf 33 = 5 := by kernel_rfl
  unfold keyOf at h
  simp only [Tryz.underlying33] at h
  split at h
  · rename_i hf
    rw [Bool.and_eq_true] at hf
    obtain ⟨_, hf⟩ := hf
    cases v with
    | agg cs =>
      rw [hm] at h
      unfold Program.keyLits at h
      simp only [Tryz.underlying33, Value.cells] at h
      split at h
      · rename_i hc
        have hl : cs.toList.length = 5 := by rw [hc.1, h3]
        obtain ⟨a, b, c, d, e, hl⟩ := listFive hl
        rw [hl] at h
        simp only [List.mapM_cons, List.mapM_nil, h1, h2, Option.bind_eq_bind, Option.map_eq_some_iff, Option.bind_eq_some_iff, List.take, List.drop, Option.pure_def] at h
        obtain ⟨_, ⟨_, ⟨_, e0, _, ⟨_, e1, _, ⟨_, e2, _, ⟨_, e3, _, ⟨_, e4, _⟩, _⟩, _⟩, _⟩, _⟩, _⟩, _⟩ := h
        obtain ⟨x0, rfl, k0⟩ := key_u32 e0
        obtain ⟨x1, rfl, k1⟩ := key_u32 e1
        obtain ⟨x2, rfl, k2⟩ := key_int e2
        obtain ⟨x3, rfl, k3⟩ := key_int e3
        obtain ⟨x4, rfl, k4⟩ := key_int e4
        refine ⟨⟨x0, x1, x2, x3, x4⟩, ?_, ⟨wf_u32 k0, wf_u32 k1, wf_i64 k2, wf_i64 k3, wf_i64 k4⟩⟩
        rw [show cs = tcs ⟨x0, x1, x2, x3, x4⟩ from Array.ext' hl]
      · simp at h
    | _ => simp [Value.formed, Tryz.underlying33] at hf
  · cases h
theorem klT_self (t : TupD) : Lit.sameKey (klT t) (klT t) = true := by unfold klT; simp [Lit.sameKey]
theorem same_klT {a b : TupD} (h : Lit.sameKey (klT a) (klT b) = true) : klT a = klT b := by
  unfold klT at *
  simpa [Lit.sameKey] using h
/-- A range over the table's map under way: 'left': is the flow with that key still to come? -/
def RangesF (w : World) (mb r : Nat) (M : List FlD) (left : Lit → Bool) (cnt : Nat) : Prop :=
  (M.map FlD.t).Nodup ∧ ∃ D : DataW Unit, w.ranges Tryz.prog 33 readF mb r M.length D left cnt ∧ PFl D M ∧ ∀ kl, left kl = true → Maps.has D kl = true
def seenF (M : List FlD) (left : Lit → Bool) : List FlD := M.filter (fun f => !left (klT f.t))
section
variable {w w' : World} {mb r cnt : Nat} {M : List FlD} {left : Lit → Bool}
theorem RangesF.touch {S : Nat → Prop} (h : RangesF w mb r M left cnt) (t : Touch w w' S) (h1 : ¬ S mb) (h2 : ¬ S r) : RangesF w' mb r M left cnt := by
  obtain ⟨hn, D, ⟨es, clock, since, seen, c0, e1, e2, e3, e4, e5, e6⟩, hp, hl⟩ := h
  exact ⟨hn, D, ⟨es, clock, since, seen, c0, t.keeps e1 h1, e2, e3, e4, t.keeps e5 h2, e6⟩, hp, hl⟩
theorem RangesF.still (h : RangesF w mb r M left cnt) (t : Touch w w' (fun _ => False)) : RangesF w' mb r M left cnt := h.touch t (fun h => h) (fun h => h)
theorem RangesF.left_eq (h : RangesF w mb r M left cnt) : w.rangeLeft mb r = cnt := by
  obtain ⟨_, D, h, _⟩ := h
  exact h.left_eq
theorem RangesF.lt (h : RangesF w mb r M left cnt) : r < w.heap.size := by
  obtain ⟨_, D, h, _⟩ := h
  exact h.lt
theorem seen_none (M : List FlD) (h : ∀ kl, left kl = false) : seenF M left = M := by
  unfold seenF
  exact List.filter_eq_self.2 (fun f _ => by rw [h]; rfl)
theorem seen_step {f : FlD} (hn : (M.map FlD.t).Nodup) (ok : ∀ f ∈ M, TupOk f.t) (hf : f ∈ M) (hl : left (klT f.t) = true) :
    (seenF M (fun z => left z && !z.sameKey (klT f.t))).Perm (f :: seenF M left) := by
  obtain ⟨s, t, rfl⟩ := List.append_of_mem hf
  have hne : ∀ x ∈ s ++ t, x.t ≠ f.t := by
    intro x hx e
    have h1 := (List.perm_middle (a := f) (l₁ := s) (l₂ := t)).map FlD.t
    have h2 := h1.nodup_iff.1 hn
    rw [List.map_cons, List.nodup_cons] at h2
    exact h2.1 (List.mem_map.2 ⟨x, hx, e⟩)
  have hk : ∀ x ∈ s ++ t, (Lit.sameKey (klT x.t) (klT f.t)) = false := by
    intro x hx
    have hm : x ∈ s ++ f :: t := by
      rcases List.mem_append.1 hx with h | h
      · exact List.mem_append_left _ h
      · exact List.mem_append_right _ (List.mem_cons_of_mem _ h)
    cases hs : Lit.sameKey (klT x.t) (klT f.t) with
    | false => rfl
    | true => exact absurd (klT_inj (ok x hm) (ok f hf) (same_klT hs)) (hne x hx)
  have hself : Lit.sameKey (klT f.t) (klT f.t) = true := klT_self _
  have e1 : ∀ L : List FlD, (∀ x ∈ L, x ∈ s ++ t) → seenF L (fun z => left z && !z.sameKey (klT f.t)) = seenF L left := by
    intro L hL
    unfold seenF
    refine List.filter_congr fun x hx => ?_
    simp [hk x (hL x hx)]
  unfold seenF at e1 ⊢
  rw [List.filter_append, List.filter_cons, if_pos (by simp [hself]), e1 s (fun x hx => List.mem_append_left _ hx), e1 t (fun x hx => List.mem_append_right _ hx), List.filter_append, List.filter_cons, if_neg (by simp [hl])]
  exact List.perm_middle
end
section
variable {w : World} {ops : Array Oper} {rest : List Oper} {o : Oper} {a : Act} {Q : Exit → Act → World → Prop}
theorem wp_rangeF (hg : o.guard = none) (m : Operand) (hop : o.op = Op.range 51 m) (mb : Nat) (M : List FlD) (hm : a.eval m = .map (some mb)) (h : OwnFl w mb M)
    (hK : ∀ w' left cnt, RangesF w' mb w.heap.size M left cnt → seenF M left = [] → Touch w w' (fun _ => False) → wpList Tryz.prog ops Q rest (a.put o.dst (.pointer (some ⟨w.heap.size, 0, none⟩))) w') : wpList Tryz.prog ops Q (o :: rest) a w := by
  obtain ⟨hn, D, hD, hP⟩ := h
  refine wpList_range_own _ hg m _ hop 33 35 tupKeyed mapTF readF mb M.length D hm hD ?_
  intro w' r1 r2 r3
  refine hK w' _ _ ⟨hn, D, r1, hP, fun _ h => h⟩ ?_ ((Touch.refl w _).grown r2 (fun _ h _ => by cases h))
  unfold seenF
  refine List.filter_eq_nil_iff.2 fun f hf => ?_
  rw [hP.has _ (hP.ok f hf), (hasF_iff _ _).2 (List.mem_map.2 ⟨f, hf, rfl⟩)]
  simp
set_option maxRecDepth 20000 in
theorem wp_nextF (hg : o.guard = none) (it : Operand) (hop : o.op = Op.next it false) (mb r : Nat) (M : List FlD) (left : Lit → Bool) (cnt : Nat) (hit : a.eval it = .pointer (some ⟨r, 0, none⟩)) (h : RangesF w mb r M left cnt)
    (hDone : seenF M left = M → wpList Tryz.prog ops Q rest (a.put o.dst (.tuple #[.bool false])) w)
    (hMore : ∀ (x : Value) (f : FlD) (left' : Lit → Bool) (w' : World) (cnt' : Nat), f ∈ M → (seenF M left').Perm (f :: seenF M left) → RangesF w' mb r M left' cnt' → cnt' < cnt → Touch w w' (fun k => k = r) →
      (Instr.entry (.pointer (some ⟨r, 0, none⟩))).run Tryz.prog w' = .ok (.tuple #[x, .agg (fca f)]) w' → wpList Tryz.prog ops Q rest (a.put o.dst (.tuple #[.bool true, x, .agg (fca f)])) w') :
    wpList Tryz.prog ops Q (o :: rest) a w := by
  obtain ⟨hn, D, hr, hP, hL⟩ := h
  refine wpList_next_ranges _ hg it hop 33 tupKeyed readF (fun v : Value => v) (fun f : FlD => .agg (fca f)) (fun key kl _ => ⟨key, rfl⟩) (fun v y hv => by obtain ⟨f, rfl, _⟩ := readF_inv hv; exact ⟨f, rfl⟩) mb r M.length D left cnt hit hr (fun _ hl => hDone (seen_none M hl)) ?_
  intro x c kl y w' cnt' hkey hlk hv hat hrg hlt hgr hsz hen
  obtain ⟨t, rfl, ot⟩ := keyT_inv hkey
  have ek : kl = klT t := by rw [keyT ot] at hkey; exact (Option.some.inj hkey).symm
  subst ek
  have hhas : hasF M t = true := by rw [← hP.has t ot]; exact hL _ hlk
  obtain ⟨f, hf, rfl⟩ := List.mem_map.1 ((hasF_iff _ _).1 hhas)
  have hc : c = f := by
    obtain ⟨c', e1, e2⟩ := readF_inv hv
    have e3 := hat (.lit (.bool true))
    rw [hP.at_ f hf] at e3
    rw [readF_mk] at hv
    injection hv with hv
    rw [← hv] at e3
    exact (encF_inj e3).symm
  subst hc
  exact hMore _ c _ w' cnt' hf (seen_step hn hP.ok hf hlk) ⟨hn, D, hrg, hP, fun kl h => hL kl (by simp only [Bool.and_eq_true] at h; exact h.1)⟩ hlt ((Touch.refl w (fun k => k = r)).grown hgr (fun k hk _ => by simp only [Option.some.injEq] at hk; exact hk.symm)) hen
end
end Go.Proofs.YtgmimdnebgncoaaGreat

end

section
/- Flows: those of a backend, all of them: the loop; the sort is a hypothesis. -/
set_option linter.unusedVariables false
set_option linter.unusedSimpArgs false
namespace Go.Proofs.YtgmimdnebgncoaaGreat
open Go.RowKit

def isOf (n : Int) (f : FlD) : Bool := decide (f.fb = n)
set_option maxRecDepth 20000 in
set_option maxHeartbeats 4000000 in
theorem ofclo_any (w : World) (f : FlD) (bx : Nat) (n : Int) (hlt : bx < w.heap.size) (hx : w.cell? ⟨bx, 0, none⟩ = some (.int .i64 n)) :
    Calls Tryz.prog 38 #[.agg (fca f), .pointer (some ⟨bx, 0, none⟩)] w fun e w' => e = .returned (.bool (isOf n f)) ∧ Touch w w' (fun _ => False) := by
  obtain ⟨W1, hW1⟩ : ∃ W, w.alloc (.cells (fca f) 35) = W := ⟨_, rfl⟩
  have t1 : Touch w W1 (fun _ => False) := hW1 ▸ (Touch.refl w _).alloc _
  have g1 : W1.heap[w.heap.size]? = some (.cells (fca f) 35 (0, 0)) := hW1 ▸ heap_alloc_new ..
  obtain ⟨x0, x1, x2, x3, x4, x5, x6, x7⟩ := fcells_of g1
  have y := (t1.cell (p := ⟨bx, 0, none⟩) hlt (fun h => h)).trans hx
  have HT1 := Lib.hid t1
  have HW1 := Lib.hid hW1
  unfold isOf
  obtain ⟨⟨a1, a2, a3, a4, a5⟩, fb, fg, fs⟩ := f
  simp only [fca] at *
  clear hW1 t1 g1 hx
  go_enter Tryz.func38, Tryz.ntmps38
  go_upto_region 1 with (fail)
  rw [HW1.out]
  go_wp2_with fail
  go_ret
  exact ⟨rfl, HT1.out⟩
/-- What a sort of the rows in the box bx is to do. -/
def SortsF (P : List FlD → List FlD → Prop) (K : List FlD) : Prop := ∀ (W : World) (base bx : Nat) (a : Option Addr) (c : Nat) (L : List FlD), L.Perm K → OwnS W base 35 8 (.slice a L.length c) (L.map fcl) → bx < base → W.heap[bx]? = some (.cells #[.slice a L.length c] 28 (0, 0)) →
  Calls Tryz.prog 56 #[.iface 28 (.slice a L.length c), .func (.func 57) #[] #[.pointer (some ⟨bx, 0, none⟩)]] W fun e w' => e = .returned (.tuple #[]) ∧ ∃ L', L'.Perm L ∧ P L L' ∧ OwnS w' base 35 8 (.slice a L.length c) (L'.map fcl) ∧ Touch W w' (fun k => (Value.slice a L.length c).ownBlock = some k)
set_option maxRecDepth 20000 in
set_option maxHeartbeats 8000000 in
theorem thoseof_any (R : List FlD → List FlD → Prop) (w : World) (g : Nat) (h : FH) (most idle : Int) (M : List FlD) (d : FS w g h most idle M) (bw : Nat) (n : Int) (hlt : bw < w.heap.size) (hx : w.cell? ⟨bw, 0, none⟩ = some (.int .i64 n)) (hs : SortsF R (M.filter (isOf n))) :
    Calls Tryz.prog 36 #[.pointer (some ⟨g, 0, none⟩), .func (.func 38) #[] #[.pointer (some ⟨bw, 0, none⟩)]] w fun e w' => ∃ a c L L', e = .returned (.slice a L'.length c) ∧ L.Perm (M.filter (isOf n)) ∧ L'.Perm L ∧ R L L' ∧ OwnS w' w.heap.size 35 8 (.slice a L'.length c) (L'.map fcl) ∧ Touch w w' (fun _ => False) := by
  obtain ⟨W1, hW1⟩ : ∃ W, w.alloc (.cells #[.slice none 0 0] 28) = W := ⟨_, rfl⟩
  have t1 : Touch w W1 (fun _ => False) := hW1 ▸ (Touch.refl w _).alloc _
  have g1 : W1.heap[w.heap.size]? = some (.cells #[.slice none 0 0] 28 (0, 0)) := hW1 ▸ heap_alloc_new ..
  have s1 : W1.heap.size = w.heap.size + 1 := by rw [← hW1]; simp
  obtain ⟨c0, c1, c2, c3⟩ := (d.still t1).cells
  have HD := Lib.hid d
  have HMAP := Lib.hid (d.still t1).map
  have HT1 := Lib.hid t1
  have HW1 := Lib.hid hW1
  have HG1 := Lib.hid g1
  have HS1 := Lib.hid s1
  have HSORT := Lib.hid hs
  have HCLO : RowKit.Hid (∀ W f, Touch w W (fun _ => False) → Calls Tryz.prog 38 #[.agg (fca f), .pointer (some ⟨bw, 0, none⟩)] W fun e w' => e = .returned (.bool (isOf n f)) ∧ Touch W w' (fun _ => False)) := Lib.hid (fun W f t => ofclo_any W f bw n (Nat.lt_of_lt_of_le hlt t.size) ((t.cell (p := ⟨bw, 0, none⟩) hlt (fun h => h)).trans hx))
  clear hs d hW1 t1 g1 s1 hx
  go_enter Tryz.func36, Tryz.ntmps36
  go_upto_region 4 with (fail)
  rw [HW1.out]
  go_wp2_with (at_range; refine wp_rangeF rfl _ rfl h.mb M rfl HMAP.out ?_; intro w2 left0 cnt0 hrg0 hsn0 t2)
  have hb2 : w2.heap[w.heap.size]? = some (.cells #[.slice none 0 0] 28 (0, 0)) := t2.keeps HG1.out (fun h => h)
  have HT2 := Lib.hid (HT1.out.trans t2 (fun _ _ h => h))
  have HZ2 := Lib.hid t2.size
  have hmb := HMAP.out.lt
  rw [HS1.out] at hrg0 ⊢
  obtain ⟨bx, hbx⟩ : ∃ bx, w.heap.size = bx := ⟨_, rfl⟩
  have HBX := Lib.hid hbx
  rw [hbx] at hb2 hrg0 ⊢
  go_loopw [15] (fun _ wr => ∃ (left : Lit → Bool) (cnt : Nat) (K : List FlD) (a : Option Addr) (c : Nat), RangesF wr h.mb (bx + 1) M left cnt ∧ K.Perm ((seenF M left).filter (isOf n)) ∧ wr.heap[bx]? = some (.cells #[.slice a K.length c] 28 (0, 0)) ∧ OwnS wr (bx + 2) 35 8 (.slice a K.length c) (K.map fcl) ∧ Touch w wr (fun _ => False) ∧ K.length ≤ 256) (fun _ wr => wr.rangeLeft h.mb (bx + 1))
  case atStart => exact ⟨left0, cnt0, [], none, 0, hrg0, by rw [hsn0]; exact .refl _, hb2, OwnS.nil _ _ _ _, HT2.out, by decide⟩
  case round =>
    obtain ⟨left, cnt, K, a, c, hrg, hp, hb, ho, ht, hk⟩ := hrel
    have HRG := Lib.hid hrg
    have HP := Lib.hid hp
    have HB := Lib.hid hb
    have HO := Lib.hid ho
    have HT := Lib.hid ht
    have HK := Lib.hid hk
    clear hrg hp hb ho ht hk c0 c1 c2 c3
    go_wp2_with (at_next; refine wp_nextF rfl _ rfl h.mb (bx + 1) M left cnt rfl HRG.out ?_ ?_)
    · intro hdone
      have hpm : K.Perm (M.filter (isOf n)) := by have := HP.out; rw [hdone] at this; exact this
      have hlb := cell_of_cells HB.out 0
      have HSO := Lib.hid (HSORT.out wr (bx + 2) bx a c K hpm HO.out (by omega) HB.out)
      have HPM := Lib.hid hpm
      clear hpm
      go_upto_region 10 with (go_at_call 56; (with_reducible refine HSO.out.mono ?_); rintro e w4 ⟨rfl, L', hl', hr', ho', t4⟩)
      have hb4 : w4.heap[bx]? = some (.cells #[.slice a K.length c] 28 (0, 0)) := t4.keeps HB.out (fun e => by have := (HO.out.own.lt _ e).1; omega)
      have hl4 := cell_of_cells hb4 0
      have HT4 := Lib.hid (HT.out.trans t4 (fun k hk e => by have := (HO.out.own.lt _ e).1; have := HBX.out; omega))
      have HO4 := Lib.hid ho'
      have HL4 := Lib.hid (And.intro hl' hr')
      clear hl' hr' ho' t4 hb4
      go_wp2_with fail
      go_ret
      refine ⟨a, c, K, L', by rw [HL4.out.1.length_eq]; rfl, HPM.out, HL4.out.1, HL4.out.2, ?_, HT4.out⟩
      rw [HL4.out.1.length_eq]
      exact HO4.out.rebase (fun x hx => by have := (HO4.out.own.lt x hx).1; have := HBX.out; omega)
    · intro x f left' w3 cnt3 hf hp3 hrg3 hlt3 t3 hen3
      have HEN := Lib.hid hen3
      have hen : (Instr.entry (.pointer (some ⟨bx + 1, 0, none⟩))).run Tryz.prog w3 = .ok (.tuple #[x, .agg #[.int .u32 f.t.src, .int .u32 f.t.dst, .int .i64 f.t.proto, .int .i64 f.t.sport, .int .i64 f.t.dport, .int .i64 f.fb, .int .i64 f.fg, .int .i64 f.fs]]) w3 := hen3
      have HF := Lib.hid hf
      have HP3 := Lib.hid hp3
      have HRG3 := Lib.hid hrg3
      have HLT3 := Lib.hid hlt3
      have HT3 := Lib.hid t3
      clear hf hp3 hrg3 hlt3 t3 hen3
      go_upto_region 7 with (fail)
      obtain ⟨w4, hw4⟩ : ∃ W, w3.alloc (.cells (fca f) 35) = W := ⟨_, rfl⟩
      have t4 : Touch w3 w4 (fun _ => False) := hw4 ▸ (Touch.refl w3 _).alloc _
      have g4 : w4.heap[w3.heap.size]? = some (.cells (fca f) 35 (0, 0)) := hw4 ▸ heap_alloc_new ..
      have s4 : w4.heap.size = w3.heap.size + 1 := by rw [← hw4]; simp
      have HW4 := Lib.hid hw4
      have HT4 := Lib.hid (HT3.out.trans t4 (fun _ _ h => h.elim))
      obtain ⟨B, hB⟩ : ∃ B, w3.heap.size = B := ⟨_, rfl⟩
      rw [hB] at g4 s4
      have HB3 := Lib.hid hB
      have HG4 := Lib.hid g4
      have HTW4 := Lib.hid (HT.out.trans HT4.out (fun k hk e => by have := HBX.out; omega))
      have hcl := HCLO.out w4 f HTW4.out
      have HS4 := Lib.hid s4
      have HRL := Lib.hid (HRG.out.lt)
      obtain ⟨x0, x1, x2, x3, x4, x5, x6, x7⟩ := fcells_of g4
      obtain ⟨b, hb⟩ : ∃ b, isOf n f = b := ⟨_, rfl⟩
      rw [hb] at hcl
      have HCL := Lib.hid hcl
      have HIS := Lib.hid hb
      clear hen hw4 t4 g4 s4 hcl hb hB
      simp only [fca] at HW4 HCL
      rw [HW4.out, HB3.out]
      have HA4 : RowKit.Hid (Touch w3 w4 (fun _ => False)) := Lib.hid (by rw [← HW4.out]; exact (Touch.refl _ _).alloc _)
      have HRG4 := Lib.hid (HRG3.out.still HA4.out)
      have HB4 : RowKit.Hid (w4.heap[bx]? = some (.cells #[.slice a K.length c] 28 (0, 0))) := Lib.hid (HT4.out.keeps HB.out (fun e => by have e : bx = bx + 1 := e; omega))
      have HO4 := Lib.hid (HO.out.touch HT4.out (fun y hy e => by have := (HO.out.own.lt y hy).1; have e : y = bx + 1 := e; omega))
      cases b with
      | false =>
        have hpn : K.Perm ((seenF M left').filter (isOf n)) := HP.out.trans (by
          have h1 := HP3.out.filter (isOf n)
          rw [List.filter_cons, if_neg (by rw [HIS.out]; decide)] at h1
          exact h1.symm)
        have HPN := Lib.hid hpn
        clear hpn
        go_wp2_with (go_at_call 38; (with_reducible refine HCL.out.mono ?_); rintro e w5 ⟨rfl, t5⟩; have HT5 := Lib.hid t5; clear t5)
        go_roundw
        · exact ⟨left', cnt3, K, a, c, HRG4.out.still HT5.out, HPN.out, HT5.out.keeps HB4.out (fun h => h), HO4.out.still HT5.out, HTW4.out.trans HT5.out (fun _ _ h => h), HK.out⟩
        · have e1 := HRG.out.left_eq
          have e2 := (HRG4.out.still HT5.out).left_eq
          have e3 := HLT3.out
          omega
      | true =>
        have hpn : (K ++ [f]).Perm ((seenF M left').filter (isOf n)) := by
          have h1 := HP3.out.filter (isOf n)
          rw [List.filter_cons, if_pos HIS.out] at h1
          exact (List.perm_append_comm.trans (HP.out.cons f)).trans h1.symm
        have hkl : (K ++ [f]).length ≤ 256 := by
          have h1 := hpn.length_eq
          have h2 := (List.filter_sublist (l := seenF M left') (p := isOf n)).length_le
          have h3 := (List.filter_sublist (l := M) (p := fun f => !left' (klT f.t))).length_le
          have h4 := HD.out.len
          unfold seenF at h1 h2
          omega
        have HPN := Lib.hid hpn
        have HKL := Lib.hid hkl
        have HI8 := Lib.hid infoFlow
        clear hpn hkl
        go_upto_region 8 with (go_at_call 38; (with_reducible refine HCL.out.mono ?_); rintro e w5 ⟨rfl, t5⟩; have HT5 := Lib.hid t5; clear t5)
        have HO5 := Lib.hid (HO4.out.still HT5.out)
        have HRG5 := Lib.hid (HRG4.out.still HT5.out)
        have HB5 : RowKit.Hid (w5.heap[bx]? = some (.cells #[.slice a K.length c] 28 (0, 0))) := Lib.hid (HT5.out.keeps HB4.out (fun h => h))
        have HF5 : RowKit.Hid (w5.heap[B]? = some (.cells (fca f) 35 (0, 0))) := Lib.hid (HT5.out.keeps HG4.out (fun h => h))
        have HOWN : RowKit.Hid (∀ k, (Value.slice a K.length c).ownBlock = some k → bx + 2 ≤ k ∧ k < B) := Lib.hid (fun k hk => ⟨(HO.out.own.lt k hk).1, by have h1 := (HO.out.own.lt k hk).2; have h2 := HT3.out.size; have h3 := HB3.out; omega⟩)
        have HBB : RowKit.Hid (bx + 2 ≤ B) := Lib.hid (by have := HRG3.out.lt; have := HB3.out; omega)
        have HN := Lib.hid ((Touch.refl w5 (fun _ => False)).drew)
        have HL5 := Lib.hid (heap_lt HF5.out)
        clear x0 x1 x2 x3 x4 x5 x6 x7 HSORT HCLO HCL HMAP
        obtain ⟨z0, z1, z2, z3, z4, z5, z6, z7⟩ := fcells_of HF5.out
        have zb := cell_of_cells HB5.out 0
        have HOA := Lib.hid (HO5.out.still ((Touch.refl w5 (fun _ => False)).alloc (.cells #[.int .u32 f.t.src, .int .u32 f.t.dst, .int .i64 f.t.proto, .int .i64 f.t.sport, .int .i64 f.t.dport, .int .i64 f.fb, .int .i64 f.fg, .int .i64 f.fs] 35)))
        have hbase : bx + 2 ≤ w5.heap.size := by have := HL5.out; have := HBB.out; omega
        go_wp2_with (at_builtin; (refine wp_add1 (w := w5) HOA.out rfl rfl rfl (fun u hu => one_fcl f (fcl f) List.mem_cons_self u hu) (by have := HK.out; omega) 28 Tryz.underlying28 _ 56 infoFlowB rfl (by decide) (by decide) hbase rfl _ _ rfl rfl rfl ?_); intro a9 c9 w9 ho9 t9 p9; have HO9 := Lib.hid ho9; have HT9 := Lib.hid t9; clear ho9 t9 p9 z0 z1 z2 z3 z4 z5 z6 z7 zb; have HB9 := Lib.hid (HT9.out.keeps HB5.out (fun e => by have := (HOWN.out _ e).1; omega)); have cc := cell_of_cells HB9.out 0; have ff := free_of_cells HB9.out 0)
        go_roundw
        · have ts : Touch w9 (w9.setCell ⟨bx, 0, none⟩ (.slice a9 (K.length + 1) c9)) (fun k => k = bx) := (Touch.refl w9 (fun k => k = bx)).setCell _ _ (fun _ => rfl)
          have tz := (HT9.out.mono (T := fun k => (Value.slice a K.length c).ownBlock = some k ∨ k = bx) (fun _ _ h => .inl h)).trans ts (fun _ _ h => .inr h)
          have hrz := HRG5.out.touch tz (fun e => e.elim (fun e => by have h1 := (HOWN.out _ e).1; have h2 := HD.out.map.lt; have h3 := HBX.out; omega) (fun e => by have h2 := HD.out.map.lt; have h3 := HBX.out; omega)) (fun e => e.elim (fun e => by have h1 := (HOWN.out _ e).1; omega) (fun e => by omega))
          refine ⟨left', cnt3, K ++ [f], a9, c9, hrz, HPN.out, ?_, ?_, ?_, HKL.out⟩
          · rw [List.length_append]
            exact heap_setCell_same w9 bx 0 _ _ _ HB9.out
          · rw [List.length_append, List.map_append]
            exact HO9.out.touch ts (fun y hy e => by have := (HO9.out.own.lt y hy).1; have e : y = bx := e; omega)
          · exact (HTW4.out.trans HT5.out (fun _ _ h => h)).trans tz (fun k hk e => e.elim (fun e => by have := (HOWN.out _ e).1; have := HBX.out; omega) (fun e => by have := HBX.out; omega))
        · have ts : Touch w9 (w9.setCell ⟨bx, 0, none⟩ (.slice a9 (K.length + 1) c9)) (fun k => k = bx) := (Touch.refl w9 (fun k => k = bx)).setCell _ _ (fun _ => rfl)
          have tz := (HT9.out.mono (T := fun k => (Value.slice a K.length c).ownBlock = some k ∨ k = bx) (fun _ _ h => .inl h)).trans ts (fun _ _ h => .inr h)
          have hrz := HRG5.out.touch tz (fun e => e.elim (fun e => by have h1 := (HOWN.out _ e).1; have h2 := HD.out.map.lt; have h3 := HBX.out; omega) (fun e => by have h2 := HD.out.map.lt; have h3 := HBX.out; omega)) (fun e => e.elim (fun e => by have h1 := (HOWN.out _ e).1; omega) (fun e => by omega))
          have e1 := HRG.out.left_eq
          have e2 := hrz.left_eq
          have e3 := HLT3.out
          rw [e1, e2]
          exact e3
end Go.Proofs.YtgmimdnebgncoaaGreat

end

section
/- Flows: a sort of none or one. -/
set_option linter.unusedVariables false
set_option linter.unusedSimpArgs false
namespace Go.Proofs.YtgmimdnebgncoaaGreat
open Go.RowKit

theorem touch_grow (w : World) (os : Array Obj) : Touch w (Go.Sort.grow w os) (fun _ => False) := by
  refine ⟨rfl, rfl, rfl, ?_, fun k hk _ => ?_⟩
  · simp [Go.Sort.grow]
  · simp only [Go.Sort.grow]
    rw [Array.getElem?_append_left hk]
set_option maxRecDepth 20000 in
theorem sort_tiny (a : Option Addr) (n c : Nat) (hn : n ≤ 1) (lf : Fn) (la lb : Array Value) (w : World) :
    Calls Tryz.prog 56 #[.iface 28 (.slice a n c), .func lf la lb] w fun e w' => e = .returned (.tuple #[]) ∧ ∃ os, w' = Go.Sort.grow w os := by
  obtain ⟨i, hi⟩ := Option.isSome_iff_exists.1 (show (Tryz.prog.info? 28).isSome = true by kernel_rfl)
  obtain ⟨ie, hie⟩ := Option.isSome_iff_exists.1 (show (Tryz.prog.info? 35).isSome = true by kernel_rfl)
  have hd : i.desc = .slice 35 := by
    have h1 : (Tryz.prog.info? 28).map (·.desc) = some (.slice 35) := by kernel_rfl
    rw [hi] at h1
    exact Option.some.inj h1
  have h01 : n = 0 ∨ n = 1 := by omega
  rcases h01 with rfl | rfl
  · have e1 : Lib.swapperK 0 ie 25 = 1 := rfl
    obtain ⟨f, hf⟩ := Option.isSome_iff_exists.1 (show (Tryz.prog.funcs.findIdx? (·.name == "internal/reflectlite" ++ ".Swapper$" ++ toString (1 : Nat))).isSome = true by kernel_rfl)
    exact Any.sort_Slice_tiny Tryz.laysGg6 28 35 i ie hi hd (by kernel_rfl) hie 25 (fun w => by kernel_rfl) a 0 c hn f (by rw [e1]; exact hf) lf la lb w
  · have e1 : Lib.swapperK 1 ie 25 = 2 := rfl
    obtain ⟨f, hf⟩ := Option.isSome_iff_exists.1 (show (Tryz.prog.funcs.findIdx? (·.name == "internal/reflectlite" ++ ".Swapper$" ++ toString (2 : Nat))).isSome = true by kernel_rfl)
    exact Any.sort_Slice_tiny Tryz.laysGg6 28 35 i ie hi hd (by kernel_rfl) hie 25 (fun w => by kernel_rfl) a 1 c hn f (by rw [e1]; exact hf) lf la lb w
theorem sorts_one (K : List FlD) (hk : K.length ≤ 1) : SortsF (fun L L' => L' = L) K := by
  intro W base bx a c L hp ho hb hh
  have hl : L.length ≤ 1 := by rw [hp.length_eq]; exact hk
  refine (sort_tiny a L.length c hl _ _ _ W).mono ?_
  rintro e w' ⟨rfl, os, rfl⟩
  exact ⟨rfl, L, .refl _, rfl, ho.still (touch_grow W os), (touch_grow W os).mono (fun _ _ h => h.elim)⟩
set_option maxRecDepth 20000 in
theorem fof_one (w : World) (g : Nat) (h : FH) (most idle : Int) (M : List FlD) (d : FS w g h most idle M) (n : Int) (h1 : (M.filter (isOf n)).length ≤ 1) :
    Calls Tryz.prog 20 #[.pointer (some ⟨g, 0, none⟩), .int .i64 n] w fun e w' => ∃ a c, e = .returned (.slice a (M.filter (isOf n)).length c) ∧ OwnS w' w.heap.size 35 8 (.slice a (M.filter (isOf n)).length c) ((M.filter (isOf n)).map fcl) ∧ Touch w w' (fun _ => False) := by
  obtain ⟨W1, hW1⟩ : ∃ W, w.alloc (.cells #[.int .i64 n] 3) = W := ⟨_, rfl⟩
  have t1 : Touch w W1 (fun _ => False) := hW1 ▸ (Touch.refl w _).alloc _
  have g1 : W1.heap[w.heap.size]? = some (.cells #[.int .i64 n] 3 (0, 0)) := hW1 ▸ heap_alloc_new ..
  have HT := Lib.hid (thoseof_any _ W1 g h most idle M (d.still t1) w.heap.size n (heap_lt g1) (cell_of_cells g1 0) (sorts_one _ h1))
  have HW1 := Lib.hid hW1
  have HT1 := Lib.hid t1
  clear hW1 t1 g1
  go_enter Tryz.func20, Tryz.ntmps20
  go_upto_region 1 with (fail)
  rw [HW1.out]
  go_wp2_with fail
  (with_reducible refine HT.out.mono ?_)
  rintro e w2 ⟨a, c, L, L', rfl, hp, hp2, rfl, ho, t2⟩
  have hL : L' = M.filter (isOf n) := by
    have hl := hp.length_eq
    cases hf : M.filter (isOf n) with
    | nil => rw [hf] at hp; exact hp.eq_nil
    | cons x r =>
      rw [hf] at h1 hp
      have : r = [] := by simpa using h1
      subst this
      exact List.perm_singleton.1 hp
  subst hL
  have HO := Lib.hid ho
  have HT2 := Lib.hid t2
  clear ho t2 hp hp2
  go_wp2_with fail
  go_ret
  exact ⟨a, c, rfl, HO.out.rebase (fun x hx => Nat.le_trans HT1.out.size (HO.out.own.lt x hx).1), HT1.out.trans HT2.out (fun _ _ h => h)⟩
end Go.Proofs.YtgmimdnebgncoaaGreat

end
