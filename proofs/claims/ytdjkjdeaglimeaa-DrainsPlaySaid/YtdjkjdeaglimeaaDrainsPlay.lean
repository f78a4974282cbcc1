/- DrainsPlay answers true for any calls. -/
import Derived.Test.YtdjkjdeaglimeaaDrRDue
import Derived.Test.YtdjkjdeaglimeaaDrSame
import Derived.Test.YtdjkjdeaglimeaaDueArgs
import Derived.Test.YtdjkjdeaglimeaaFrDrainsPlay
import Derived.Deep.DeepCutAuto
import Derived.Deep.CutBlock
set_option linter.unusedVariables false
set_option linter.unusedSimpArgs false
namespace Go.Proofs.Ytdjkjdeaglimeaa
open Go.ChangeShapes Go.WideShapes Go.ChangeAt Go.RowKit

/-- A call to a set. -/
structure CallB where
  do_ : Int
  b : Int
  at_ : Int
def CallB.cells (c : CallB) : List Value := [.int .i64 c.do_, .int .i64 c.b, .int .i64 c.at_]
def CallBOk (c : CallB) : Prop := i64D c.do_ ∧ i64D c.b ∧ i64D c.at_
section
variable {H : Type} {enc : TypeId × Value → H} {P : Program} {W : World} {base : Nat} {T : TypeId} {v : Value} {cs : List Value} {d : DataW H} {p : List MemPlace}
theorem Tr.callB (h : Tr enc Try.prog W 65 cs d) : ∃ c : CallB, cs = c.cells ∧ CallBOk c := by
  obtain ⟨ds, hd, hl, hc, hf⟩ := h.struct Try.underlying65
  have hc3 : Try.prog.cellsOf 65 = 3 := by kernel_rfl
  have ci : Try.prog.cellsOf 3 = 1 := by kernel_rfl
  have ci2 : Try.prog.cellsOf 2 = 1 := by kernel_rfl
  rw [hc3] at hc
  obtain ⟨u0, u1, u2, rfl⟩ := three' hc
  obtain ⟨d0, d1, d2, rfl⟩ := three' (l := ds) (by simpa using hl)
  have e0 : Tr enc Try.prog W 3 ((([u0, u1, u2] : List Value).drop 0).take (Try.prog.cellsOf 3)) d0 := hf 0 _ d0 rfl rfl
  have e1 : Tr enc Try.prog W 3 ((([u0, u1, u2] : List Value).drop 1).take (Try.prog.cellsOf 3)) d1 := hf 1 _ d1 rfl rfl
  have e2 : Tr enc Try.prog W 2 ((([u0, u1, u2] : List Value).drop 2).take (Try.prog.cellsOf 2)) d2 := hf 2 _ d2 rfl rfl
  rw [ci] at e0 e1
  rw [ci2] at e2
  obtain ⟨x0, g0, a0, b0, _⟩ := e0.i64 Try.underlying3
  obtain ⟨x1, g1, a1, b1, _⟩ := e1.i64 Try.underlying3
  obtain ⟨x2, g2, a2, b2, _⟩ := e2.i64 Try.underlying2
  simp at g0 g1 g2
  subst g0 g1 g2
  exact ⟨⟨x0, x1, x2⟩, rfl, ⟨a0, b0⟩, ⟨a1, b1⟩, a2, b2⟩
set_option maxRecDepth 20000 in
theorem ArgIn.callsB (h : ArgIn enc Try.prog W base 57 v d p) : ∃ (a : Option Addr) (cap : Nat) (l : List CallB), v = .slice a l.length cap ∧ RowS W a l.length cap 3 (l.map CallB.cells) ∧ (∀ c ∈ l, CallBOk c) := by
  obtain ⟨a0, len0, cap0, rfl⟩ := okWide_slice Try.underlying57 h.ok
  obtain ⟨a, cap, bs, hcs, hr, hok, _⟩ := h.tr.rowsOf CallB.cells CallBOk 3 Try.underlying57 (by kernel_rfl) (fun _ => rfl) (by decide) (fun cs d h => h.callB)
  simp [Value.cells] at hcs
  obtain ⟨rfl, rfl, rfl⟩ := hcs
  exact ⟨_, _, bs, rfl, hr, hok⟩
end
def gcb (l : List CallB) (i : Nat) : CallB := l.getD i ⟨0, 0, 0⟩
theorem gcb_get (l : List CallB) (i : Nat) (h : i < l.length) : gcb l i = l[i] := by unfold gcb; rw [List.getD_eq_getElem?_getD, List.getElem?_eq_getElem h]; rfl
theorem gcb_mem (l : List CallB) (i : Nat) (h : i < l.length) : gcb l i ∈ l := by rw [gcb_get l i h]; exact List.getElem_mem h
theorem callb_cells {w : World} {b off n c : Nat} {l : List CallB} (r : RowS w (some ⟨b, off, none⟩) n c 3 (l.map CallB.cells)) (k : Nat) (hk : k < l.length) :
    w.cell? ⟨b, off + k * 3, none⟩ = some (.int .i64 (gcb l k).do_) ∧ w.cell? ⟨b, off + k * 3 + 1, none⟩ = some (.int .i64 (gcb l k).b) ∧ w.cell? ⟨b, off + k * 3 + 2, none⟩ = some (.int .i64 (gcb l k).at_) := by
  have hk' : k < (l.map CallB.cells).length := by simpa using hk
  have e : (l.map CallB.cells)[k] = (gcb l k).cells := by rw [List.getElem_map, gcb_get l k hk]
  exact ⟨r.cell k hk' 0 _ (by rw [e]; rfl), r.cell k hk' 1 _ (by rw [e]; rfl), r.cell k hk' 2 _ (by rw [e]; rfl)⟩
/-! ### order -/
theorem blB_two (i j : Nat) (hi : i < 65536) (hj : j < 65536) : blB (nK i).toList (nK j).toList = true → i < j := by
  rw [Lib.toList_data, Lib.toList_data]
  show blB [UInt8.ofNat (i / 256), UInt8.ofNat (i % 256)] [UInt8.ofNat (j / 256), UInt8.ofNat (j % 256)] = true → i < j
  have e : ∀ x : Nat, x < 256 → (UInt8.ofNat x).toNat = x := fun x hx => by rw [UInt8.toNat_ofNat']; omega
  intro h
  simp only [blB, Op.bytesLess, Bool.or_eq_true, Bool.and_eq_true, decide_eq_true_eq, beq_iff_eq, Bool.and_false, Bool.or_false, UInt8.lt_iff_toNat_lt, ← UInt8.toNat_inj] at h
  rw [e _ (by omega), e _ (by omega), e _ (by omega), e _ (by omega)] at h
  rcases h with h | ⟨h1, h2⟩
  · omega
  · omega
theorem sortU_of {M : List DR} (ok : ∀ d ∈ M, inN d.b) (hs : SortQ (M.map qd)) : SortU M := by
  have h1 := List.pairwise_map.1 hs
  refine h1.imp_of_mem fun {x y} hx hy h => ?_
  rcases (ltQ_iff _ _).1 h with h | ⟨h, h2⟩
  · exact .inl h
  · have ox := ok x hx
    have oy := ok y hy
    have := blB_two x.b.toNat y.b.toNat (by have := ox.2; omega) (by have := oy.2; omega) h2
    exact .inr ⟨h, by have := ox.1; have := oy.1; omega⟩
theorem setDE_perm {M G : List DR} (h : M.Perm G) (b u : Int) : setDE M b u = setDE G b u := by unfold setDE; rw [hasD_perm h, h.length_eq]
theorem insD_perm (r : DR) : ∀ l, (insD r l).Perm (r :: l)
  | [] => .refl _
  | x :: l => by
    unfold insD
    split
    · exact ((insD_perm r l).cons x).trans (.swap r x l)
    · exact .refl _
theorem insD_sort (r : DR) : ∀ l, SortD l → r.b ∉ l.map DR.b → SortD (insD r l)
  | [], _, _ => by simp [insD, SortD]
  | x :: l, h, hn => by
    obtain ⟨h1, h2⟩ := List.pairwise_cons.1 h
    have hn2 : r.b ∉ l.map DR.b := fun h => hn (by simp only [List.map_cons, List.mem_cons]; exact .inr h)
    have hxr : r.b ≠ x.b := fun h => hn (by simp [h])
    unfold insD
    split
    · rename_i hlt
      have hlt := of_decide_eq_true hlt
      refine List.pairwise_cons.2 ⟨fun y hy => ?_, insD_sort r l h2 hn2⟩
      rcases List.mem_cons.1 ((insD_perm r l).mem_iff.1 hy) with rfl | hy
      · exact hlt
      · exact h1 y hy
    · rename_i hlt
      have hrx : r.b < x.b := by
        have : ¬ x.b < r.b := fun h => hlt (decide_eq_true h)
        omega
      exact List.pairwise_cons.2 ⟨fun y hy => by
        rcases List.mem_cons.1 hy with rfl | hy
        · exact hrx
        · have := h1 y hy; omega, h⟩
theorem putG_ok {M G : List DR} (h : M.Perm G) (hs : SortD G) (b u : Int) : (putD M b u).Perm (putG G b u) ∧ SortD (putG G b u) := by
  unfold putD putG
  rw [setDE_perm h]
  split
  · refine ⟨((h.filter _).cons _).trans (insD_perm _ _).symm, insD_sort _ _ (hs.filter _) (delD_not G b)⟩
  · exact ⟨h, hs⟩
theorem sortD_nd {G : List DR} (hs : SortD G) : (G.map DR.b).Nodup := by
  have h1 : (G.map DR.b).Pairwise (· < ·) := List.pairwise_map.2 hs
  exact h1.imp (fun {a b} h e => by omega)
/-- A set and the reference's, since w. -/
structure DM (w w' : World) (s : Nat) (h : DH) (M : List DR) (b : Nat) (a : Option Addr) (c : Nat) (G : List DR) : Prop where
  q : DN w w' s h M
  m : RD w' b a c G
  nb : ¬ footD s h b
  nr : ∀ y, a = some y → ¬ footD s h y.block ∧ y.block < w'.heap.size
  lb : w.heap.size ≤ b
section
variable {w w1 w2 : World} {s b c : Nat} {h : DH} {M M' G L' A R : List DR} {a : Option Addr} {v : Value}
theorem DM.still (x : DM w w1 s h M b a c G) (t : Touch w1 w2 (fun _ => False)) : DM w w2 s h M b a c G := ⟨x.q.still t, x.m.still t, x.nb, fun y hy => ⟨(x.nr y hy).1, Nat.lt_of_lt_of_le (x.nr y hy).2 t.size⟩, x.lb⟩
theorem DM.stepQ (x : DM w w1 s h M b a c G) (st : DStep w1 w2 s h M') : ∃ h' M1, M1.Perm M' ∧ DM w w2 s h' M1 b a c G ∧ Touch w1 w2 (footD s h) := by
  obtain ⟨h', M1, p, n, f, t⟩ := x.q.step st
  have hb := heap_lt x.m.head
  refine ⟨h', M1, p, ⟨n, x.m.touch t x.nb (fun y hy => (x.nr y hy).1), fun hf => ?_, fun y hy => ⟨fun hf => ?_, Nat.lt_of_lt_of_le (x.nr y hy).2 t.size⟩, x.lb⟩, t⟩
  · rcases f _ hf with h1 | h1
    · exact x.nb h1
    · omega
  · rcases f _ hf with h1 | h1
    · exact (x.nr y hy).1 h1
    · have := (x.nr y hy).2; omega
theorem DM.stepM (x : DM w w1 s h M b a c G) (st : RDStep w1 w2 b a L') : ∃ a' c', DM w w2 s h M b a' c' L' ∧ Touch w1 w2 (fun k => k = b) := by
  obtain ⟨a', c', m, t, p⟩ := st
  refine ⟨a', c', ⟨x.q.touch t (fun k hk e => x.nb (e ▸ hk)) (fun k hk e => by have := x.lb; omega), m, x.nb, fun y hy => ?_, x.lb⟩, t⟩
  rcases p y hy with ⟨h1, h2⟩ | ⟨z, hz, e⟩
  · exact ⟨fun hf => by have := x.q.q.footlt _ hf; omega, h2⟩
  · rw [e]; exact ⟨(x.nr z hz).1, Nat.lt_of_lt_of_le (x.nr z hz).2 t.size⟩
theorem DM.dueQ (x : DM w w1 s h M b a c G) (st : DDue w1 w2 s h A R v) :
    ∃ a1 c1 h', v = .slice a1 A.length c1 ∧ OwnS w2 w1.heap.size 3 1 (.slice a1 A.length c1) (icells A) ∧ DM w w2 s h' R b a c G ∧ Touch w1 w2 (footD s h) := by
  obtain ⟨a1, c1, h', rfl, ho, d, n, f, t⟩ := x.q.due st
  have hb := heap_lt x.m.head
  refine ⟨a1, c1, h', rfl, ho, ⟨n, x.m.touch t x.nb (fun y hy => (x.nr y hy).1), fun hf => ?_, fun y hy => ⟨fun hf => ?_, Nat.lt_of_lt_of_le (x.nr y hy).2 t.size⟩, x.lb⟩, t⟩
  · rcases f _ hf with h1 | h1
    · exact x.nb h1
    · omega
  · rcases f _ hf with h1 | h1
    · exact (x.nr y hy).1 h1
    · have := (x.nr y hy).2; omega
theorem DM.dueM (x : DM w w1 s h M b a c G) (st : RDDue w1 w2 b a A R v) :
    ∃ a1 c1 a' c', v = .slice a1 A.length c1 ∧ OwnS w2 w1.heap.size 3 1 (.slice a1 A.length c1) (icells A) ∧ DM w w2 s h M b a' c' R ∧ Touch w1 w2 (fun k => k = b) := by
  obtain ⟨a1, c1, a', c', rfl, ho, m, t, p⟩ := st
  obtain ⟨a2, c2, n, _⟩ := x.stepM ⟨a', c', m, t, p⟩
  refine ⟨a1, c1, a', c', rfl, ho, ⟨x.q.touch t (fun k hk e => x.nb (e ▸ hk)) (fun k hk e => by have := x.lb; omega), m, x.nb, fun y hy => ?_, x.lb⟩, t⟩
  rcases p y hy with ⟨h1, h2⟩ | ⟨z, hz, e⟩
  · exact ⟨fun hf => by have := x.q.q.footlt _ hf; omega, h2⟩
  · rw [e]; exact ⟨(x.nr z hz).1, Nat.lt_of_lt_of_le (x.nr z hz).2 t.size⟩
end
theorem DM.new {w w1 w2 : World} {s : Nat} {h : DH} {M : List DR} {a c} (n : DN w w1 s h M) (hh : w2.heap[w1.heap.size]? = some (.cells #[.slice none 0 0] 63 (0, 0))) (t : Touch w1 w2 (fun _ => False)) (ha : a = none) (hc : c = 0) : DM w w2 s h M w1.heap.size a c [] := by
  subst ha hc
  exact ⟨n.still t, ⟨hh, RowS.nil _ _ _ _ (by omega), fun x hx => (by cases hx), .inl rfl, fun x hx => (by cases hx)⟩, fun hf => (by have := n.q.footlt _ hf; omega), fun y hy => (by cases hy), n.t.size⟩
theorem enter_dput (a b c : Value) (w : World) : (callFunc 27 #[a, b, c]).run Try.prog w = .ok (.enter 27 #[a, b, c]) w := by kernel_rfl
theorem enter_dclear (a b : Value) (w : World) : (callFunc 29 #[a, b]).run Try.prog w = .ok (.enter 29 #[a, b]) w := by kernel_rfl
theorem enter_ddue (a b : Value) (w : World) : (callFunc 31 #[a, b]).run Try.prog w = .ok (.enter 31 #[a, b]) w := by kernel_rfl
theorem enter_dis (a b : Value) (w : World) : (callFunc 35 #[a, b]).run Try.prog w = .ok (.enter 35 #[a, b]) w := by kernel_rfl
theorem enter_dall (a : Value) (w : World) : (callFunc 37 #[a]).run Try.prog w = .ok (.enter 37 #[a]) w := by kernel_rfl
theorem enter_dlen (a : Value) (w : World) : (callFunc 38 #[a]).run Try.prog w = .ok (.enter 38 #[a]) w := by kernel_rfl
theorem enter_rdput (a b c : Value) (w : World) : (callFunc 28 #[a, b, c]).run Try.prog w = .ok (.enter 28 #[a, b, c]) w := by kernel_rfl
theorem enter_rdclear (a b : Value) (w : World) : (callFunc 30 #[a, b]).run Try.prog w = .ok (.enter 30 #[a, b]) w := by kernel_rfl
theorem enter_rddue (a b : Value) (w : World) : (callFunc 32 #[a, b]).run Try.prog w = .ok (.enter 32 #[a, b]) w := by kernel_rfl
theorem enter_sameD (a b : Value) (w : World) : (callFunc 36 #[a, b]).run Try.prog w = .ok (.enter 36 #[a, b]) w := by kernel_rfl
theorem eqED_run (n : Int) (x y : Operand) (W : World) :
    (do eqGuard BinOp.eql 31 x y (.int .i64 n) (.int .i64 n); binOp BinOp.eql 31 (.int .i64 n) (.int .i64 n) : Sem Value).run Try.prog W = .ok (.bool true) W := by
  go_simp
theorem eqBD_run (n : Bool) (x y : Operand) (W : World) :
    (do eqGuard BinOp.eql 4 x y (.bool n) (.bool n); binOp BinOp.eql 4 (.bool n) (.bool n) : Sem Value).run Try.prog W = .ok (.bool true) W := by
  go_simp
theorem neqBD_run (n : Bool) (x y : Operand) (W : World) :
    (do eqGuard BinOp.neq 4 x y (.bool n) (.bool n); binOp BinOp.neq 4 (.bool n) (.bool n) : Sem Value).run Try.prog W = .ok (.bool false) W := by
  go_simp
set_option maxRecDepth 20000 in
set_option maxHeartbeats 16000000 in
theorem dplay_in (w : World) (a0 : Option Addr) (cap : Nat) (l : List CallB) (hr : RowS w a0 l.length cap 3 (l.map CallB.cells)) (hok : ∀ c ∈ l, CallBOk c) :
    Calls Try.prog 9 #[.slice a0 l.length cap] w fun e w' => e = .returned (.bool true) ∧ Below w.heap.size w w' := by
  obtain ⟨n, hn⟩ : ∃ n, l.length = n := ⟨_, rfl⟩
  rw [hn] at hr ⊢
  have hcap := hr.hcap
  have hmax := hr.hmax
  have HR := Lib.hid hr
  have HOK := Lib.hid hok
  clear hr hok
  go_enter Try.func9, Try.ntmps9
  go_wp2_with fail
  refine (dnew_any w).mono ?_
  rintro e w0 ⟨s, h0, rfl, q0, t0, f0⟩
  have N0 := Lib.hid (DN.mk q0 t0 f0)
  clear q0 t0 f0
  obtain ⟨W1, hW1⟩ : ∃ W, w0.alloc (.cells #[.slice none 0 0] 63) = W := ⟨_, rfl⟩
  have t1 : Touch w0 W1 (fun _ => False) := hW1 ▸ (Touch.refl w0 _).alloc _
  have g1 : W1.heap[w0.heap.size]? = some (.cells #[.slice none 0 0] 63 (0, 0)) := hW1 ▸ heap_alloc_new ..
  have M1 := Lib.hid (DM.new N0.out g1 t1 rfl rfl)
  clear t1 g1 N0
  go_upto_region 2 with (fail)
  clear hW1
  generalize w0.heap.size = b at *
  go_wp2_with fail
  go_loopw [5] (fun s5 wr => ∃ (k : Nat) (M G : List DR) (h : DH) (a : Option Addr) (c : Nat), k ≤ n ∧ s5 = .int .i64 k ∧ DM w wr s h M b a c G ∧ M.Perm G ∧ SortD G) (fun s5 _ => n - (RowKit.intOf s5).toNat)
  case atStart => exact ⟨0, [], [], _, _, _, Nat.zero_le _, rfl, M1.out, .refl _, List.Pairwise.nil⟩
  case round =>
    obtain ⟨k, M, G, h, a, c, hkn, rfl, hqm, hpm, hsg⟩ := hrel
    have HM := Lib.hid hqm
    have HPM := Lib.hid hpm
    have HSG := Lib.hid hsg
    clear hqm M1 hpm hsg
    by_cases hgo : k < n ∧ k < 150
    case neg =>
      have HT := Lib.hid HM.out.q.t
      have hkI : ¬ ((k : Int) < n ∧ (k : Int) < 150) := by omega
      by_cases hkn2 : k < n
      · have h1 : (k : Int) < n := by omega
        have h2 : ¬ (k : Int) < 150 := by omega
        clear hkI hgo
        go_wp2_with fail
        refine (awake12 _).mono ?_
        rintro e x8 ⟨rfl, t8⟩
        have HT8 := Lib.hid (HT.out.trans t8 (fun _ _ h => h))
        clear t8
        go_wp2_with fail
        go_ret
        exact ⟨rfl, HT8.out.below (fun _ _ h => h.elim) (Nat.le_refl _)⟩
      · have h1 : ¬ (k : Int) < n := by omega
        clear hkI hgo
        go_wp2_with fail
        refine (awake12 _).mono ?_
        rintro e x8 ⟨rfl, t8⟩
        have HT8 := Lib.hid (HT.out.trans t8 (fun _ _ h => h))
        clear t8
        go_wp2_with fail
        go_ret
        exact ⟨rfl, HT8.out.below (fun _ _ h => h.elim) (Nat.le_refl _)⟩
    case pos =>
      have hI1 : (k : Int) < n := by omega
      have hI2 : (k : Int) < 150 := by omega
      have HRX := Lib.hid (HR.out.still HM.out.q.t)
      obtain ⟨g, off, rfl⟩ := HRX.out.some (by omega)
      obtain ⟨d0, d1, d2⟩ := callb_cells HRX.out k (by omega)
      obtain ⟨ok0, ok1, ok2⟩ := HOK.out _ (gcb_mem l k (by omega))
      generalize gcb l k = cc at *
      obtain ⟨W2, hW2⟩ : ∃ W, wr.alloc (.cells #[.int .i64 cc.do_, .int .i64 cc.b, .int .i64 cc.at_] 65) = W := ⟨_, rfl⟩
      have t2 : Touch wr W2 (fun _ => False) := hW2 ▸ (Touch.refl wr _).alloc _
      have g2 : W2.heap[wr.heap.size]? = some (.cells #[.int .i64 cc.do_, .int .i64 cc.b, .int .i64 cc.at_] 65 (0, 0)) := hW2 ▸ heap_alloc_new ..
      have HMD := Lib.hid (HM.out.still (t2.trans ((Touch.refl W2 (fun _ => False)).drew) (fun _ _ h => h)))
      have HGL := Lib.hid (show G.length ≤ 1024 from by rw [← HPM.out.length_eq]; exact HM.out.q.q.len)
      have c0 : W2.cell? ⟨wr.heap.size, 0, none⟩ = some (.int .i64 cc.do_) := cell_of_cells g2 0
      obtain ⟨blk, hblk⟩ : ∃ blk, wr.heap.size = blk := ⟨_, rfl⟩
      have hnbk : ¬ (footD s h blk ∨ blk = b) := fun hf => by
        rcases hf with hf | hf
        · have := HM.out.q.q.footlt _ hf; omega
        · have := heap_lt HM.out.m.head; omega
      rw [hblk] at g2 c0
      have HBK := Lib.hid hblk
      have HG2 := Lib.hid g2
      have HCC : RowKit.Hid (∀ W, Touch W2 W (fun k => footD s h k ∨ k = b) → W.cell? ⟨blk, 1, none⟩ = some (.int .i64 cc.b) ∧ W.cell? ⟨blk, 2, none⟩ = some (.int .i64 cc.at_)) := Lib.hid (fun W t => by
        have h := t.keeps HG2.out hnbk
        exact ⟨cell_of_cells h 1, cell_of_cells h 2⟩)
      have HW2 := Lib.hid hW2
      have HOK1 := Lib.hid ok1
      clear t2 g2 hW2 hblk ok0 ok1 ok2
      go_upto_region 8 with (fail)
      rw [HW2.out, HBK.out]
      clear d0 d1 d2
      go_upto_block 2 with (fail)
      go_cut [7, 35] (fun s7 s35 wx => s7 = .bool true ∧ ∃ (M' G' : List DR) (h' : DH) (a' : Option Addr) (c' : Nat), DM w wx s h' M' b a' c' G' ∧ M'.Perm G' ∧ SortD G' ∧ wx.heap[blk]? = some (.cells #[.int .i64 cc.do_, .int .i64 cc.b, .int .i64 cc.at_] 65 (0, 0)))
      case first =>
        by_cases hd0 : cc.do_ = 0
        · have HPUT := Lib.hid (dput_any W2.drew s h M HMD.out.q.q cc.b cc.at_)
          rw [setDE_perm HPM.out] at HPUT
          have HOKP := Lib.hid (putG_ok HPM.out HSG.out cc.b cc.at_)
          go_upto_region 17 with (fail)
          have hS := (Touch.refl W2 (fun k => footD s h k ∨ k = b)).drew
          refine wp_region_sched (fun w' => Touch W2 w' (fun k => footD s h k ∨ k = b)) [(0, true), (1, true), (2, true), (3, true), (4, true), (6, true), (7, true), (8, true), (9, true), (10, true), (5, false), (11, false), (12, true), (13, true)] (by kernel_rfl) (by kernel_rfl) rfl (by kernel_rfl) hS ?_
          (refine walkS_take (v := ?_) (some 69) rfl rfl (fun _ _ _ h => h) (by rfl) ?_ ?_; rotate_left; (focus (intro w' hw'; have y0 := HCC.out w' hw'; have y1 := y0.1; have y2 := y0.2; go_simp; (try with_reducible rfl))); (try simp only [Act.put, List.setIfInBounds_toArray, List.set_cons_zero, List.set_cons_succ]))
          (refine walkS_take (v := ?_) (some 70) rfl rfl (fun _ _ _ h => h) (by rfl) ?_ ?_; rotate_left; (focus (intro w' hw'; have y0 := HCC.out w' hw'; have y1 := y0.1; have y2 := y0.2; go_simp; (try with_reducible rfl))); (try simp only [Act.put, List.setIfInBounds_toArray, List.set_cons_zero, List.set_cons_succ]))
          (refine walkS_take (v := ?_) (some 71) rfl rfl (fun _ _ _ h => h) (by rfl) ?_ ?_; rotate_left; (focus (intro w' hw'; have y0 := HCC.out w' hw'; have y1 := y0.1; have y2 := y0.2; go_simp; (try with_reducible rfl))); (try simp only [Act.put, List.setIfInBounds_toArray, List.set_cons_zero, List.set_cons_succ]))
          (refine walkS_take (v := ?_) (some 72) rfl rfl (fun _ _ _ h => h) (by rfl) ?_ ?_; rotate_left; (focus (intro w' hw'; have y0 := HCC.out w' hw'; have y1 := y0.1; have y2 := y0.2; go_simp; (try with_reducible rfl))); (try simp only [Act.put, List.setIfInBounds_toArray, List.set_cons_zero, List.set_cons_succ]))
          (refine walkS_take (v := ?_) (some 73) rfl rfl (fun _ _ _ h => h) (by rfl) ?_ ?_; rotate_left; (focus (intro w' hw'; have y0 := HCC.out w' hw'; have y1 := y0.1; have y2 := y0.2; go_simp; (try with_reducible rfl))); (try simp only [Act.put, List.setIfInBounds_toArray, List.set_cons_zero, List.set_cons_succ]))
          (refine walkS_take (v := ?_) (some 75) rfl rfl (fun _ _ _ h => h) (by rfl) ?_ ?_; rotate_left; (focus (intro w' hw'; have y0 := HCC.out w' hw'; have y1 := y0.1; have y2 := y0.2; go_simp; (try with_reducible rfl))); (try simp only [Act.put, List.setIfInBounds_toArray, List.set_cons_zero, List.set_cons_succ]))
          (refine walkS_take (v := ?_) (some 76) rfl rfl (fun _ _ _ h => h) (by rfl) ?_ ?_; rotate_left; (focus (intro w' hw'; have y0 := HCC.out w' hw'; have y1 := y0.1; have y2 := y0.2; go_simp; (try with_reducible rfl))); (try simp only [Act.put, List.setIfInBounds_toArray, List.set_cons_zero, List.set_cons_succ]))
          (refine walkS_take (v := ?_) (some 77) rfl rfl (fun _ _ _ h => h) (by rfl) ?_ ?_; rotate_left; (focus (intro w' hw'; have y0 := HCC.out w' hw'; have y1 := y0.1; have y2 := y0.2; go_simp; (try with_reducible rfl))); (try simp only [Act.put, List.setIfInBounds_toArray, List.set_cons_zero, List.set_cons_succ]))
          (refine walkS_take (v := ?_) (some 78) rfl rfl (fun _ _ _ h => h) (by rfl) ?_ ?_; rotate_left; (focus (intro w' hw'; have y0 := HCC.out w' hw'; have y1 := y0.1; have y2 := y0.2; go_simp; (try with_reducible rfl))); (try simp only [Act.put, List.setIfInBounds_toArray, List.set_cons_zero, List.set_cons_succ]))
          (refine walkS_take (v := ?_) (some 79) rfl rfl (fun _ _ _ h => h) (by rfl) ?_ ?_; rotate_left; (focus (intro w' hw'; have y0 := HCC.out w' hw'; have y1 := y0.1; have y2 := y0.2; go_simp; (try with_reducible rfl))); (try simp only [Act.put, List.setIfInBounds_toArray, List.set_cons_zero, List.set_cons_succ]))
          (refine walkS_call 74 _ _ _ _ (HPUT.out) rfl rfl rfl (by rfl) rfl (enter_dput _ _ _ _) ?_; rintro e x1 ⟨rfl, s1⟩; obtain ⟨h1, M1, p1, n1, t1⟩ := HMD.out.stepQ s1; have HN1 := Lib.hid n1; have HP1 := Lib.hid p1; refine ⟨_, rfl, hS.trans t1 (fun _ _ h => .inl h), fun hS => ?_⟩; clear s1 n1 t1 p1; (try simp only [Act.put, List.setIfInBounds_toArray, List.set_cons_zero, List.set_cons_succ]))
          (refine walkS_call 80 _ _ _ _ (rdput_any _ b a c G HN1.out.m HGL.out (sortD_nd HSG.out) cc.b cc.at_) rfl rfl rfl (by rfl) rfl (enter_rdput _ _ _ _) ?_; rintro e x2 ⟨rfl, s2⟩; obtain ⟨a2, c2, n2, t2⟩ := HN1.out.stepM s2; have HN2 := Lib.hid n2; refine ⟨_, rfl, hS.trans t2 (fun _ _ h => .inr h), fun hS => ?_⟩; clear s2 n2 t2; (try simp only [Act.put, List.setIfInBounds_toArray, List.set_cons_zero, List.set_cons_succ]))
          (refine walkS_bin (some 81) _ _ _ _ _ _ _ _ (eqED_run _) rfl rfl rfl rfl rfl (fun _ _ _ h => h) (by rfl) ?_; (try simp only [Act.put, List.setIfInBounds_toArray, List.set_cons_zero, List.set_cons_succ]))
          (refine walkS_take (v := ?_) (some 7) rfl rfl (fun _ _ _ h => h) (by rfl) ?_ ?_; rotate_left; (focus (intro w' hw'; have y0 := HCC.out w' hw'; have y1 := y0.1; have y2 := y0.2; go_simp; (try with_reducible rfl))); (try simp only [Act.put, List.setIfInBounds_toArray, List.set_cons_zero, List.set_cons_succ]))
          refine walkS_done ?_
          go_wp2_with fail
          go_meet
          exact ⟨rfl, _, _, _, _, _, HN2.out, HP1.out.trans HOKP.out.1, HOKP.out.2, hS.keeps HG2.out hnbk⟩
        · by_cases hd1 : cc.do_ = 1
          · have HCLR := Lib.hid (dclear_any W2.drew s h M HMD.out.q.q cc.b HOK1.out)
            rw [hasD_perm HPM.out] at HCLR
            go_upto_region 19 with (fail)
            have hS := (Touch.refl W2 (fun k => footD s h k ∨ k = b)).drew
            refine wp_region_sched (fun w' => Touch W2 w' (fun k => footD s h k ∨ k = b)) [(0, true), (1, true), (2, true), (4, true), (5, true), (6, true), (3, false), (7, false), (8, true), (9, true)] (by kernel_rfl) (by kernel_rfl) rfl (by kernel_rfl) hS ?_
            (refine walkS_take (v := ?_) (some 84) rfl rfl (fun _ _ _ h => h) (by rfl) ?_ ?_; rotate_left; (focus (intro w' hw'; have y0 := HCC.out w' hw'; have y1 := y0.1; have y2 := y0.2; go_simp; (try with_reducible rfl))); (try simp only [Act.put, List.setIfInBounds_toArray, List.set_cons_zero, List.set_cons_succ]))
            (refine walkS_take (v := ?_) (some 85) rfl rfl (fun _ _ _ h => h) (by rfl) ?_ ?_; rotate_left; (focus (intro w' hw'; have y0 := HCC.out w' hw'; have y1 := y0.1; have y2 := y0.2; go_simp; (try with_reducible rfl))); (try simp only [Act.put, List.setIfInBounds_toArray, List.set_cons_zero, List.set_cons_succ]))
            (refine walkS_take (v := ?_) (some 86) rfl rfl (fun _ _ _ h => h) (by rfl) ?_ ?_; rotate_left; (focus (intro w' hw'; have y0 := HCC.out w' hw'; have y1 := y0.1; have y2 := y0.2; go_simp; (try with_reducible rfl))); (try simp only [Act.put, List.setIfInBounds_toArray, List.set_cons_zero, List.set_cons_succ]))
            (refine walkS_take (v := ?_) (some 88) rfl rfl (fun _ _ _ h => h) (by rfl) ?_ ?_; rotate_left; (focus (intro w' hw'; have y0 := HCC.out w' hw'; have y1 := y0.1; have y2 := y0.2; go_simp; (try with_reducible rfl))); (try simp only [Act.put, List.setIfInBounds_toArray, List.set_cons_zero, List.set_cons_succ]))
            (refine walkS_take (v := ?_) (some 89) rfl rfl (fun _ _ _ h => h) (by rfl) ?_ ?_; rotate_left; (focus (intro w' hw'; have y0 := HCC.out w' hw'; have y1 := y0.1; have y2 := y0.2; go_simp; (try with_reducible rfl))); (try simp only [Act.put, List.setIfInBounds_toArray, List.set_cons_zero, List.set_cons_succ]))
            (refine walkS_take (v := ?_) (some 90) rfl rfl (fun _ _ _ h => h) (by rfl) ?_ ?_; rotate_left; (focus (intro w' hw'; have y0 := HCC.out w' hw'; have y1 := y0.1; have y2 := y0.2; go_simp; (try with_reducible rfl))); (try simp only [Act.put, List.setIfInBounds_toArray, List.set_cons_zero, List.set_cons_succ]))
            (refine walkS_call 87 _ _ _ _ (HCLR.out) rfl rfl rfl (by rfl) rfl (enter_dclear _ _ _) ?_; rintro e x1 ⟨rfl, s1⟩; obtain ⟨h1, M1, p1, n1, t1⟩ := HMD.out.stepQ s1; have HN1 := Lib.hid n1; have HP1 := Lib.hid p1; refine ⟨_, rfl, hS.trans t1 (fun _ _ h => .inl h), fun hS => ?_⟩; clear s1 n1 t1 p1; (try simp only [Act.put, List.setIfInBounds_toArray, List.set_cons_zero, List.set_cons_succ]))
            (refine walkS_call 91 _ _ _ _ (rclear_any _ b a c G HN1.out.m HGL.out (sortD_nd HSG.out) cc.b) rfl rfl rfl (by rfl) rfl (enter_rdclear _ _ _) ?_; rintro e x2 ⟨rfl, s2⟩; obtain ⟨a2, c2, n2, t2⟩ := HN1.out.stepM s2; have HN2 := Lib.hid n2; refine ⟨_, rfl, hS.trans t2 (fun _ _ h => .inr h), fun hS => ?_⟩; clear s2 n2 t2; (try simp only [Act.put, List.setIfInBounds_toArray, List.set_cons_zero, List.set_cons_succ]))
            (refine walkS_bin (some 92) _ _ _ _ _ _ _ _ (eqBD_run _) rfl rfl rfl rfl rfl (fun _ _ _ h => h) (by rfl) ?_; (try simp only [Act.put, List.setIfInBounds_toArray, List.set_cons_zero, List.set_cons_succ]))
            (refine walkS_take (v := ?_) (some 7) rfl rfl (fun _ _ _ h => h) (by rfl) ?_ ?_; rotate_left; (focus (intro w' hw'; have y0 := HCC.out w' hw'; have y1 := y0.1; have y2 := y0.2; go_simp; (try with_reducible rfl))); (try simp only [Act.put, List.setIfInBounds_toArray, List.set_cons_zero, List.set_cons_succ]))
            refine walkS_done ?_
            go_wp2_with fail
            go_meet
            exact ⟨rfl, _, _, _, _, _, HN2.out, HP1.out.trans (HPM.out.filter _), HSG.out.filter _, hS.keeps HG2.out hnbk⟩
          · have HDUE := Lib.hid (ddue_any W2.drew s h M HMD.out.q.q cc.at_)
            obtain ⟨f1, f2⟩ := due_filter HMD.out.q.q.q.1 cc.at_
            have hap : (dueD M cc.at_).Perm (G.filter (fun d => decide (d.u ≤ cc.at_))) := by rw [f1]; exact HPM.out.filter _
            have hrp : (restD M cc.at_).Perm (G.filter (fun d => !decide (d.u ≤ cc.at_))) := by rw [f2]; exact HPM.out.filter _
            have has : SortU (dueD M cc.at_) := (sortU_of HMD.out.q.q.ok HMD.out.q.q.q.1).sublist (List.takeWhile_sublist _)
            have hal : (dueD M cc.at_).length ≤ 1024 := by
              have h1 := hap.length_eq
              have h2 := List.length_filter_le (fun d : DR => decide (d.u ≤ cc.at_)) G
              have := HGL.out
              omega
            obtain ⟨A, hA⟩ : ∃ A, dueD M cc.at_ = A := ⟨_, rfl⟩
            rw [hA] at HDUE hap has hal
            have HAP := Lib.hid hap
            have HAS := Lib.hid has
            have HRP := Lib.hid hrp
            clear f1 f2 hap hrp has hA
            go_upto_region 10 with (fail)
            have hS := (Touch.refl W2 (fun k => footD s h k ∨ k = b)).drew
            refine wp_region_sched (fun w' => Touch W2 w' (fun k => footD s h k ∨ k = b)) [(0, true), (1, true), (2, true), (4, true), (5, true), (6, true), (3, false), (7, false), (8, true), (9, true)] (by kernel_rfl) (by kernel_rfl) rfl (by kernel_rfl) hS ?_
            (refine walkS_take (v := ?_) (some 36) rfl rfl (fun _ _ _ h => h) (by rfl) ?_ ?_; rotate_left; (focus (intro w' hw'; have y0 := HCC.out w' hw'; have y1 := y0.1; have y2 := y0.2; go_simp; (try with_reducible rfl))); (try simp only [Act.put, List.setIfInBounds_toArray, List.set_cons_zero, List.set_cons_succ]))
            (refine walkS_take (v := ?_) (some 37) rfl rfl (fun _ _ _ h => h) (by rfl) ?_ ?_; rotate_left; (focus (intro w' hw'; have y0 := HCC.out w' hw'; have y1 := y0.1; have y2 := y0.2; go_simp; (try with_reducible rfl))); (try simp only [Act.put, List.setIfInBounds_toArray, List.set_cons_zero, List.set_cons_succ]))
            (refine walkS_take (v := ?_) (some 38) rfl rfl (fun _ _ _ h => h) (by rfl) ?_ ?_; rotate_left; (focus (intro w' hw'; have y0 := HCC.out w' hw'; have y1 := y0.1; have y2 := y0.2; go_simp; (try with_reducible rfl))); (try simp only [Act.put, List.setIfInBounds_toArray, List.set_cons_zero, List.set_cons_succ]))
            (refine walkS_take (v := ?_) (some 40) rfl rfl (fun _ _ _ h => h) (by rfl) ?_ ?_; rotate_left; (focus (intro w' hw'; have y0 := HCC.out w' hw'; have y1 := y0.1; have y2 := y0.2; go_simp; (try with_reducible rfl))); (try simp only [Act.put, List.setIfInBounds_toArray, List.set_cons_zero, List.set_cons_succ]))
            (refine walkS_take (v := ?_) (some 41) rfl rfl (fun _ _ _ h => h) (by rfl) ?_ ?_; rotate_left; (focus (intro w' hw'; have y0 := HCC.out w' hw'; have y1 := y0.1; have y2 := y0.2; go_simp; (try with_reducible rfl))); (try simp only [Act.put, List.setIfInBounds_toArray, List.set_cons_zero, List.set_cons_succ]))
            (refine walkS_take (v := ?_) (some 42) rfl rfl (fun _ _ _ h => h) (by rfl) ?_ ?_; rotate_left; (focus (intro w' hw'; have y0 := HCC.out w' hw'; have y1 := y0.1; have y2 := y0.2; go_simp; (try with_reducible rfl))); (try simp only [Act.put, List.setIfInBounds_toArray, List.set_cons_zero, List.set_cons_succ]))
            (refine walkS_call 39 _ _ _ _ (HDUE.out) rfl rfl rfl (by rfl) rfl (enter_ddue _ _ _) ?_; rintro e x1 ⟨v1, rfl, s1⟩; obtain ⟨a1, c1, h1, rfl, ho1, n1, t1⟩ := HMD.out.dueQ s1; have HN1 := Lib.hid n1; have HO1 := Lib.hid ho1; refine ⟨_, rfl, hS.trans t1 (fun _ _ h => .inl h), fun hS => ?_⟩; clear s1 n1 t1 ho1; (try simp only [Act.put, List.setIfInBounds_toArray, List.set_cons_zero, List.set_cons_succ]))
            (refine walkS_call 43 _ _ _ _ (rddue_any _ b a c G HN1.out.m (fun y hy => (HN1.out.nr y hy).2) HGL.out HSG.out cc.at_ A HAP.out HAS.out) rfl rfl rfl (by rfl) rfl (enter_rddue _ _ _) ?_; rintro e x2 ⟨v2, rfl, s2⟩; obtain ⟨a2, c2, a3, c3, rfl, ho2, n2, t2⟩ := HN1.out.dueM s2; have HN2 := Lib.hid n2; have HR2 := Lib.hid ho2.row'.2.1; have HR1 := Lib.hid (HO1.out.row'.2.1.touch t2 (fun y hy => .inr (fun e => by have h3 := (HO1.out.row'.2.2 y hy).1; have h4 := heap_lt HMD.out.m.head; rw [e] at h3; omega))); refine ⟨_, rfl, hS.trans t2 (fun _ _ h => .inr h), fun hS => ?_⟩; clear s2 n2 t2 ho2; (try simp only [Act.put, List.setIfInBounds_toArray, List.set_cons_zero, List.set_cons_succ]))
            (refine walkS_take (v := ?_) (some 8) rfl rfl (fun _ _ _ h => h) (by rfl) ?_ ?_; rotate_left; (focus (intro w' hw'; have y0 := HCC.out w' hw'; have y1 := y0.1; have y2 := y0.2; go_simp; (try with_reducible rfl))); (try simp only [Act.put, List.setIfInBounds_toArray, List.set_cons_zero, List.set_cons_succ]))
            (refine walkS_take (v := ?_) (some 9) rfl rfl (fun _ _ _ h => h) (by rfl) ?_ ?_; rotate_left; (focus (intro w' hw'; have y0 := HCC.out w' hw'; have y1 := y0.1; have y2 := y0.2; go_simp; (try with_reducible rfl))); (try simp only [Act.put, List.setIfInBounds_toArray, List.set_cons_zero, List.set_cons_succ]))
            refine walkS_done ?_
            obtain ⟨m, hm⟩ : ∃ m, A.length = m := ⟨_, rfl⟩
            have HMM := Lib.hid hm
            rw [hm] at HR1 HR2 hal ⊢
            have HX2 := Lib.hid (hS.keeps HG2.out hnbk)
            clear hm
            go_wp2_with fail
            obtain ⟨WD, hWD⟩ : ∃ WD, WD = x2 := ⟨_, rfl⟩
            subst hWD
            go_loopw [7, 10] (fun s7 s10 wx => ∃ j : Nat, j ≤ m ∧ s7 = .bool true ∧ s10 = .int .i64 j ∧ Touch WD wx (fun _ => False)) (fun _ s10 _ => m - (RowKit.intOf s10).toNat)
            case atStart => exact ⟨0, Nat.zero_le _, rfl, rfl, Touch.refl _ _⟩
            case round =>
              obtain ⟨j, hj, rfl, rfl, htj⟩ := hrel
              have HTJ := Lib.hid htj
              clear htj
              by_cases hlt : j < m
              case neg =>
                obtain rfl : m = j := by omega
                go_wp2_with fail
                go_meet
                exact ⟨rfl, _, _, _, _, _, HN2.out.still HTJ.out, HRP.out, HSG.out.filter _, HTJ.out.keeps HX2.out (fun h => h)⟩
              case pos =>
                have rA := HR1.out.still HTJ.out
                have rB := HR2.out.still HTJ.out
                obtain ⟨b1, o1, ea⟩ := rA.some (by omega)
                obtain ⟨b2, o2, eb⟩ := rB.some (by omega)
                subst ea eb
                have c1' := icell_one rA j (by rw [HMM.out]; exact hlt)
                have c2' := icell_one rB j (by rw [HMM.out]; exact hlt)
                have hcA := rA.hcap
                have hcB := rB.hcap
                have hmA := rA.hmax
                have hmB := rB.hmax
                have hlI : (j : Int) < m := by omega
                clear rA rB
                generalize (gd A j).b = kb at *
                go_upto_region 15 with (fail)
                go_quiet (fail)
                all_goals (go_wp2_with fail)
                all_goals (go_roundw)
                all_goals first
                  | exact ⟨j + 1, by omega, rfl, by go_num, HTJ.out.drewN _⟩
                  | (simp only [RowKit.intOf]; omega)
      case rest =>
        obtain ⟨rfl, M5, G5, h5, a5, c5, hn5, hp5, hs5, hg5⟩ := hcut
        have HN6 := Lib.hid hn5
        have HS5 := Lib.hid hs5
        have HP5 := Lib.hid hp5
        have hlm : M5.length = G5.length := hp5.length_eq
        have hlg : G5.length ≤ 1024 := by rw [← hlm]; exact hn5.q.q.len
        have hu := duntil_any wc s h5 M5 hn5.q.q cc.b HOK1.out
        rw [timeD_perm hp5 hn5.q.q.nd, hasD_perm hp5] at hu
        have HUN := Lib.hid hu
        have HRU := Lib.hid (runtil_any wc b a5 c5 G5 hn5.m hlg cc.b)
        have c1 : wc.cell? ⟨blk, 1, none⟩ = some (.int .i64 cc.b) := cell_of_cells hg5 1
        have HG5 := Lib.hid hg5
        generalize timeD G5 cc.b = tt at *
        have HLM := Lib.hid hlm
        clear hn5 hp5 hs5 hg5 hu hlm
        go_wp2_with fail
        (with_reducible refine HUN.out.mono ?_)
        rintro e w' ⟨rfl, rfl⟩
        go_wp2_with fail
        (with_reducible refine HRU.out.mono ?_)
        rintro e x6 ⟨rfl, t6⟩
        have HN7 := Lib.hid (HN6.out.still t6)
        have HG6 := Lib.hid (t6.keeps HG5.out (fun h => h))
        have HND := Lib.hid (HN7.out.still ((Touch.refl x6 (fun _ => False)).drew))
        have his := dis_any x6.drew s h5 M5 HND.out.q.q cc.b HOK1.out
        rw [hasD_perm HP5.out] at his
        have HIS := Lib.hid his
        have HAL := Lib.hid (dall_any x6.drew s h5 M5 G5 HND.out.q.q HP5.out.symm HS5.out)
        have HCC2 : RowKit.Hid (∀ W, Touch x6 W (fun _ => False) → W.cell? ⟨blk, 1, none⟩ = some (.int .i64 cc.b)) := Lib.hid (fun W t => cell_of_cells (t.keeps HG6.out (fun h => h)) 1)
        have HCM : RowKit.Hid (∀ W, Touch x6 W (fun _ => False) → W.cell? ⟨b, 0, none⟩ = some (.slice a5 G5.length c5)) := Lib.hid (fun W t => cell_of_cells (HN7.out.still t).m.head 0)
        clear his t6 HUN HRU c1
        generalize hasD G5 cc.b = hb at *
        go_upto_region 22 with (fail)
        have hS := (Touch.refl x6 (fun _ => False)).drew
        refine wp_region_sched (fun w' => Touch x6 w' (fun _ => False)) [(0, true), (1, true), (2, true), (3, true), (4, true), (5, true), (6, true), (7, true), (8, true), (9, true), (10, true), (11, true), (12, true), (13, true), (14, true), (15, true), (17, true), (16, false), (18, true), (19, true), (20, true), (21, true), (23, true), (24, true), (25, true), (26, true), (22, false), (27, false), (28, true), (29, true), (30, true), (31, true), (33, true), (34, true), (35, true), (36, true), (37, true), (32, false), (38, true), (39, true)] (by kernel_rfl) (by kernel_rfl) rfl (by kernel_rfl) hS ?_
        (refine walkS_take (v := ?_) (some 107) rfl rfl (fun _ _ _ h => h) (by rfl) ?_ ?_; rotate_left; (focus (intro w' hw'; have y0 := HCC2.out w' hw'; have y1 := HCM.out w' hw'; go_simp; (try with_reducible rfl))); (try simp only [Act.put, List.setIfInBounds_toArray, List.set_cons_zero, List.set_cons_succ]))
        (refine walkS_take (v := ?_) (some 108) rfl rfl (fun _ _ _ h => h) (by rfl) ?_ ?_; rotate_left; (focus (intro w' hw'; have y0 := HCC2.out w' hw'; have y1 := HCM.out w' hw'; go_simp; (try with_reducible rfl))); (try simp only [Act.put, List.setIfInBounds_toArray, List.set_cons_zero, List.set_cons_succ]))
        (refine walkS_take (v := ?_) (some 109) rfl rfl (fun _ _ _ h => h) (by rfl) ?_ ?_; rotate_left; (focus (intro w' hw'; have y0 := HCC2.out w' hw'; have y1 := HCM.out w' hw'; go_simp; (try with_reducible rfl))); (try simp only [Act.put, List.setIfInBounds_toArray, List.set_cons_zero, List.set_cons_succ]))
        first | (refine walkS_skip (some 110) rfl rfl (by rfl) (fun _ _ _ h => h) hS ?_; (try simp only [Act.put, List.setIfInBounds_toArray, List.set_cons_zero, List.set_cons_succ])) | (refine walkS_take (v := ?_) (some 110) rfl rfl (fun _ _ _ h => h) (by rfl) ?_ ?_; rotate_left; (focus (intro w' hw'; have y0 := HCC2.out w' hw'; have y1 := HCM.out w' hw'; go_simp; (try with_reducible rfl))); (try simp only [Act.put, List.setIfInBounds_toArray, List.set_cons_zero, List.set_cons_succ]))
        first | (refine walkS_skip (some 111) rfl rfl (by rfl) (fun _ _ _ h => h) hS ?_; (try simp only [Act.put, List.setIfInBounds_toArray, List.set_cons_zero, List.set_cons_succ])) | (refine walkS_take (v := ?_) (some 111) rfl rfl (fun _ _ _ h => h) (by rfl) ?_ ?_; rotate_left; (focus (intro w' hw'; have y0 := HCC2.out w' hw'; have y1 := HCM.out w' hw'; go_simp; (try with_reducible rfl))); (try simp only [Act.put, List.setIfInBounds_toArray, List.set_cons_zero, List.set_cons_succ]))
        first | (refine walkS_skip (some 112) rfl rfl (by rfl) (fun _ _ _ h => h) hS ?_; (try simp only [Act.put, List.setIfInBounds_toArray, List.set_cons_zero, List.set_cons_succ])) | (refine walkS_take (v := ?_) (some 112) rfl rfl (fun _ _ _ h => h) (by rfl) ?_ ?_; rotate_left; (focus (intro w' hw'; have y0 := HCC2.out w' hw'; have y1 := HCM.out w' hw'; go_simp; (try with_reducible rfl))); (try simp only [Act.put, List.setIfInBounds_toArray, List.set_cons_zero, List.set_cons_succ]))
        (refine walkS_take (v := ?_) (some 113) rfl rfl (fun _ _ _ h => h) (by rfl) ?_ ?_; rotate_left; (focus (intro w' hw'; have y0 := HCC2.out w' hw'; have y1 := HCM.out w' hw'; go_simp; (try with_reducible rfl))); (try simp only [Act.put, List.setIfInBounds_toArray, List.set_cons_zero, List.set_cons_succ]))
        (refine walkS_take (v := ?_) (some 114) rfl rfl (fun _ _ _ h => h) (by rfl) ?_ ?_; rotate_left; (focus (intro w' hw'; have y0 := HCC2.out w' hw'; have y1 := HCM.out w' hw'; go_simp; (try with_reducible rfl))); (try simp only [Act.put, List.setIfInBounds_toArray, List.set_cons_zero, List.set_cons_succ]))
        first | (refine walkS_skip (some 115) rfl rfl (by rfl) (fun _ _ _ h => h) hS ?_; (try simp only [Act.put, List.setIfInBounds_toArray, List.set_cons_zero, List.set_cons_succ])) | (refine walkS_take (v := ?_) (some 115) rfl rfl (fun _ _ _ h => h) (by rfl) ?_ ?_; rotate_left; (focus (intro w' hw'; have y0 := HCC2.out w' hw'; have y1 := HCM.out w' hw'; go_simp; (try with_reducible rfl))); (try simp only [Act.put, List.setIfInBounds_toArray, List.set_cons_zero, List.set_cons_succ]))
        first | (refine walkS_skip (some 116) rfl rfl (by rfl) (fun _ _ _ h => h) hS ?_; (try simp only [Act.put, List.setIfInBounds_toArray, List.set_cons_zero, List.set_cons_succ])) | (refine walkS_take (v := ?_) (some 116) rfl rfl (fun _ _ _ h => h) (by rfl) ?_ ?_; rotate_left; (focus (intro w' hw'; have y0 := HCC2.out w' hw'; have y1 := HCM.out w' hw'; go_simp; (try with_reducible rfl))); (try simp only [Act.put, List.setIfInBounds_toArray, List.set_cons_zero, List.set_cons_succ]))
        first | (refine walkS_skip (some 117) rfl rfl (by rfl) (fun _ _ _ h => h) hS ?_; (try simp only [Act.put, List.setIfInBounds_toArray, List.set_cons_zero, List.set_cons_succ])) | (refine walkS_bin (some 117) _ _ _ _ _ _ _ _ (neqBD_run _) rfl rfl rfl rfl rfl (fun _ _ _ h => h) (by rfl) ?_; (try simp only [Act.put, List.setIfInBounds_toArray, List.set_cons_zero, List.set_cons_succ]))
        (refine walkS_take (v := ?_) (some 118) rfl rfl (fun _ _ _ h => h) (by rfl) ?_ ?_; rotate_left; (focus (intro w' hw'; have y0 := HCC2.out w' hw'; have y1 := HCM.out w' hw'; go_simp; (try with_reducible rfl))); (try simp only [Act.put, List.setIfInBounds_toArray, List.set_cons_zero, List.set_cons_succ]))
        (refine walkS_take (v := ?_) (some 119) rfl rfl (fun _ _ _ h => h) (by rfl) ?_ ?_; rotate_left; (focus (intro w' hw'; have y0 := HCC2.out w' hw'; have y1 := HCM.out w' hw'; go_simp; (try with_reducible rfl))); (try simp only [Act.put, List.setIfInBounds_toArray, List.set_cons_zero, List.set_cons_succ]))
        first | (refine walkS_skip (some 120) rfl rfl (by rfl) (fun _ _ _ h => h) hS ?_; (try simp only [Act.put, List.setIfInBounds_toArray, List.set_cons_zero, List.set_cons_succ])) | (refine walkS_take (v := ?_) (some 120) rfl rfl (fun _ _ _ h => h) (by rfl) ?_ ?_; rotate_left; (focus (intro w' hw'; have y0 := HCC2.out w' hw'; have y1 := HCM.out w' hw'; go_simp; (try with_reducible rfl))); (try simp only [Act.put, List.setIfInBounds_toArray, List.set_cons_zero, List.set_cons_succ]))
        first | (refine walkS_skip (some 121) rfl rfl (by rfl) (fun _ _ _ h => h) hS ?_; (try simp only [Act.put, List.setIfInBounds_toArray, List.set_cons_zero, List.set_cons_succ])) | (refine walkS_take (v := ?_) (some 121) rfl rfl (fun _ _ _ h => h) (by rfl) ?_ ?_; rotate_left; (focus (intro w' hw'; have y0 := HCC2.out w' hw'; have y1 := HCM.out w' hw'; go_simp; (try with_reducible rfl))); (try simp only [Act.put, List.setIfInBounds_toArray, List.set_cons_zero, List.set_cons_succ]))
        first | (refine walkS_skip (some 122) rfl rfl (by rfl) (fun _ _ _ h => h) hS ?_; (try simp only [Act.put, List.setIfInBounds_toArray, List.set_cons_zero, List.set_cons_succ])) | (refine walkS_take (v := ?_) (some 122) rfl rfl (fun _ _ _ h => h) (by rfl) ?_ ?_; rotate_left; (focus (intro w' hw'; have y0 := HCC2.out w' hw'; have y1 := HCM.out w' hw'; go_simp; (try with_reducible rfl))); (try simp only [Act.put, List.setIfInBounds_toArray, List.set_cons_zero, List.set_cons_succ]))
        first | (refine walkS_skip (some 124) rfl rfl (by rfl) (fun _ _ _ h => h) hS ?_; (try simp only [Act.put, List.setIfInBounds_toArray, List.set_cons_zero, List.set_cons_succ])) | (refine walkS_take (v := ?_) (some 124) rfl rfl (fun _ _ _ h => h) (by rfl) ?_ ?_; rotate_left; (focus (intro w' hw'; have y0 := HCC2.out w' hw'; have y1 := HCM.out w' hw'; go_simp; (try with_reducible rfl))); (try simp only [Act.put, List.setIfInBounds_toArray, List.set_cons_zero, List.set_cons_succ]))
        first | (refine walkS_skip (some 123) rfl rfl (by rfl) (fun _ _ _ h => h) hS ?_; (try simp only [Act.put, List.setIfInBounds_toArray, List.set_cons_zero, List.set_cons_succ])) | (refine walkS_call 123 _ _ _ _ (HIS.out) rfl rfl rfl (by rfl) rfl (enter_dis _ _ _) ?_; rintro e w' ⟨rfl, rfl⟩; refine ⟨_, rfl, hS, fun hS => ?_⟩; (try simp only [Act.put, List.setIfInBounds_toArray, List.set_cons_zero, List.set_cons_succ]))
        first | (refine walkS_skip (some 125) rfl rfl (by rfl) (fun _ _ _ h => h) hS ?_; (try simp only [Act.put, List.setIfInBounds_toArray, List.set_cons_zero, List.set_cons_succ])) | (refine walkS_bin (some 125) _ _ _ _ _ _ _ _ (neqBD_run _) rfl rfl rfl rfl rfl (fun _ _ _ h => h) (by rfl) ?_; (try simp only [Act.put, List.setIfInBounds_toArray, List.set_cons_zero, List.set_cons_succ]))
        (refine walkS_take (v := ?_) (some 126) rfl rfl (fun _ _ _ h => h) (by rfl) ?_ ?_; rotate_left; (focus (intro w' hw'; have y0 := HCC2.out w' hw'; have y1 := HCM.out w' hw'; go_simp; (try with_reducible rfl))); (try simp only [Act.put, List.setIfInBounds_toArray, List.set_cons_zero, List.set_cons_succ]))
        (refine walkS_take (v := ?_) (some 127) rfl rfl (fun _ _ _ h => h) (by rfl) ?_ ?_; rotate_left; (focus (intro w' hw'; have y0 := HCC2.out w' hw'; have y1 := HCM.out w' hw'; go_simp; (try with_reducible rfl))); (try simp only [Act.put, List.setIfInBounds_toArray, List.set_cons_zero, List.set_cons_succ]))
        first | (refine walkS_skip (some 128) rfl rfl (by rfl) (fun _ _ _ h => h) hS ?_; (try simp only [Act.put, List.setIfInBounds_toArray, List.set_cons_zero, List.set_cons_succ])) | (refine walkS_take (v := ?_) (some 128) rfl rfl (fun _ _ _ h => h) (by rfl) ?_ ?_; rotate_left; (focus (intro w' hw'; have y0 := HCC2.out w' hw'; have y1 := HCM.out w' hw'; go_simp; (try with_reducible rfl))); (try simp only [Act.put, List.setIfInBounds_toArray, List.set_cons_zero, List.set_cons_succ]))
        first | (refine walkS_skip (some 130) rfl rfl (by rfl) (fun _ _ _ h => h) hS ?_; (try simp only [Act.put, List.setIfInBounds_toArray, List.set_cons_zero, List.set_cons_succ])) | (refine walkS_take (v := ?_) (some 130) rfl rfl (fun _ _ _ h => h) (by rfl) ?_ ?_; rotate_left; (focus (intro w' hw'; have y0 := HCC2.out w' hw'; have y1 := HCM.out w' hw'; go_simp; (try with_reducible rfl))); (try simp only [Act.put, List.setIfInBounds_toArray, List.set_cons_zero, List.set_cons_succ]))
        first | (refine walkS_skip (some 131) rfl rfl (by rfl) (fun _ _ _ h => h) hS ?_; (try simp only [Act.put, List.setIfInBounds_toArray, List.set_cons_zero, List.set_cons_succ])) | (refine walkS_take (v := ?_) (some 131) rfl rfl (fun _ _ _ h => h) (by rfl) ?_ ?_; rotate_left; (focus (intro w' hw'; have y0 := HCC2.out w' hw'; have y1 := HCM.out w' hw'; go_simp; (try with_reducible rfl))); (try simp only [Act.put, List.setIfInBounds_toArray, List.set_cons_zero, List.set_cons_succ]))
        first | (refine walkS_skip (some 132) rfl rfl (by rfl) (fun _ _ _ h => h) hS ?_; (try simp only [Act.put, List.setIfInBounds_toArray, List.set_cons_zero, List.set_cons_succ])) | (refine walkS_take (v := ?_) (some 132) rfl rfl (fun _ _ _ h => h) (by rfl) ?_ ?_; rotate_left; (focus (intro w' hw'; have y0 := HCC2.out w' hw'; have y1 := HCM.out w' hw'; go_simp; (try with_reducible rfl))); (try simp only [Act.put, List.setIfInBounds_toArray, List.set_cons_zero, List.set_cons_succ]))
        first | (refine walkS_skip (some 133) rfl rfl (by rfl) (fun _ _ _ h => h) hS ?_; (try simp only [Act.put, List.setIfInBounds_toArray, List.set_cons_zero, List.set_cons_succ])) | (refine walkS_take (v := ?_) (some 133) rfl rfl (fun _ _ _ h => h) (by rfl) ?_ ?_; rotate_left; (focus (intro w' hw'; have y0 := HCC2.out w' hw'; have y1 := HCM.out w' hw'; go_simp; (try with_reducible rfl))); (try simp only [Act.put, List.setIfInBounds_toArray, List.set_cons_zero, List.set_cons_succ]))
        first | (refine walkS_skip (some 129) rfl rfl (by rfl) (fun _ _ _ h => h) hS ?_; (try simp only [Act.put, List.setIfInBounds_toArray, List.set_cons_zero, List.set_cons_succ])) | (refine walkS_call 129 _ _ _ _ (HAL.out) rfl rfl rfl (by rfl) rfl (enter_dall _ _) ?_; rintro e x7 ⟨a7, c7, rfl, ho7, t7⟩; have HN9 := Lib.hid (HND.out.still t7); have HSD := Lib.hid (sameD_any x7 a7 a5 _ c7 c5 G5 ho7.row'.2.1 HN9.out.m.row hlg); refine ⟨_, rfl, hS.trans t7 (fun _ _ h => h), fun hS => ?_⟩; clear ho7 t7; (try simp only [Act.put, List.setIfInBounds_toArray, List.set_cons_zero, List.set_cons_succ]))
        first | (refine walkS_skip (some 134) rfl rfl (by rfl) (fun _ _ _ h => h) hS ?_; (try simp only [Act.put, List.setIfInBounds_toArray, List.set_cons_zero, List.set_cons_succ])) | (refine walkS_call 134 _ _ _ _ (HSD.out) rfl rfl rfl (by rfl) rfl (enter_sameD _ _ _) ?_; rintro e x8 ⟨rfl, t8⟩; have HN8 := Lib.hid (HN9.out.still t8); have HLE := Lib.hid (dlen_any x8 s _ M5 HN8.out.q.q); rw [HLM.out] at HLE; refine ⟨_, rfl, hS.trans t8 (fun _ _ h => h), fun hS => ?_⟩; clear t8; (try simp only [Act.put, List.setIfInBounds_toArray, List.set_cons_zero, List.set_cons_succ]))
        first | (refine walkS_skip (some 135) rfl rfl (by rfl) (fun _ _ _ h => h) hS ?_; (try simp only [Act.put, List.setIfInBounds_toArray, List.set_cons_zero, List.set_cons_succ])) | (refine walkS_take (v := ?_) (some 135) rfl rfl (fun _ _ _ h => h) (by rfl) ?_ ?_; rotate_left; (focus (intro w' hw'; have y0 := HCC2.out w' hw'; have y1 := HCM.out w' hw'; go_simp; (try with_reducible rfl))); (try simp only [Act.put, List.setIfInBounds_toArray, List.set_cons_zero, List.set_cons_succ]))
        (refine walkS_take (v := ?_) (some 136) rfl rfl (fun _ _ _ h => h) (by rfl) ?_ ?_; rotate_left; (focus (intro w' hw'; have y0 := HCC2.out w' hw'; have y1 := HCM.out w' hw'; go_simp; (try with_reducible rfl))); (try simp only [Act.put, List.setIfInBounds_toArray, List.set_cons_zero, List.set_cons_succ]))
        (refine walkS_take (v := ?_) (some 137) rfl rfl (fun _ _ _ h => h) (by rfl) ?_ ?_; rotate_left; (focus (intro w' hw'; have y0 := HCC2.out w' hw'; have y1 := HCM.out w' hw'; go_simp; (try with_reducible rfl))); (try simp only [Act.put, List.setIfInBounds_toArray, List.set_cons_zero, List.set_cons_succ]))
        first | (refine walkS_skip (some 138) rfl rfl (by rfl) (fun _ _ _ h => h) hS ?_; (try simp only [Act.put, List.setIfInBounds_toArray, List.set_cons_zero, List.set_cons_succ])) | (refine walkS_take (v := ?_) (some 138) rfl rfl (fun _ _ _ h => h) (by rfl) ?_ ?_; rotate_left; (focus (intro w' hw'; have y0 := HCC2.out w' hw'; have y1 := HCM.out w' hw'; go_simp; (try with_reducible rfl))); (try simp only [Act.put, List.setIfInBounds_toArray, List.set_cons_zero, List.set_cons_succ]))
        first | (refine walkS_skip (some 140) rfl rfl (by rfl) (fun _ _ _ h => h) hS ?_; (try simp only [Act.put, List.setIfInBounds_toArray, List.set_cons_zero, List.set_cons_succ])) | (refine walkS_take (v := ?_) (some 140) rfl rfl (fun _ _ _ h => h) (by rfl) ?_ ?_; rotate_left; (focus (intro w' hw'; have y0 := HCC2.out w' hw'; have y1 := HCM.out w' hw'; go_simp; (try with_reducible rfl))); (try simp only [Act.put, List.setIfInBounds_toArray, List.set_cons_zero, List.set_cons_succ]))
        first | (refine walkS_skip (some 141) rfl rfl (by rfl) (fun _ _ _ h => h) hS ?_; (try simp only [Act.put, List.setIfInBounds_toArray, List.set_cons_zero, List.set_cons_succ])) | (refine walkS_take (v := ?_) (some 141) rfl rfl (fun _ _ _ h => h) (by rfl) ?_ ?_; rotate_left; (focus (intro w' hw'; have y0 := HCC2.out w' hw'; have y1 := HCM.out w' hw'; go_simp; (try with_reducible rfl))); (try simp only [Act.put, List.setIfInBounds_toArray, List.set_cons_zero, List.set_cons_succ]))
        first | (refine walkS_skip (some 142) rfl rfl (by rfl) (fun _ _ _ h => h) hS ?_; (try simp only [Act.put, List.setIfInBounds_toArray, List.set_cons_zero, List.set_cons_succ])) | (refine walkS_take (v := ?_) (some 142) rfl rfl (fun _ _ _ h => h) (by rfl) ?_ ?_; rotate_left; (focus (intro w' hw'; have y0 := HCC2.out w' hw'; have y1 := HCM.out w' hw'; go_simp; (try with_reducible rfl))); (try simp only [Act.put, List.setIfInBounds_toArray, List.set_cons_zero, List.set_cons_succ]))
        first | (refine walkS_skip (some 143) rfl rfl (by rfl) (fun _ _ _ h => h) hS ?_; (try simp only [Act.put, List.setIfInBounds_toArray, List.set_cons_zero, List.set_cons_succ])) | (refine walkS_take (v := ?_) (some 143) rfl rfl (fun _ _ _ h => h) (by rfl) ?_ ?_; rotate_left; (focus (intro w' hw'; have y0 := HCC2.out w' hw'; have y1 := HCM.out w' hw'; go_simp; (try with_reducible rfl))); (try simp only [Act.put, List.setIfInBounds_toArray, List.set_cons_zero, List.set_cons_succ]))
        first | (refine walkS_skip (some 144) rfl rfl (by rfl) (fun _ _ _ h => h) hS ?_; (try simp only [Act.put, List.setIfInBounds_toArray, List.set_cons_zero, List.set_cons_succ])) | (refine walkS_take (v := ?_) (some 144) rfl rfl (fun _ _ _ h => h) (by rfl) ?_ ?_; rotate_left; (focus (intro w' hw'; have y0 := HCC2.out w' hw'; have y1 := HCM.out w' hw'; go_simp; (try with_reducible rfl))); (try simp only [Act.put, List.setIfInBounds_toArray, List.set_cons_zero, List.set_cons_succ]))
        first | (refine walkS_skip (some 139) rfl rfl (by rfl) (fun _ _ _ h => h) hS ?_; (try simp only [Act.put, List.setIfInBounds_toArray, List.set_cons_zero, List.set_cons_succ])) | (refine walkS_call 139 _ _ _ _ (HLE.out) rfl rfl rfl (by rfl) rfl (enter_dlen _ _) ?_; rintro e w' ⟨rfl, rfl⟩; refine ⟨_, rfl, hS, fun hS => ?_⟩; (try simp only [Act.put, List.setIfInBounds_toArray, List.set_cons_zero, List.set_cons_succ]))
        first | (refine walkS_skip (some 145) rfl rfl (by rfl) (fun _ _ _ h => h) hS ?_; (try simp only [Act.put, List.setIfInBounds_toArray, List.set_cons_zero, List.set_cons_succ])) | (refine walkS_take (v := ?_) (some 145) rfl rfl (fun _ _ _ h => h) (by rfl) ?_ ?_; rotate_left; (focus (intro w' hw'; have y0 := HCC2.out w' hw'; have y1 := HCM.out w' hw'; go_simp; (try with_reducible rfl))); (try simp only [Act.put, List.setIfInBounds_toArray, List.set_cons_zero, List.set_cons_succ]))
        (refine walkS_take (v := ?_) (some 146) rfl rfl (fun _ _ _ h => h) (by rfl) ?_ ?_; rotate_left; (focus (intro w' hw'; have y0 := HCC2.out w' hw'; have y1 := HCM.out w' hw'; go_simp; (try with_reducible rfl))); (try simp only [Act.put, List.setIfInBounds_toArray, List.set_cons_zero, List.set_cons_succ]))
        refine walkS_done ?_
        go_wp2_with fail
        go_roundw
        · exact ⟨k + 1, M5, G5, h5, a5, c5, by omega, by go_num, HN8.out, HP5.out, HS5.out⟩
        · simp only [RowKit.intOf]; omega
theorem drainsPlay_holds : Rows.DrainsPlaySaid := by
  refine drainsPlay.said fun H enc W base v0 d0 p0 h0 => ?_
  obtain ⟨a, cap, l, rfl, hr, hok⟩ := h0.callsB
  exact dplay_in W a cap l hr hok
end Go.Proofs.Ytdjkjdeaglimeaa
