/- DrainsOnce answers true for any drains and any asks. -/
import Derived.Test.YtdjkjdeaglimeaaDrOnceC
import Derived.Test.YtdjkjdeaglimeaaDueArgs
import Derived.Test.YtdjkjdeaglimeaaFrDrainsOnce
set_option linter.unusedVariables false
set_option linter.unusedSimpArgs false
namespace Go.Proofs.Ytdjkjdeaglimeaa
open Go.ChangeShapes Go.WideShapes Go.ChangeAt Go.RowKit

section
variable {H : Type} {enc : TypeId × Value → H} {P : Program} {W : World} {base : Nat} {T : TypeId} {v : Value} {cs : List Value} {d : DataW H} {p : List MemPlace}
theorem two' {α : Type} {l : List α} (h : l.length = 2) : ∃ a b, l = [a, b] := by
  match l, h with
  | [a, b], _ => exact ⟨a, b, rfl⟩
theorem Tr.drain (h : Tr enc Try.prog W 76 cs d) : ∃ c : DR, cs = dcl c ∧ (i64D c.b ∧ i64D c.u) := by
  obtain ⟨ds, hd, hl, hc, hf⟩ := h.struct Try.underlying76
  have hc3 : Try.prog.cellsOf 76 = 2 := by kernel_rfl
  have ci : Try.prog.cellsOf 3 = 1 := by kernel_rfl
  have ci2 : Try.prog.cellsOf 2 = 1 := by kernel_rfl
  rw [hc3] at hc
  obtain ⟨u0, u1, rfl⟩ := two' hc
  obtain ⟨d0, d1, rfl⟩ := two' (l := ds) (by simpa using hl)
  have e0 : Tr enc Try.prog W 3 ((([u0, u1] : List Value).drop 0).take (Try.prog.cellsOf 3)) d0 := hf 0 _ d0 rfl rfl
  have e1 : Tr enc Try.prog W 2 ((([u0, u1] : List Value).drop 1).take (Try.prog.cellsOf 2)) d1 := hf 1 _ d1 rfl rfl
  rw [ci] at e0
  rw [ci2] at e1
  obtain ⟨x0, g0, a0, b0, _⟩ := e0.i64 Try.underlying3
  obtain ⟨x1, g1, a1, b1, _⟩ := e1.i64 Try.underlying2
  simp at g0 g1
  subst g0 g1
  exact ⟨⟨x0, x1⟩, rfl, ⟨a0, b0⟩, a1, b1⟩
set_option maxRecDepth 20000 in
theorem ArgIn.drains (h : ArgIn enc Try.prog W base 61 v d p) : ∃ (a : Option Addr) (cap : Nat) (l : List DR), v = .slice a l.length cap ∧ RowS W a l.length cap 2 (l.map dcl) ∧ (∀ c ∈ l, i64D c.b ∧ i64D c.u) := by
  obtain ⟨a0, len0, cap0, rfl⟩ := okWide_slice Try.underlying61 h.ok
  obtain ⟨a, cap, bs, hcs, hr, hok, _⟩ := h.tr.rowsOf dcl (fun c => i64D c.b ∧ i64D c.u) 2 Try.underlying61 (by kernel_rfl) (fun _ => rfl) (by decide) (fun cs d h => h.drain)
  simp [Value.cells] at hcs
  obtain ⟨rfl, rfl, rfl⟩ := hcs
  exact ⟨_, _, bs, rfl, hr, hok⟩
end
def gi (ts : List Int) (i : Nat) : Int := ts.getD i 0
theorem gi_cell {w : World} {b off n c : Nat} {ts : List Int} (r : RowS w (some ⟨b, off, none⟩) n c 1 (ts.map (fun k => [Value.int .i64 k]))) (i : Nat) (h : i < ts.length) : w.cell? ⟨b, off + i, none⟩ = some (.int .i64 (gi ts i)) := by
  have := r.cell i (by simpa using h) 0 (.int .i64 (gi ts i)) (by simp [gi, List.getD_eq_getElem?_getD, List.getElem?_eq_getElem h])
  simpa using this
/-- The set and the last times, in the first loop. -/
structure OP (w0 w : World) (bs bl ml : Nat) (s : Nat) (h : DH) (M LL : List DR) : Prop where
  n : DN w0 w s h M
  cs : w.heap[bs]? = some (.cells #[.pointer (some ⟨s, 0, none⟩)] 58 (0, 0))
  cl : w.heap[bl]? = some (.cells #[.map (some ml)] 74 (0, 0))
  last : OwnZ w 3 2 ml LL
  ns : ¬ footD s h bs
  nl : ¬ footD s h bl
  nml : ¬ footD s h ml
  ap : ml ≠ bs ∧ ml ≠ bl
  lb : w0.heap.size ≤ ml
  p : LL.Perm M
section
variable {w0 w w' : World} {bs bl ml s : Nat} {h : DH} {M LL M' : List DR}
theorem OP.still (o : OP w0 w bs bl ml s h M LL) (t : Touch w w' (fun _ => False)) : OP w0 w' bs bl ml s h M LL :=
  ⟨o.n.still t, t.keeps o.cs (fun h => h), t.keeps o.cl (fun h => h), o.last.still t, o.ns, o.nl, o.nml, o.ap, o.lb, o.p⟩
theorem OP.step (o : OP w0 w bs bl ml s h M LL) (x : DStep w w' s h M') : ∃ h' M1, M1.Perm M' ∧ (LL.Perm M' → OP w0 w' bs bl ml s h' M1 LL) ∧ DN w0 w' s h' M1 ∧ w'.heap[bs]? = some (.cells #[.pointer (some ⟨s, 0, none⟩)] 58 (0, 0)) ∧ w'.heap[bl]? = some (.cells #[.map (some ml)] 74 (0, 0)) ∧ OwnZ w' 3 2 ml LL ∧ (¬ footD s h' bs ∧ ¬ footD s h' bl ∧ ¬ footD s h' ml) ∧ Touch w w' (footD s h) := by
  obtain ⟨h', M1, p1, n, f, t⟩ := o.n.step x
  have hk : ∀ k, k < w.heap.size → ¬ footD s h k → ¬ footD s h' k := fun k hk hn hf => by
    rcases f k hf with h1 | h1
    · exact hn h1
    · omega
  have k1 := hk _ (heap_lt o.cs) o.ns
  have k2 := hk _ (heap_lt o.cl) o.nl
  have k3 := hk _ o.last.lt o.nml
  exact ⟨h', M1, p1, fun hp => ⟨n, t.keeps o.cs o.ns, t.keeps o.cl o.nl, o.last.touch t o.nml, k1, k2, k3, o.ap, o.lb, hp.trans p1.symm⟩, n, t.keeps o.cs o.ns, t.keeps o.cl o.nl, o.last.touch t o.nml, ⟨k1, k2, k3⟩, t⟩
end
set_option maxRecDepth 20000 in
set_option maxHeartbeats 16000000 in
theorem once_in (w : World) (a0 a1 : Option Addr) (cap0 cap1 : Nat) (l : List DR) (ts : List Int) (hr : RowS w a0 l.length cap0 2 (l.map dcl)) (hok : ∀ c ∈ l, i64D c.b ∧ i64D c.u) (ht : RowS w a1 ts.length cap1 1 (ts.map (fun k => [Value.int .i64 k]))) :
    Calls Try.prog 11 #[.slice a0 l.length cap0, .slice a1 ts.length cap1] w fun e w' => e = .returned (.bool true) ∧ Below w.heap.size w w' := by
  obtain ⟨n, hn⟩ : ∃ n, l.length = n := ⟨_, rfl⟩
  rw [hn] at hr ⊢
  obtain ⟨m, hm⟩ : ∃ m, ts.length = m := ⟨_, rfl⟩
  rw [hm] at ht ⊢
  have hcap := hr.hcap
  have hmax := hr.hmax
  have hcap1 := ht.hcap
  have hmax1 := ht.hmax
  have HR := Lib.hid hr
  have HTS := Lib.hid ht
  have HOK := Lib.hid hok
  clear hr hok ht
  go_enter Try.func11, Try.ntmps11
  go_wp2_with fail
  refine (dnew_any w).mono ?_
  rintro e w1 ⟨s, h0, rfl, q0, t0, f0⟩
  have n1 := DN.mk q0 t0 f0
  have hfl := n1.q.footlt
  -- the variable s
  obtain ⟨W2, hW2⟩ : ∃ W, w1.alloc (.cells #[.pointer (some ⟨s, 0, none⟩)] 58) = W := ⟨_, rfl⟩
  have t2 : Touch w1 W2 (fun _ => False) := hW2 ▸ (Touch.refl w1 _).alloc _
  have g2 : W2.heap[w1.heap.size]? = some (.cells #[.pointer (some ⟨s, 0, none⟩)] 58 (0, 0)) := hW2 ▸ heap_alloc_new ..
  have s2 : W2.heap.size = w1.heap.size + 1 := by rw [← hW2]; simp
  -- the map of last times and its variable
  obtain ⟨W3, hW3⟩ : ∃ W, W2.alloc (.map #[] 0) = W := ⟨_, rfl⟩
  have t3 : Touch W2 W3 (fun _ => False) := hW3 ▸ (Touch.refl W2 _).alloc _
  have z3 : OwnZ W3 3 2 W2.heap.size [] := hW3 ▸ OwnZ.made W2 _ _
  have s3 : W3.heap.size = W2.heap.size + 1 := by rw [← hW3]; simp
  have hmk := run_makeMap (P := Try.prog) 74 W2
  rw [hW3] at hmk
  obtain ⟨W4, hW4⟩ : ∃ W, W3.alloc (.cells #[.map (some W2.heap.size)] 74) = W := ⟨_, rfl⟩
  have t4 : Touch W3 W4 (fun _ => False) := hW4 ▸ (Touch.refl W3 _).alloc _
  have g4 : W4.heap[W3.heap.size]? = some (.cells #[.map (some W2.heap.size)] 74 (0, 0)) := hW4 ▸ heap_alloc_new ..
  have HO : RowKit.Hid (OP w W4 w1.heap.size W3.heap.size W2.heap.size s h0 [] []) := Lib.hid (by
    refine ⟨n1.still ((t2.trans t3 (fun _ _ h => h)).trans t4 (fun _ _ h => h)), t4.keeps (t3.keeps g2 (fun h => h)) (fun h => h), g4, z3.still t4, fun hf => ?_, fun hf => ?_, fun hf => ?_, ⟨by omega, by omega⟩, by have := n1.t.size; omega, .refl _⟩
    · have := hfl _ hf; omega
    · have := hfl _ hf; omega
    · have := hfl _ hf; omega)
  have HS := Lib.hid (And.intro s2 s3)
  clear q0 t0 f0 n1 hfl t2 g2 t3 z3 t4 g4 s2 s3
  go_upto_region 3 with (fail)
  clear hmk hW2 hW3 hW4 HS
  obtain ⟨bs, hbs⟩ : ∃ bs, w1.heap.size = bs := ⟨_, rfl⟩
  obtain ⟨ml, hml⟩ : ∃ ml, W2.heap.size = ml := ⟨_, rfl⟩
  obtain ⟨bl, hbl⟩ : ∃ bl, W3.heap.size = bl := ⟨_, rfl⟩
  rw [hbs, hml, hbl] at HO
  rw [hbs, hbl]
  clear hbs hml hbl
  go_wp2_with fail
  go_loopw [18] (fun s18 wr => ∃ (k : Nat) (M LL : List DR) (h : DH), k ≤ n ∧ s18 = .int .i64 k ∧ OP w wr bs bl ml s h M LL) (fun s18 _ => n - (RowKit.intOf s18).toNat)
  case atStart => exact ⟨0, [], [], h0, Nat.zero_le _, rfl, HO.out⟩
  case round =>
    obtain ⟨k, M, LL, h, hkn, rfl, ho⟩ := hrel
    have HOK1 := Lib.hid ho
    clear ho HO
    by_cases hlt : k < n
    case neg =>
      obtain rfl : n = k := by omega
      have o1 := HOK1.out
      have hLL : LL.length ≤ 1024 := by rw [o1.p.length_eq]; exact o1.n.q.len
      have hfl := o1.n.q.footlt
      obtain ⟨W6, hW6⟩ : ∃ W, wr.alloc (.map #[] 0) = W := ⟨_, rfl⟩
      have t6 : Touch wr W6 (fun _ => False) := hW6 ▸ (Touch.refl wr _).alloc _
      have z6 : OwnZ W6 3 3 wr.heap.size [] := hW6 ▸ OwnZ.made wr _ _
      have s6 : W6.heap.size = wr.heap.size + 1 := by rw [← hW6]; simp
      have hmk := run_makeMap (P := Try.prog) 77 wr
      rw [hW6] at hmk
      obtain ⟨W7, hW7⟩ : ∃ W, W6.alloc (.cells #[.map (some wr.heap.size)] 77) = W := ⟨_, rfl⟩
      have t7 : Touch W6 W7 (fun _ => False) := hW7 ▸ (Touch.refl W6 _).alloc _
      have g7 : W7.heap[W6.heap.size]? = some (.cells #[.map (some wr.heap.size)] 77 (0, 0)) := hW7 ▸ heap_alloc_new ..
      have s7 : W7.heap.size = W6.heap.size + 1 := by rw [← hW7]; simp
      obtain ⟨W8, hW8⟩ : ∃ W, W7.alloc (.cells #[.int .i64 0] 2) = W := ⟨_, rfl⟩
      have t8 : Touch W7 W8 (fun _ => False) := hW8 ▸ (Touch.refl W7 _).alloc _
      have g8 : W8.heap[W7.heap.size]? = some (.cells #[.int .i64 0] 2 (0, 0)) := hW8 ▸ heap_alloc_new ..
      have hb1 := heap_lt o1.cs
      have hb2 := heap_lt o1.cl
      have hb3 := o1.last.lt
      have hw0 := o1.n.t.size
      have HOS : RowKit.Hid (OS w W8 ⟨bs, bl, W6.heap.size, W7.heap.size, ml, wr.heap.size⟩ s h M LL [] 0) := Lib.hid (by
        have tt := (t6.trans t7 (fun _ _ h => h)).trans t8 (fun _ _ h => h)
        have o2 := o1.still tt
        refine ⟨o2.n, o2.cs, o2.cl, t8.keeps g7 (fun h => h), g8, o2.last, z6.still (t7.trans t8 (fun _ _ h => h)), o2.ns, o2.nl, fun hf => ?_, fun hf => ?_, o2.nml, fun hf => ?_, ⟨?_, ?_, ?_, ?_, ?_, ?_, ?_, ?_, ?_⟩, ?_, ?_⟩
        · have := hfl _ hf; dsimp only at this; omega
        · have := hfl _ hf; dsimp only at this; omega
        · have := hfl _ hf; dsimp only at this; omega
        all_goals (dsimp only; omega))
      have HPL := Lib.hid o1.p
      have HS := Lib.hid (And.intro s6 s7)
      clear o1 hfl t6 z6 s6 t7 g7 s7 t8 g8 hb1 hb2 hb3 hw0
      have HW8 := Lib.hid hW8
      clear hW8
      go_upto_region 12 with (fail)
      rw [HW8.out]
      clear hmk hW6 hW7 HS
      obtain ⟨mt, hmt⟩ : ∃ mt, wr.heap.size = mt := ⟨_, rfl⟩
      obtain ⟨bt, hbt⟩ : ∃ bt, W6.heap.size = bt := ⟨_, rfl⟩
      obtain ⟨bn, hbn⟩ : ∃ bn, W7.heap.size = bn := ⟨_, rfl⟩
      rw [hmt, hbt, hbn] at HOS
      rw [hbt, hbn]
      clear hmt hbt hbn HOK1 HW8
      go_wp2_with fail
      go_loopw [44] (fun s44 wr => ∃ (k : Nat) (M Gn : List DR) (h : DH) (now : Int), k ≤ m ∧ s44 = .int .i64 k ∧ OS w wr ⟨bs, bl, bt, bn, ml, mt⟩ s h M LL Gn now ∧ LL.Perm (M ++ Gn)) (fun s44 _ => m - (RowKit.intOf s44).toNat)
      case atStart => exact ⟨0, M, [], h, 0, Nat.zero_le _, rfl, HOS.out, by rw [List.append_nil]; exact HPL.out⟩
      case round =>
        obtain ⟨k, M2, Gn, h2, now, hk, rfl, ho2, hp2⟩ := hrel
        have HO2 := Lib.hid ho2
        have HP2 := Lib.hid hp2
        clear ho2 hp2 HOS HPL
        by_cases hlt2 : k < m
        case neg =>
          obtain rfl : m = k := by omega
          have HASK := Lib.hid (ask_any w wr _ s h2 M2 LL Gn now HO2.out HP2.out (by omega) 1099511627776)
          have hall : ∀ d ∈ M2, d.u ≤ max now 1099511627776 := fun d hd => by have := (HO2.out.n.q.tm d hd).2; omega
          have e1 : dueD M2 (max now 1099511627776) = M2 := by
            rw [(due_filter HO2.out.n.q.q.1 _).1, List.filter_eq_self]
            intro d hd
            exact decide_eq_true (hall d hd)
          have e2 : restD M2 (max now 1099511627776) = [] := by
            rw [(due_filter HO2.out.n.q.q.1 _).2, List.filter_eq_nil_iff]
            intro d hd
            simp [hall d hd]
          rw [e1, e2] at HASK
          clear e1 e2 hall
          go_wp2_with fail
          (with_reducible refine HASK.out.mono ?_)
          rintro e w3 ⟨rfl, h3, o3⟩
          have c1 : w3.cell? ⟨bt, 0, none⟩ = some (.map (some mt)) := cell_of_cells o3.ct 0
          have c2 : w3.cell? ⟨bl, 0, none⟩ = some (.map (some ml)) := cell_of_cells o3.cl 0
          have c3 : w3.cell? ⟨bs, 0, none⟩ = some (.pointer (some ⟨s, 0, none⟩)) := cell_of_cells o3.cs 0
          have hl1 := o3.told.len mapII 3
          have hl2 := o3.last.len mapIT 3
          have hll : ((M2 ++ Gn).map one1).length = LL.length := by rw [List.length_map, HP2.out.length_eq]
          rw [hll] at hl1
          have HLE := Lib.hid (dlen_any w3 s h3 [] o3.n.q)
          have HT3 := Lib.hid o3.n.t
          generalize LL.length = ll at *
          clear o3 hll
          go_wp2_with fail
          (with_reducible refine HLE.out.mono ?_)
          rintro e w' ⟨rfl, rfl⟩
          go_wp2_with fail
          refine (awake12 _).mono ?_
          rintro e w9 ⟨rfl, t9⟩
          have HT9 := Lib.hid (HT3.out.trans t9 (fun _ _ h => h))
          clear t9
          go_wp2_with fail
          go_ret
          exact ⟨rfl, HT9.out.below (fun _ _ h => h.elim) (Nat.le_refl _)⟩
        case pos =>
          have HTX := Lib.hid (HTS.out.still HO2.out.n.t)
          obtain ⟨g, off, rfl⟩ := HTX.out.some (by omega)
          have d0 := gi_cell HTX.out k (by omega)
          generalize gi ts k = z at *
          have hlI : (k : Int) < m := by omega
          by_cases h40 : k < 40
          case neg =>
            have h40I : ¬ (k : Int) < 40 := by omega
            have HX : RowKit.Hid (∃ (k' : Nat) (M Gn : List DR) (h : DH) (now : Int), k' ≤ m ∧ Value.int .i64 ((k : Int) + 1) = .int .i64 k' ∧ OS w wr ⟨bs, bl, bt, bn, ml, mt⟩ s h M LL Gn now ∧ LL.Perm (M ++ Gn)) := Lib.hid ⟨k + 1, M2, Gn, h2, now, by omega, by go_num, HO2.out, HP2.out⟩
            go_wp2_with fail
            go_roundw
            · exact HX.out
            · simp only [RowKit.intOf]; omega
          case pos =>
            have h40I : (k : Int) < 40 := by omega
            have HASK := Lib.hid (fun at_ => ask_any w wr _ s h2 M2 LL Gn now HO2.out HP2.out (by omega) at_)
            go_wp2_with fail
            refine (HASK.out _).mono ?_
            rintro e w3 ⟨rfl, h3, o3⟩
            have HX : RowKit.Hid (∃ (k' : Nat) (M Gn : List DR) (h : DH) (now : Int), k' ≤ m ∧ Value.int .i64 ((k : Int) + 1) = .int .i64 k' ∧ OS w w3 ⟨bs, bl, bt, bn, ml, mt⟩ s h M LL Gn now ∧ LL.Perm (M ++ Gn)) := Lib.hid ⟨k + 1, _, _, h3, _, by omega, by go_num, o3, by
              refine HP2.out.trans ?_
              rw [← List.append_assoc]
              refine List.Perm.append_right Gn ?_
              refine List.Perm.trans ?_ List.perm_append_comm
              rw [due_rest]⟩
            clear o3
            go_wp2_with fail
            go_roundw
            · exact HX.out
            · simp only [RowKit.intOf]; omega
    case pos =>
      have HRX := Lib.hid (HR.out.still HOK1.out.n.t)
      obtain ⟨g, off, rfl⟩ := HRX.out.some (by omega)
      have hi' : k < (l.map dcl).length := by simp; omega
      have e : (l.map dcl)[k] = dcl (gd l k) := by rw [List.getElem_map, gd_get l k (by omega)]
      have d0 := HRX.out.cell k hi' 0 (.int .i64 (gd l k).b) (by rw [e]; rfl)
      have d1 := HRX.out.cell k hi' 1 (.int .i64 (gd l k).u) (by rw [e]; rfl)
      rw [Nat.add_zero] at d0
      obtain ⟨hx1, hx2⟩ := HOK.out _ (gd_mem l k (by omega))
      obtain ⟨x, hx⟩ : ∃ x, gd l k = x := ⟨_, rfl⟩
      rw [hx] at d0 d1 hx1 hx2
      obtain ⟨W5, hW5⟩ : ∃ W, wr.alloc (.cells #[.int .i64 x.b, .int .i64 x.u] 76) = W := ⟨_, rfl⟩
      have t5 : Touch wr W5 (fun _ => False) := hW5 ▸ (Touch.refl wr _).alloc _
      have g5 : W5.heap[wr.heap.size]? = some (.cells #[.int .i64 x.b, .int .i64 x.u] 76 (0, 0)) := hW5 ▸ heap_alloc_new ..
      have o5 := HOK1.out.still t5
      have hnf : ¬ footD s h wr.heap.size := fun hf => by have := HOK1.out.n.q.footlt _ hf; omega
      have x0 : W5.cell? ⟨wr.heap.size, 0, none⟩ = some (.int .i64 x.b) := cell_of_cells g5 0
      have x1 : W5.cell? ⟨wr.heap.size, 1, none⟩ = some (.int .i64 x.u) := cell_of_cells g5 1
      have c1 : W5.cell? ⟨bs, 0, none⟩ = some (.pointer (some ⟨s, 0, none⟩)) := cell_of_cells o5.cs 0
      have HO5 := Lib.hid o5
      have HG5 := Lib.hid g5
      have HW5 := Lib.hid hW5
      have hlI : (k : Int) < n := by omega
      have HEND : RowKit.Hid (∀ W M' LL' h', OP w W bs bl ml s h' M' LL' → ∃ (k' : Nat) (M LL : List DR) (h : DH), k' ≤ n ∧ Value.int .i64 ((k : Int) + 1) = .int .i64 k' ∧ OP w W bs bl ml s h M LL) := Lib.hid (fun W M' LL' h' o => ⟨k + 1, M', LL', h', by omega, by go_num, o⟩)
      clear e hx t5 g5 o5 hW5
      by_cases h60 : k < 60
      case neg =>
        have h60I : ¬ (k : Int) < 60 := by omega
        go_upto_region 6 with (fail)
        rw [HW5.out]
        clear d0 d1
        go_wp2_with fail
        go_roundw
        · exact HEND.out _ _ _ _ HO5.out
        · simp only [RowKit.intOf]; omega
      case pos =>
        have h60I : (k : Int) < 60 := by omega
        have HPUT := Lib.hid (dput_any W5 s h M HO5.out.n.q x.b x.u)
        by_cases he : setDE M x.b x.u = 0
        · have e2 : putD M x.b x.u = ⟨x.b, x.u⟩ :: delD M x.b := by unfold putD; rw [if_pos he]
          rw [he, e2] at HPUT
          clear e2 he
          go_upto_region 6 with (fail)
          rw [HW5.out]
          clear d0 d1
          go_wp2_with fail
          (with_reducible refine HPUT.out.mono ?_)
          rintro e w6 ⟨rfl, s6⟩
          obtain ⟨h', M1, p1, _, n6, cs6, cl6, z6, ⟨k1, k2, k3⟩, t6⟩ := HO5.out.step s6
          have g6 := t6.keeps HG5.out hnf
          have y0 : w6.cell? ⟨wr.heap.size, 0, none⟩ = some (.int .i64 x.b) := cell_of_cells g6 0
          have y1 : w6.cell? ⟨wr.heap.size, 1, none⟩ = some (.int .i64 x.u) := cell_of_cells g6 1
          have y2 : w6.cell? ⟨bl, 0, none⟩ = some (.map (some ml)) := cell_of_cells cl6 0
          have hLL : LL.length ≤ 1000000 := by rw [HO5.out.p.length_eq]; have := HO5.out.n.q.len; omega
          obtain ⟨wz, hz1, hz2, hz3⟩ := z6.store Try.underlying3 Try.underlying2 mapIT hLL ⟨x.b, x.u⟩ hx1 hx2
          have HX := Lib.hid (HEND.out wz M1 (⟨x.b, x.u⟩ :: delD LL x.b) h' ⟨n6.touch hz3 (fun k hk e => k3 (e ▸ hk)) (fun k hk e => by have := HO5.out.lb; omega), hz3.keeps cs6 (fun e => HO5.out.ap.1 e.symm), hz3.keeps cl6 (fun e => HO5.out.ap.2 e.symm), hz2, k1, k2, k3, HO5.out.ap, HO5.out.lb, ((HO5.out.p.filter _).cons _).trans p1.symm⟩)
          clear s6 p1 n6 cs6 cl6 z6 k1 k2 k3 t6 g6 hz2 hz3 x0 x1 c1
          go_wp2_with fail
          go_roundw
          · exact HX.out
          · simp only [RowKit.intOf]; omega
        · have e2 : putD M x.b x.u = M := by unfold putD; rw [if_neg he]
          rw [e2] at HPUT
          generalize setDE M x.b x.u = E at *
          clear e2
          go_upto_region 6 with (fail)
          rw [HW5.out]
          clear d0 d1
          go_wp2_with fail
          (with_reducible refine HPUT.out.mono ?_)
          rintro e w6 ⟨rfl, s6⟩
          obtain ⟨h', M1, p1, hop, -⟩ := HO5.out.step s6
          have HX := Lib.hid (HEND.out w6 M1 LL h' (hop HO5.out.p))
          clear s6 p1 hop x0 x1 c1
          go_wp2_with fail
          go_roundw
          · exact HX.out
          · simp only [RowKit.intOf]; omega
theorem drainsOnce_holds : Rows.DrainsOnceSaid := by
  refine drainsOnce.said fun H enc W base v0 v1 d0 d1 p0 p1 h0 h1 => ?_
  obtain ⟨a, cap, l, rfl, hr, hok⟩ := h0.drains
  obtain ⟨a1, c1, ts, rfl, ht, _⟩ := h1.timesQ
  exact once_in W a a1 cap c1 l ts hr hok ht
end Go.Proofs.Ytdjkjdeaglimeaa
