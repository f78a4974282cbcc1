/- DueOrder answers true for any keys, times and turn. -/
import Derived.Test.YtdjkjdeaglimeaaDueOrdC
import Derived.Test.YtdjkjdeaglimeaaFrDueOrder
import Derived.Carry
import Derived.Deep.DeepCutAuto
set_option linter.unusedVariables false
set_option linter.unusedSimpArgs false
namespace Go.Proofs.Ytdjkjdeaglimeaa
open Go.RowKit

def gk (ks : List ByteArray) (i : Nat) : ByteArray := ks.getD i ByteArray.empty
theorem gk_get (ks : List ByteArray) (i : Nat) (h : i < ks.length) : gk ks i = ks[i] := by unfold gk; rw [List.getD_eq_getElem?_getD, List.getElem?_eq_getElem h]; rfl
theorem gk_mem (ks : List ByteArray) (i : Nat) (h : i < ks.length) : gk ks i ∈ ks := by rw [gk_get ks i h]; exact List.getElem_mem h
theorem key_cell {w : World} {b off n c : Nat} {ks : List ByteArray} (r : RowS w (some ⟨b, off, none⟩) n c 1 (ks.map (fun k => [Value.string k]))) (i : Nat) (h : i < ks.length) : w.cell? ⟨b, off + i, none⟩ = some (.string (gk ks i)) := by
  have := r.cell i (by simpa using h) 0 (.string (gk ks i)) (by simp [gk_get ks i h])
  simpa using this
theorem modT (x : Int) (n : Nat) (h : 0 < n) (h2 : n ≤ 60) : ∃ T : Nat, wrap64 ((IntKind.u64.wrap x).tmod (n : Int)) = (T : Int) ∧ T < n := by
  have hu : 0 ≤ IntKind.u64.wrap x := by simp only [IntKind.wrap_u64]; omega
  have h2' : (IntKind.u64.wrap x).tmod (n : Int) = (IntKind.u64.wrap x) % n := Int.tmod_eq_emod_of_nonneg hu
  have h3 := Int.emod_nonneg (IntKind.u64.wrap x) (show (n : Int) ≠ 0 by omega)
  have h4 := Int.emod_lt_of_pos (IntKind.u64.wrap x) (show (0 : Int) < n by omega)
  rw [h2']
  generalize (IntKind.u64.wrap x) % (n : Int) = y at *
  have e1 : wrap64 y = y := by unfold wrap64; omega
  rw [e1]
  exact ⟨y.toNat, by omega, by omega⟩
structure Q3 (w w' : World) (b1 : Nat) (hp : QH) (Lp : List QR) (b2 : Nat) (hq : QH) (Lq : List QR) (mb : Nat) (F : List QR) : Prop where
  two : Q2 w w' b1 hp Lp b2 hq Lq
  own : OwnF w' mb F
  n1 : ¬ footQ b1 hp mb
  n2 : ¬ footQ b2 hq mb
  m : w.heap.size ≤ mb
theorem Q3.stepP {w w1 w2 : World} {b1 b2 mb : Nat} {hp hq : QH} {Lp Lq L' F : List QR} (h : Q3 w w1 b1 hp Lp b2 hq Lq mb F) (s : QLStep w1 w2 b1 hp L') : ∃ hp', Q3 w w2 b1 hp' L' b2 hq Lq mb F := by
  obtain ⟨hp', n, f, t⟩ := h.two.p.step s
  refine ⟨hp', ⟨⟨n, h.two.q.touch t (fun k hk hf => h.two.ap k hf hk) (fun k hk hf => by have := h.two.p.f k hf; omega), fun k hk hf => ?_⟩, h.own.touch t h.n1, fun hf => ?_, h.n2, h.m⟩⟩
  · rcases f k hk with h1 | h1
    · exact h.two.ap k h1 hf
    · have := h.two.q.q.footlt k hf; omega
  · rcases f mb hf with h1 | h1
    · exact h.n1 h1
    · have := h.own.lt; omega
theorem Q3.symm {w w1 : World} {b1 b2 mb : Nat} {hp hq : QH} {Lp Lq F : List QR} (h : Q3 w w1 b1 hp Lp b2 hq Lq mb F) : Q3 w w1 b2 hq Lq b1 hp Lp mb F := ⟨h.two.symm, h.own, h.n2, h.n1, h.m⟩
theorem Q3.stepQ {w w1 w2 : World} {b1 b2 mb : Nat} {hp hq : QH} {Lp Lq L' F : List QR} (h : Q3 w w1 b1 hp Lp b2 hq Lq mb F) (s : QLStep w1 w2 b2 hq L') : ∃ hq', Q3 w w2 b1 hp Lp b2 hq' L' mb F := by
  obtain ⟨hq', n⟩ := h.symm.stepP s
  exact ⟨hq', n.symm⟩
theorem Q3.map {w w1 w2 : World} {b1 b2 mb : Nat} {hp hq : QH} {Lp Lq F F' : List QR} (h : Q3 w w1 b1 hp Lp b2 hq Lq mb F) (t : Touch w1 w2 (fun k => k = mb)) (o : OwnF w2 mb F') : Q3 w w2 b1 hp Lp b2 hq Lq mb F' :=
  ⟨h.two.touch t (fun k hk e => by subst e; exact h.n1 hk) (fun k hk e => by subst e; exact h.n2 hk) (fun k hk e => by have := h.m; omega), o, h.n1, h.n2, h.m⟩
/-- The first times of the first k keys. -/
structure FK (ks : List ByteArray) (k : Nat) (F : List QR) : Prop where
  nd : (F.map QR.key).Nodup
  mem : ∀ x, x ∈ F.map QR.key ↔ ∃ j, j < k ∧ gk ks j = x
  len : F.length ≤ k
  tm : ∀ r ∈ F, 0 ≤ r.time ∧ r.time < 50
theorem FK.old {ks : List ByteArray} {k : Nat} {F : List QR} (h : FK ks k F) (hh : hasQ F (gk ks k) = true) : FK ks (k + 1) F := by
  refine ⟨h.nd, fun x => ?_, by have := h.len; omega, h.tm⟩
  rw [h.mem]
  constructor
  · rintro ⟨j, hj, e⟩; exact ⟨j, by omega, e⟩
  · rintro ⟨j, hj, e⟩
    by_cases hjk : j = k
    · subst hjk; subst e; exact (h.mem _).1 ((has_iff _ _).1 hh)
    · exact ⟨j, by omega, e⟩
theorem FK.add {ks : List ByteArray} {k : Nat} {F : List QR} (h : FK ks k F) (hh : hasQ F (gk ks k) = false) (t : Int) (ht : 0 ≤ t ∧ t < 50) : FK ks (k + 1) (F ++ [⟨gk ks k, t⟩]) := by
  have hn : gk ks k ∉ F.map QR.key := by rw [← has_iff, hh]; simp
  refine ⟨?_, fun x => ?_, by have := h.len; simp; omega, fun r hr => ?_⟩
  · rw [List.map_append, List.nodup_append]
    refine ⟨h.nd, by simp, fun a ha b hb => ?_⟩
    simp at hb
    intro e; subst e; subst hb; exact hn ha
  · rw [List.map_append, List.mem_append, h.mem]
    simp only [List.map_cons, List.map_nil, List.mem_singleton]
    constructor
    · rintro (⟨j, hj, e⟩ | e)
      · exact ⟨j, by omega, e⟩
      · exact ⟨k, by omega, e.symm⟩
    · rintro ⟨j, hj, e⟩
      by_cases hjk : j = k
      · subst hjk; exact .inr e.symm
      · exact .inl ⟨j, by omega, e⟩
  · rcases List.mem_append.1 hr with hr | hr
    · exact h.tm r hr
    · rw [List.mem_singleton.1 hr]; exact ht
theorem OwnF.len {w : World} {mb : Nat} {F : List QR} (h : OwnF w mb F) : (Builtin.len_ #[53] 3 #[.map (some mb)]).run Try.prog w = .ok (.int .i64 F.length) w := by
  obtain ⟨n, D, _, h1, h2⟩ := h
  have := h1.len Try.underlying53 3
  rwa [h2.size] at this
theorem rot (j T n : Nat) (hj : j < n) (hT : T < n) : ((j + n - T) % n + T) % n = j := by
  by_cases h : j + n - T < n
  · rw [Nat.mod_eq_of_lt h, show j + n - T + T = j + n by omega, Nat.add_mod_right, Nat.mod_eq_of_lt hj]
  · have h2 : (j + n - T) % n = j - T := by rw [show j + n - T = (j - T) + n by omega, Nat.add_mod_right, Nat.mod_eq_of_lt (by omega)]
    rw [h2, show j - T + T = j by omega, Nat.mod_eq_of_lt hj]
theorem nd_of_key {F : List QR} (h : (F.map QR.key).Nodup) : F.Nodup := by
  induction F with
  | nil => exact List.nodup_nil
  | cons a F ih =>
    rw [List.map_cons, List.nodup_cons] at h
    rw [List.nodup_cons]
    exact ⟨fun hm => h.1 (List.mem_map.2 ⟨a, hm, rfl⟩), ih h.2⟩
theorem Q3.stepP' {w w1 w2 : World} {b1 b2 mb : Nat} {hp hq : QH} {Lp Lq L' F : List QR} (h : Q3 w w1 b1 hp Lp b2 hq Lq mb F) (s : QLStep w1 w2 b1 hp L') : ∃ hp', Q3 w w2 b1 hp' L' b2 hq Lq mb F ∧ Touch w1 w2 (footQ b1 hp) := by
  obtain ⟨hp', n⟩ := h.stepP s
  obtain ⟨_, _, t, _⟩ := s
  exact ⟨hp', n, t⟩
theorem enter_set (a b c : Value) (w : World) : (callFunc 13 #[a, b, c]).run Try.prog w = .ok (.enter 13 #[a, b, c]) w := by kernel_rfl
theorem set_okO (L : List QR) (k : ByteArray) (t : Int) (h0 : 0 ≤ t) (h1 : t ≤ 1099511627776) (hl : L.length < 1024) : setE L k t = 0 := by
  unfold setE
  rw [if_neg (by omega)]
  split
  · rfl
  · rw [if_neg (by omega)]
theorem set_len {L F : List QR} {S : ByteArray → Prop} (h : SetIs L F S) (hs : SortQ L) {n : Nat} (hF : F.length ≤ n) (hn : n ≤ 60) : L.length < 1024 := by
  have := len_le_of_sub (sort_nodup hs) (fun r hr => ((h r).1 hr).1)
  omega
set_option maxRecDepth 20000 in
set_option maxHeartbeats 8000000 in
theorem order_walk (w : World) (ak at_ : Option Addr) (ck ct : Nat) (ks : List ByteArray) (ts : List Int) (hk : RowS w ak ks.length ck 1 (ks.map (fun k => [Value.string k]))) (ht : RowS w at_ ts.length ct 1 (ts.map (fun k => [Value.int .i64 k]))) (hok : ∀ k ∈ ks, k.size ≤ 281474976710656) (x : Int) :
    Calls Try.prog 6 #[.slice ak ks.length ck, .slice at_ ts.length ct, .int .i64 x] w fun e w' => e = .returned (.bool true) ∧ Below w.heap.size w w' := by
  obtain ⟨n, hn⟩ : ∃ n, ks.length = n := ⟨_, rfl⟩
  rw [hn] at hk ⊢
  obtain ⟨m, hm⟩ : ∃ m, ts.length = m := ⟨_, rfl⟩
  rw [hm] at ht ⊢
  obtain ⟨W0, hW0⟩ : ∃ W, w.alloc (.cells #[.slice at_ m ct] 51) = W := ⟨_, rfl⟩
  have t0 : Touch w W0 (fun _ => False) := hW0 ▸ (Touch.refl w _).alloc _
  have g0 : W0.heap[w.heap.size]? = some (.cells #[.slice at_ m ct] 51 (0, 0)) := hW0 ▸ heap_alloc_new ..
  have HK := Lib.hid (hk.still t0)
  have HTS := Lib.hid (ht.still t0)
  have HT0 := Lib.hid t0
  have HG0 := Lib.hid g0
  have HW0 := Lib.hid hW0
  have HOK := Lib.hid hok
  have hcap := hk.hcap
  have hmax := hk.hmax
  clear hk ht t0 g0 hW0 hok
  by_cases hsm : n = 0 ∨ 60 < n
  · have hs1 : n = 0 ∨ 60 < n := hsm
    have HAW : RowKit.Hid (∀ w7, Touch W0 w7 (fun _ => False) → Below w.heap.size w w7) := Lib.hid (fun w7 t => (HT0.out.trans t (fun _ _ h => h)).below (fun _ _ h => h.elim) (Nat.le_refl _))
    rcases hsm with h0 | h0
    · subst h0
      clear hs1
      go_enter Try.func6, Try.ntmps6
      go_upto_region 1 with (fail)
      rw [HW0.out]
      go_wp2_with fail
      refine (awake10 W0).mono ?_
      rintro e w7 ⟨rfl, t7⟩
      have HB7 := Lib.hid (HAW.out _ t7)
      clear t7
      go_wp2_with fail
      go_ret
      exact ⟨rfl, HB7.out⟩
    · have h1 : ¬ (n : Int) = 0 := by omega
      have h2 : (60 : Int) < n := by omega
      clear hs1
      go_enter Try.func6, Try.ntmps6
      go_upto_region 1 with (fail)
      rw [HW0.out]
      go_wp2_with fail
      refine (awake10 W0).mono ?_
      rintro e w7 ⟨rfl, t7⟩
      have HB7 := Lib.hid (HAW.out _ t7)
      clear t7
      go_wp2_with fail
      go_ret
      exact ⟨rfl, HB7.out⟩
  have h1 : ¬ (n : Int) = 0 := by omega
  have hz : ((n : Int) == 0) = false := by simpa using h1
  have h2 : ¬ (60 : Int) < n := by omega
  have h3 : 0 < n ∧ n ≤ 60 := by omega
  obtain ⟨T, hT, hTn⟩ := modT x n h3.1 h3.2
  have HT := Lib.hid hT
  clear hsm hT
  go_enter Try.func6, Try.ntmps6
  go_upto_region 1 with (fail)
  rw [HW0.out]
  obtain ⟨bx, hbx⟩ : ∃ bx, w.heap.size = bx := ⟨_, rfl⟩
  rw [hbx] at HG0 ⊢
  have HBX := Lib.hid hbx
  clear hbx
  go_upto_region 4 with (fail)
  rw [HT.out]
  clear HT
  go_wp2_with fail
  refine (qnew_any W0).mono ?_
  rintro e w0 ⟨rfl, q0, t0, f0⟩
  have N0 := Lib.hid (QN.new (Touch.refl W0 _) q0 t0 f0)
  clear q0 t0 f0
  generalize W0.heap.size = b1 at *
  go_wp2_with fail
  refine (qnew_any w0).mono ?_
  rintro e w1 ⟨rfl, q1, t1, f1⟩
  have N1 := Q2.new N0.out q1 t1 f1
  clear q1 t1 f1 N0
  generalize w0.heap.size = b2 at *
  obtain ⟨W3, hW3⟩ : ∃ W, w1.alloc (.map #[] 0) = W := ⟨_, rfl⟩
  have t3 : Touch w1 W3 (fun _ => False) := hW3 ▸ (Touch.refl w1 _).alloc _
  have hmo : OwnF W3 w1.heap.size [] := ⟨0, _, by omega, hW3 ▸ World.ownsMap_made (H := Unit) w1 Try.prog 9 (plainElem Try.prog 2), ⟨Maps.tidy_empty, rfl, by simp, fun k => rfl⟩⟩
  have HQ3 : RowKit.Hid (Q3 W0 W3 b1 _ [] b2 _ [] w1.heap.size []) := Lib.hid ⟨N1.still t3, hmo, fun hf => by have := N1.p.q.footlt _ hf; omega, fun hf => by have := N1.q.q.footlt _ hf; omega, N1.p.t.size⟩
  have hmk := run_makeMap (P := Try.prog) 53 w1
  rw [hW3] at hmk
  clear N1 t3 hmo
  go_upto_region 7 with (fail)
  clear hmk hW3
  obtain ⟨mb, hmb⟩ : ∃ mb, w1.heap.size = mb := ⟨_, rfl⟩
  rw [hmb] at HQ3 ⊢
  clear hmb
  go_wp2_with fail
  go_loopw [44] (fun s44 wr => ∃ (k : Nat) (F : List QR) (hp hq : QH), k ≤ n ∧ s44 = .int .i64 k ∧ Q3 W0 wr b1 hp [] b2 hq [] mb F ∧ FK ks k F) (fun s44 _ => n - (intOf s44).toNat)
  case atStart => exact ⟨0, [], _, _, Nat.zero_le _, rfl, HQ3.out, ⟨by simp, fun x => by simp, Nat.le_refl _, by simp⟩⟩
  case round =>
    obtain ⟨k, F, hp, hq, hkn, rfl, hq3, hfk⟩ := hrel
    have HQ := Lib.hid hq3
    have HFK := Lib.hid hfk
    clear hq3 hfk HQ3
    by_cases hlt : k < n
    case neg =>
      obtain rfl : n = k := by omega
      go_upto_region 14 with (fail)
      have HFN := HFK
      have HQN := HQ
      have hsq : FK ks n F := HFK.out
      clear hlt
      go_wp2_with fail
      go_loopw [65] (fun s65 wx => ∃ (k : Nat) (Lp Lq : List QR) (hp hq : QH), k ≤ n ∧ s65 = .int .i64 k ∧ Q3 W0 wx b1 hp Lp b2 hq Lq mb F ∧ SetIs Lp F (fun x => ∃ j, j < k ∧ gk ks j = x) ∧ SetIs Lq F (fun x => ∃ j, j < k ∧ gk ks ((j + T) % n) = x)) (fun s65 _ => n - (intOf s65).toNat)
      case atStart => exact ⟨0, [], [], _, _, Nat.zero_le _, rfl, HQ.out, fun r => by simp, fun r => by simp⟩
      case round =>
        obtain ⟨k, Lp, Lq, hp3, hq3, hkn2, rfl, hqq, hsp, hsq2⟩ := hrel
        have HQ := Lib.hid hqq
        have HSP := Lib.hid hsp
        have HSQ := Lib.hid hsq2
        clear hqq hsp hsq2 HQN HFN
        by_cases hlt : k < n
        case neg =>
          obtain rfl : n = k := by omega
          have hpq : Lp = Lq := sort_ext HQ.out.two.p.q.1 HQ.out.two.q.q.1 (fun r => by
            rw [HSP.out r, HSQ.out r]
            constructor
            · rintro ⟨h, _⟩
              obtain ⟨j, hj, e⟩ := (HFK.out.mem r.key).1 (List.mem_map.2 ⟨r, h, rfl⟩)
              exact ⟨h, (j + n - T) % n, Nat.mod_lt _ (by omega), by rw [rot j T n hj hTn]; exact e⟩
            · rintro ⟨h, _⟩
              obtain ⟨j, hj, e⟩ := (HFK.out.mem r.key).1 (List.mem_map.2 ⟨r, h, rfl⟩)
              exact ⟨h, j, hj, e⟩)
          have hLF : ∀ r, r ∈ Lp ↔ r ∈ F := fun r => by
            rw [HSP.out r]
            constructor
            · rintro ⟨h, _⟩; exact h
            · intro h
              obtain ⟨j, hj, e⟩ := (HFK.out.mem r.key).1 (List.mem_map.2 ⟨r, h, rfl⟩)
              exact ⟨h, j, hj, e⟩
          have hlen : Lp.length = F.length := Nat.le_antisymm (len_le_of_sub (sort_nodup HQ.out.two.p.q.1) (fun r hr => (hLF r).1 hr)) (len_le_of_sub (nd_of_key HFK.out.nd) (fun r hr => (hLF r).2 hr))
          subst hpq
          clear HSP HSQ
          have hda := due_all (L := Lp) (now := 100) (fun r hr => by have := HFK.out.tm r ((hLF r).1 hr); omega)
          have hU1 := qdue_any wr b1 _ _ HQ.out.two.p.q 100
          rw [hda.1, hda.2] at hU1
          have HU1 := Lib.hid hU1
          have HDA := Lib.hid hda
          have HLF := Lib.hid hLF
          have HLN := Lib.hid hlen
          have hN60 : Lp.length ≤ 60 := by have := HFK.out.len; omega
          clear hU1 hda hLF hlen
          go_upto_region 21 with (fail)
          go_wp2_with fail
          (with_reducible refine HU1.out.mono ?_)
          rintro e x1 ⟨v1, rfl, s1⟩
          obtain ⟨a1, c1, hp4, rfl, ho1, hd1, n1, t1⟩ := HQ.out.two.dueP s1
          have hw1 := HQ.out.own.touch t1 HQ.out.n1
          have hU2 := qdue_any x1 b2 _ _ n1.q.q 100
          rw [HDA.out.1, HDA.out.2] at hU2
          have HU2 := Lib.hid hU2
          have HO1 := Lib.hid ho1
          have HD1 := Lib.hid hd1
          have HN1 := Lib.hid n1
          have HW1 := Lib.hid hw1
          clear s1 ho1 hd1 n1 t1 hw1 hU2
          go_wp2_with fail
          (with_reducible refine HU2.out.mono ?_)
          rintro e x2 ⟨v2, rfl, s2⟩
          obtain ⟨a2, c2, hq4, rfl, ho2, -, n2, t2⟩ := HN1.out.dueQ' s2
          have hw2 := HW1.out.touch t2 HQ.out.n2
          have hr1 : RowS x2 a1 Lp.length c1 1 (kcells Lp) := HO1.out.row'.2.1.touch t2 (fun y hy => .inr (HD1.out y hy).2)
          have HSM := Lib.hid (same_any x2 a1 a2 _ c1 _ c2 Lp Lp hr1 ho2.row'.2.1 rfl rfl (by omega) (by omega))
          rw [decide_eq_true rfl] at HSM
          have HR1 := Lib.hid hr1
          have HN2 := Lib.hid n2
          have HW2 := Lib.hid hw2
          clear s2 ho2 n2 t2 hw2 hr1
          go_wp2_with fail
          (with_reducible refine HSM.out.mono ?_)
          rintro e x3 ⟨rfl, t3⟩
          have hw3 := HW2.out.touch t3 (fun h => h)
          have n3 := HN2.out.still t3
          have HL3 := Lib.hid (qlen_any x3 b1 _ _ n3.p.q)
          have HR3 := Lib.hid (HR1.out.still t3)
          have HW3 := Lib.hid hw3
          have HT3 := Lib.hid n3.p.t
          have hlm := hw3.len
          rw [← HLN.out] at hlm
          clear t3 n3 hw3 HN2 HW2 HR1 HSM HN1 HW1 HO1 HD1
          go_wp2_with fail
          (with_reducible refine HL3.out.mono ?_)
          rintro e w' ⟨rfl, rfl⟩
          obtain ⟨N, hN⟩ : ∃ N, Lp.length = N := ⟨_, rfl⟩
          have hSRT := Lib.hid HQ.out.two.p.q.1
          rw [hN] at HR3 hN60 ⊢
          clear hlm
          go_wp2_with fail
          go_loopw [19] (fun s19 wy => ∃ j : Nat, j ≤ 60 ∧ s19 = .int .i64 ((j : Int) + 1) ∧ Touch x3 wy (fun _ => False)) (fun s19 _ => N + 1 - (intOf s19).toNat)
          case atStart => exact ⟨0, by omega, rfl, Touch.refl _ _⟩
          case round =>
            obtain ⟨j, hj60, rfl, hty⟩ := hrel
            have HTY := Lib.hid hty
            clear hty
            by_cases hjn : j + 1 < N
            case neg =>
              have hjI : ¬ (j : Int) + 1 < N := by omega
              go_wp2_with fail
              refine (awake10 _).mono ?_
              rintro e w7 ⟨rfl, t7⟩
              have HT7 := Lib.hid (((HT0.out.trans HT3.out (fun _ _ h => h)).trans HTY.out (fun _ _ h => h)).trans t7 (fun _ _ h => h))
              have HBX' := HBX
              clear t7
              go_wp2_with fail
              go_ret
              exact ⟨rfl, HT7.out.below (fun _ _ h => h.elim) (by rw [HBX.out]; exact Nat.le_refl _)⟩
            case pos =>
              have hjI : (j : Int) + 1 < N := by omega
              have HRY := Lib.hid (HR3.out.still HTY.out)
              obtain ⟨g, o, rfl⟩ := HRY.out.some (by omega)
              have d0 := cell_one HRY.out j (by omega)
              have d1 := cell_one HRY.out (j + 1) (by omega)
              have hab : ltQ (gq Lp j) (gq Lp (j + 1)) = true := by
                rw [gq_get Lp j (by omega), gq_get Lp (j + 1) (by omega)]
                exact List.pairwise_iff_getElem.1 hSRT.out j (j + 1) (by omega) (by omega) (by omega)
              have hmA := (HLF.out _).1 (gq_mem Lp j (by omega))
              have hmB := (HLF.out _).1 (gq_mem Lp (j + 1) (by omega))
              have hoA := (HQ.out.two.p.q.ok _ (gq_mem Lp j (by omega))).1
              have hoB := (HQ.out.two.p.q.ok _ (gq_mem Lp (j + 1) (by omega))).1
              have hgA : ∀ q, Sem.run Try.prog (Instr.lookup 53 (.map (some mb)) (.string (gq Lp j).key) false) (wr.drewN q) = .ok (.int .i64 (gq Lp j).time) (wr.drewN q) := fun q => (HW3.out.touch (HTY.out.drewN q) (fun h => h)).get _ hmA hoA
              have hgB : ∀ q, Sem.run Try.prog (Instr.lookup 53 (.map (some mb)) (.string (gq Lp (j + 1)).key) false) (wr.drewN q) = .ok (.int .i64 (gq Lp (j + 1)).time) (wr.drewN q) := fun q => (HW3.out.touch (HTY.out.drewN q) (fun h => h)).get _ hmB hoB
              have htA := HFK.out.tm _ hmA
              have htB := HFK.out.tm _ hmB
              have hc1 := HRY.out.hcap
              have hc2 := HRY.out.hmax
              clear hmA hmB hoA hoB hSRT
              generalize gq Lp j = A at *
              generalize gq Lp (j + 1) = B at *
              rw [ltQ_iff] at hab
              obtain ⟨At, hAt⟩ : ∃ t, A.time = t := ⟨_, rfl⟩
              obtain ⟨Bt, hBt⟩ : ∃ t, B.time = t := ⟨_, rfl⟩
              rw [hAt] at hgA hab htA
              rw [hBt] at hgB hab htB
              clear hAt hBt
              have HAB := Lib.hid hab
              clear hab
              go_upto_region 27 with (fail)
              go_quiet (fail)
              go_upto_region 28 with (fail)
              rcases HAB.out with hl | ⟨rfl, hbl⟩
              · have hl1 : ¬ Bt < At := by omega
                have hl2 : ¬ At = Bt := by omega
                clear hgA hgB htA htB
                go_quiet (fail)
                all_goals (go_wp2_with fail)
                all_goals (go_roundw)
                all_goals first
                  | exact ⟨j + 1, by omega, by go_num, HTY.out.drewN _⟩
                  | (simp only [intOf]; omega)
              · have hbl2 : Op.bytesLess A.key.toList B.key.toList = true := hbl
                clear hgA hgB htA htB hbl
                generalize A.key = ka at *
                generalize B.key = kb' at *
                go_quiet (fail)
                all_goals (go_wp2_with fail)
                all_goals (go_roundw)
                all_goals first
                  | exact ⟨j + 1, by omega, by go_num, HTY.out.drewN _⟩
                  | (simp only [intOf]; omega)
        case pos =>
          have HRX := Lib.hid (HK.out.still HQ.out.two.p.t)
          obtain ⟨g, off, rfl⟩ := HRX.out.some (by omega)
          obtain ⟨i2, hi2⟩ : ∃ i2, (k + T) % n = i2 := ⟨_, rfl⟩
          have hi2n : i2 < n := by rw [← hi2]; exact Nat.mod_lt _ (by omega)
          have him : ((k : Int) + T).tmod (n : Int) = (i2 : Int) := by rw [Int.tmod_eq_emod_of_nonneg (by omega), ← hi2]; norm_cast
          have d0 := key_cell HRX.out k (by omega)
          have d1 := key_cell HRX.out i2 (by omega)
          obtain ⟨xk, hxk, exk⟩ := List.mem_map.1 ((HFK.out.mem (gk ks k)).2 ⟨k, hlt, rfl⟩)
          obtain ⟨yk, hyk, eyk⟩ := List.mem_map.1 ((HFK.out.mem (gk ks i2)).2 ⟨i2, hi2n, rfl⟩)
          have hks := HOK.out _ (gk_mem ks k (by omega))
          have hks2 := HOK.out _ (gk_mem ks i2 (by omega))
          have hlI : (k : Int) < n := by omega
          have hi2I : (i2 : Int) < n := by omega
          go_upto_region 18 with (fail)
          have HCC : RowKit.Hid (∀ W, Touch wr W (footQ b1 hp3) → W.cell? ⟨g, off + k, none⟩ = some (.string (gk ks k))) := Lib.hid (fun W t => key_cell (HRX.out.touch t (fun y hy => .inr (fun hf => by
            have h9 := HQ.out.two.p.f _ hf
            have h8 := HK.out.lt y hy
            omega))) k (by omega))
          have HTD : RowKit.Hid (Touch wr wr.drew (footQ b1 hp3)) := Lib.hid (Touch.refl wr _).drew
          have HQD := Lib.hid (show Q3 W0 wr.drew b1 hp3 Lp b2 hq3 Lq mb F from ⟨HQ.out.two.still ((Touch.refl wr (fun _ => False)).drew), HQ.out.own.touch ((Touch.refl wr (fun _ => False)).drew) (fun h => h), HQ.out.n1, HQ.out.n2, HQ.out.m⟩)
          have hgx := HQD.out.own.get xk hxk (by rw [exk]; exact hks)
          rw [exk] at hgx
          have HGX := Lib.hid hgx
          have htx := HFK.out.tm xk hxk
          have hlp : setE Lp xk.key xk.time = 0 := set_okO Lp _ _ htx.1 (by omega) (set_len HSP.out HQ.out.two.p.q.1 HFK.out.len (by omega))
          have HS1 := Lib.hid (qset_any wr.drew b1 _ _ HQD.out.two.p.q xk.key (by rw [exk]; exact hks) xk.time)
          rw [hlp] at HS1
          have HN1 := Lib.hid (HSP.out.set HFK.out.nd hxk hlp)
          rw [exk] at HS1 HN1
          clear hlp htx hgx
          go_cut [] (fun wx => ∃ hp5, Q3 W0 wx b1 hp5 (setQ Lp (gk ks k) xk.time) b2 hq3 Lq mb F)
          case first =>
            go_wp2_with fail
            have hS := (Touch.refl wr (footQ b1 hp3)).drew
            refine wp_region_tree (fun w' => Touch wr w' (footQ b1 hp3)) (.take 0 (.take 1 (.take 2 (.take 3 (.take 4 (.take 5 (.take 6 (.take 7 (.take 8 (.take 9 (.one 10 (.one 11 .fin)))))))))))) (by kernel_rfl) (by kernel_rfl) (by kernel_rfl) (by kernel_rfl) hS ?_
            refine walkT_take ?_
            (refine takeN_take (v := ?_) (some 77) rfl rfl (fun _ _ _ h => h) (by rfl) ?_ ?_; rotate_left; (focus (intro w' hw'; have c9 := HCC.out w' hw'; go_simp; (try with_reducible rfl))); (try simp only [Act.put, List.setIfInBounds_toArray, List.set_cons_zero, List.set_cons_succ]))
            refine walkT_take ?_
            (refine takeN_take (v := ?_) (some 78) rfl rfl (fun _ _ _ h => h) (by rfl) ?_ ?_; rotate_left; (focus (intro w' hw'; have c9 := HCC.out w' hw'; go_simp; (try with_reducible rfl))); (try simp only [Act.put, List.setIfInBounds_toArray, List.set_cons_zero, List.set_cons_succ]))
            refine walkT_take ?_
            (refine takeN_take (v := ?_) (some 79) rfl rfl (fun _ _ _ h => h) (by rfl) ?_ ?_; rotate_left; (focus (intro w' hw'; have c9 := HCC.out w' hw'; go_simp; (try with_reducible rfl))); (try simp only [Act.put, List.setIfInBounds_toArray, List.set_cons_zero, List.set_cons_succ]))
            refine walkT_take ?_
            (refine takeN_take (v := ?_) (some 80) rfl rfl (fun _ _ _ h => h) (by rfl) ?_ ?_; rotate_left; (focus (intro w' hw'; have c9 := HCC.out w' hw'; go_simp; (try with_reducible rfl))); (try simp only [Act.put, List.setIfInBounds_toArray, List.set_cons_zero, List.set_cons_succ]))
            refine walkT_take ?_
            (refine takeN_take (v := ?_) (some 81) rfl rfl (fun _ _ _ h => h) (by rfl) ?_ ?_; rotate_left; (focus (intro w' hw'; have c9 := HCC.out w' hw'; go_simp; (try with_reducible rfl))); (try simp only [Act.put, List.setIfInBounds_toArray, List.set_cons_zero, List.set_cons_succ]))
            refine walkT_take ?_
            (refine takeN_take (v := ?_) (some 82) rfl rfl (fun _ _ _ h => h) (by rfl) ?_ ?_; rotate_left; (focus (intro w' hw'; have c9 := HCC.out w' hw'; go_simp; (try with_reducible rfl))); (try simp only [Act.put, List.setIfInBounds_toArray, List.set_cons_zero, List.set_cons_succ]))
            refine walkT_take ?_
            (refine takeN_take (v := ?_) (some 83) rfl rfl (fun _ _ _ h => h) (by rfl) ?_ ?_; rotate_left; (focus (intro w' hw'; have c9 := HCC.out w' hw'; go_simp; (try with_reducible rfl))); (try simp only [Act.put, List.setIfInBounds_toArray, List.set_cons_zero, List.set_cons_succ]))
            refine walkT_take ?_
            (refine takeN_take (v := ?_) (some 84) rfl rfl (fun _ _ _ h => h) (by rfl) ?_ ?_; rotate_left; (focus (intro w' hw'; have c9 := HCC.out w' hw'; go_simp; (try with_reducible rfl))); (try simp only [Act.put, List.setIfInBounds_toArray, List.set_cons_zero, List.set_cons_succ]))
            refine walkT_take ?_
            (refine takeN_take (v := ?_) (some 85) rfl rfl (fun _ _ _ h => h) (by rfl) ?_ ?_; rotate_left; (focus (intro w' hw'; have c9 := HCC.out w' hw'; go_simp; (try with_reducible rfl))); (try simp only [Act.put, List.setIfInBounds_toArray, List.set_cons_zero, List.set_cons_succ]))
            refine walkT_take ?_
            (refine takeN_take (v := ?_) (some 86) rfl rfl (fun _ _ _ h => h) (by rfl) ?_ ?_; rotate_left; (focus (intro w' hw'; have c9 := HCC.out w' hw'; go_simp; (try with_reducible rfl))); (try simp only [Act.put, List.setIfInBounds_toArray, List.set_cons_zero, List.set_cons_succ]))
            refine walkT_one ?_
            (refine runN_do (v := .int .i64 xk.time) (w' := wr.drew) (some 87) rfl rfl (by rfl) (by have q := HGX.out; go_simp; (try with_reducible rfl)) HTD.out (fun hS => ?_); (try simp only [Act.put, List.setIfInBounds_toArray, List.set_cons_zero, List.set_cons_succ]))
            refine walkT_one ?_
            (refine runN_call 88 13 _ _ _ HS1.out rfl rfl rfl (by rfl) rfl (enter_set _ _ _ _) ?_; rintro e w5 ⟨rfl, s5⟩; obtain ⟨hp5, n5, t5⟩ := HQD.out.stepP' s5; have HN5 := Lib.hid n5; refine ⟨_, rfl, HTD.out.trans t5 (fun _ _ h => h), fun hS => ?_⟩; clear s5 n5; (try simp only [Act.put, List.setIfInBounds_toArray, List.set_cons_zero, List.set_cons_succ]))
            refine walkT_fin ?_
            go_wp2_with fail
            go_meet
            exact ⟨_, HN5.out⟩
          case rest =>
            obtain ⟨hp5, hq5⟩ := hcut
            have HQ5 := Lib.hid hq5
            have hgy := hq5.own.get yk hyk (by rw [eyk]; exact hks2)
            rw [eyk] at hgy
            have hty := HFK.out.tm yk hyk
            have hlq : setE Lq yk.key yk.time = 0 := set_okO Lq _ _ hty.1 (by omega) (set_len HSQ.out HQ.out.two.q.q.1 HFK.out.len (by omega))
            have HS2 := Lib.hid (qset_any wc b2 _ _ hq5.two.q.q yk.key (by rw [eyk]; exact hks2) yk.time)
            rw [hlq] at HS2
            have HN2 := Lib.hid (HSQ.out.set HFK.out.nd hyk hlq)
            rw [eyk] at HS2 HN2
            clear hlq hty hq5
            go_wp2_with fail
            (with_reducible refine HS2.out.mono ?_)
            rintro e w8 ⟨rfl, s8⟩
            obtain ⟨hq8, n8⟩ := HQ5.out.stepQ s8
            have HX : RowKit.Hid (∃ (k' : Nat) (Lp' Lq' : List QR) (hp' hq' : QH), k' ≤ n ∧ Value.int .i64 ((k : Int) + 1) = .int .i64 k' ∧ Q3 W0 w8 b1 hp' Lp' b2 hq' Lq' mb F ∧ SetIs Lp' F (fun x => ∃ j, j < k' ∧ gk ks j = x) ∧ SetIs Lq' F (fun x => ∃ j, j < k' ∧ gk ks ((j + T) % n) = x)) := Lib.hid ⟨k + 1, _, _, _, _, by omega, by go_num, n8, HN1.out.mono (fun z => by
                constructor
                · rintro (rfl | ⟨j, hj, e⟩)
                  · exact ⟨k, by omega, rfl⟩
                  · exact ⟨j, by omega, e⟩
                · rintro ⟨j, hj, e⟩
                  by_cases hjk : j = k
                  · subst hjk; exact .inl e.symm
                  · exact .inr ⟨j, by omega, e⟩), HN2.out.mono (fun z => by
                constructor
                · rintro (rfl | ⟨j, hj, e⟩)
                  · exact ⟨k, by omega, by rw [hi2]⟩
                  · exact ⟨j, by omega, e⟩
                · rintro ⟨j, hj, e⟩
                  by_cases hjk : j = k
                  · subst hjk; rw [hi2] at e; exact .inl e.symm
                  · exact .inr ⟨j, by omega, e⟩)⟩
            clear s8 n8 hgy
            go_wp2_with fail
            go_roundw
            · exact HX.out
            · simp only [intOf]; omega
    case pos =>
      have HRX := Lib.hid (HK.out.still HQ.out.two.p.t)
      obtain ⟨g, off, rfl⟩ := HRX.out.some (by omega)
      have d0 := key_cell HRX.out k (by omega)
      have hks := HOK.out _ (gk_mem ks k (by omega))
      obtain ⟨c, hrun⟩ := HQ.out.own.ok (gk ks k) hks
      have hlI : (k : Int) < n := by omega
      cases hh : hasQ F (gk ks k) with
      | true =>
        rw [hh] at hrun
        have HX : RowKit.Hid (∃ (k' : Nat) (F' : List QR) (hp' hq' : QH), k' ≤ n ∧ Value.int .i64 ((k : Int) + 1) = .int .i64 k' ∧ Q3 W0 wr b1 hp' [] b2 hq' [] mb F' ∧ FK ks k' F') := Lib.hid ⟨k + 1, F, hp, hq, by omega, by go_num, HQ.out, HFK.out.old hh⟩
        go_wp2_with fail
        go_roundw
        · exact HX.out
        · simp only [intOf]; omega
      | false =>
        rw [hh] at hrun
        have HAT := Lib.hid (at_any' wr bx at_ ct ts (by rw [hm]; exact HQ.out.two.p.t.keeps HG0.out (fun h => h)) (by rw [hm]; exact HTS.out.still HQ.out.two.p.t) k (by omega))
        have HTM := Lib.hid (atT_in ts k)
        have HFK2 := Lib.hid (HFK.out.add hh _ (atT_in ts k))
        have HHH := Lib.hid hh
        obtain ⟨nn, D, hnn, hD, hP⟩ := HQ.out.own
        have hD2 := ownsMap_tight hD
        have hlen := HFK.out.len
        rw [hP.size] at hD2
        have HD2 := Lib.hid hD2
        have HP := Lib.hid hP
        have hel : plainElem (H := Unit) Try.prog 2 (.int .i64 (atT ts k)) = some (.lit (.int .i64 (atT ts k)), []) := plainElem_int Try.underlying2 (by have := atT_in ts k; simp [Lit.wf, IntKind.min, IntKind.max, IntKind.signed, IntKind.bits]; omega)
        obtain ⟨w5, r1, r2, r3⟩ := World.ownsMap.store hD2 strKeyed Try.underlying53 (by simp only [maxLen]; omega) (keyQ hks) hel
        have HT5 : RowKit.Hid (Touch wr w5 (fun x => x = mb)) := Lib.hid ((Touch.refl wr (fun x => x = mb)).grown r3.grown (fun k hk _ => by simp only [Option.some.injEq] at hk; exact hk.symm))
        have hnk : gk ks k ∉ F.map QR.key := by rw [← has_iff, HHH.out]; simp
        have hpf := pf_push HP.out ⟨gk ks k, atT ts k⟩ hnk
        have HX : RowKit.Hid (∃ (k' : Nat) (F' : List QR) (hp' hq' : QH), k' ≤ n ∧ Value.int .i64 ((k : Int) + 1) = .int .i64 k' ∧ Q3 W0 w5 b1 hp' [] b2 hq' [] mb F' ∧ FK ks k' F') := Lib.hid ⟨k + 1, _, hp, hq, by omega, by go_num, HQ.out.map HT5.out ⟨F.length + 1, _, by omega, r2, hpf⟩, HFK2.out⟩
        clear hnn hD hP hD2 hh r2 r3 hel hnk hpf HD2
        go_wp2_with (refine HAT.out.mono ?_; rintro e w4 ⟨rfl, rfl⟩)
        go_roundw
        · exact HX.out
        · simp only [intOf]; omega
theorem dueOrder_holds : Rows.DueOrderSaid := by
  refine dueOrder.said fun H enc W base v0 v1 v2 d0 d1 d2 p0 p1 p2 h0 h1 h2 => ?_
  obtain ⟨a, ck, ks, rfl, hr, hok⟩ := h0.keysQ
  obtain ⟨a2, ct, ts, rfl, hr2, _⟩ := h1.timesQ
  obtain ⟨x, rfl, _⟩ := h2.i64 Try.underlying3
  exact order_walk W a a2 ck ct ks ts hr hr2 hok x
end Go.Proofs.Ytdjkjdeaglimeaa
