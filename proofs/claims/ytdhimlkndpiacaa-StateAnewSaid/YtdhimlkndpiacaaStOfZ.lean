/- The state that a view is of. -/
import Derived.Test.YtdhimlkndpiacaaStRecZ
set_option linter.unusedVariables false
set_option linter.unusedSimpArgs false
namespace Go.Proofs.Ytdhimlkndpiacaa
open Go.RowKit

theorem enter_viewF (a : Value) (w : World) : (callFunc 9 #[a]).run Try.prog w = .ok (.enter 9 #[a]) w := by kernel_rfl
theorem enter_sameF (a b : Value) (w : World) : (callFunc 17 #[a, b]).run Try.prog w = .ok (.enter 17 #[a, b]) w := by kernel_rfl
theorem infoVF (x : StS) (a1 : Option Addr) (c1 : Nat) (a2 : Option Addr) (c2 : Nat) (a3 : Option Addr) (c3 : Nat) : (Try.prog.info? 36).map (·.size) = some (vcs x a1 c1 a2 c2 a3 c3).size := infoSt4
/-- What Of tells. -/
def OfIs (w w' : World) (x : StS) (p : Int × StS) (e : Ending) : Prop :=
  (p.1 ≠ 0 → e = .returned (.tuple #[.pointer none, .int .i64 p.1]) ∧ Touch w w' (fun _ => False)) ∧
  (p.1 = 0 → same14 (vwS p.2) x = false → e = .returned (.tuple #[.pointer none, .int .i64 1]) ∧ Touch w w' (fun _ => False)) ∧
  (p.1 = 0 → same14 (vwS p.2) x = true → ∃ b h, e = .returned (.tuple #[.pointer (some ⟨b, 0, none⟩), .int .i64 0]) ∧ StN w w' b h p.2)
theorem recsV_bs {W : World} {x : StS} {a : Option Addr} {c : Nat} (h : RowK W a x.bs.length c x.bs) (hl : x.bs.length ≤ 100000) : ∀ y ∈ recsV x a c, RowK W y.a y.r.bs.length y.c y.r.bs ∧ y.r.bs.length ≤ 100000 := by
  intro y hy
  unfold recsV at hy
  rcases List.mem_cons.1 hy with rfl | hy
  · exact ⟨h, hl⟩
  · rcases List.mem_append.1 hy with hy | hy
    · obtain ⟨d, _, rfl⟩ := List.mem_map.1 hy
      exact ⟨RowS.nil W none 0 3 (by decide), Nat.zero_le _⟩
    · obtain ⟨f, _, rfl⟩ := List.mem_map.1 hy
      exact ⟨RowS.nil W none 0 3 (by decide), Nat.zero_le _⟩
theorem ofR_drop {l : List RecB} {k : Nat} (hk : k < l.length) (s : StS) : ofR (l.drop k) s = if stE s (grb l k).r = 0 then ofR (l.drop (k + 1)) (stS s (grb l k).r) else (stE s (grb l k).r, s) := by
  rw [List.drop_eq_getElem_cons hk, ofR_cons, grb_get l k hk]
theorem i64_cnt {n : Int} (h : cntB n = true) : i64 n := by have := (cntB_iff n).1 h; unfold i64; omega
theorem i64_id {n : Int} (h : idB n = true) : i64 n := by have := (idB_iff n).1 h; unfold i64; omega
theorem i64_tim {n : Int} (h : timB n = true) : i64 n := by have := (timB_iff n).1 h; unfold i64; omega
theorem i64_z14 : i64 0 := by unfold i64; decide
theorem i64_k14 (n : Nat) (h : n ≤ 9) : i64 (n : Int) := by unfold i64; omega
theorem tupOk_0 : TupOk noT := by constructor <;> simp only [noT, u32, i64] <;> decide
/-- What makes a state anew are records. -/
theorem recsV_ok {s : StS} (o : StOk s) (hb : ∀ b ∈ s.bs, BkOk b) (hf : ∀ f ∈ s.F, TupOk f.t) (a : Option Addr) (c : Nat) : ∀ y ∈ recsV (vwS s) a c, RecOk y.r := by
  intro y hy
  unfold recsV at hy
  rcases List.mem_cons.1 hy with rfl | hy
  · exact ⟨i64_k14 3 (by decide), tupOk_0, i64_z14, i64_z14, i64_z14, i64_cnt o.gen, hb, i64_z14, i64_z14, i64_z14⟩
  · rcases List.mem_append.1 hy with hy | hy
    · obtain ⟨d, hd, rfl⟩ := List.mem_map.1 hy
      have h1 := o.dk d ((srtD_perm s.D).mem_iff.1 hd)
      unfold mayDr at h1
      rw [Bool.and_eq_true] at h1
      exact ⟨i64_k14 4 (by decide), tupOk_0, i64_z14, i64_z14, i64_z14, i64_z14, (fun b hb => by cases hb), i64_id h1.1, i64_tim h1.2, i64_z14⟩
    · obtain ⟨f, hf', rfl⟩ := List.mem_map.1 hy
      have hm := (srtF_perm s.F).mem_iff.1 hf'
      have h1 := o.fk f hm
      unfold mayFl at h1
      simp only [Bool.and_eq_true] at h1
      exact ⟨i64_k14 1 (by decide), hf f hm, i64_id h1.1.1.2, i64_cnt h1.1.2, i64_tim h1.2, i64_z14, (fun b hb => by cases hb), i64_z14, i64_z14, i64_z14⟩
theorem bsOk_step {s : StS} (o : ∀ b ∈ s.bs, BkOk b) {r : RecD} (ok : RecOk r) : ∀ b ∈ (stS s r).bs, BkOk b := by
  unfold stS
  by_cases h0 : stE s r = 0
  case neg => rw [if_neg h0]; exact o
  rw [if_pos h0]
  unfold stDo
  by_cases h1 : r.kind = 1
  · rw [if_pos h1]; exact o
  rw [if_neg h1]
  by_cases h2 : r.kind = 2
  · rw [if_pos h2]; exact o
  rw [if_neg h2]
  by_cases h3 : r.kind = 3
  · rw [if_pos h3]; exact ok.bs
  rw [if_neg h3]
  by_cases h4 : r.kind = 4
  · rw [if_pos h4]; exact o
  rw [if_neg h4]
  by_cases h5 : r.kind = 5
  · rw [if_pos h5]; exact o
  rw [if_neg h5]; exact o
set_option maxRecDepth 20000 in
set_option maxHeartbeats 8000000 in
theorem stof_any (w : World) (x : StS) (a1 : Option Addr) (c1 : Nat) (a2 : Option Addr) (c2 : Nat) (a3 : Option Addr) (c3 : Nat) (hx : VwAt w x a1 c1 a2 c2 a3 c3) (hD : x.D.length ≤ 100000) (hF : x.F.length ≤ 100000) (hb : x.bs.length ≤ 100000) (hok : ∀ y ∈ recsV x a1 c1, RecOk y.r) :
    Calls Try.prog 18 #[.agg (vcs x a1 c1 a2 c2 a3 c3)] w fun e w' => OfIs w w' x (ofR (recsV x a1 c1) stZ) e := by
  obtain ⟨W1, hW1⟩ : ∃ W, w.alloc (.cells (vcs x a1 c1 a2 c2 a3 c3) 36) = W := ⟨_, rfl⟩
  have t1 : Touch w W1 (fun _ => False) := hW1 ▸ (Touch.refl w _).alloc _
  have g1 : W1.heap[w.heap.size]? = some (.cells (vcs x a1 c1 a2 c2 a3 c3) 36 (0, 0)) := hW1 ▸ heap_alloc_new ..
  obtain ⟨K1, hK1⟩ : ∃ K, w.heap.size = K := ⟨_, rfl⟩
  rw [hK1] at g1
  have HX := Lib.hid hx
  have HT1 := Lib.hid t1
  have HG0 := Lib.hid g1
  have HW1 := Lib.hid (And.intro hW1 hK1)
  have HB := Lib.hid (And.intro hD (And.intro hF hb))
  have HOK := Lib.hid hok
  obtain ⟨l, hl⟩ : ∃ l, recsV x a1 c1 = l := ⟨_, rfl⟩
  obtain ⟨p, hp⟩ : ∃ p, ofR l stZ = p := ⟨_, rfl⟩
  obtain ⟨n, hn⟩ : ∃ n, 1 + x.D.length + x.F.length = n := ⟨_, rfl⟩
  have HLN : RowKit.Hid (l.length = n) := Lib.hid (by rw [← hl, ← hn]; exact recsV_len _ _ _)
  have HLL := Lib.hid hl
  have HPP := Lib.hid hp
  have HNN := Lib.hid hn
  rw [hl, hp]
  clear t1 g1 hW1 hK1 hx hD hF hb hok hl hp hn
  go_enter Try.func18, Try.ntmps18
  go_upto_region 1 with (fail)
  rw [HW1.out.1, HW1.out.2]
  go_wp2_with fail
  refine (stnew_any W1).mono ?_
  rintro e w2 ⟨b, h, rfl, n2⟩
  have HN2 := Lib.hid n2
  have HG1 : RowKit.Hid (∀ W, Touch W1 W (fun _ => False) → W.heap[K1]? = some (.cells (vcs x a1 c1 a2 c2 a3 c3) 36 (0, 0))) := Lib.hid (fun W t => t.keeps HG0.out (fun h => h))
  have HR := Lib.hid (records_any w2 x a1 c1 a2 c2 a3 c3 (HX.out.still (HT1.out.trans n2.t (fun _ _ h => h))) HB.out.1 HB.out.2.1)
  rw [HNN.out] at HR
  obtain ⟨v0, v1, v2, v3⟩ : w2.cell? ⟨K1, 0, none⟩ = some (.int .i64 x.gen) ∧ w2.cell? ⟨K1, 1, none⟩ = some (.slice a1 x.bs.length c1) ∧ w2.cell? ⟨K1, 2, none⟩ = some (.slice a2 x.D.length c2) ∧ w2.cell? ⟨K1, 3, none⟩ = some (.slice a3 x.F.length c3) := by
    have g := HG1.out w2 n2.t
    exact ⟨cell_of_cells g 0, cell_of_cells g 1, cell_of_cells g 2, cell_of_cells g 3⟩
  simp only [vcs] at HR
  clear n2
  go_wp2_with fail
  (with_reducible refine HR.out.mono ?_)
  rintro e w3 ⟨ar, cr, rfl, o3, t3⟩
  rw [HLL.out] at o3
  have HRW : RowKit.Hid (∀ W, Touch w3 W (footS b h) → RowRB W ar n cr l) := Lib.hid (fun W t => (o3.row'.2.1).touch t (fun y hy => .inr (fun hs => by have h1 := (o3.row'.2.2 y hy).1; have h2 := HN2.out.m.lt _ hs; omega)))
  have HT3 := Lib.hid t3
  have HN3 := Lib.hid (HN2.out.still t3)
  clear o3 t3 v0 v1 v2 v3
  go_wp2_with fail
  go_loopw [12] (fun s12 wr => ∃ (k : Nat) (hk : StH) (s : StS), k ≤ n ∧ s12 = .int .i64 k ∧ StN W1 wr b hk s ∧ hk.dm = h.dm ∧ hk.fm = h.fm ∧ Touch w3 wr (footS b h) ∧ ofR (l.drop k) s = p) (fun s12 _ => n - (RowKit.intOf s12).toNat)
  case atStart => exact ⟨0, h, stZ, Nat.zero_le _, rfl, HN3.out, rfl, rfl, Touch.refl _ _, HPP.out⟩
  case round =>
    obtain ⟨k, hk, s, hkn, rfl, hq, e1, e2, ht, ho⟩ := hrel
    have HQ := Lib.hid hq
    have HE := Lib.hid (And.intro e1 e2)
    have HTR := Lib.hid ht
    have HO := Lib.hid ho
    clear hq e1 e2 ht ho HN3
    have HFW : RowKit.Hid (∀ W, Touch W1 W (fun _ => False) → Touch w W (fun _ => False)) := Lib.hid (fun W t => HT1.out.trans t (fun _ _ h => h))
    by_cases hlt : k < n
    case pos =>
      have HRX := Lib.hid (HRW.out _ HTR.out)
      have hcap := HRX.out.hcap
      have hmax := HRX.out.hmax
      obtain ⟨gr, off, rfl⟩ := HRX.out.some (by omega)
      have hkL : k < l.length := by have := HLN.out; omega
      obtain ⟨d0, d1, d2, d3, d4, d5, d6, d7, d8, d9, d10, d11, d12, d13⟩ := recB_cells HRX.out k hkL
      have hmem : grb l k ∈ recsV x a1 c1 := by rw [HLL.out]; exact grb_mem l k hkL
      have HYO := Lib.hid (HOK.out _ hmem)
      have HYB := Lib.hid (recsV_bs (HX.out.still (HFW.out _ HQ.out.t)).b HB.out.2.2 _ hmem)
      have HDR := Lib.hid (ofR_drop hkL s)
      rw [HO.out] at HDR
      obtain ⟨y, hy⟩ : ∃ y, grb l k = y := ⟨_, rfl⟩
      rw [hy] at d0 d1 d2 d3 d4 d5 d6 d7 d8 d9 d10 d11 d12 d13 HYO HYB HDR
      clear hy hmem
      obtain ⟨w6, hw6⟩ : ∃ W, wr.alloc (.cells (rcs y.r y.a y.c) 29) = W := ⟨_, rfl⟩
      have t6 : Touch wr w6 (fun _ => False) := hw6 ▸ (Touch.refl wr _).alloc _
      have g6 : w6.heap[wr.heap.size]? = some (.cells (rcs y.r y.a y.c) 29 (0, 0)) := hw6 ▸ heap_alloc_new ..
      have hlI : (k : Int) < n := by omega
      have HQ6 := Lib.hid (HQ.out.still t6)
      have HT6 := Lib.hid (HTR.out.trans t6 (fun _ _ h => h.elim))
      obtain ⟨K7, hK7⟩ : ∃ K, wr.heap.size = K := ⟨_, rfl⟩
      rw [hK7] at g6
      have HW6 := Lib.hid (And.intro hw6 hK7)
      have HAP := Lib.hid (stapply_any w6 b hk s HQ6.out.m y.r y.a y.c (HYB.out.1.still t6) HYB.out.2 HYO.out)
      obtain ⟨y0, y1, y2, y3, y4, y5, y6, y7, y8, y9, y10, y11, y12, y13⟩ := rcells_of g6
      simp only [rcs] at HW6 HAP
      clear t6 g6 hw6 hK7 hkL
      go_upto_region 5 with (fail)
      rw [HW6.out.1, HW6.out.2]
      clear d0 d1 d2 d3 d4 d5 d6 d7 d8 d9 d10 d11 d12 d13
      by_cases hz : stE s y.r = 0
      case neg =>
        have hz' : (stE s y.r == 0) = false := by simpa using hz
        have hpE := HDR.out
        rw [if_neg hz] at hpE
        rw [stS_bad hz] at HAP
        have HPE := Lib.hid hpE
        have HZ := Lib.hid hz
        clear hpE hz
        go_wp2_with fail
        (with_reducible refine HAP.out.mono ?_)
        rintro e w7 ⟨rfl, s7⟩
        obtain ⟨h7, n7, -, -⟩ := HQ6.out.step s7
        have HT7 := Lib.hid (HFW.out _ n7.t)
        clear s7 n7 y0 y1 y2 y3 y4 y5 y6 y7 y8 y9 y10 y11 y12 y13
        go_wp2_with fail
        go_ret2
        rw [HPE.out]
        exact ⟨fun _ => ⟨rfl, HT7.out⟩, fun h => absurd h HZ.out, fun h => absurd h HZ.out⟩
      case pos =>
        have hpE := HDR.out
        rw [if_pos hz] at hpE
        rw [hz] at HAP
        have HPE := Lib.hid hpE
        clear hpE hz
        go_wp2_with fail
        (with_reducible refine HAP.out.mono ?_)
        rintro e w7 ⟨rfl, s7⟩
        obtain ⟨h7, n7, f1, f2⟩ := HQ6.out.step s7
        have hfe : footS b hk = footS b h := by funext q; unfold footS; rw [HE.out.1, HE.out.2]
        have t7 := s7.touch
        rw [hfe] at t7
        have HX' : RowKit.Hid (∃ (k' : Nat) (hk : StH) (s : StS), k' ≤ n ∧ Value.int .i64 ((k : Int) + 1) = .int .i64 k' ∧ StN W1 w7 b hk s ∧ hk.dm = h.dm ∧ hk.fm = h.fm ∧ Touch w3 w7 (footS b h) ∧ ofR (l.drop k') s = p) := Lib.hid ⟨k + 1, h7, stS s y.r, by omega, by go_num, n7, f1.trans HE.out.1, f2.trans HE.out.2, HT6.out.trans t7 (fun _ _ h => h), HPE.out.symm⟩
        clear s7 n7 f1 f2 hfe t7 y0 y1 y2 y3 y4 y5 y6 y7 y8 y9 y10 y11 y12 y13
        go_wp2_with fail
        go_roundw
        · exact HX'.out
        · simp only [RowKit.intOf]; omega
    case neg =>
      obtain rfl : n = k := by omega
      have hlI : ¬ (n : Int) < n := by omega
      have hp : p = (0, s) := by
        have := HO.out
        rw [List.drop_of_length_le (by rw [HLN.out]; exact Nat.le_refl _)] at this
        exact this.symm
      subst hp
      have HVX : RowKit.Hid (∀ W, Touch wr W (fun _ => False) → VwAt W x a1 c1 a2 c2 a3 c3) := Lib.hid (fun W t => HX.out.still (HFW.out _ (HQ.out.t.trans t (fun _ _ h => h))))
      have HGR : RowKit.Hid (∀ W, Touch wr W (fun _ => False) → W.heap[K1]? = some (.cells (vcs x a1 c1 a2 c2 a3 c3) 36 (0, 0))) := Lib.hid (fun W t => HG1.out _ (HQ.out.t.trans t (fun _ _ h => h)))
      obtain ⟨B, hB⟩ : ∃ B, same14 (vwS s) x = B := ⟨_, rfl⟩
      have HBB := Lib.hid hB
      clear hkn hlt hB
      go_upto_region 9 with (fail)
      clear hlI
      have hS := (Touch.refl wr (fun _ => False)).drew
      refine wp_region_sched (fun w' => Touch wr w' (fun _ => False)) [(0, true), (2, true), (1, false), (3, false), (4, true)] (by kernel_rfl) (by kernel_rfl) rfl (by kernel_rfl) hS ?_
      (refine walkS_take (v := ?_) (some 23) rfl rfl (fun _ _ _ h => h) (by rfl) ?_ ?_; rotate_left; (focus (intro w' hw'; go_simp; (try with_reducible rfl))); (try simp only [Act.put, List.setIfInBounds_toArray, List.set_cons_zero, List.set_cons_succ]))
      (refine walkS_row (some 25) rfl rfl 36 (.tmp 1) rfl (K1) rfl _ _ _ _ (fun w' h => HGR.out _ h) Try.underlying36 rfl (infoVF _ _ _ _ _ _ _) (fun _ _ _ h => h) (by rfl) ?_; (try simp only [Act.put, List.setIfInBounds_toArray, List.set_cons_zero, List.set_cons_succ]))
      (refine walkS_call 24 _ _ _ _ (stvw_any _ b hk s (HQ.out.m.still hS)) rfl rfl rfl (by rfl) rfl (enter_viewF _ _) ?_; rintro e w' ⟨f1, g1, f2, g2, f3, g3, rfl, ⟨va, -⟩, t9⟩; have HSM := Lib.hid (same14_any w' _ _ _ _ _ _ _ _ _ _ _ _ _ _ va (HVX.out _ (hS.trans t9 (fun _ _ h => h)))); rw [HBB.out] at HSM; have hS := hS.trans t9 (fun _ _ h => h); clear va t9; refine ⟨_, rfl, hS, fun hS => ?_⟩; (try simp only [Act.put, List.setIfInBounds_toArray, List.set_cons_zero, List.set_cons_succ]))
      (refine walkS_call 26 _ _ _ _ (HSM.out) rfl rfl rfl (by rfl) rfl (enter_sameF _ _ _) ?_; rintro e w' ⟨rfl, t⟩; have hS := hS.trans t (fun _ _ h => h); clear t; refine ⟨_, rfl, hS, fun hS => ?_⟩; (try simp only [Act.put, List.setIfInBounds_toArray, List.set_cons_zero, List.set_cons_succ]))
      (refine walkS_take (v := ?_) (some 27) rfl rfl (fun _ _ _ h => h) (by rfl) ?_ ?_; rotate_left; (focus (intro w' hw'; go_simp; (try with_reducible rfl))); (try simp only [Act.put, List.setIfInBounds_toArray, List.set_cons_zero, List.set_cons_succ]))
      refine walkS_done ?_
      have HTW := Lib.hid (HFW.out _ (HQ.out.t.trans hS (fun _ _ h => h)))
      have HNS := Lib.hid (HQ.out.still hS)
      have HSZ := Lib.hid HT1.out.size
      clear hS
      cases B
      case false =>
        go_wp2_with fail
        go_ret2
        exact ⟨fun h => absurd rfl h, fun _ _ => ⟨rfl, HTW.out⟩, fun _ h => absurd (HBB.out.symm.trans h : false = true) Bool.noConfusion⟩
      case true =>
        go_wp2_with fail
        go_ret2
        exact ⟨fun h => absurd rfl h, fun _ h => absurd (HBB.out.symm.trans h : true = false) Bool.noConfusion, fun _ _ => ⟨b, hk, rfl, ⟨HNS.out.m, HTW.out, fun q hq => Nat.le_trans HSZ.out (HNS.out.f q hq)⟩⟩⟩
end Go.Proofs.Ytdhimlkndpiacaa
