/- RecordForms answers true for any two records, any number: may it be, plain, as it is read, the same as another, all as the reference says. No condition. -/
import Derived.Test.YtbklngcocbnijaaRecLaw
import Derived.Test.YtbklngcocbnijaaStepB
import Derived.Deep.RegionLaw
import Derived.Deep.RegionHeld3
import Derived.Test.YtbklngcocbnijaaRecRIn
import Derived.Test.YtbklngcocbnijaaRMig
import Derived.Test.YtbklngcocbnijaaRecRSame
import Derived.Test.YtbklngcocbnijaaFrRecordForms
set_option linter.unusedVariables false
set_option linter.unusedSimpArgs false
namespace Go.Proofs.Ytbklngcocbnijaa
open Go.RowKit

/-- Behind both Plain. -/
def FormsAt (w W1 : World) (r : RecD) (a : Option Addr) (cap : Nat) (s : RecD) (a2 : Option Addr) (cap2 : Nat) (p : RecD) (x y : Value) (wx : World) : Prop :=
  ∃ g1 g2 b1 c1 b2 c2, x = .pointer (some ⟨g1, 0, none⟩) ∧ y = .pointer (some ⟨g2, 0, none⟩) ∧ wx.heap[g1]? = some (.cells (rcs p b1 c1) 29 (0, 0)) ∧ wx.heap[g2]? = some (.cells (rcs p b2 c2) 29 (0, 0)) ∧ RowK wx b1 p.bs.length c1 p.bs ∧ RowK wx b2 p.bs.length c2 p.bs ∧
  wx.heap[w.heap.size]? = some (.cells (rcs r a cap) 29 (0, 0)) ∧ wx.heap[W1.heap.size]? = some (.cells (rcs s a2 cap2) 29 (0, 0)) ∧ RowK wx a r.bs.length cap r.bs ∧ RowK wx a2 s.bs.length cap2 s.bs ∧ Touch w wx (fun _ => False)
theorem inD_less (r : RecD) (f : Int) : (inD r f).bs.length ≤ r.bs.length := by
  have hp : (plainD r).bs.length ≤ r.bs.length := by
    unfold plainD
    repeat' split
    all_goals simp
  unfold inD
  split
  · simp only
    split
    · simpa using hp
    · exact hp
  · simp [zeroR]
theorem sameK_refl (bs : List BkD) : sameK bs bs = true := decide_eq_true rfl

set_option maxRecDepth 20000 in
set_option maxHeartbeats 8000000 in
theorem forms_walk (r : RecD) (a : Option Addr) (cap : Nat) (s : RecD) (a2 : Option Addr) (cap2 : Nat) (v : Int) (w : World) (hr : RowK w a r.bs.length cap r.bs) (hr2 : RowK w a2 s.bs.length cap2 s.bs) :
    Calls Try.prog 3 #[.agg (rcs r a cap), .agg (rcs s a2 cap2), .int .i64 v] w fun e w' => e = .returned (.bool true) ∧ Touch w w' (fun _ => False) := by
  obtain ⟨W1, hW1⟩ : ∃ W, w.alloc (.cells (rcs r a cap) 29) = W := ⟨_, rfl⟩
  obtain ⟨W2, hW2⟩ : ∃ W, W1.alloc (.cells (rcs s a2 cap2) 29) = W := ⟨_, rfl⟩
  have t1 : Touch w W1 (fun _ => False) := hW1 ▸ (Touch.refl _ _).alloc _
  have t2 : Touch W1 W2 (fun _ => False) := hW2 ▸ (Touch.refl _ _).alloc _
  have HB1 : RowKit.Hid (W2.heap[w.heap.size]? = some (.cells (rcs r a cap) 29 (0, 0))) := Lib.hid (t2.keeps (hW1 ▸ heap_alloc_new w _) (fun h => h))
  have HB2 : RowKit.Hid (W2.heap[W1.heap.size]? = some (.cells (rcs s a2 cap2) 29 (0, 0))) := Lib.hid (hW2 ▸ heap_alloc_new W1 _)
  have HR1 := Lib.hid ((hr.still t1).still t2)
  have HR2 := Lib.hid ((hr2.still t1).still t2)
  have HT := Lib.hid (t1.trans t2 (fun _ _ h => h))
  have HIR := Lib.hid infoRec
  have HL1 : RowKit.Hid (∀ W, Calls Try.prog 13 #[.agg (rcs r a cap)] W fun e w' => e = .returned (.bool (lightB r)) ∧ Touch W w' (fun _ => False)) := Lib.hid (fun W => light_any r a cap W)
  have HL2 : RowKit.Hid (∀ W, Calls Try.prog 13 #[.agg (rcs s a2 cap2)] W fun e w' => e = .returned (.bool (lightB s)) ∧ Touch W w' (fun _ => False)) := Lib.hid (fun W => light_any s a2 cap2 W)
  have HB40 : RowKit.Hid (lightB r = true → r.bs.length ≤ 100000) := Lib.hid (fun h => by have : r.bs.length ≤ 40 := of_decide_eq_true h; omega)
  have HB41 : RowKit.Hid (lightB s = true → s.bs.length ≤ 100000) := Lib.hid (fun h => by have : s.bs.length ≤ 40 := of_decide_eq_true h; omega)
  generalize hlb1 : lightB r = LB1 at *
  generalize hlb2 : lightB s = LB2 at *
  clear hr hr2 t1 t2 hlb1 hlb2
  simp only [rcs] at hW1 hW2
  simp only [rcs]
  cases LB1 with
  | false =>
    go_enter Try.func3, Try.ntmps3
    go_wp2_with (first
    | (refine load_rowG rfl 29 (.tmp 3) rfl w.heap.size rfl _ _ _ _ HB1.out Try.underlying29 rfl HIR.out ?_)
    | (refine load_rowG rfl 29 (.tmp 4) rfl W1.heap.size rfl _ _ _ _ HB2.out Try.underlying29 rfl HIR.out ?_)
    | (go_at_call 13; first | ((with_reducible refine (HL1.out _).mono ?_); rintro e w8 ⟨rfl, t9⟩; have HB1 := Lib.hid (t9.keeps HB1.out (fun h => h)); have HB2 := Lib.hid (t9.keeps HB2.out (fun h => h)); have HR1 := Lib.hid (HR1.out.still t9); have HR2 := Lib.hid (HR2.out.still t9); have HT := Lib.hid (HT.out.trans t9 (fun _ _ h => h)); clear t9) | ((with_reducible refine (HL2.out _).mono ?_); rintro e w8 ⟨rfl, t9⟩; have HB1 := Lib.hid (t9.keeps HB1.out (fun h => h)); have HB2 := Lib.hid (t9.keeps HB2.out (fun h => h)); have HR1 := Lib.hid (HR1.out.still t9); have HR2 := Lib.hid (HR2.out.still t9); have HT := Lib.hid (HT.out.trans t9 (fun _ _ h => h)); clear t9))
    | (go_at_call 14; (with_reducible refine (awake8 _).mono ?_); rintro e w8 ⟨rfl, t9⟩; have HT := Lib.hid (HT.out.trans t9 (fun _ _ h => h)); clear t9))
    go_ret
    exact ⟨rfl, HT.out⟩
  | true =>
  cases LB2 with
  | false =>
    go_enter Try.func3, Try.ntmps3
    go_wp2_with (first
    | (refine load_rowG rfl 29 (.tmp 3) rfl w.heap.size rfl _ _ _ _ HB1.out Try.underlying29 rfl HIR.out ?_)
    | (refine load_rowG rfl 29 (.tmp 4) rfl W1.heap.size rfl _ _ _ _ HB2.out Try.underlying29 rfl HIR.out ?_)
    | (go_at_call 13; first | ((with_reducible refine (HL1.out _).mono ?_); rintro e w8 ⟨rfl, t9⟩; have HB1 := Lib.hid (t9.keeps HB1.out (fun h => h)); have HB2 := Lib.hid (t9.keeps HB2.out (fun h => h)); have HR1 := Lib.hid (HR1.out.still t9); have HR2 := Lib.hid (HR2.out.still t9); have HT := Lib.hid (HT.out.trans t9 (fun _ _ h => h)); clear t9) | ((with_reducible refine (HL2.out _).mono ?_); rintro e w8 ⟨rfl, t9⟩; have HB1 := Lib.hid (t9.keeps HB1.out (fun h => h)); have HB2 := Lib.hid (t9.keeps HB2.out (fun h => h)); have HR1 := Lib.hid (HR1.out.still t9); have HR2 := Lib.hid (HR2.out.still t9); have HT := Lib.hid (HT.out.trans t9 (fun _ _ h => h)); clear t9))
    | (go_at_call 14; (with_reducible refine (awake8 _).mono ?_); rintro e w8 ⟨rfl, t9⟩; have HT := Lib.hid (HT.out.trans t9 (fun _ _ h => h)); clear t9))
    go_ret
    exact ⟨rfl, HT.out⟩
  | true =>
  have hl1 := HB40.out rfl
  have hl2 := HB41.out rfl
  obtain ⟨p, hp⟩ : ∃ p, plainD r = p := ⟨_, rfl⟩
  have HC1 : RowKit.Hid (∀ wx, RowK wx a r.bs.length cap r.bs → Calls Try.prog 15 #[.agg (rcs r a cap)] wx fun e w' => RecIs wx w' p e) := Lib.hid (fun wx h => hp ▸ plain_any r a cap wx h hl1)
  have HC2 : RowKit.Hid (∀ wx, RowK wx a r.bs.length cap r.bs → Calls Try.prog 16 #[.agg (rcs r a cap)] wx fun e w' => RecIs wx w' p e) := Lib.hid (fun wx h => hp ▸ rplain_any r a cap wx h hl1)
  clear hp
  go_enter Try.func3, Try.ntmps3
  go_upto_region 3 with (first
    | (refine load_rowG rfl 29 (.tmp 3) rfl w.heap.size rfl _ _ _ _ HB1.out Try.underlying29 rfl HIR.out ?_)
    | (refine load_rowG rfl 29 (.tmp 4) rfl W1.heap.size rfl _ _ _ _ HB2.out Try.underlying29 rfl HIR.out ?_)
    | (go_at_call 13; first | ((with_reducible refine (HL1.out _).mono ?_); rintro e w8 ⟨rfl, t9⟩; have HB1 := Lib.hid (t9.keeps HB1.out (fun h => h)); have HB2 := Lib.hid (t9.keeps HB2.out (fun h => h)); have HR1 := Lib.hid (HR1.out.still t9); have HR2 := Lib.hid (HR2.out.still t9); have HT := Lib.hid (HT.out.trans t9 (fun _ _ h => h)); clear t9) | ((with_reducible refine (HL2.out _).mono ?_); rintro e w8 ⟨rfl, t9⟩; have HB1 := Lib.hid (t9.keeps HB1.out (fun h => h)); have HB2 := Lib.hid (t9.keeps HB2.out (fun h => h)); have HR1 := Lib.hid (HR1.out.still t9); have HR2 := Lib.hid (HR2.out.still t9); have HT := Lib.hid (HT.out.trans t9 (fun _ _ h => h)); clear t9))
    | (go_at_call 14; (with_reducible refine (awake8 _).mono ?_); rintro e w8 ⟨rfl, t9⟩; have HT := Lib.hid (HT.out.trans t9 (fun _ _ h => h)); clear t9))
  go_cut [7, 8] (fun x y wx => FormsAt w W1 r a cap s a2 cap2 p x y wx)
  case first =>
    clear HL1 HL2 HB40 HB41
    refine wp_region_held_drew (S := fun w' => Touch w8 w' (fun _ => False)) (by kernel_rfl) (Touch.refl _ _).drew (fun hS => ?_)
    refine take_rowS (i := 0) (d := 18) rfl rfl (by kernel_rfl) (by kernel_rfl) (by kernel_rfl) 29 (.tmp 3) rfl rfl w.heap.size rfl _ _ _ _ (fun w' h => h.keeps HB1.out (fun h => h)) Try.underlying29 rfl HIR.out (fun _ _ _ h => h) hS ?_
    (try simp only [Act.put, List.setIfInBounds_toArray, List.set_cons_zero, List.set_cons_succ])
    refine take_rowS (i := 2) (d := 20) rfl rfl (by kernel_rfl) (by kernel_rfl) (by kernel_rfl) 29 (.tmp 3) rfl rfl w.heap.size rfl _ _ _ _ (fun w' h => h.keeps HB1.out (fun h => h)) Try.underlying29 rfl HIR.out (fun _ _ _ h => h) hS ?_
    (try simp only [Act.put, List.setIfInBounds_toArray, List.set_cons_zero, List.set_cons_succ])
    repeat' (first
    | with_reducible exact AllReadyH.nil
    | ((with_reducible show AllReadyH _ _ _ _ _ _ _ _ _ _); refine AllReadyH.cons rfl (fun K hK => ?_) ?_)
    | ((with_reducible refine step_allocS (d := 7) ?_ ?_ ?_ ?_); exact rfl; exact rfl; exact rfl; intro w9 g1 hz hlo1 hhi1 t9; have hge1 := Nat.le_trans hS.size hlo1; (try have HG1 := Lib.hid (t9.keeps HG1.out (fun h => h))); (try have HG2 := Lib.hid (t9.keeps HG2.out (fun h => h))); (try have HX1 := Lib.hid (HX1.out.still t9)); (try have HX2 := Lib.hid (HX2.out.still t9)); have hsz := t9.size; have HG1 := Lib.hid hz; refine hK.out _ _ (hS.trans t9 (fun _ _ h => h)) (fun hS => ?_); clear hK K; (try simp only [Act.put, List.setIfInBounds_toArray, List.set_cons_zero, List.set_cons_succ]))
    | ((with_reducible refine step_allocS (d := 8) ?_ ?_ ?_ ?_); exact rfl; exact rfl; exact rfl; intro w9 g2 hz hlo2 hhi2 t9; have hge2 := Nat.le_trans hS.size hlo2; (try have HG1 := Lib.hid (t9.keeps HG1.out (fun h => h))); (try have HG2 := Lib.hid (t9.keeps HG2.out (fun h => h))); (try have HX1 := Lib.hid (HX1.out.still t9)); (try have HX2 := Lib.hid (HX2.out.still t9)); have hsz := t9.size; have HG2 := Lib.hid hz; refine hK.out _ _ (hS.trans t9 (fun _ _ h => h)) (fun hS => ?_); clear hK K; (try simp only [Act.put, List.setIfInBounds_toArray, List.set_cons_zero, List.set_cons_succ]))
    | ((with_reducible refine step_callS (d := 19) ?_ 15 (.tmp 18) #[29] ?_ ?_ (.agg (rcs r a cap)) ?_ (enter_plain _ _) _ (HC1.out _ (HR1.out.still hS)) ?_); exact rfl; exact rfl; exact rfl; exact rfl; rintro e w9 ⟨b1, c1, rfl, ho, t9⟩; refine ⟨_, rfl, ?_⟩; (try have HG1 := Lib.hid (t9.keeps HG1.out (fun h => h))); (try have HG2 := Lib.hid (t9.keeps HG2.out (fun h => h))); (try have HX1 := Lib.hid (HX1.out.still t9)); (try have HX2 := Lib.hid (HX2.out.still t9)); have hsz := t9.size; have HX1 := Lib.hid ho.row.2.1; have hx1 := ho.row.2.2; refine hK.out _ _ (hS.trans t9 (fun _ _ h => h)) (fun hS => ?_); clear hK K; (try simp only [Act.put, List.setIfInBounds_toArray, List.set_cons_zero, List.set_cons_succ]))
    | ((with_reducible refine step_callS (d := 21) ?_ 16 (.tmp 20) #[29] ?_ ?_ (.agg (rcs r a cap)) ?_ (enter_rplain _ _) _ (HC2.out _ (HR1.out.still hS)) ?_); exact rfl; exact rfl; exact rfl; exact rfl; rintro e w9 ⟨b2, c2, rfl, ho, t9⟩; refine ⟨_, rfl, ?_⟩; (try have HG1 := Lib.hid (t9.keeps HG1.out (fun h => h))); (try have HG2 := Lib.hid (t9.keeps HG2.out (fun h => h))); (try have HX1 := Lib.hid (HX1.out.still t9)); (try have HX2 := Lib.hid (HX2.out.still t9)); have hsz := t9.size; have HX2 := Lib.hid ho.row.2.1; have hx2 := ho.row.2.2; refine hK.out _ _ (hS.trans t9 (fun _ _ h => h)) (fun hS => ?_); clear hK K; (try simp only [Act.put, List.setIfInBounds_toArray, List.set_cons_zero, List.set_cons_succ]))
    | ((with_reducible refine step_storeS ?_ 29 (.tmp 7) (.tmp 19) ?_ ?_ g1 (rcs p b1 c1) ?_ ?_ 29 (rcs ⟨0, noT, 0, 0, 0, 0, [], 0, 0, 0⟩ none 0) ?_ ?_ ?_ ?_ ?_); exact rfl; exact rfl; exact rfl; exact rfl; exact rfl; exact HG1.out; exact HIR.out; exact rfl; exact rfl; intro w9 hz t9; have HG1 := Lib.hid hz; have HG2 := Lib.hid (t9.keeps HG2.out (fun e => by have e' : g2 = g1 := e; omega)); have HX1 := Lib.hid (HX1.out.touch t9 (fun x hx => Or.inr (fun e => by have := hx1 x hx; have e' : x.block = g1 := e; omega))); have HX2 := Lib.hid (HX2.out.touch t9 (fun x hx => Or.inr (fun e => by have := hx2 x hx; have e' : x.block = g1 := e; omega))); have hsz := t9.size; refine hK.out _ _ (hS.trans t9 (fun k hk e => by have e' : k = g1 := e; omega)) (fun hS => ?_); clear hK K; (try simp only [Act.put, List.setIfInBounds_toArray, List.set_cons_zero, List.set_cons_succ]))
    | ((with_reducible refine step_storeS ?_ 29 (.tmp 8) (.tmp 21) ?_ ?_ g2 (rcs p b2 c2) ?_ ?_ 29 (rcs ⟨0, noT, 0, 0, 0, 0, [], 0, 0, 0⟩ none 0) ?_ ?_ ?_ ?_ ?_); exact rfl; exact rfl; exact rfl; exact rfl; exact rfl; exact HG2.out; exact HIR.out; exact rfl; exact rfl; intro w9 hz t9; have HG2 := Lib.hid hz; have HG1 := Lib.hid (t9.keeps HG1.out (fun e => by have e' : g1 = g2 := e; omega)); have HX1 := Lib.hid (HX1.out.touch t9 (fun x hx => Or.inr (fun e => by have := hx1 x hx; have e' : x.block = g2 := e; omega))); have HX2 := Lib.hid (HX2.out.touch t9 (fun x hx => Or.inr (fun e => by have := hx2 x hx; have e' : x.block = g2 := e; omega))); have hsz := t9.size; refine hK.out _ _ (hS.trans t9 (fun k hk e => by have e' : k = g2 := e; omega)) (fun hS => ?_); clear hK K; (try simp only [Act.put, List.setIfInBounds_toArray, List.set_cons_zero, List.set_cons_succ]))
    | ((with_reducible show wpAnyH _ _ _ _ _ _ _ _ _); first
      | refine wpAnyH_ready (rs := [1, 4, 5]) (by decide +kernel) (by simp) ?_
      | refine wpAnyH_ready (rs := [3, 4, 5]) (by decide +kernel) (by simp) ?_
      | refine wpAnyH_ready (rs := [1, 5]) (by decide +kernel) (by simp) ?_
      | refine wpAnyH_ready (rs := [1, 4]) (by decide +kernel) (by simp) ?_
      | refine wpAnyH_ready (rs := [4, 5]) (by decide +kernel) (by simp) ?_
      | refine wpAnyH_ready (rs := [3, 5]) (by decide +kernel) (by simp) ?_
      | refine wpAnyH_ready (rs := [3, 4]) (by decide +kernel) (by simp) ?_
      | refine wpAnyH_ready (rs := [1]) (by decide +kernel) (by simp) ?_
      | refine wpAnyH_ready (rs := [5]) (by decide +kernel) (by simp) ?_
      | refine wpAnyH_ready (rs := [4]) (by decide +kernel) (by simp) ?_
      | refine wpAnyH_ready (rs := [3]) (by decide +kernel) (by simp) ?_
      | refine wpAnyH_ready (rs := [6]) (by decide +kernel) (by simp) ?_
      | refine wpAnyH_ready (rs := [7]) (by decide +kernel) (by simp) ?_
      | refine wpAnyH_done (by decide +kernel) ?_ _))
    all_goals (go_wp2_with fail; go_meet; exact ⟨g1, g2, b1, c1, b2, c2, rfl, rfl, HG1.out, HG2.out, HX1.out, HX2.out, hS.keeps HB1.out (fun h => h), hS.keeps HB2.out (fun h => h), HR1.out.still hS, HR2.out.still hS, HT.out.trans hS (fun _ _ h => h)⟩)
  case rest =>
  obtain ⟨g1, g2, b1, c1, b2, c2, rfl, rfl, hg1, hg2, hp1, hp2, hb1, hb2, hr1, hr2, ht⟩ := hcut
  clear HB1 HB2 HR1 HR2 HT HC1 HC2 HL1 HL2 HB40 HB41
  have HB1 := Lib.hid hb1
  have HB2 := Lib.hid hb2
  have HR1 := Lib.hid hr1
  have HR2 := Lib.hid hr2
  have HT := Lib.hid ht
  have KSB : RowKit.Hid (∀ W, RowK W b1 p.bs.length c1 p.bs → RowK W b2 p.bs.length c2 p.bs → Calls Try.prog 17 #[.slice b1 p.bs.length c1, .slice b2 p.bs.length c2] W fun e w' => e = .returned (.bool true) ∧ ∃ n, w' = W.drewN n) := Lib.hid (fun W h1 h2 => by have := rsameK_any b1 p.bs.length c1 p.bs b2 p.bs.length c2 p.bs W h1 h2; rwa [sameK_refl] at this)
  obtain ⟨M, hM⟩ : ∃ x, mayRB r = x := ⟨_, rfl⟩
  obtain ⟨SR, hSR⟩ : ∃ x, sameR r s = x := ⟨_, rfl⟩
  obtain ⟨z, hz⟩ : ∃ x, inD r v = x := ⟨_, rfl⟩
  have hzl : z.bs.length ≤ 100000 := by have := inD_less r v; rw [hz] at this; omega
  have KM : RowKit.Hid (∀ W, RowK W a r.bs.length cap r.bs → Calls Try.prog 18 #[.agg (rcs r a cap)] W fun e w' => e = .returned (.bool M) ∧ Touch W w' (fun _ => False)) := Lib.hid (fun W h => hM ▸ mayR_any r a cap W h)
  have KRM : RowKit.Hid (∀ W, RowK W a r.bs.length cap r.bs → Calls Try.prog 19 #[.agg (rcs r a cap)] W fun e w' => e = .returned (.bool M) ∧ Touch W w' (fun _ => False)) := Lib.hid (fun W h => hM ▸ rmay_any r a cap W h hl1)
  have KS : RowKit.Hid (∀ W, RowK W a r.bs.length cap r.bs → RowK W a2 s.bs.length cap2 s.bs → Calls Try.prog 20 #[.agg (rcs r a cap), .agg (rcs s a2 cap2)] W fun e w' => e = .returned (.bool SR) ∧ Touch W w' (fun _ => False)) := Lib.hid (fun W h1 h2 => hSR ▸ same_any r a cap s a2 cap2 W h1 hl1 h2 hl2)
  have KRS : RowKit.Hid (∀ W, RowK W a r.bs.length cap r.bs → RowK W a2 s.bs.length cap2 s.bs → Calls Try.prog 21 #[.agg (rcs r a cap), .agg (rcs s a2 cap2)] W fun e w' => e = .returned (.bool SR) ∧ Touch W w' (fun _ => False)) := Lib.hid (fun W h1 h2 => hSR ▸ rsame_any r a cap s a2 cap2 W h1 hl1 h2 hl2)
  have KI : RowKit.Hid (∀ W, RowK W a r.bs.length cap r.bs → Calls Try.prog 22 #[.agg (rcs r a cap), .int .i64 v] W fun e w' => RecIs W w' z e) := Lib.hid (fun W h => hz ▸ in_any r a cap v W h hl1)
  have KRI : RowKit.Hid (∀ W, RowK W a r.bs.length cap r.bs → Calls Try.prog 23 #[.agg (rcs r a cap), .int .i64 v] W fun e w' => RecIs W w' z e) := Lib.hid (fun W h => hz ▸ rin_any r a cap v W h hl1)
  have KSI : RowKit.Hid (∀ (a1 : Option Addr) (c1 : Nat) (a2 : Option Addr) (c2 : Nat) W, RowK W a1 z.bs.length c1 z.bs → RowK W a2 z.bs.length c2 z.bs → Calls Try.prog 21 #[.agg (rcs z a1 c1), .agg (rcs z a2 c2)] W fun e w' => e = .returned (.bool true) ∧ Touch W w' (fun _ => False)) := Lib.hid (fun a1 c1 a2 c2 W h1 h2 => by have := rsame_any z a1 c1 z a2 c2 W h1 hzl h2 hzl; rwa [(sameR_iff z z).2 rfl] at this)
  obtain ⟨k0, k1, k2, k3, k4, k5, k6, k7, k8, k9, k10, k11, k12, k13⟩ := rcells_of hg1
  obtain ⟨j0, j1, j2, j3, j4, j5, j6, j7, j8, j9, j10, j11, j12, j13⟩ := rcells_of hg2
  have HP := Lib.hid hp1
  have HQ := Lib.hid hp2
  clear hb1 hb2 hr1 hr2 ht hM hSR hz hzl hl1 hl2 hg1 hg2 hp1 hp2
  go_upto_region 6 with (go_at_call 17; (with_reducible refine (KSB.out _ HP.out HQ.out).mono ?_); rintro e w5 ⟨rfl, n5, hw5⟩; have t9 := (Touch.refl wc (fun _ => False)).drewN n5; rw [← hw5] at t9; (try have HB1 := Lib.hid (t9.keeps HB1.out (fun h => h))); (try have HB2 := Lib.hid (t9.keeps HB2.out (fun h => h))); (try have HR1 := Lib.hid (HR1.out.still t9)); (try have HR2 := Lib.hid (HR2.out.still t9)); (try have HI1 := Lib.hid (HI1.out.still t9)); (try have HI2 := Lib.hid (HI2.out.still t9)); have HT := Lib.hid (HT.out.trans t9 (fun _ _ h => h)); clear t9 hw5)
  have t9 := (Touch.refl w5 (fun _ => False)).drew
  (try have HB1 := Lib.hid (t9.keeps HB1.out (fun h => h))); (try have HB2 := Lib.hid (t9.keeps HB2.out (fun h => h))); (try have HR1 := Lib.hid (HR1.out.still t9)); (try have HR2 := Lib.hid (HR2.out.still t9)); (try have HI1 := Lib.hid (HI1.out.still t9)); (try have HI2 := Lib.hid (HI2.out.still t9)); have HT := Lib.hid (HT.out.trans t9 (fun _ _ h => h))
  clear t9 k0 k1 k2 k3 k4 k5 k6 k7 k8 k9 k10 k11 k12 k13 j0 j1 j2 j3 j4 j5 j6 j7 j8 j9 j10 j11 j12 j13
  simp only [rcs] at KM KRM KS KRS KI KRI
  go_region_held3 (fun w' => (w'.cell? ⟨w.heap.size, 0, none⟩ = some (.int .i64 r.kind) ∧ w'.cell? ⟨w.heap.size, 1, none⟩ = some (.int .u32 r.t.src) ∧ w'.cell? ⟨w.heap.size, 2, none⟩ = some (.int .u32 r.t.dst) ∧ w'.cell? ⟨w.heap.size, 3, none⟩ = some (.int .i64 r.t.proto) ∧ w'.cell? ⟨w.heap.size, 4, none⟩ = some (.int .i64 r.t.sport) ∧ w'.cell? ⟨w.heap.size, 5, none⟩ = some (.int .i64 r.t.dport) ∧ w'.cell? ⟨w.heap.size, 6, none⟩ = some (.int .i64 r.fb) ∧ w'.cell? ⟨w.heap.size, 7, none⟩ = some (.int .i64 r.fg) ∧ w'.cell? ⟨w.heap.size, 8, none⟩ = some (.int .i64 r.fs) ∧ w'.cell? ⟨w.heap.size, 9, none⟩ = some (.int .i64 r.gen) ∧ w'.cell? ⟨w.heap.size, 10, none⟩ = some (.slice a r.bs.length cap) ∧ w'.cell? ⟨w.heap.size, 11, none⟩ = some (.int .i64 r.be) ∧ w'.cell? ⟨w.heap.size, 12, none⟩ = some (.int .i64 r.un) ∧ w'.cell? ⟨w.heap.size, 13, none⟩ = some (.int .i64 r.ct)) ∧ (w'.cell? ⟨W1.heap.size, 0, none⟩ = some (.int .i64 s.kind) ∧ w'.cell? ⟨W1.heap.size, 1, none⟩ = some (.int .u32 s.t.src) ∧ w'.cell? ⟨W1.heap.size, 2, none⟩ = some (.int .u32 s.t.dst) ∧ w'.cell? ⟨W1.heap.size, 3, none⟩ = some (.int .i64 s.t.proto) ∧ w'.cell? ⟨W1.heap.size, 4, none⟩ = some (.int .i64 s.t.sport) ∧ w'.cell? ⟨W1.heap.size, 5, none⟩ = some (.int .i64 s.t.dport) ∧ w'.cell? ⟨W1.heap.size, 6, none⟩ = some (.int .i64 s.fb) ∧ w'.cell? ⟨W1.heap.size, 7, none⟩ = some (.int .i64 s.fg) ∧ w'.cell? ⟨W1.heap.size, 8, none⟩ = some (.int .i64 s.fs) ∧ w'.cell? ⟨W1.heap.size, 9, none⟩ = some (.int .i64 s.gen) ∧ w'.cell? ⟨W1.heap.size, 10, none⟩ = some (.slice a2 s.bs.length cap2) ∧ w'.cell? ⟨W1.heap.size, 11, none⟩ = some (.int .i64 s.be) ∧ w'.cell? ⟨W1.heap.size, 12, none⟩ = some (.int .i64 s.un) ∧ w'.cell? ⟨W1.heap.size, 13, none⟩ = some (.int .i64 s.ct)))
    (first | (with_reducible exact ⟨rcells_of HB1.out, rcells_of HB2.out⟩) | go_keep)
    (first
    | (go_at_call 18; (with_reducible refine (KM.out _ HR1.out).mono ?_); rintro e w20 ⟨rfl, t9⟩; (try have HB1 := Lib.hid (t9.keeps HB1.out (fun h => h))); (try have HB2 := Lib.hid (t9.keeps HB2.out (fun h => h))); (try have HR1 := Lib.hid (HR1.out.still t9)); (try have HR2 := Lib.hid (HR2.out.still t9)); (try have HI1 := Lib.hid (HI1.out.still t9)); (try have HI2 := Lib.hid (HI2.out.still t9)); have HT := Lib.hid (HT.out.trans t9 (fun _ _ h => h)); clear t9)
    | (go_at_call 19; (with_reducible refine (KRM.out _ HR1.out).mono ?_); rintro e w21 ⟨rfl, t9⟩; (try have HB1 := Lib.hid (t9.keeps HB1.out (fun h => h))); (try have HB2 := Lib.hid (t9.keeps HB2.out (fun h => h))); (try have HR1 := Lib.hid (HR1.out.still t9)); (try have HR2 := Lib.hid (HR2.out.still t9)); (try have HI1 := Lib.hid (HI1.out.still t9)); (try have HI2 := Lib.hid (HI2.out.still t9)); have HT := Lib.hid (HT.out.trans t9 (fun _ _ h => h)); clear t9)
    | (go_at_call 20; (with_reducible refine (KS.out _ HR1.out HR2.out).mono ?_); rintro e w22 ⟨rfl, t9⟩; (try have HB1 := Lib.hid (t9.keeps HB1.out (fun h => h))); (try have HB2 := Lib.hid (t9.keeps HB2.out (fun h => h))); (try have HR1 := Lib.hid (HR1.out.still t9)); (try have HR2 := Lib.hid (HR2.out.still t9)); (try have HI1 := Lib.hid (HI1.out.still t9)); (try have HI2 := Lib.hid (HI2.out.still t9)); have HT := Lib.hid (HT.out.trans t9 (fun _ _ h => h)); clear t9)
    | (go_at_call 22; (with_reducible refine (KI.out _ HR1.out).mono ?_); rintro e w24 ⟨x1, y1, rfl, ho, t9⟩; (try have HB1 := Lib.hid (t9.keeps HB1.out (fun h => h))); (try have HB2 := Lib.hid (t9.keeps HB2.out (fun h => h))); (try have HR1 := Lib.hid (HR1.out.still t9)); (try have HR2 := Lib.hid (HR2.out.still t9)); (try have HI1 := Lib.hid (HI1.out.still t9)); (try have HI2 := Lib.hid (HI2.out.still t9)); have HT := Lib.hid (HT.out.trans t9 (fun _ _ h => h)); have HI1 := Lib.hid ho.row.2.1; clear t9 ho)
    | (go_at_call 23; (with_reducible refine (KRI.out _ HR1.out).mono ?_); rintro e w25 ⟨x2, y2, rfl, ho, t9⟩; (try have HB1 := Lib.hid (t9.keeps HB1.out (fun h => h))); (try have HB2 := Lib.hid (t9.keeps HB2.out (fun h => h))); (try have HR1 := Lib.hid (HR1.out.still t9)); (try have HR2 := Lib.hid (HR2.out.still t9)); (try have HI1 := Lib.hid (HI1.out.still t9)); (try have HI2 := Lib.hid (HI2.out.still t9)); have HT := Lib.hid (HT.out.trans t9 (fun _ _ h => h)); have HI2 := Lib.hid ho.row.2.1; clear t9 ho)
    | (have _u := HI2; go_at_call 21; (with_reducible refine (KSI.out _ _ _ _ _ HI1.out HI2.out).mono ?_); rintro e w26 ⟨rfl, t9⟩; (try have HB1 := Lib.hid (t9.keeps HB1.out (fun h => h))); (try have HB2 := Lib.hid (t9.keeps HB2.out (fun h => h))); (try have HR1 := Lib.hid (HR1.out.still t9)); (try have HR2 := Lib.hid (HR2.out.still t9)); (try have HI1 := Lib.hid (HI1.out.still t9)); (try have HI2 := Lib.hid (HI2.out.still t9)); have HT := Lib.hid (HT.out.trans t9 (fun _ _ h => h)); clear t9)
    | (go_at_call 21; (with_reducible refine (KRS.out _ HR1.out HR2.out).mono ?_); rintro e w23 ⟨rfl, t9⟩; (try have HB1 := Lib.hid (t9.keeps HB1.out (fun h => h))); (try have HB2 := Lib.hid (t9.keeps HB2.out (fun h => h))); (try have HR1 := Lib.hid (HR1.out.still t9)); (try have HR2 := Lib.hid (HR2.out.still t9)); (try have HI1 := Lib.hid (HI1.out.still t9)); (try have HI2 := Lib.hid (HI2.out.still t9)); have HT := Lib.hid (HT.out.trans t9 (fun _ _ h => h)); clear t9)
    | (go_at_call 14; (with_reducible refine (awake8 _).mono ?_); rintro e w27 ⟨rfl, t9⟩; (try have HB1 := Lib.hid (t9.keeps HB1.out (fun h => h))); (try have HB2 := Lib.hid (t9.keeps HB2.out (fun h => h))); (try have HR1 := Lib.hid (HR1.out.still t9)); (try have HR2 := Lib.hid (HR2.out.still t9)); (try have HI1 := Lib.hid (HI1.out.still t9)); (try have HI2 := Lib.hid (HI2.out.still t9)); have HT := Lib.hid (HT.out.trans t9 (fun _ _ h => h)); clear t9))
  all_goals (go_wp2_with fail; go_ret; exact ⟨rfl, HT.out⟩)
theorem recordForms_holds : Rows.RecordFormsSaid := by
  refine recordForms.said fun H enc W base v0 v1 v2 d0 d1 d2 p0 p1 p2 h0 h1 h2 => ?_
  obtain ⟨r, a, cap, rfl, ok, hr⟩ := h0.recD
  obtain ⟨s, a2, cap2, rfl, ok2, hr2⟩ := h1.recD
  obtain ⟨v, rfl, _⟩ := h2.i64 Try.underlying3
  exact (forms_walk r a cap s a2 cap2 v W hr hr2).mono fun e w' h => ⟨h.1, h.2.under (Nat.le_refl _)⟩
end Go.Proofs.Ytbklngcocbnijaa
