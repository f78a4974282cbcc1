/- Records: their bodies tell them apart. -/
import Derived.Test.YtgmimdnebgncoaaRecEncZ
import Derived.Test.YtgmimdnebgncoaaRecSameZ
import Derived.Test.YtgmimdnebgncoaaRecRMayZ
set_option linter.unusedVariables false
set_option linter.unusedSimpArgs false
namespace Go.Proofs.Ytgmimdnebgncoaa
open Go.RowKit

theorem be1_inj {n m : Int} (h : beB 1 (u64N n) = beB 1 (u64N m)) (hn : 0 ≤ n ∧ n < 256) (hm : 0 ≤ m ∧ m < 256) : n = m := by
  simp [beB, List.range_succ, u64N] at h; omega
theorem be2_inj {n m : Int} (h : beB 2 (u64N n) = beB 2 (u64N m)) (hn : 0 ≤ n ∧ n < 65536) (hm : 0 ≤ m ∧ m < 65536) : n = m := by
  simp [beB, List.range_succ, u64N] at h; omega
theorem be4_inj {n m : Int} (h : beB 4 (u64N n) = beB 4 (u64N m)) (hn : 0 ≤ n ∧ n < 4294967296) (hm : 0 ≤ m ∧ m < 4294967296) : n = m := by
  simp [beB, List.range_succ, u64N] at h; omega
set_option maxHeartbeats 4000000 in
theorem be8_inj {n m : Int} (h : beB 8 (u64N n) = beB 8 (u64N m)) (hn : 0 ≤ n ∧ n < 1099511627777) (hm : 0 ≤ m ∧ m < 1099511627777) : n = m := by
  simp [beB, List.range_succ, u64N] at h; omega
theorem app_inj {a b c d : List Nat} (h : a ++ b = c ++ d) (hl : a.length = c.length) : a = c ∧ b = d := List.append_inj h hl
theorem tbF_inj {t u : TupD} (h : tbF t = tbF u) (ot : TupOk t) (ou : TupOk u) (ht : mayTB t = true) (hu : mayTB u = true) : t.src = u.src ∧ t.dst = u.dst ∧ t.proto = u.proto ∧ t.sport = u.sport ∧ t.dport = u.dport := by
  rw [mayTB_iff] at ht hu
  have o1 := ot.src; have o2 := ot.dst; have p1 := ou.src; have p2 := ou.dst
  simp only [u32] at o1 o2 p1 p2
  unfold tbF at h
  obtain ⟨h, h5⟩ := app_inj h (by simp [beB_length])
  obtain ⟨h, h4⟩ := app_inj h (by simp [beB_length])
  obtain ⟨h, h3⟩ := app_inj h (by simp [beB_length])
  obtain ⟨h1, h2⟩ := app_inj h (by simp [beB_length])
  exact ⟨be4_inj h1 (by omega) (by omega), be4_inj h2 (by omega) (by omega), be1_inj h3 (by omega) (by omega), be2_inj h4 (by omega) (by omega), be2_inj h5 (by omega) (by omega)⟩
theorem bkF_inj {b c : BkD} (h : bkF 3 b = bkF 3 c) (ob : BkOk b) (oc : BkOk c) (hb : mayKB b = true) (hc : mayKB c = true) : b.val = c.val := by
  rw [mayKB_iff] at hb hc
  have o1 := ob.addr; have p1 := oc.addr
  simp only [u32] at o1 p1
  unfold bkF at h
  rw [if_neg (by decide), if_neg (by decide)] at h
  obtain ⟨h, h3⟩ := app_inj h (by simp [beB_length])
  obtain ⟨h1, h2⟩ := app_inj h (by simp [beB_length])
  simp only [BkD.val, Prod.mk.injEq]
  exact ⟨be2_inj h1 (by omega) (by omega), be4_inj h2 (by omega) (by omega), be1_inj h3 (by omega) (by omega)⟩
theorem bksF_inj : ∀ {bs cs : List BkD}, bksF 3 bs = bksF 3 cs → bs.length = cs.length → (∀ b ∈ bs, BkOk b) → (∀ b ∈ cs, BkOk b) → bs.all mayKB = true → cs.all mayKB = true → bs.map BkD.val = cs.map BkD.val
  | [], [], _, _, _, _, _, _ => rfl
  | [], c :: cs, _, hl, _, _, _, _ => by simp at hl
  | b :: bs, [], _, hl, _, _, _, _ => by simp at hl
  | b :: bs, c :: cs, h, hl, ob, oc, hb, hc => by
    have e : ∀ (x : BkD) (l : List BkD), bksF 3 (x :: l) = bkF 3 x ++ bksF 3 l := fun x l => by simp [bksF]
    rw [e, e] at h
    have l7 : ∀ x : BkD, (bkF 3 x).length = 7 := fun x => by unfold bkF; rw [if_neg (by decide)]; simp [beB_length]
    obtain ⟨h1, h2⟩ := app_inj h (by rw [l7, l7])
    simp only [List.all_cons, Bool.and_eq_true] at hb hc
    have h3 := bkF_inj h1 (ob b (List.mem_cons_self ..)) (oc c (List.mem_cons_self ..)) hb.1 hc.1
    have h4 := bksF_inj h2 (by simpa using hl) (fun x hx => ob x (List.mem_cons_of_mem _ hx)) (fun x hx => oc x (List.mem_cons_of_mem _ hx)) hb.2 hc.2
    simp only [List.map_cons, h3, h4]
theorem apart_math (r s : RecD) (or : RecOk r) (os : RecOk s) (hr : mayRB r = true) (hs : mayRB s = true) (hk : r.kind = s.kind) (hb : bodyF r 3 = bodyF s 3) : (plainD r).val = (plainD s).val := by
  rw [val_eq]
  have kr := kind_of hr
  have lr := less_of hr
  have ls := less_of hs
  rcases kr with h | h | h | h | h | h
  · have h' : s.kind = 1 := by omega
    unfold mayRB at hr hs
    rw [if_pos h] at hr; rw [if_pos h'] at hs
    simp only [Bool.and_eq_true, idB_iff, cntB_iff, timB_iff] at hr hs
    unfold bodyF flowF at hb
    rw [if_pos h, if_pos h', if_neg (by decide), if_neg (by decide), if_neg (by decide), if_neg (by decide)] at hb
    obtain ⟨hb, h4⟩ := app_inj hb (by simp [beB_length, tbF_length])
    obtain ⟨hb, h3⟩ := app_inj hb (by simp [beB_length, tbF_length])
    obtain ⟨h1, h2⟩ := app_inj hb (by simp [tbF_length])
    have q1 : r.fb = s.fb := be2_inj h2 (by omega) (by omega)
    have q2 : r.fg = s.fg := be4_inj h3 (by omega) (by omega)
    have q3 : r.fs = s.fs := be8_inj h4 (by omega) (by omega)
    unfold plainD
    rw [if_pos h, if_pos h']
    exact ⟨rfl, tbF_inj h1 or.t os.t hr.1.1.1 hs.1.1.1, ⟨q1, q2, q3⟩, rfl, rfl, rfl, rfl, rfl⟩
  · have h' : s.kind = 2 := by omega
    unfold mayRB at hr hs
    rw [if_neg (by omega), if_pos h] at hr; rw [if_neg (by omega), if_pos h'] at hs
    unfold bodyF at hb
    rw [if_neg (by omega), if_pos h, if_neg (by omega), if_pos h'] at hb
    unfold plainD
    rw [if_neg (by omega), if_pos h, if_neg (by omega), if_pos h']
    exact ⟨rfl, tbF_inj hb or.t os.t hr hs, ⟨rfl, rfl, rfl⟩, rfl, rfl, rfl, rfl, rfl⟩
  · have h' : s.kind = 3 := by omega
    have l1 := lr.bs h
    have l2 := ls.bs h'
    unfold mayRB at hr hs
    rw [if_neg (by omega), if_neg (by omega), if_pos h] at hr; rw [if_neg (by omega), if_neg (by omega), if_pos h'] at hs
    simp only [Bool.and_eq_true, cntB_iff] at hr hs
    unfold bodyF at hb
    rw [if_neg (by omega), if_neg (by omega), if_pos h, if_neg (by omega), if_neg (by omega), if_pos h'] at hb
    obtain ⟨h1, hb⟩ := app_inj hb (by simp [beB_length])
    obtain ⟨h2, h3⟩ := app_inj hb (by simp [beB_length])
    have hl := be1_inj h2 (by omega) (by omega)
    have hl' : r.bs.length = s.bs.length := by omega
    have q1 : r.gen = s.gen := be4_inj h1 (by omega) (by omega)
    unfold plainD
    rw [if_neg (by omega), if_neg (by omega), if_pos h, if_neg (by omega), if_neg (by omega), if_pos h']
    exact ⟨rfl, ⟨rfl, rfl, rfl, rfl, rfl⟩, ⟨rfl, rfl, rfl⟩, q1, bksF_inj h3 hl' or.bs os.bs hr.2 hs.2, rfl, rfl, rfl⟩
  · have h' : s.kind = 4 := by omega
    unfold mayRB at hr hs
    rw [if_neg (by omega), if_neg (by omega), if_neg (by omega), if_pos h] at hr; rw [if_neg (by omega), if_neg (by omega), if_neg (by omega), if_pos h'] at hs
    simp only [Bool.and_eq_true, idB_iff, timB_iff] at hr hs
    unfold bodyF at hb
    rw [if_neg (by omega), if_neg (by omega), if_neg (by omega), if_pos h, if_neg (by omega), if_neg (by omega), if_neg (by omega), if_pos h'] at hb
    obtain ⟨h1, h2⟩ := app_inj hb (by simp [beB_length])
    have q1 : r.be = s.be := be2_inj h1 (by omega) (by omega)
    have q2 : r.un = s.un := be8_inj h2 (by omega) (by omega)
    unfold plainD
    rw [if_neg (by omega), if_neg (by omega), if_neg (by omega), if_pos h, if_neg (by omega), if_neg (by omega), if_neg (by omega), if_pos h']
    exact ⟨rfl, ⟨rfl, rfl, rfl, rfl, rfl⟩, ⟨rfl, rfl, rfl⟩, rfl, rfl, q1, q2, rfl⟩
  · have h' : s.kind = 5 := by omega
    unfold mayRB at hr hs
    rw [if_neg (by omega), if_neg (by omega), if_neg (by omega), if_neg (by omega), if_pos h] at hr; rw [if_neg (by omega), if_neg (by omega), if_neg (by omega), if_neg (by omega), if_pos h'] at hs
    rw [idB_iff] at hr hs
    have hr' : 0 ≤ r.be ∧ r.be < 65536 := by omega
    have hs' : 0 ≤ s.be ∧ s.be < 65536 := by omega
    unfold bodyF at hb
    rw [if_neg (by omega), if_neg (by omega), if_neg (by omega), if_neg (by omega), if_pos h, if_neg (by omega), if_neg (by omega), if_neg (by omega), if_neg (by omega), if_pos h'] at hb
    unfold plainD
    rw [if_neg (by omega), if_neg (by omega), if_neg (by omega), if_neg (by omega), if_pos h, if_neg (by omega), if_neg (by omega), if_neg (by omega), if_neg (by omega), if_pos h']
    exact ⟨rfl, ⟨rfl, rfl, rfl, rfl, rfl⟩, ⟨rfl, rfl, rfl⟩, rfl, rfl, (be2_inj hb hr' hs' : r.be = s.be), rfl, rfl⟩
  · have h' : s.kind = 6 := by omega
    unfold mayRB at hr hs
    rw [if_neg (by omega), if_neg (by omega), if_neg (by omega), if_neg (by omega), if_neg (by omega), if_pos h] at hr; rw [if_neg (by omega), if_neg (by omega), if_neg (by omega), if_neg (by omega), if_neg (by omega), if_pos h'] at hs
    rw [cntB_iff] at hr hs
    have hr' : 0 ≤ r.ct ∧ r.ct < 4294967296 := by omega
    have hs' : 0 ≤ s.ct ∧ s.ct < 4294967296 := by omega
    unfold bodyF at hb
    rw [if_neg (by omega), if_neg (by omega), if_neg (by omega), if_neg (by omega), if_neg (by omega), if_neg (by omega), if_neg (by omega), if_neg (by omega), if_neg (by omega), if_neg (by omega)] at hb
    unfold plainD
    rw [if_neg (by omega), if_neg (by omega), if_neg (by omega), if_neg (by omega), if_neg (by omega), if_pos h, if_neg (by omega), if_neg (by omega), if_neg (by omega), if_neg (by omega), if_neg (by omega), if_pos h']
    exact ⟨rfl, ⟨rfl, rfl, rfl, rfl, rfl⟩, ⟨rfl, rfl, rfl⟩, rfl, rfl, rfl, rfl, (be4_inj hb hr' hs' : r.ct = s.ct)⟩
/-- What is the same in all that is plain has the same body, and may be or not. -/
theorem plain_body (r s : RecD) (h : plainD r = plainD s) (v : Int) : r.kind = s.kind ∧ mayRB r = mayRB s ∧ (mayRB r = true → bodyF r v = bodyF s v) := by
  have hk : r.kind = s.kind := by have := congrArg RecD.kind h; rwa [plain_kind, plain_kind] at this
  obtain ⟨k, t, fb, fg, fs, gen, bs, be, un, ct⟩ := r
  obtain ⟨k2, t2, fb2, fg2, fs2, gen2, bs2, be2, un2, ct2⟩ := s
  simp only at hk
  subst hk
  refine ⟨rfl, ?_, ?_⟩
  all_goals
    by_cases h1 : k = 1
    · subst h1; simp [plainD] at h; obtain ⟨rfl, rfl, rfl, rfl⟩ := h; simp [mayRB, bodyF, flowF]
    by_cases h2 : k = 2
    · subst h2; simp [plainD] at h; subst h; simp [mayRB, bodyF]
    by_cases h3 : k = 3
    · subst h3; simp [plainD] at h; obtain ⟨rfl, rfl⟩ := h; simp [mayRB, bodyF]
    by_cases h4 : k = 4
    · subst h4; simp [plainD] at h; obtain ⟨rfl, rfl⟩ := h; simp [mayRB, bodyF]
    by_cases h5 : k = 5
    · subst h5; simp [plainD] at h; subst h; simp [mayRB, bodyF]
    by_cases h6 : k = 6
    · subst h6; simp [plainD] at h; subst h; simp [mayRB, bodyF]
    simp [mayRB, h1, h2, h3, h4, h5, h6]
theorem tup_ext {t u : TupD} (h : t.src = u.src ∧ t.dst = u.dst ∧ t.proto = u.proto ∧ t.sport = u.sport ∧ t.dport = u.dport) : t = u := by
  obtain ⟨a, b, c, d, e⟩ := t
  obtain ⟨a2, b2, c2, d2, e2⟩ := u
  simp only at h
  obtain ⟨rfl, rfl, rfl, rfl, rfl⟩ := h
  rfl
theorem bks_ext : ∀ {bs cs : List BkD}, bs.map BkD.val = cs.map BkD.val → bs = cs
  | [], [], _ => rfl
  | [], c :: cs, h => by simp at h
  | b :: bs, [], h => by simp at h
  | b :: bs, c :: cs, h => by
    simp only [List.map_cons, List.cons.injEq] at h
    rw [bks_ext h.2]
    obtain ⟨x1, x2, x3⟩ := b
    obtain ⟨y1, y2, y3⟩ := c
    simp only [BkD.val, Prod.mk.injEq] at h
    obtain ⟨⟨rfl, rfl, rfl⟩, _⟩ := h
    rfl
theorem rec_ext {p q : RecD} (h : p.val = q.val) : p = q := by
  rw [val_eq] at h
  obtain ⟨h1, h2, ⟨h3, h4, h5⟩, h6, h7, h8, h9, h10⟩ := h
  have e1 := tup_ext h2
  have e2 := bks_ext h7
  obtain ⟨k, t, fb, fg, fs, gen, bs, be, un, ct⟩ := p
  obtain ⟨k2, t2, fb2, fg2, fs2, gen2, bs2, be2, un2, ct2⟩ := q
  simp only at h1 e1 h3 h4 h5 h6 e2 h8 h9 h10
  subst h1 e1 h3 h4 h5 h6 e2 h8 h9 h10
  rfl
theorem sameR_iff (r s : RecD) : sameR r s = true ↔ plainD r = plainD s := by
  unfold sameR
  rw [decide_eq_true_iff]
  exact ⟨rec_ext, fun h => by rw [h]⟩
end Go.Proofs.Ytgmimdnebgncoaa
