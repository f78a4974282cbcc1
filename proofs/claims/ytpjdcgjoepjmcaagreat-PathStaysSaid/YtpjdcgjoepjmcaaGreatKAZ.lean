import Derived.Test.YtpjdcgjoepjmcaaGreatHFZ
import Derived.Test.YtpjdcgjoepjmcaaGreatGAZ
import Derived.Deep.RegionLaw
import Derived.Test.YtpjdcgjoepjmcaaGreatGCZ
import Derived.Test.YtpjdcgjoepjmcaaGreatGIZ
import Derived.Test.YtpjdcgjoepjmcaaGreatGFZ
section
set_option linter.unusedVariables false
namespace Go.Proofs.YtpjdcgjoepjmcaaGreat
open Go.RowKit Go.Maps

theorem gmay_iff2 (bs : List BkD) : gmay bs = true ↔ bs.length ≤ 16 ∧ (∀ b ∈ bs, mayKB b = true) ∧ bs.Pairwise (fun a b => a.id < b.id) := by
  constructor
  · intro h
    refine ⟨((gmay_iff bs).1 h).1, fun b hb => ?_, gmay_up h⟩
    obtain ⟨i, hi, rfl⟩ := List.getElem_of_mem hb
    exact gmay_at h i hi
  · rintro ⟨h1, h2, h3⟩
    rw [gmay_iff]
    refine ⟨h1, fun i hi => ?_⟩
    cases i with
    | zero => rw [okAt_zero (List.getElem?_eq_getElem hi)]; exact h2 _ (List.getElem_mem hi)
    | succ i =>
      rw [okAt_succ (List.getElem?_eq_getElem hi) (List.getElem?_eq_getElem (by omega)), h2 _ (List.getElem_mem hi), Bool.true_and]
      exact decide_eq_true (List.pairwise_iff_getElem.1 h3 i (i + 1) (by omega) hi (by omega))
def without (bs : List BkD) (j : Nat) : List BkD := bs.take j ++ bs.drop (j + 1)
structure Left (bs : List BkD) (j n : Nat) (g : Int) (B : List Int) : Prop where
  none_ : ∀ x ∈ B, x ≠ g
  emp : (without bs j).length = 0 → ∀ x ∈ B, x = -1
  full : (without bs j).length ≠ 0 → ∀ x ∈ B, 0 ≤ x
end Go.Proofs.YtpjdcgjoepjmcaaGreat

end

section
set_option linter.unusedVariables false
namespace Go.Proofs.YtpjdcgjoepjmcaaGreat
open Go.RowKit

theorem stay_may {bs : List BkD} (h : gmay bs = true) (out : Int → Bool) : gmay (keepF out bs) = true := by
  rw [gmay_iff2] at h ⊢
  have hs : (keepF out bs).Sublist bs := List.filter_sublist
  exact ⟨Nat.le_trans hs.length_le h.1, fun b hb => h.2.1 b (hs.subset hb), h.2.2.sublist hs⟩
theorem findF_mem : ∀ {bs : List BkD}, bs.Pairwise (fun a b => a.id < b.id) → ∀ {b : BkD}, b ∈ bs → findF bs b.id = some b
  | [], _, _, h => by simp at h
  | c :: bs, hp, b, h => by
    unfold findF
    rw [List.find?_cons]
    by_cases hc : c.id = b.id
    · have : (c.id == b.id) = true := beq_iff_eq.2 hc
      rw [this]
      rcases List.mem_cons.1 h with rfl | h1
      · rfl
      · have := (List.pairwise_cons.1 hp).1 b h1; omega
    · have : (c.id == b.id) = false := beq_eq_false_iff_ne.2 hc
      rw [this]
      rcases List.mem_cons.1 h with rfl | h1
      · exact absurd rfl hc
      · exact findF_mem (List.pairwise_cons.1 hp).2 h1
theorem findF_no {bs : List BkD} (h : gmay bs = true) : findF bs (-1) = none := by
  unfold findF
  rw [List.find?_eq_none]
  intro b hb he
  have := ((mayKB_iff b).1 (((gmay_iff2 _).1 h).2.1 b hb)).1.1
  have := beq_iff_eq.1 he
  omega
def pickV (bs : List BkD) (T : List Int) (n : Nat) (t : TupD) : Value := if mayTB t then findV bs (T.getD (hashF t % n) 0) else .tuple #[bkV' bkZ, .bool false]
theorem pick_fact {bs : List BkD} {n : Nat} (hp : Prm n) (out : Int → Bool) (h : gmay bs = true) (t : TupD) :
    ∃ (b : BkD) (x : Bool), pickV bs (tabF (keepF out bs) n) n t = .tuple #[bkV' b, .bool x] ∧ x = (decide (0 < (keepF out bs).length) && mayTB t) ∧ (x = true → findV (keepF out bs) b.id = .tuple #[bkV' b, .bool true]) := by
  have h3 := hp.lo
  have hL := stay_may h out
  cases hm : mayTB t with
  | false => exact ⟨bkZ, false, by unfold pickV; rw [hm]; rfl, by simp, fun h => by cases h⟩
  | true =>
    have hlen : (tabF (keepF out bs) n).length = n := tab_len hp
    have hlt : hashF t % n < (tabF (keepF out bs) n).length := by rw [hlen]; exact Nat.mod_lt _ (by omega)
    have e : pickV bs (tabF (keepF out bs) n) n t = findV bs (tabF (keepF out bs) n)[hashF t % n] := by
      unfold pickV; rw [hm, if_pos rfl, List.getD_eq_getElem?_getD, List.getElem?_eq_getElem hlt]; rfl
    by_cases h0 : 0 < (keepF out bs).length
    · obtain ⟨b, hb, hid⟩ := tab_mem hp hL h0 _ (List.getElem_mem hlt)
      have hb2 : b ∈ bs := (List.mem_filter.1 hb).1
      refine ⟨b, true, ?_, by simp [h0], fun _ => ?_⟩
      · rw [e, hid]; unfold findV; rw [findF_mem ((gmay_iff2 _).1 h).2.2 hb2]
      · unfold findV; rw [findF_mem ((gmay_iff2 _).1 hL).2.2 hb]
    · have hT : tabF (keepF out bs) n = List.replicate n (-1) := by unfold tabF; rw [if_pos (.inl (by omega))]
      have h1 : (tabF (keepF out bs) n)[hashF t % n] = -1 := by
        have key : ∀ x ∈ tabF (keepF out bs) n, x = -1 := fun x hx => by
          rw [hT] at hx; exact (List.mem_replicate.1 hx).2
        exact key _ (List.getElem_mem hlt)
      refine ⟨bkZ, false, ?_, by simp [h0], fun h => by cases h⟩
      rw [e, h1]; unfold findV; rw [findF_no h]

set_option maxRecDepth 20000 in
set_option maxHeartbeats 4000000 in
theorem pick_no (n C : Nat) (ab : Option Addr) (lb cb G m : Nat) (t : TupD) (w : World) (hn : 0 < n) (hm : mayTB t = false)
    (hc : w.heap[C]? = some (.cells (chC n ab lb cb (some ⟨G, 0, none⟩) n n m) 100 (0, 0))) :
    Calls Tryz.prog 81 #[.pointer (some ⟨C, 0, none⟩), .agg (tcs t)] w fun e w' => e = .returned (.tuple #[bkV' bkZ, .bool false]) ∧ Touch w w' (fun _ => False) := by
  obtain ⟨W0, hW0⟩ : ∃ W, (w.alloc (.cells (tcs t) 37)).alloc (.cells #[.int .i64 0, .int .u32 0, .int .i64 0] 70) = W := ⟨_, rfl⟩
  have t0 : Touch w W0 (fun _ => False) := hW0 ▸ ((Touch.refl w _).alloc _).alloc _
  have gk : W0.heap[w.heap.size]? = some (.cells (tcs t) 37 (0, 0)) := hW0 ▸ ((Touch.refl (w.alloc (.cells (tcs t) 37)) (fun _ => False)).alloc _).keeps (heap_alloc_new ..) (fun h => h)
  have g0 : W0.heap[w.heap.size + 1]? = some (.cells #[.int .i64 0, .int .u32 0, .int .i64 0] 70 (0, 0)) := by
    have := heap_alloc_new (w.alloc (.cells (tcs t) 37)) (.cells #[.int .i64 0, .int .u32 0, .int .i64 0] 70)
    rw [hW0] at this
    simpa using this
  have HG0 := Lib.hid g0
  have HT0 := Lib.hid t0
  have HII := Lib.hid infoBk3
  have HW0 := Lib.hid hW0
  have HMT : RowKit.Hid (∀ W, Calls Tryz.prog 113 #[.agg (tcs t)] W fun e w' => e = .returned (.bool false) ∧ Touch W w' (fun _ => False)) := Lib.hid (fun W => by rw [← hm]; exact mayT_any t W)
  have k2 : W0.cell? ⟨C, 2, none⟩ = some (.slice (some ⟨G, 0, none⟩) n n) := cell_of_cells (t0.keeps hc (fun h => h)) 2
  have q0 := cell_of_cells gk 0
  have q1 := cell_of_cells gk 1
  have q2 := cell_of_cells gk 2
  have q3 := cell_of_cells gk 3
  have q4 := cell_of_cells gk 4
  obtain ⟨t1', t2', t3', t4', t5'⟩ := t
  simp only [tcs] at q0 q1 q2 q3 q4 HW0 HMT ⊢
  clear t0 gk g0 hW0 hc hm
  go_enter Tryz.func81, Tryz.ntmps81
  go_upto_region 1 with (fail)
  rw [HW0.out]
  have hnz : ¬ (n : Int) = 0 := by omega
  have hnB : ((n : Int) == 0) = false := beq_eq_false_iff_ne.2 hnz
  go_wp2_with (first
    | (go_at_call 113; (with_reducible refine (HMT.out _).mono ?_); rintro e w3 ⟨rfl, t3⟩; have T3 := Lib.hid t3; have HG3 := Lib.hid (t3.keeps HG0.out (fun h => h)); clear t3)
    | (refine store_row rfl 70 (.tmp 4) (.tmp 22) rfl (w.heap.size + 1) _ rfl rfl _ _ HG3.out HII.out rfl rfl ?_))
  have T4 := Lib.hid (HT0.out.trans T3.out (fun _ _ h => h))
  refine ret_row1 rfl rfl (w.heap.size + 1) _ #[.int .i64 0, .int .u32 0, .int .i64 0] _ _ rfl (setRow_heap _ _ _ _ _ _ HG3.out) Tryz.underlying70 rfl HII.out (.bool false) rfl ?_
  exact ⟨rfl, T4.out.setRow _ _ (fun h => absurd h (by omega))⟩

theorem pick_all (n C : Nat) (ab : Option Addr) (lb cb G m : Nat) (bs : List BkD) (T : List Int) (t : TupD) (w : World) (hn : 0 < n) (hn2 : n ≤ 251) (ok : TupOk t)
    (hc : w.heap[C]? = some (.cells (chC n ab lb cb (some ⟨G, 0, none⟩) n n m) 100 (0, 0))) (hr : RowK w ab lb cb bs) (hi : RowI w (some ⟨G, 0, none⟩) n n T) :
    Calls Tryz.prog 81 #[.pointer (some ⟨C, 0, none⟩), .agg (tcs t)] w fun e w' => e = .returned (pickV bs T n t) ∧ Touch w w' (fun _ => False) := by
  cases hm : mayTB t with
  | false =>
    have e : pickV bs T n t = .tuple #[bkV' bkZ, .bool false] := by unfold pickV; rw [hm]; rfl
    rw [e]
    exact pick_no n C ab lb cb G m t w hn hm hc
  | true =>
    refine (pick_any n C ab lb cb G m bs T t w hn hn2 ok hm hc hr hi).mono ?_
    rintro e w' ⟨⟨h, rfl⟩, ht⟩
    refine ⟨?_, ht⟩
    unfold pickV
    rw [hm, if_pos rfl, List.getD_eq_getElem?_getD, List.getElem?_eq_getElem h]; rfl

def tcl (t : TupD) : List Value := [.int .u32 t.src, .int .u32 t.dst, .int .i64 t.proto, .int .i64 t.sport, .int .i64 t.dport]
def RowT (w : World) (a : Option Addr) (len cap : Nat) (ts : List TupD) : Prop := RowS w a len cap 5 (ts.map tcl)
theorem RowT.still {w w' : World} {a : Option Addr} {len cap : Nat} {ts : List TupD} (h : RowT w a len cap ts) (t : Touch w w' (fun _ => False)) : RowT w' a len cap ts := RowS.still h t
theorem RowT.touch {w w' : World} {a : Option Addr} {len cap : Nat} {ts : List TupD} {S : Nat → Prop} (h : RowT w a len cap ts) (t : Touch w w' S) (h1 : ∀ x, a = some x → len = 0 ∨ ¬ S x.block) : RowT w' a len cap ts := RowS.touch h t h1
theorem RowT.len {w : World} {a : Option Addr} {len cap : Nat} {ts : List TupD} (h : RowT w a len cap ts) : ts.length = len := by have := h.hlen; simpa using this
theorem RowT.cells {w : World} {b off len cap : Nat} {ts : List TupD} (h : RowT w (some ⟨b, off, none⟩) len cap ts) (i : Nat) (hi : i < ts.length) :
    w.cell? ⟨b, off + i * 5, none⟩ = some (.int .u32 ts[i].src) ∧ w.cell? ⟨b, off + i * 5 + 1, none⟩ = some (.int .u32 ts[i].dst) ∧ w.cell? ⟨b, off + i * 5 + 2, none⟩ = some (.int .i64 ts[i].proto) ∧ w.cell? ⟨b, off + i * 5 + 3, none⟩ = some (.int .i64 ts[i].sport) ∧ w.cell? ⟨b, off + i * 5 + 4, none⟩ = some (.int .i64 ts[i].dport) := by
  have hi' : i < (ts.map tcl).length := by simpa using hi
  have key : ∀ j u, (tcl ts[i])[j]? = some u → w.cell? ⟨b, off + i * 5 + j, none⟩ = some u := fun j u hu => RowS.cell h i hi' j u (by simpa using hu)
  exact ⟨key 0 _ rfl, key 1 _ rfl, key 2 _ rfl, key 3 _ rfl, key 4 _ rfl⟩

section
variable {H : Type} {enc : TypeId × Value → H} {W : World} {cs : List Value} {d : DataW H}
end
end Go.Proofs.YtpjdcgjoepjmcaaGreat

end

section
set_option linter.unusedVariables false
set_option linter.unusedSimpArgs false
namespace Go.Proofs.YtpjdcgjoepjmcaaGreat
open Go.RowKit

def recF (kind : Int) (f : FlD) : RecD := ⟨kind, f.t, f.fb, f.fg, f.fs, 0, [], 0, 0, 0⟩
def keepM (M : List FlD) (most : Int) (f : FlD) (ends : Bool) : List FlD :=
  if ends then delF M f.t else if hasF M f.t && decide ((getF M f.t).fb = f.fb) then touchF M f.t f.fs else putF M most f
def keepR (M : List FlD) (most : Int) (f : FlD) (ends : Bool) : List RecD :=
  if ends then (if hasF M f.t then [recF 2 ⟨f.t, 0, 0, 0⟩] else []) else if hasF M f.t && decide ((getF M f.t).fb = f.fb) then [] else if putB M most f then [recF 1 f] else []
end Go.Proofs.YtpjdcgjoepjmcaaGreat

end

section
set_option linter.unusedVariables false
set_option linter.unusedSimpArgs false
namespace Go.Proofs.YtpjdcgjoepjmcaaGreat
open Go.RowKit

def pickO (bs : List BkD) (T : List Int) (n : Nat) (t : TupD) : Option BkD := if mayTB t then findF bs (T.getD (hashF t % n) 0) else none
def bkO (o : Option BkD) : Value := match o with
  | some b => .tuple #[bkV' b, .bool true]
  | none => .tuple #[bkV' bkZ, .bool false]
theorem findV_O (bs : List BkD) (id : Int) : findV bs id = bkO (findF bs id) := rfl
theorem pickV_O (bs : List BkD) (T : List Int) (n : Nat) (t : TupD) : pickV bs T n t = bkO (pickO bs T n t) := by
  unfold pickV pickO
  split
  · rfl
  · rfl
def backF (bs : List BkD) (T : List Int) (n : Nat) (M : List FlD) (t : TupD) : Option BkD :=
  match (if hasF M t then findF bs (getF M t).fb else none) with
  | some b => some b
  | none => pickO bs T n t
end Go.Proofs.YtpjdcgjoepjmcaaGreat

end
