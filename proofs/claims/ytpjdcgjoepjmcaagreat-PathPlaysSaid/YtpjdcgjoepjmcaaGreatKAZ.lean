import Derived.Test.YtpjdcgjoepjmcaaGreatHFZ
import Derived.Test.YtpjdcgjoepjmcaaGreatGAZ
import Derived.Deep.RegionLaw
import Derived.Test.YtpjdcgjoepjmcaaGreatGCZ
import Derived.Test.YtpjdcgjoepjmcaaGreatGIZ
import Derived.Test.YtpjdcgjoepjmcaaGreatGFZ
set_option linter.unusedVariables false
set_option linter.unusedSimpArgs false
section
namespace Go.Proofs.YtpjdcgjoepjmcaaGreat
open Go.RowKit Go.Maps
def without (bs : List BkD) (j : Nat) : List BkD := bs.take j ++ bs.drop (j + 1)
structure Left (bs : List BkD) (j n : Nat) (g : Int) (B : List Int) : Prop where
 none_ : ∀ x ∈ B, x ≠ g
 emp : (without bs j).length = 0 → ∀ x ∈ B, x = -1
 full : (without bs j).length ≠ 0 → ∀ x ∈ B, 0 ≤ x
end Go.Proofs.YtpjdcgjoepjmcaaGreat
end
section
namespace Go.Proofs.YtpjdcgjoepjmcaaGreat
open Go.RowKit
def pickV (bs : List BkD) (T : List Int) (n : Nat) (t : TupD) : Value := if mayTB t then findV bs (T.getD (hashF t % n) 0) else .tuple #[bkV' bkZ, .bool false]
set_option maxRecDepth 20000 in
set_option maxHeartbeats 4000000 in
theorem pick_no (n C : Nat) (ab : Option Addr) (lb cb G m : Nat) (t : TupD) (w : World) (hn : 0 < n) (hm : mayTB t = false)
 (hc : w.heap[C]? = some (.cells (chC n ab lb cb (some ⟨G, 0, none⟩) n n m) 100 (0, 0))) :
 Calls Tryz.prog 81 #[.pointer (some ⟨C, 0, none⟩), .agg (tcs t)] w fun e w' => e = .returned (.tuple #[bkV' bkZ, .bool false]) ∧ Touch w w' (fun _ => False) := by
 obtain ⟨W0, hW0⟩ : ∃ W, (w.alloc (.cells (tcs t) 37)).alloc (.cells #[.int .i64 0, .int .u32 0, .int .i64 0] 70) = W := ⟨_, rfl⟩
 have t0 : Touch w W0 (fun _ => False) := hW0 ▸ ((Touch.refl w _).alloc _).alloc _
 have gk : W0.heap[w.heap.size]? = some (.cells (tcs t) 37 (0, 0)) := hW0 ▸ ((Touch.refl (w.alloc (.cells (tcs t) 37)) (fun _ => False)).alloc _).keeps (heap_alloc_new ..) (fun h => h)
 have g0 : W0.heap[w.heap.size + 1]? = some (.cells #[.int .i64 0, .int .u32 0, .int .i64 0] 70 (0, 0)) := by
  have := heap_alloc_new (w.alloc (.cells (tcs t) 37)) (.cells #[.int .i64 0, .int .u32 0, .int .i64 0] 70)
  rw [hW0] at this
  simpa using this
 have HG0 := Lib.hid g0
 have HT0 := Lib.hid t0
 have HII := Lib.hid infoBk3
 have HW0 := Lib.hid hW0
 have HMT : RowKit.Hid (∀ W, Calls Tryz.prog 113 #[.agg (tcs t)] W fun e w' => e = .returned (.bool false) ∧ Touch W w' (fun _ => False)) := Lib.hid (fun W => by rw [← hm]; exact mayT_any t W)
 have k2 : W0.cell? ⟨C, 2, none⟩ = some (.slice (some ⟨G, 0, none⟩) n n) := cell_of_cells (t0.keeps hc (fun h => h)) 2
 have q0 := cell_of_cells gk 0
 have q1 := cell_of_cells gk 1
 have q2 := cell_of_cells gk 2
 have q3 := cell_of_cells gk 3
 have q4 := cell_of_cells gk 4
 obtain ⟨t1', t2', t3', t4', t5'⟩ := t
 simp only [tcs] at q0 q1 q2 q3 q4 HW0 HMT ⊢
 clear t0 gk g0 hW0 hc hm
 go_enter Tryz.func81, Tryz.ntmps81
 go_upto_region 1 with (fail)
 rw [HW0.out]
 have hnz : ¬ (n : Int) = 0 := by omega
 have hnB : ((n : Int) == 0) = false := beq_eq_false_iff_ne.2 hnz
 go_wp2_with (first
  | (go_at_call 113; (with_reducible refine (HMT.out _).mono ?_); rintro e w3 ⟨rfl, t3⟩; have T3 := Lib.hid t3; have HG3 := Lib.hid (t3.keeps HG0.out (fun h => h)); clear t3)
  | (refine store_row rfl 70 (.tmp 4) (.tmp 22) rfl (w.heap.size + 1) _ rfl rfl _ _ HG3.out HII.out rfl rfl ?_))
 have T4 := Lib.hid (HT0.out.trans T3.out (fun _ _ h => h))
 refine ret_row1 rfl rfl (w.heap.size + 1) _ #[.int .i64 0, .int .u32 0, .int .i64 0] _ _ rfl (setRow_heap _ _ _ _ _ _ HG3.out) Tryz.underlying70 rfl HII.out (.bool false) rfl ?_
 exact ⟨rfl, T4.out.setRow _ _ (fun h => absurd h (by omega))⟩
theorem pick_all (n C : Nat) (ab : Option Addr) (lb cb G m : Nat) (bs : List BkD) (T : List Int) (t : TupD) (w : World) (hn : 0 < n) (hn2 : n ≤ 251) (ok : TupOk t)
 (hc : w.heap[C]? = some (.cells (chC n ab lb cb (some ⟨G, 0, none⟩) n n m) 100 (0, 0))) (hr : RowK w ab lb cb bs) (hi : RowI w (some ⟨G, 0, none⟩) n n T) :
 Calls Tryz.prog 81 #[.pointer (some ⟨C, 0, none⟩), .agg (tcs t)] w fun e w' => e = .returned (pickV bs T n t) ∧ Touch w w' (fun _ => False) := by
 cases hm : mayTB t with
 | false =>
   have e : pickV bs T n t = .tuple #[bkV' bkZ, .bool false] := by unfold pickV; rw [hm]; rfl
   rw [e]
   exact pick_no n C ab lb cb G m t w hn hm hc
 | true =>
   refine (pick_any n C ab lb cb G m bs T t w hn hn2 ok hm hc hr hi).mono ?_
   rintro e w' ⟨⟨h, rfl⟩, ht⟩
   refine ⟨?_, ht⟩
   unfold pickV
   rw [hm, if_pos rfl, List.getD_eq_getElem?_getD, List.getElem?_eq_getElem h]; rfl
def tcl (t : TupD) : List Value := [.int .u32 t.src, .int .u32 t.dst, .int .i64 t.proto, .int .i64 t.sport, .int .i64 t.dport]
def RowT (w : World) (a : Option Addr) (len cap : Nat) (ts : List TupD) : Prop := RowS w a len cap 5 (ts.map tcl)
section
variable {H : Type} {enc : TypeId × Value → H} {W : World} {cs : List Value} {d : DataW H}
end
end Go.Proofs.YtpjdcgjoepjmcaaGreat
end
section
namespace Go.Proofs.YtpjdcgjoepjmcaaGreat
open Go.RowKit
def recF (kind : Int) (f : FlD) : RecD := ⟨kind, f.t, f.fb, f.fg, f.fs, 0, [], 0, 0, 0⟩
def keepM (M : List FlD) (most : Int) (f : FlD) (ends : Bool) : List FlD :=
 if ends then delF M f.t else if hasF M f.t && decide ((getF M f.t).fb = f.fb) then touchF M f.t f.fs else putF M most f
def keepR (M : List FlD) (most : Int) (f : FlD) (ends : Bool) : List RecD :=
 if ends then (if hasF M f.t then [recF 2 ⟨f.t, 0, 0, 0⟩] else []) else if hasF M f.t && decide ((getF M f.t).fb = f.fb) then [] else if putB M most f then [recF 1 f] else []
end Go.Proofs.YtpjdcgjoepjmcaaGreat
end
section
namespace Go.Proofs.YtpjdcgjoepjmcaaGreat
open Go.RowKit
def pickO (bs : List BkD) (T : List Int) (n : Nat) (t : TupD) : Option BkD := if mayTB t then findF bs (T.getD (hashF t % n) 0) else none
def bkO (o : Option BkD) : Value := match o with
 | some b => .tuple #[bkV' b, .bool true]
 | none => .tuple #[bkV' bkZ, .bool false]
theorem findV_O (bs : List BkD) (id : Int) : findV bs id = bkO (findF bs id) := rfl
theorem pickV_O (bs : List BkD) (T : List Int) (n : Nat) (t : TupD) : pickV bs T n t = bkO (pickO bs T n t) := by
 unfold pickV pickO
 split
 ·rfl
 ·rfl
def backF (bs : List BkD) (T : List Int) (n : Nat) (M : List FlD) (t : TupD) : Option BkD :=
 match (if hasF M t then findF bs (getF M t).fb else none) with
 | some b => some b
 | none => pickO bs T n t
end Go.Proofs.YtpjdcgjoepjmcaaGreat
end
