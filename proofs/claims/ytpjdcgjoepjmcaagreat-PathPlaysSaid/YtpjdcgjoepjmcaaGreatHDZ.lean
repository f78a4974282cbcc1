import Derived.Test.YtpjdcgjoepjmcaaGreatGAZ
import Derived.Test.YtpjdcgjoepjmcaaGreatGGZ
import Derived.Test.YtpjdcgjoepjmcaaGreatHCZ
import Derived.Deep.DeepCutAuto
import Derived.Test.YtpjdcgjoepjmcaaGreatGCZ
import Derived.Laws.EntriesVeiled
import Derived.Test.YtpjdcgjoepjmcaaGreatGBZ
import Derived.StillTailTactics
set_option linter.unusedVariables false
set_option linter.unusedSimpArgs false
section
namespace Go.Proofs.YtpjdcgjoepjmcaaGreat
open Go.ChangeShapes Go.WideShapes Go.ChangeAt Go.RowKit
theorem Tr.rowsOf {H : Type} {enc : TypeId × Value → H} {P : Program} {W : World} {T E : TypeId} {cs : List Value} {d : DataW H} {α : Type} (f : α → List Value) (Ok : α → Prop) (k : Nat) (h : Tr enc P W T cs d)
 (ht : P.underlying T = some (.slice E)) (hck : P.cellsOf E = k) (hk : ∀ b, (f b).length = k) (h0k : 0 < k) (elem : ∀ cs d, Tr enc P W E cs d → ∃ b, cs = f b ∧ Ok b) :
 ∃ (a : Option Addr) (cap : Nat) (bs : List α), cs = [.slice a bs.length cap] ∧ RowS W a bs.length cap k (bs.map f) ∧ (∀ b ∈ bs, Ok b) ∧ bs.length * P.bytesOf E ≤ 140737488355328 := by
 subst hck
 rcases h.slice ht with ⟨h1, _⟩ | ⟨a, len, cap, es, rest, h1, hd, h2, h3, h4, h5, h6, h7⟩
 ·exact ⟨none, 0, [], h1, RowS.nil _ _ _ _ (by omega), by simp, by simp⟩
 ·have key : ∀ i (hi : i < es.length), ∃ b : α, Ok b ∧ ∀ j u, (f b)[j]? = some u → W.cell? (a.add (i * P.cellsOf E + j)) = some u := by
   intro i hi
   obtain ⟨us, hu1, hu2, hu3⟩ := h7 i es[i] (List.getElem?_eq_getElem hi)
   obtain ⟨b, rfl, hb⟩ := elem _ _ hu3
   refine ⟨b, hb, fun j u hu => ?_⟩
   obtain ⟨hj, rfl⟩ := List.getElem?_eq_some_iff.1 hu
   exact hu2 j hj
  let bs : List α := List.ofFn (fun i : Fin es.length => Classical.choose (key i i.2))
  have hbl : bs.length = es.length := List.length_ofFn
  have hget : ∀ i (hi : i < bs.length), Ok bs[i] ∧ ∀ j u, (f bs[i])[j]? = some u → W.cell? (a.add (i * P.cellsOf E + j)) = some u := by
   intro i hi
   have e : bs[i] = Classical.choose (key i (by omega)) := List.getElem_ofFn (h := hi)
   rw [e]
   exact Classical.choose_spec (key i (by omega))
  refine ⟨some a, cap, bs, by rw [h1, hbl, h2], ⟨by simp, by rw [hbl, h2]; exact h4, h5, ?_, ?_⟩, ?_, ?_⟩
  ·intro l hl
   obtain ⟨b, _, rfl⟩ := List.mem_map.1 hl
   exact hk b
  ·by_cases h0 : bs.length = 0
   ·exact .inl h0
   ·obtain ⟨b, off, spot⟩ := a
    have hlt0 : 0 < (f bs[0]).length := by rw [hk]; exact h0k
    have hc0 := (hget 0 (by omega)).2 0 _ (List.getElem?_eq_getElem hlt0)
    have hspot : spot = none := by simpa [Addr.add] using World.cell?_spot hc0
    subst hspot
    have ea : ∀ j, (⟨b, off, none⟩ : Addr).add j = ⟨b, off + j, none⟩ := fun j => by simp only [Addr.add]; split <;> simp_all
    rw [ea] at hc0
    refine .inr ⟨b, off, rfl, cell_lt hc0, fun i hi j u hu => ?_⟩
    have hi' : i < bs.length := by simpa using hi
    have := (hget i hi').2 j u (by simpa using hu)
    rw [ea] at this
    rw [Nat.add_assoc]; exact this
  ·intro b hb
   obtain ⟨i, hi, rfl⟩ := List.getElem_of_mem hb
   exact (hget i hi).1
  ·rw [hbl, h2]; exact Nat.le_trans (Nat.mul_le_mul_right _ h4) (by omega)
end Go.Proofs.YtpjdcgjoepjmcaaGreat
end
section
namespace Go.Proofs.YtpjdcgjoepjmcaaGreat
open Go.ChangeShapes Go.WideShapes Go.ChangeAt Go.RowKit
structure CallQ where
 do_ : Int
 key : ByteArray
 at_ : Int
def CallQ.cells (c : CallQ) : List Value := [.int .i64 c.do_, .string c.key, .int .i64 c.at_]
def CallOk (c : CallQ) : Prop := c.key.size ≤ 281474976710656 ∧ (-9223372036854775808 ≤ c.do_ ∧ c.do_ ≤ 9223372036854775807) ∧ -9223372036854775808 ≤ c.at_ ∧ c.at_ ≤ 9223372036854775807
section
variable {H : Type} {enc : TypeId × Value → H} {P : Program} {W : World} {base : Nat} {T : TypeId} {v : Value} {cs : List Value} {d : DataW H} {p : List MemPlace}
end
end Go.Proofs.YtpjdcgjoepjmcaaGreat
end
section
namespace Go.Proofs.YtpjdcgjoepjmcaaGreat
open Go.RowKit
structure Q2 (w w' : World) (bp : Nat) (hp : QH) (Lp : List QR) (bq : Nat) (hq : QH) (Lq : List QR) : Prop where
 p : QN w w' bp hp Lp
 q : QN w w' bq hq Lq
 ap : ∀ k, footQ bp hp k → ¬ footQ bq hq k
section
variable {w w1 w2 : World} {bp bq : Nat} {hp hq : QH} {Lp Lq L' A R : List QR} {v : Value}
end
def c0Q : CallQ := ⟨0, ByteArray.empty, 0⟩
def gc (l : List CallQ) (i : Nat) : CallQ := l.getD i c0Q
end Go.Proofs.YtpjdcgjoepjmcaaGreat
end
section
namespace Go.Proofs.YtpjdcgjoepjmcaaGreat
open Go.RowKit
def flowF (r : RecD) (v : Int) : List Nat := tbF r.t ++ beB 2 (u64N r.fb) ++ (if v < 2 then [] else beB 4 (u64N r.fg)) ++ (if v < 3 then [] else beB 8 (u64N r.fs))
structure FlowOk (r : RecD) : Prop where
 t : TupOk r.t
 fb : -9223372036854775808 ≤ r.fb ∧ r.fb ≤ 9223372036854775807
 fg : 0 ≤ r.fg ∧ r.fg ≤ 4294967295
 fs : -9223372036854775808 ≤ r.fs ∧ r.fs ≤ 9223372036854775807
end Go.Proofs.YtpjdcgjoepjmcaaGreat
end
section
namespace Go.Proofs.YtpjdcgjoepjmcaaGreat
open Go.RowKit
def bkF (v : Int) (b : BkD) : List Nat := beB 2 (u64N b.id) ++ beB 4 (u64N b.addr) ++ (if v < 2 then [] else beB 1 (u64N b.weight))
def bksF (v : Int) (bs : List BkD) : List Nat := (bs.map (bkF v)).flatten
end Go.Proofs.YtpjdcgjoepjmcaaGreat
end
section
namespace Go.Proofs.YtpjdcgjoepjmcaaGreat
open Go.RowKit
def RecD.nums (r : RecD) : List Int := [r.kind, r.t.src, r.t.dst, r.t.proto, r.t.sport, r.t.dport, r.fb, r.fg, r.fs, r.gen, r.be, r.un, r.ct]
def RecD.val (r : RecD) : List Int × List (Int × Int × Int) := (r.nums, r.bs.map BkD.val)
def sameR (r s : RecD) : Bool := decide ((plainD r).val = (plainD s).val)
theorem val_eq (p q : RecD) : (p.val = q.val) = (p.kind = q.kind ∧ (p.t.src = q.t.src ∧ p.t.dst = q.t.dst ∧ p.t.proto = q.t.proto ∧ p.t.sport = q.t.sport ∧ p.t.dport = q.t.dport) ∧ (p.fb = q.fb ∧ p.fg = q.fg ∧ p.fs = q.fs) ∧ p.gen = q.gen ∧ p.bs.map BkD.val = q.bs.map BkD.val ∧ p.be = q.be ∧ p.un = q.un ∧ p.ct = q.ct) := by
 apply propext
 simp only [RecD.val, RecD.nums, Prod.mk.injEq, List.cons.injEq, and_true]
 constructor
 ·rintro ⟨⟨h1, h2, h3, h4, h5, h6, h7, h8, h9, h10, h11, h12, h13⟩, h14⟩
  exact ⟨h1, ⟨h2, h3, h4, h5, h6⟩, ⟨h7, h8, h9⟩, h10, h14, h11, h12, h13⟩
 ·rintro ⟨h1, ⟨h2, h3, h4, h5, h6⟩, ⟨h7, h8, h9⟩, h10, h14, h11, h12, h13⟩
  exact ⟨⟨h1, h2, h3, h4, h5, h6, h7, h8, h9, h10, h11, h12, h13⟩, h14⟩
def SameAt (w : World) (A B : Nat) (r s : RecD) (x : Value) (wx : World) : Prop :=
 ∃ a1 c1 a2 c2, wx.heap[A]? = some (.cells (rcs r a1 c1) 85 (0, 0)) ∧ wx.heap[B]? = some (.cells (rcs s a2 c2) 85 (0, 0)) ∧ RowK wx a1 r.bs.length c1 r.bs ∧ RowK wx a2 s.bs.length c2 s.bs ∧ Touch w wx (fun _ => False)
theorem ret_iff {X : Prop} [Decidable X] (b : Bool) (h : b = true ↔ X) : Ending.returned (.bool b) = .returned (.bool (decide X)) := by
 have e : decide X = b := by
  cases b
  ·exact decide_eq_false (fun x => by have := h.2 x; cases this)
  ·exact decide_eq_true (h.1 rfl)
 rw [e]
end Go.Proofs.YtpjdcgjoepjmcaaGreat
end
section
namespace Go.Proofs.YtpjdcgjoepjmcaaGreat
open Go.RowKit
def w1K (b : BkD) : BkD := ⟨b.id, b.addr, 1⟩
def zeroR : RecD := ⟨0, noT, 0, 0, 0, 0, [], 0, 0, 0⟩
def inD (r : RecD) (v : Int) : RecD :=
 if verB v = true then ⟨(plainD r).kind, (plainD r).t, (plainD r).fb, if v < 2 then 0 else (plainD r).fg, if v < 3 then 0 else (plainD r).fs, (plainD r).gen, if v < 2 then (plainD r).bs.map w1K else (plainD r).bs, (plainD r).be, (plainD r).un, (plainD r).ct⟩ else zeroR
def halfK (bs : List BkD) (k : Nat) : List BkD := (bs.take k).map w1K ++ bs.drop k
def InL (w W1 w4 : World) (P : RecD) (a' : Option Addr) (c' base k : Nat) (wx : World) : Prop :=
 wx.heap[w4.heap.size]? = some (.cells (rcs P a' c') 85 (0, 0)) ∧ wx.heap[W1.heap.size]? = some (.cells (rcs zeroR none 0) 85 (0, 0)) ∧ OwnK wx base (.slice a' P.bs.length c') (halfK P.bs k) ∧ Touch w wx (fun _ => False) ∧ (∀ g, a' = some ⟨g, 0, none⟩ → g < w4.heap.size)
end Go.Proofs.YtpjdcgjoepjmcaaGreat
end
section
namespace Go.Proofs.YtpjdcgjoepjmcaaGreat
open Go.RowKit
def bodyF (r : RecD) (v : Int) : List Nat :=
 if r.kind = 1 then flowF r v
 else if r.kind = 2 then tbF r.t
 else if r.kind = 3 then beB 4 (u64N r.gen) ++ (beB 1 (u64N r.bs.length) ++ bksF v r.bs)
 else if r.kind = 4 then beB 2 (u64N r.be) ++ beB 8 (u64N r.un)
 else if r.kind = 5 then beB 2 (u64N r.be)
 else beB 4 (u64N r.ct)
structure RecLess (r : RecD) : Prop where
 fg : r.kind = 1 → 0 ≤ r.fg ∧ r.fg ≤ 4294967295
 gen : r.kind = 3 → 0 ≤ r.gen ∧ r.gen ≤ 4294967295
 ct : r.kind = 6 → 0 ≤ r.ct ∧ r.ct ≤ 4294967295
 bs : r.kind = 3 → r.bs.length ≤ 16
end Go.Proofs.YtpjdcgjoepjmcaaGreat
end
section
namespace Go.Proofs.YtpjdcgjoepjmcaaGreat
open Go.RowKit
def f3 (k v : Int) (a : Option Addr) (len cap : Nat) : Array Value := #[.int .i64 k, .int .i64 v, .slice a len cap]
def encE (r : RecD) (v : Int) : Int := if verB v = true then (if mayRB r = true then 0 else 1) else 10
def encK (r : RecD) (v : Int) : Int := if encE r v = 0 then r.kind else 0
def encV (r : RecD) (v : Int) : Int := if encE r v = 0 then v else 0
def encB (r : RecD) (v : Int) : List Nat := if encE r v = 0 then bodyF r v else []
def EncIs (w : World) (r : RecD) (v : Int) (e : Ending) (w' : World) : Prop :=
 ∃ (a' : Option Addr) (c' : Nat), e = .returned (.tuple #[.agg (f3 (encK r v) (encV r v) a' (encB r v).length c'), .int .i64 (encE r v)]) ∧ FreshB w w' (.slice a' (encB r v).length c') (encB r v)
end Go.Proofs.YtpjdcgjoepjmcaaGreat
end
section
namespace Go.Proofs.YtpjdcgjoepjmcaaGreat
open Go.RowKit
def mayPB (p : RecD) : Bool :=
 (if p.kind = 1 ∨ p.kind = 2 then mayTB p.t else true) && decide (p.bs.length ≤ 16) && p.bs.all mayKB && idB p.fb && cntB p.fg && timB p.fs && cntB p.gen && idB p.be && timB p.un && cntB p.ct
def RMayAt (w : World) (p : RecD) (wx : World) : Prop :=
 ∃ a' c', wx.heap[w.heap.size]? = some (.cells (rcs p a' c') 85 (0, 0)) ∧ RowK wx a' p.bs.length c' p.bs ∧ Touch w wx (fun _ => False)
def RMayL (w : World) (p : RecD) (a' : Option Addr) (c' k : Nat) (wx : World) : Prop :=
 wx.heap[w.heap.size]? = some (.cells (rcs p a' c') 85 (0, 0)) ∧ RowK wx a' p.bs.length c' p.bs ∧ Touch w wx (fun _ => False) ∧ (p.bs.take k).all mayKB = true
end Go.Proofs.YtpjdcgjoepjmcaaGreat
end
section
namespace Go.Proofs.YtpjdcgjoepjmcaaGreat
open Go.RowKit
theorem be1_inj {n m : Int} (h : beB 1 (u64N n) = beB 1 (u64N m)) (hn : 0 ≤ n ∧ n < 256) (hm : 0 ≤ m ∧ m < 256) : n = m := by
 simp [beB, List.range_succ, u64N] at h; omega
theorem be2_inj {n m : Int} (h : beB 2 (u64N n) = beB 2 (u64N m)) (hn : 0 ≤ n ∧ n < 65536) (hm : 0 ≤ m ∧ m < 65536) : n = m := by
 simp [beB, List.range_succ, u64N] at h; omega
theorem be4_inj {n m : Int} (h : beB 4 (u64N n) = beB 4 (u64N m)) (hn : 0 ≤ n ∧ n < 4294967296) (hm : 0 ≤ m ∧ m < 4294967296) : n = m := by
 simp [beB, List.range_succ, u64N] at h; omega
theorem app_inj {a b c d : List Nat} (h : a ++ b = c ++ d) (hl : a.length = c.length) : a = c ∧ b = d := List.append_inj h hl
theorem tbF_inj {t u : TupD} (h : tbF t = tbF u) (ot : TupOk t) (ou : TupOk u) (ht : mayTB t = true) (hu : mayTB u = true) : t.src = u.src ∧ t.dst = u.dst ∧ t.proto = u.proto ∧ t.sport = u.sport ∧ t.dport = u.dport := by
 rw [mayTB_iff] at ht hu
 have o1 := ot.src; have o2 := ot.dst; have p1 := ou.src; have p2 := ou.dst
 simp only [u32] at o1 o2 p1 p2
 unfold tbF at h
 obtain ⟨h, h5⟩ := app_inj h (by simp [beB_length])
 obtain ⟨h, h4⟩ := app_inj h (by simp [beB_length])
 obtain ⟨h, h3⟩ := app_inj h (by simp [beB_length])
 obtain ⟨h1, h2⟩ := app_inj h (by simp [beB_length])
 exact ⟨be4_inj h1 (by omega) (by omega), be4_inj h2 (by omega) (by omega), be1_inj h3 (by omega) (by omega), be2_inj h4 (by omega) (by omega), be2_inj h5 (by omega) (by omega)⟩
theorem tup_ext {t u : TupD} (h : t.src = u.src ∧ t.dst = u.dst ∧ t.proto = u.proto ∧ t.sport = u.sport ∧ t.dport = u.dport) : t = u := by
 obtain ⟨a, b, c, d, e⟩ := t
 obtain ⟨a2, b2, c2, d2, e2⟩ := u
 simp only at h
 obtain ⟨rfl, rfl, rfl, rfl, rfl⟩ := h
 rfl
theorem bks_ext : ∀ {bs cs : List BkD}, bs.map BkD.val = cs.map BkD.val → bs = cs
 | [], [], _ => rfl
 | [], c :: cs, h => by simp at h
 | b :: bs, [], h => by simp at h
 | b :: bs, c :: cs, h => by
   simp only [List.map_cons, List.cons.injEq] at h
   rw [bks_ext h.2]
   obtain ⟨x1, x2, x3⟩ := b
   obtain ⟨y1, y2, y3⟩ := c
   simp only [BkD.val, Prod.mk.injEq] at h
   obtain ⟨⟨rfl, rfl, rfl⟩, _⟩ := h
   rfl
theorem rec_ext {p q : RecD} (h : p.val = q.val) : p = q := by
 rw [val_eq] at h
 obtain ⟨h1, h2, ⟨h3, h4, h5⟩, h6, h7, h8, h9, h10⟩ := h
 have e1 := tup_ext h2
 have e2 := bks_ext h7
 obtain ⟨k, t, fb, fg, fs, gen, bs, be, un, ct⟩ := p
 obtain ⟨k2, t2, fb2, fg2, fs2, gen2, bs2, be2, un2, ct2⟩ := q
 simp only at h1 e1 h3 h4 h5 h6 e2 h8 h9 h10
 subst h1 e1 h3 h4 h5 h6 e2 h8 h9 h10
 rfl
theorem sameR_iff (r s : RecD) : sameR r s = true ↔ plainD r = plainD s := by
 unfold sameR
 rw [decide_eq_true_iff]
 exact ⟨rec_ext, fun h => by rw [h]⟩
end Go.Proofs.YtpjdcgjoepjmcaaGreat
end
section
namespace Go.Proofs.YtpjdcgjoepjmcaaGreat
open Go.RowKit
structure RdD (w : World) (G : Nat) (D : Nat → Prop) (xs : List Nat) (err : Int) : Prop where
 dg : ¬ D G
 ex : ∃ a cap, RdB w G a xs.length cap xs err ∧ ∀ x, a = some x → xs.length = 0 ∨ ¬ D x.block
section
variable {w w' : World} {G : Nat} {D : Nat → Prop} {xs : List Nat} {err : Int}
def TookD (w : World) (G : Nat) (D : Nat → Prop) (xs : List Nat) (err : Int) (n : Nat) (w' : World) : Prop :=
 RdD w' G D (nxtX n xs) (nxtE n xs err) ∧ Touch w w' (fun k => k = G)
end
def tupV (xs : List Nat) : TupD := ⟨(valN 4 xs : Nat), (valN 4 (nxtX 4 xs) : Nat), (valN 1 (nxtX 8 xs) : Nat), (valN 2 (nxtX 9 xs) : Nat), (valN 2 (nxtX 11 xs) : Nat)⟩
def rtB (xs : List Nat) : Bool := decide (13 ≤ xs.length) && mayTB (tupV xs)
def rtF (xs : List Nat) : TupD := if rtB xs = true then tupV xs else noT
def bkV (v : Int) (xs : List Nat) : BkD := ⟨(valN 2 xs : Nat), (valN 4 (nxtX 2 xs) : Nat), if v < 2 then 0 else (valN 1 (nxtX 6 xs) : Nat)⟩
def bkW (v : Int) : Nat := if v < 2 then 6 else 7
def bksV (v : Int) : Nat → List Nat → List BkD
 | 0, _ => []
 | n + 1, xs => bkV v xs :: bksV v n (nxtX (bkW v) xs)
def flW (v : Int) : Nat := 15 + (if v < 2 then 0 else 4) + (if v < 3 then 0 else 8)
end Go.Proofs.YtpjdcgjoepjmcaaGreat
end
