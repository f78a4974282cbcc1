import Derived.Test.YtpjdcgjoepjmcaaGreatGAZ
import Derived.Test.YtpjdcgjoepjmcaaGreatGGZ
import Derived.Test.YtpjdcgjoepjmcaaGreatHCZ
import Derived.Deep.DeepCutAuto
import Derived.Test.YtpjdcgjoepjmcaaGreatGCZ
import Derived.Laws.EntriesVeiled
import Derived.Test.YtpjdcgjoepjmcaaGreatGBZ
import Derived.StillTailTactics
section
set_option linter.unusedVariables false
namespace Go.Proofs.YtpjdcgjoepjmcaaGreat
open Go.ChangeShapes Go.WideShapes Go.ChangeAt Go.RowKit

theorem Tr.rowsOf {H : Type} {enc : TypeId × Value → H} {P : Program} {W : World} {T E : TypeId} {cs : List Value} {d : DataW H} {α : Type} (f : α → List Value) (Ok : α → Prop) (k : Nat) (h : Tr enc P W T cs d)
    (ht : P.underlying T = some (.slice E)) (hck : P.cellsOf E = k) (hk : ∀ b, (f b).length = k) (h0k : 0 < k) (elem : ∀ cs d, Tr enc P W E cs d → ∃ b, cs = f b ∧ Ok b) :
    ∃ (a : Option Addr) (cap : Nat) (bs : List α), cs = [.slice a bs.length cap] ∧ RowS W a bs.length cap k (bs.map f) ∧ (∀ b ∈ bs, Ok b) ∧ bs.length * P.bytesOf E ≤ 140737488355328 := by
  subst hck
  rcases h.slice ht with ⟨h1, _⟩ | ⟨a, len, cap, es, rest, h1, hd, h2, h3, h4, h5, h6, h7⟩
  · exact ⟨none, 0, [], h1, RowS.nil _ _ _ _ (by omega), by simp, by simp⟩
  · have key : ∀ i (hi : i < es.length), ∃ b : α, Ok b ∧ ∀ j u, (f b)[j]? = some u → W.cell? (a.add (i * P.cellsOf E + j)) = some u := by
      intro i hi
      obtain ⟨us, hu1, hu2, hu3⟩ := h7 i es[i] (List.getElem?_eq_getElem hi)
      obtain ⟨b, rfl, hb⟩ := elem _ _ hu3
      refine ⟨b, hb, fun j u hu => ?_⟩
      obtain ⟨hj, rfl⟩ := List.getElem?_eq_some_iff.1 hu
      exact hu2 j hj
    let bs : List α := List.ofFn (fun i : Fin es.length => Classical.choose (key i i.2))
    have hbl : bs.length = es.length := List.length_ofFn
    have hget : ∀ i (hi : i < bs.length), Ok bs[i] ∧ ∀ j u, (f bs[i])[j]? = some u → W.cell? (a.add (i * P.cellsOf E + j)) = some u := by
      intro i hi
      have e : bs[i] = Classical.choose (key i (by omega)) := List.getElem_ofFn (h := hi)
      rw [e]
      exact Classical.choose_spec (key i (by omega))
    refine ⟨some a, cap, bs, by rw [h1, hbl, h2], ⟨by simp, by rw [hbl, h2]; exact h4, h5, ?_, ?_⟩, ?_, ?_⟩
    · intro l hl
      obtain ⟨b, _, rfl⟩ := List.mem_map.1 hl
      exact hk b
    · by_cases h0 : bs.length = 0
      · exact .inl h0
      · obtain ⟨b, off, spot⟩ := a
        have hlt0 : 0 < (f bs[0]).length := by rw [hk]; exact h0k
        have hc0 := (hget 0 (by omega)).2 0 _ (List.getElem?_eq_getElem hlt0)
        have hspot : spot = none := by simpa [Addr.add] using World.cell?_spot hc0
        subst hspot
        have ea : ∀ j, (⟨b, off, none⟩ : Addr).add j = ⟨b, off + j, none⟩ := fun j => by simp only [Addr.add]; split <;> simp_all
        rw [ea] at hc0
        refine .inr ⟨b, off, rfl, cell_lt hc0, fun i hi j u hu => ?_⟩
        have hi' : i < bs.length := by simpa using hi
        have := (hget i hi').2 j u (by simpa using hu)
        rw [ea] at this
        rw [Nat.add_assoc]; exact this
    · intro b hb
      obtain ⟨i, hi, rfl⟩ := List.getElem_of_mem hb
      exact (hget i hi).1
    · rw [hbl, h2]; exact Nat.le_trans (Nat.mul_le_mul_right _ h4) (by omega)
end Go.Proofs.YtpjdcgjoepjmcaaGreat

end

section
set_option linter.unusedVariables false
namespace Go.Proofs.YtpjdcgjoepjmcaaGreat
open Go.ChangeShapes Go.WideShapes Go.ChangeAt Go.RowKit

structure CallQ where
  do_ : Int
  key : ByteArray
  at_ : Int
def CallQ.cells (c : CallQ) : List Value := [.int .i64 c.do_, .string c.key, .int .i64 c.at_]
def CallOk (c : CallQ) : Prop := c.key.size ≤ 281474976710656 ∧ (-9223372036854775808 ≤ c.do_ ∧ c.do_ ≤ 9223372036854775807) ∧ -9223372036854775808 ≤ c.at_ ∧ c.at_ ≤ 9223372036854775807
section
variable {H : Type} {enc : TypeId × Value → H} {P : Program} {W : World} {base : Nat} {T : TypeId} {v : Value} {cs : List Value} {d : DataW H} {p : List MemPlace}
end
end Go.Proofs.YtpjdcgjoepjmcaaGreat

end

section
set_option linter.unusedVariables false
set_option linter.unusedSimpArgs false
namespace Go.Proofs.YtpjdcgjoepjmcaaGreat
open Go.RowKit

structure Q2 (w w' : World) (bp : Nat) (hp : QH) (Lp : List QR) (bq : Nat) (hq : QH) (Lq : List QR) : Prop where
  p : QN w w' bp hp Lp
  q : QN w w' bq hq Lq
  ap : ∀ k, footQ bp hp k → ¬ footQ bq hq k
section
variable {w w1 w2 : World} {bp bq : Nat} {hp hq : QH} {Lp Lq L' A R : List QR} {v : Value}
theorem Q2.symm (h : Q2 w w1 bp hp Lp bq hq Lq) : Q2 w w1 bq hq Lq bp hp Lp := ⟨h.q, h.p, fun k a b => h.ap k b a⟩
theorem Q2.still (h : Q2 w w1 bp hp Lp bq hq Lq) (t : Touch w1 w2 (fun _ => False)) : Q2 w w2 bp hp Lp bq hq Lq := ⟨h.p.still t, h.q.still t, h.ap⟩
theorem Q2.touch {S : Nat → Prop} (h : Q2 w w1 bp hp Lp bq hq Lq) (t : Touch w1 w2 S) (h1 : ∀ k, footQ bp hp k → ¬ S k) (h2 : ∀ k, footQ bq hq k → ¬ S k) (h3 : ∀ k, k < w.heap.size → ¬ S k) : Q2 w w2 bp hp Lp bq hq Lq := ⟨h.p.touch t h1 h3, h.q.touch t h2 h3, h.ap⟩
theorem Q2.new (n : QN w w1 bp hp Lp) (q : QL w2 bq hq []) (t : Touch w1 w2 (fun _ => False)) (f : ∀ k, footQ bq hq k → w1.heap.size ≤ k) : Q2 w w2 bp hp Lp bq hq [] :=
  ⟨n.still t, QN.new n.t q t f, fun k hk hf => by have := n.q.footlt k hk; have := f k hf; omega⟩
end
def c0Q : CallQ := ⟨0, ByteArray.empty, 0⟩
def gc (l : List CallQ) (i : Nat) : CallQ := l.getD i c0Q
end Go.Proofs.YtpjdcgjoepjmcaaGreat

end

section
set_option linter.unusedVariables false
set_option linter.unusedSimpArgs false
namespace Go.Proofs.YtpjdcgjoepjmcaaGreat
open Go.RowKit

def flowF (r : RecD) (v : Int) : List Nat := tbF r.t ++ beB 2 (u64N r.fb) ++ (if v < 2 then [] else beB 4 (u64N r.fg)) ++ (if v < 3 then [] else beB 8 (u64N r.fs))
structure FlowOk (r : RecD) : Prop where
  t : TupOk r.t
  fb : -9223372036854775808 ≤ r.fb ∧ r.fb ≤ 9223372036854775807
  fg : 0 ≤ r.fg ∧ r.fg ≤ 4294967295
  fs : -9223372036854775808 ≤ r.fs ∧ r.fs ≤ 9223372036854775807

end Go.Proofs.YtpjdcgjoepjmcaaGreat

end

section
set_option linter.unusedVariables false
set_option linter.unusedSimpArgs false
namespace Go.Proofs.YtpjdcgjoepjmcaaGreat
open Go.RowKit

def bkF (v : Int) (b : BkD) : List Nat := beB 2 (u64N b.id) ++ beB 4 (u64N b.addr) ++ (if v < 2 then [] else beB 1 (u64N b.weight))
def bksF (v : Int) (bs : List BkD) : List Nat := (bs.map (bkF v)).flatten
end Go.Proofs.YtpjdcgjoepjmcaaGreat

end

section
set_option linter.unusedVariables false
set_option linter.unusedSimpArgs false
namespace Go.Proofs.YtpjdcgjoepjmcaaGreat
open Go.RowKit

def RecD.nums (r : RecD) : List Int := [r.kind, r.t.src, r.t.dst, r.t.proto, r.t.sport, r.t.dport, r.fb, r.fg, r.fs, r.gen, r.be, r.un, r.ct]
def RecD.val (r : RecD) : List Int × List (Int × Int × Int) := (r.nums, r.bs.map BkD.val)
def sameR (r s : RecD) : Bool := decide ((plainD r).val = (plainD s).val)
def SameAt (w : World) (A B : Nat) (r s : RecD) (x : Value) (wx : World) : Prop :=
  ∃ a1 c1 a2 c2, wx.heap[A]? = some (.cells (rcs r a1 c1) 85 (0, 0)) ∧ wx.heap[B]? = some (.cells (rcs s a2 c2) 85 (0, 0)) ∧ RowK wx a1 r.bs.length c1 r.bs ∧ RowK wx a2 s.bs.length c2 s.bs ∧ Touch w wx (fun _ => False)
end Go.Proofs.YtpjdcgjoepjmcaaGreat

end

section
set_option linter.unusedVariables false
set_option linter.unusedSimpArgs false
namespace Go.Proofs.YtpjdcgjoepjmcaaGreat
open Go.RowKit

def w1K (b : BkD) : BkD := ⟨b.id, b.addr, 1⟩
def zeroR : RecD := ⟨0, noT, 0, 0, 0, 0, [], 0, 0, 0⟩
def inD (r : RecD) (v : Int) : RecD :=
  if verB v = true then ⟨(plainD r).kind, (plainD r).t, (plainD r).fb, if v < 2 then 0 else (plainD r).fg, if v < 3 then 0 else (plainD r).fs, (plainD r).gen, if v < 2 then (plainD r).bs.map w1K else (plainD r).bs, (plainD r).be, (plainD r).un, (plainD r).ct⟩ else zeroR

theorem w1K_cells (b : BkD) : (w1K b).cells = b.cells.set 2 (.int .i64 1) := rfl
theorem OwnK.w1 {w : World} {base g n cap : Nat} {bs : List BkD} (h : OwnK w base (.slice (some ⟨g, 0, Option.none⟩) n cap) bs) (k : Nat) (hk : k < bs.length) :
    OwnK (w.setCell ⟨g, k * 3 + 2, Option.none⟩ (.int .i64 1)) base (.slice (some ⟨g, 0, Option.none⟩) n cap) (bs.set k (w1K bs[k])) := by
  have := OwnS.stored (L := bs.map BkD.cells) h k (by simpa using hk) 2 (by decide) (.int .i64 1)
  unfold OwnK
  rw [List.map_set, w1K_cells]
  simpa using this
theorem OwnK.addr {w : World} {base n cap : Nat} {a : Option Addr} {bs : List BkD} (h : OwnK w base (.slice a n cap) bs) (h0 : 0 < n) : ∃ g, a = some ⟨g, 0, Option.none⟩ ∧ base ≤ g := by
  obtain ⟨hn, _, _⟩ := OwnS.row' h
  rcases (OwnS.own h).2 with ⟨h1, h2⟩ | ⟨g, cap', cur, h1, hb, _⟩
  · omega
  · simp only [Value.slice.injEq] at h1
    exact ⟨g, h1.1, hb⟩
def halfK (bs : List BkD) (k : Nat) : List BkD := (bs.take k).map w1K ++ bs.drop k
def InL (w W1 w4 : World) (P : RecD) (a' : Option Addr) (c' base k : Nat) (wx : World) : Prop :=
  wx.heap[w4.heap.size]? = some (.cells (rcs P a' c') 85 (0, 0)) ∧ wx.heap[W1.heap.size]? = some (.cells (rcs zeroR none 0) 85 (0, 0)) ∧ OwnK wx base (.slice a' P.bs.length c') (halfK P.bs k) ∧ Touch w wx (fun _ => False) ∧ (∀ g, a' = some ⟨g, 0, none⟩ → g < w4.heap.size)

end Go.Proofs.YtpjdcgjoepjmcaaGreat

end

section
set_option linter.unusedVariables false
set_option linter.unusedSimpArgs false
namespace Go.Proofs.YtpjdcgjoepjmcaaGreat
open Go.RowKit

def bodyF (r : RecD) (v : Int) : List Nat :=
  if r.kind = 1 then flowF r v
  else if r.kind = 2 then tbF r.t
  else if r.kind = 3 then beB 4 (u64N r.gen) ++ (beB 1 (u64N r.bs.length) ++ bksF v r.bs)
  else if r.kind = 4 then beB 2 (u64N r.be) ++ beB 8 (u64N r.un)
  else if r.kind = 5 then beB 2 (u64N r.be)
  else beB 4 (u64N r.ct)
structure RecLess (r : RecD) : Prop where
  fg : r.kind = 1 → 0 ≤ r.fg ∧ r.fg ≤ 4294967295
  gen : r.kind = 3 → 0 ≤ r.gen ∧ r.gen ≤ 4294967295
  ct : r.kind = 6 → 0 ≤ r.ct ∧ r.ct ≤ 4294967295
  bs : r.kind = 3 → r.bs.length ≤ 16

end Go.Proofs.YtpjdcgjoepjmcaaGreat

end

section
set_option linter.unusedVariables false
set_option linter.unusedSimpArgs false
namespace Go.Proofs.YtpjdcgjoepjmcaaGreat
open Go.RowKit

def f3 (k v : Int) (a : Option Addr) (len cap : Nat) : Array Value := #[.int .i64 k, .int .i64 v, .slice a len cap]
def encE (r : RecD) (v : Int) : Int := if verB v = true then (if mayRB r = true then 0 else 1) else 10
def encK (r : RecD) (v : Int) : Int := if encE r v = 0 then r.kind else 0
def encV (r : RecD) (v : Int) : Int := if encE r v = 0 then v else 0
def encB (r : RecD) (v : Int) : List Nat := if encE r v = 0 then bodyF r v else []
def EncIs (w : World) (r : RecD) (v : Int) (e : Ending) (w' : World) : Prop :=
  ∃ (a' : Option Addr) (c' : Nat), e = .returned (.tuple #[.agg (f3 (encK r v) (encV r v) a' (encB r v).length c'), .int .i64 (encE r v)]) ∧ FreshB w w' (.slice a' (encB r v).length c') (encB r v)
end Go.Proofs.YtpjdcgjoepjmcaaGreat

end

section
set_option linter.unusedVariables false
set_option linter.unusedSimpArgs false
namespace Go.Proofs.YtpjdcgjoepjmcaaGreat
open Go.RowKit

def mayPB (p : RecD) : Bool :=
  (if p.kind = 1 ∨ p.kind = 2 then mayTB p.t else true) && decide (p.bs.length ≤ 16) && p.bs.all mayKB && idB p.fb && cntB p.fg && timB p.fs && cntB p.gen && idB p.be && timB p.un && cntB p.ct
def RMayAt (w : World) (p : RecD) (wx : World) : Prop :=
  ∃ a' c', wx.heap[w.heap.size]? = some (.cells (rcs p a' c') 85 (0, 0)) ∧ RowK wx a' p.bs.length c' p.bs ∧ Touch w wx (fun _ => False)
def RMayL (w : World) (p : RecD) (a' : Option Addr) (c' k : Nat) (wx : World) : Prop :=
  wx.heap[w.heap.size]? = some (.cells (rcs p a' c') 85 (0, 0)) ∧ RowK wx a' p.bs.length c' p.bs ∧ Touch w wx (fun _ => False) ∧ (p.bs.take k).all mayKB = true

end Go.Proofs.YtpjdcgjoepjmcaaGreat

end

section
set_option linter.unusedVariables false
set_option linter.unusedSimpArgs false
namespace Go.Proofs.YtpjdcgjoepjmcaaGreat
open Go.RowKit

theorem be1_inj {n m : Int} (h : beB 1 (u64N n) = beB 1 (u64N m)) (hn : 0 ≤ n ∧ n < 256) (hm : 0 ≤ m ∧ m < 256) : n = m := by
  simp [beB, List.range_succ, u64N] at h; omega
theorem be2_inj {n m : Int} (h : beB 2 (u64N n) = beB 2 (u64N m)) (hn : 0 ≤ n ∧ n < 65536) (hm : 0 ≤ m ∧ m < 65536) : n = m := by
  simp [beB, List.range_succ, u64N] at h; omega
theorem be4_inj {n m : Int} (h : beB 4 (u64N n) = beB 4 (u64N m)) (hn : 0 ≤ n ∧ n < 4294967296) (hm : 0 ≤ m ∧ m < 4294967296) : n = m := by
  simp [beB, List.range_succ, u64N] at h; omega
theorem app_inj {a b c d : List Nat} (h : a ++ b = c ++ d) (hl : a.length = c.length) : a = c ∧ b = d := List.append_inj h hl
theorem tbF_inj {t u : TupD} (h : tbF t = tbF u) (ot : TupOk t) (ou : TupOk u) (ht : mayTB t = true) (hu : mayTB u = true) : t.src = u.src ∧ t.dst = u.dst ∧ t.proto = u.proto ∧ t.sport = u.sport ∧ t.dport = u.dport := by
  rw [mayTB_iff] at ht hu
  have o1 := ot.src; have o2 := ot.dst; have p1 := ou.src; have p2 := ou.dst
  simp only [u32] at o1 o2 p1 p2
  unfold tbF at h
  obtain ⟨h, h5⟩ := app_inj h (by simp [beB_length])
  obtain ⟨h, h4⟩ := app_inj h (by simp [beB_length])
  obtain ⟨h, h3⟩ := app_inj h (by simp [beB_length])
  obtain ⟨h1, h2⟩ := app_inj h (by simp [beB_length])
  exact ⟨be4_inj h1 (by omega) (by omega), be4_inj h2 (by omega) (by omega), be1_inj h3 (by omega) (by omega), be2_inj h4 (by omega) (by omega), be2_inj h5 (by omega) (by omega)⟩
end Go.Proofs.YtpjdcgjoepjmcaaGreat

end

section
set_option linter.unusedVariables false
set_option linter.unusedSimpArgs false
namespace Go.Proofs.YtpjdcgjoepjmcaaGreat
open Go.RowKit

structure RdD (w : World) (G : Nat) (D : Nat → Prop) (xs : List Nat) (err : Int) : Prop where
  dg : ¬ D G
  ex : ∃ a cap, RdB w G a xs.length cap xs err ∧ ∀ x, a = some x → xs.length = 0 ∨ ¬ D x.block
section
variable {w w' : World} {G : Nat} {D : Nat → Prop} {xs : List Nat} {err : Int}
theorem RdD.touch (h : RdD w G D xs err) {S : Nat → Prop} (t : Touch w w' S) (hS : ∀ k, k < w.heap.size → S k → D k) : RdD w' G D xs err := by
  obtain ⟨dg, a, c, h1, h2⟩ := h
  refine ⟨dg, a, c, h1.touch t (fun hs => dg (hS _ h1.lt hs)) (fun x hx => ?_), h2⟩
  rcases h1.row.lt x hx with hl | hl
  · exact .inl hl
  · rcases h2 x hx with h3 | h3
    · exact .inl h3
    · exact .inr (fun hs => h3 (hS _ hl hs))
theorem RdD.still (h : RdD w G D xs err) (t : Touch w w' (fun _ => False)) : RdD w' G D xs err := h.touch t (fun _ _ h => h.elim)
theorem RdD.mono {D' : Nat → Prop} (h : RdD w G D xs err) (hd : ∀ k, D' k → D k) : RdD w G D' xs err :=
  ⟨fun hk => h.dg (hd _ hk), by
    obtain ⟨a, c, h1, h2⟩ := h.ex
    exact ⟨a, c, h1, fun x hx => (h2 x hx).imp id (fun h3 h4 => h3 (hd _ h4))⟩⟩
theorem RdD.lt (h : RdD w G D xs err) : G < w.heap.size := by obtain ⟨a, c, h1, _⟩ := h.ex; exact h1.lt
theorem RdD.drew (h : RdD w G D xs err) : RdD w.drew G D xs err := h.still ((Touch.refl w (fun _ => False)).drew)
theorem RdD.drewN (h : RdD w G D xs err) (n : Nat) : RdD (w.drewN n) G D xs err := h.still ((Touch.refl w (fun _ => False)).drewN n)
theorem RdD.none (hdg : ¬ D G) (h : RdB w G Option.none 0 0 [] 2) : RdD w G D [] 2 := ⟨hdg, Option.none, 0, h, fun x hx => by cases hx⟩
theorem RdD.took {a : Option Addr} {cap n : Nat} (hn : n ≤ xs.length) (hdg : ¬ D G) (ha : ∀ x, a = some x → xs.length = 0 ∨ ¬ D x.block) (t : TookB G a xs.length cap xs err n w w') :
    RdD w' G D (nxtX n xs) (nxtE n xs err) ∧ Touch w w' (fun k => k = G) := by
  obtain ⟨a', h1, h2, h3, h4⟩ := t
  unfold nxtX nxtE
  rw [if_pos hn, if_pos hn]
  refine ⟨⟨hdg, a', cap - n, by simpa using h1, fun x hx => ?_⟩, h3⟩
  obtain ⟨y, hy, hxy⟩ := h4 x hx
  rcases ha y hy with h | h
  · left; simp; omega
  · right; rw [hxy]; exact h
theorem RdD.small (h : RdD w G D xs err) : ∀ x ∈ xs, x < 256 := by obtain ⟨a, c, h1, _⟩ := h.ex; exact h1.row.2.2.2.2.1
def TookD (w : World) (G : Nat) (D : Nat → Prop) (xs : List Nat) (err : Int) (n : Nat) (w' : World) : Prop :=
  RdD w' G D (nxtX n xs) (nxtE n xs err) ∧ Touch w w' (fun k => k = G)
end
def tupV (xs : List Nat) : TupD := ⟨(valN 4 xs : Nat), (valN 4 (nxtX 4 xs) : Nat), (valN 1 (nxtX 8 xs) : Nat), (valN 2 (nxtX 9 xs) : Nat), (valN 2 (nxtX 11 xs) : Nat)⟩
def rtB (xs : List Nat) : Bool := decide (13 ≤ xs.length) && mayTB (tupV xs)
def rtF (xs : List Nat) : TupD := if rtB xs = true then tupV xs else noT
def bkV (v : Int) (xs : List Nat) : BkD := ⟨(valN 2 xs : Nat), (valN 4 (nxtX 2 xs) : Nat), if v < 2 then 0 else (valN 1 (nxtX 6 xs) : Nat)⟩
def bkW (v : Int) : Nat := if v < 2 then 6 else 7
def bksV (v : Int) : Nat → List Nat → List BkD
  | 0, _ => []
  | n + 1, xs => bkV v xs :: bksV v n (nxtX (bkW v) xs)
def flW (v : Int) : Nat := 15 + (if v < 2 then 0 else 4) + (if v < 3 then 0 else 8)

end Go.Proofs.YtpjdcgjoepjmcaaGreat

end
