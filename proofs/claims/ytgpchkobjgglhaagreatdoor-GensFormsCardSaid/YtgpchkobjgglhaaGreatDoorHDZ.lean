/- HD: RowsIn, DueArgs, DueTwo, RecFlow, RecBks, RecSame, RecIn, RecWalk, RecEnc, RecRMay, RecMath, RecRd. -/
import Derived.Test.YtgpchkobjgglhaaGreatDoorGAZ
import Derived.Test.YtgpchkobjgglhaaGreatDoorGGZ
import Derived.Test.YtgpchkobjgglhaaGreatDoorHCZ
import Derived.Deep.DeepCutAuto
import Derived.Test.YtgpchkobjgglhaaGreatDoorGCZ
import Derived.Laws.EntriesVeiled
import Derived.Test.YtgpchkobjgglhaaGreatDoorGBZ
import Derived.StillTailTactics
section
/- A slice of structs that came in, whatever its elements are. -/
set_option linter.unusedVariables false
namespace Go.Proofs.YtgpchkobjgglhaaGreatDoor
open Go.ChangeShapes Go.WideShapes Go.ChangeAt Go.RowKit

theorem Tr.rowsOf {H : Type} {enc : TypeId × Value → H} {P : Program} {W : World} {T E : TypeId} {cs : List Value} {d : DataW H} {α : Type} (f : α → List Value) (Ok : α → Prop) (k : Nat) (h : Tr enc P W T cs d)
    (ht : P.underlying T = some (.slice E)) (hck : P.cellsOf E = k) (hk : ∀ b, (f b).length = k) (h0k : 0 < k) (elem : ∀ cs d, Tr enc P W E cs d → ∃ b, cs = f b ∧ Ok b) :
    ∃ (a : Option Addr) (cap : Nat) (bs : List α), cs = [.slice a bs.length cap] ∧ RowS W a bs.length cap k (bs.map f) ∧ (∀ b ∈ bs, Ok b) ∧ bs.length * P.bytesOf E ≤ 140737488355328 := by
  subst hck
  rcases h.slice ht with ⟨h1, _⟩ | ⟨a, len, cap, es, rest, h1, hd, h2, h3, h4, h5, h6, h7⟩
  · exact ⟨none, 0, [], h1, RowS.nil _ _ _ _ (by omega), by simp, by simp⟩
  · have key : ∀ i (hi : i < es.length), ∃ b : α, Ok b ∧ ∀ j u, (f b)[j]? = some u → W.cell? (a.add (i * P.cellsOf E + j)) = some u := by
      intro i hi
      obtain ⟨us, hu1, hu2, hu3⟩ := h7 i es[i] (List.getElem?_eq_getElem hi)
      obtain ⟨b, rfl, hb⟩ := elem _ _ hu3
      refine ⟨b, hb, fun j u hu => ?_⟩
      obtain ⟨hj, rfl⟩ := List.getElem?_eq_some_iff.1 hu
      exact hu2 j hj
    let bs : List α := List.ofFn (fun i : Fin es.length => Classical.choose (key i i.2))
    have hbl : bs.length = es.length := List.length_ofFn
    have hget : ∀ i (hi : i < bs.length), Ok bs[i] ∧ ∀ j u, (f bs[i])[j]? = some u → W.cell? (a.add (i * P.cellsOf E + j)) = some u := by
      intro i hi
      have e : bs[i] = Classical.choose (key i (by omega)) := List.getElem_ofFn (h := hi)
      rw [e]
      exact Classical.choose_spec (key i (by omega))
    refine ⟨some a, cap, bs, by rw [h1, hbl, h2], ⟨by simp, by rw [hbl, h2]; exact h4, h5, ?_, ?_⟩, ?_, ?_⟩
    · intro l hl
      obtain ⟨b, _, rfl⟩ := List.mem_map.1 hl
      exact hk b
    · by_cases h0 : bs.length = 0
      · exact .inl h0
      · obtain ⟨b, off, spot⟩ := a
        have hlt0 : 0 < (f bs[0]).length := by rw [hk]; exact h0k
        have hc0 := (hget 0 (by omega)).2 0 _ (List.getElem?_eq_getElem hlt0)
        have hspot : spot = none := by simpa [Addr.add] using World.cell?_spot hc0
        subst hspot
        have ea : ∀ j, (⟨b, off, none⟩ : Addr).add j = ⟨b, off + j, none⟩ := fun j => by simp only [Addr.add]; split <;> simp_all
        rw [ea] at hc0
        refine .inr ⟨b, off, rfl, cell_lt hc0, fun i hi j u hu => ?_⟩
        have hi' : i < bs.length := by simpa using hi
        have := (hget i hi').2 j u (by simpa using hu)
        rw [ea] at this
        rw [Nat.add_assoc]; exact this
    · intro b hb
      obtain ⟨i, hi, rfl⟩ := List.getElem_of_mem hb
      exact (hget i hi).1
    · rw [hbl, h2]; exact Nat.le_trans (Nat.mul_le_mul_right _ h4) (by omega)
end Go.Proofs.YtgpchkobjgglhaaGreatDoor

end

section
/- The openers of the queue's laws. -/
set_option linter.unusedVariables false
namespace Go.Proofs.YtgpchkobjgglhaaGreatDoor
open Go.ChangeShapes Go.WideShapes Go.ChangeAt Go.RowKit

/-- A call to a queue. -/
structure CallQ where
  do_ : Int
  key : ByteArray
  at_ : Int
def CallQ.cells (c : CallQ) : List Value := [.int .i64 c.do_, .string c.key, .int .i64 c.at_]
def CallOk (c : CallQ) : Prop := c.key.size ≤ 281474976710656 ∧ (-9223372036854775808 ≤ c.do_ ∧ c.do_ ≤ 9223372036854775807) ∧ -9223372036854775808 ≤ c.at_ ∧ c.at_ ≤ 9223372036854775807
section
variable {H : Type} {enc : TypeId × Value → H} {P : Program} {W : World} {base : Nat} {T : TypeId} {v : Value} {cs : List Value} {d : DataW H} {p : List MemPlace}
theorem ArgIn.text (h : ArgIn enc P W base T v d p) (ht : P.underlying T = some .string) : ∃ s : ByteArray, v = .string s ∧ s.size ≤ 281474976710656 := by
  obtain ⟨s, rfl⟩ := okWide_string ht h.ok
  obtain ⟨s', h1, _, h2⟩ := h.tr.string ht
  simp only [Value.cells, List.cons.injEq, Value.string.injEq, and_true] at h1
  subst h1
  exact ⟨_, rfl, Nat.le_trans h2 (by decide)⟩
theorem three' {α : Type} {l : List α} (h : l.length = 3) : ∃ a b c, l = [a, b, c] := by
  match l, h with
  | [a, b, c], _ => exact ⟨a, b, c, rfl⟩
set_option maxRecDepth 20000 in
theorem ArgIn.keysQ (h : ArgIn enc Tryz.prog W base 41 v d p) : ∃ (a : Option Addr) (cap : Nat) (l : List ByteArray), v = .slice a l.length cap ∧ RowS W a l.length cap 1 (l.map (fun k => [Value.string k])) ∧ (∀ k ∈ l, k.size ≤ 281474976710656) := by
  obtain ⟨a0, len0, cap0, rfl⟩ := okWide_slice Tryz.underlying41 h.ok
  obtain ⟨a, cap, bs, hcs, hr, hok, _⟩ := h.tr.rowsOf (fun k : ByteArray => [Value.string k]) (fun k => k.size ≤ 281474976710656) 1 Tryz.underlying41 (by kernel_rfl) (fun _ => rfl) (by decide) (fun cs d h => by
    obtain ⟨x, g, _, a1⟩ := h.string Tryz.underlying9
    exact ⟨x, g, Nat.le_trans a1 (by decide)⟩)
  simp [Value.cells] at hcs
  obtain ⟨rfl, rfl, rfl⟩ := hcs
  exact ⟨_, _, bs, rfl, hr, hok⟩
end
end Go.Proofs.YtgpchkobjgglhaaGreatDoor

end

section
/- Two queues side by side. -/
set_option linter.unusedVariables false
set_option linter.unusedSimpArgs false
namespace Go.Proofs.YtgpchkobjgglhaaGreatDoor
open Go.RowKit

section
variable {w w1 w2 : World} {bp bq : Nat} {hp hq : QH} {Lp Lq L' A R : List QR} {v : Value}
end
/-! ### sums of sets -/
theorem ins_length (r : QR) (l : List QR) : (insQ r l).length = l.length + 1 := by rw [(ins_perm r l).length_eq]; simp
theorem set_length (L : List QR) (k : ByteArray) (t : Int) : (setQ L k t).length ≤ L.length + 1 := by
  unfold setQ
  split
  · rw [ins_length]
    have : (delQ L k).length ≤ L.length := List.length_filter_le _ _
    omega
  · omega
theorem del_ins (r : QR) : ∀ (l : List QR), r.key ∉ l.map QR.key → delQ (insQ r l) r.key = l
  | [], _ => by simp [insQ, delQ]
  | x :: l, h => by
    simp only [List.map_cons, List.mem_cons, not_or] at h
    have hx : ¬ x.key = r.key := fun e => h.1 e.symm
    unfold insQ
    split
    · have ih := del_ins r l h.2
      unfold delQ at ih ⊢
      rw [List.filter_cons, if_pos (by simp [hx]), ih]
    · have h2 : delQ (x :: l) r.key = x :: l := del_none (by simp only [List.map_cons, List.mem_cons, not_or]; exact h)
      unfold delQ at h2 ⊢
      rw [List.filter_cons, if_neg (by simp), h2]
theorem due_all {L : List QR} {now : Int} (h : ∀ r ∈ L, r.time ≤ now) : dueQ L now = L ∧ restQ L now = [] := by
  have := due_split (now := now) (R := []) (by simp) L h
  rwa [List.append_nil] at this
def c0Q : CallQ := ⟨0, ByteArray.empty, 0⟩
def gc (l : List CallQ) (i : Nat) : CallQ := l.getD i c0Q
theorem gc_get (l : List CallQ) (i : Nat) (h : i < l.length) : gc l i = l[i] := by unfold gc; rw [List.getD_eq_getElem?_getD, List.getElem?_eq_getElem h]; rfl
theorem gc_mem (l : List CallQ) (i : Nat) (h : i < l.length) : gc l i ∈ l := by rw [gc_get l i h]; exact List.getElem_mem h
theorem call_cells {w : World} {b off n c : Nat} {l : List CallQ} (r : RowS w (some ⟨b, off, none⟩) n c 3 (l.map CallQ.cells)) (k : Nat) (hk : k < l.length) :
    w.cell? ⟨b, off + k * 3, none⟩ = some (.int .i64 (gc l k).do_) ∧ w.cell? ⟨b, off + k * 3 + 1, none⟩ = some (.string (gc l k).key) ∧ w.cell? ⟨b, off + k * 3 + 2, none⟩ = some (.int .i64 (gc l k).at_) := by
  have hk' : k < (l.map CallQ.cells).length := by simpa using hk
  have e : (l.map CallQ.cells)[k] = (gc l k).cells := by rw [List.getElem_map, gc_get l k hk]
  exact ⟨r.cell k hk' 0 _ (by rw [e]; rfl), r.cell k hk' 1 _ (by rw [e]; rfl), r.cell k hk' 2 _ (by rw [e]; rfl)⟩
end Go.Proofs.YtgpchkobjgglhaaGreatDoor

end

section
/- Records: what a writer's walk over a record puts. -/
set_option linter.unusedVariables false
set_option linter.unusedSimpArgs false
namespace Go.Proofs.YtgpchkobjgglhaaGreatDoor
open Go.RowKit

def flowF (r : RecD) (v : Int) : List Nat := tbF r.t ++ beB 2 (u64N r.fb) ++ (if v < 2 then [] else beB 4 (u64N r.fg)) ++ (if v < 3 then [] else beB 8 (u64N r.fs))
/-- The numbers of a record are in their bounds. -/
structure FlowOk (r : RecD) : Prop where
  t : TupOk r.t
  fb : -9223372036854775808 ≤ r.fb ∧ r.fb ≤ 9223372036854775807
  fg : 0 ≤ r.fg ∧ r.fg ≤ 4294967295
  fs : -9223372036854775808 ≤ r.fs ∧ r.fs ≤ 9223372036854775807

end Go.Proofs.YtgpchkobjgglhaaGreatDoor

end

section
/- Records: what a writer's walk over a set of backends puts. -/
set_option linter.unusedVariables false
set_option linter.unusedSimpArgs false
namespace Go.Proofs.YtgpchkobjgglhaaGreatDoor
open Go.RowKit

def bkF (v : Int) (b : BkD) : List Nat := beB 2 (u64N b.id) ++ beB 4 (u64N b.addr) ++ (if v < 2 then [] else beB 1 (u64N b.weight))
def bksF (v : Int) (bs : List BkD) : List Nat := (bs.map (bkF v)).flatten
theorem bkF_le (v : Int) (b : BkD) : (bkF v b).length ≤ 7 := by unfold bkF; split <;> simp [beB_length]
theorem bksF_le (v : Int) : ∀ bs : List BkD, (bksF v bs).length ≤ 7 * bs.length
  | [] => by simp [bksF]
  | b :: r => by
    have h1 := bksF_le v r
    have h2 := bkF_le v b
    simp only [bksF, List.map_cons, List.flatten_cons, List.length_append, List.length_cons] at h1 ⊢
    omega
theorem bksF_snoc (v : Int) (bs : List BkD) (k : Nat) (h : k < bs.length) : bksF v (bs.take (k + 1)) = bksF v (bs.take k) ++ bkF v bs[k] := by
  unfold bksF; rw [List.take_succ_eq_append_getElem h]; simp only [List.map_append, List.map_cons, List.map_nil, List.flatten_append, List.flatten_cons, List.flatten_nil, List.append_nil]
end Go.Proofs.YtgpchkobjgglhaaGreatDoor

end

section
/- Records: are two the same in all that is plain? -/
set_option linter.unusedVariables false
set_option linter.unusedSimpArgs false
namespace Go.Proofs.YtgpchkobjgglhaaGreatDoor
open Go.RowKit

def RecD.nums (r : RecD) : List Int := [r.kind, r.t.src, r.t.dst, r.t.proto, r.t.sport, r.t.dport, r.fb, r.fg, r.fs, r.gen, r.be, r.un, r.ct]
def RecD.val (r : RecD) : List Int × List (Int × Int × Int) := (r.nums, r.bs.map BkD.val)
/-- The same in all that is plain? -/
def sameR (r s : RecD) : Bool := decide ((plainD r).val = (plainD s).val)
theorem val_eq (p q : RecD) : (p.val = q.val) = (p.kind = q.kind ∧ (p.t.src = q.t.src ∧ p.t.dst = q.t.dst ∧ p.t.proto = q.t.proto ∧ p.t.sport = q.t.sport ∧ p.t.dport = q.t.dport) ∧ (p.fb = q.fb ∧ p.fg = q.fg ∧ p.fs = q.fs) ∧ p.gen = q.gen ∧ p.bs.map BkD.val = q.bs.map BkD.val ∧ p.be = q.be ∧ p.un = q.un ∧ p.ct = q.ct) := by
  apply propext
  simp only [RecD.val, RecD.nums, Prod.mk.injEq, List.cons.injEq, and_true]
  constructor
  · rintro ⟨⟨h1, h2, h3, h4, h5, h6, h7, h8, h9, h10, h11, h12, h13⟩, h14⟩
    exact ⟨h1, ⟨h2, h3, h4, h5, h6⟩, ⟨h7, h8, h9⟩, h10, h14, h11, h12, h13⟩
  · rintro ⟨h1, ⟨h2, h3, h4, h5, h6⟩, ⟨h7, h8, h9⟩, h10, h14, h11, h12, h13⟩
    exact ⟨⟨h1, h2, h3, h4, h5, h6, h7, h8, h9, h10, h11, h12, h13⟩, h14⟩
theorem ret_iff {X : Prop} [Decidable X] (b : Bool) (h : b = true ↔ X) : Ending.returned (.bool b) = .returned (.bool (decide X)) := by
  have e : decide X = b := by
    cases b
    · exact decide_eq_false (fun x => by have := h.2 x; cases this)
    · exact decide_eq_true (h.1 rfl)
  rw [e]
theorem rcs_all (r : RecD) (a : Option Addr) (cap : Nat) : (rcs r a cap).toList.all (·.oneCell') = true := rfl
end Go.Proofs.YtgpchkobjgglhaaGreatDoor

end

section
/- Records: as a format keeps them: In of package record. -/
set_option linter.unusedVariables false
set_option linter.unusedSimpArgs false
namespace Go.Proofs.YtgpchkobjgglhaaGreatDoor
open Go.RowKit

def w1K (b : BkD) : BkD := ⟨b.id, b.addr, 1⟩
def zeroR : RecD := ⟨0, noT, 0, 0, 0, 0, [], 0, 0, 0⟩
/-- As a format keeps it. -/
def inD (r : RecD) (v : Int) : RecD :=
  if verB v = true then ⟨(plainD r).kind, (plainD r).t, (plainD r).fb, if v < 2 then 0 else (plainD r).fg, if v < 3 then 0 else (plainD r).fs, (plainD r).gen, if v < 2 then (plainD r).bs.map w1K else (plainD r).bs, (plainD r).be, (plainD r).un, (plainD r).ct⟩ else zeroR

theorem w1K_cells (b : BkD) : (w1K b).cells = b.cells.set 2 (.int .i64 1) := rfl
theorem OwnK.w1 {w : World} {base g n cap : Nat} {bs : List BkD} (h : OwnK w base (.slice (some ⟨g, 0, Option.none⟩) n cap) bs) (k : Nat) (hk : k < bs.length) :
    OwnK (w.setCell ⟨g, k * 3 + 2, Option.none⟩ (.int .i64 1)) base (.slice (some ⟨g, 0, Option.none⟩) n cap) (bs.set k (w1K bs[k])) := by
  have := OwnS.stored (L := bs.map BkD.cells) h k (by simpa using hk) 2 (by decide) (.int .i64 1)
  unfold OwnK
  rw [List.map_set, w1K_cells]
  simpa using this
theorem OwnK.addr {w : World} {base n cap : Nat} {a : Option Addr} {bs : List BkD} (h : OwnK w base (.slice a n cap) bs) (h0 : 0 < n) : ∃ g, a = some ⟨g, 0, Option.none⟩ ∧ base ≤ g := by
  obtain ⟨hn, _, _⟩ := OwnS.row' h
  rcases (OwnS.own h).2 with ⟨h1, h2⟩ | ⟨g, cap', cur, h1, hb, _⟩
  · omega
  · simp only [Value.slice.injEq] at h1
    exact ⟨g, h1.1, hb⟩
/-- The first k with the weight 1. -/
def halfK (bs : List BkD) (k : Nat) : List BkD := (bs.take k).map w1K ++ bs.drop k
theorem halfK_len (bs : List BkD) (k : Nat) : (halfK bs k).length = bs.length := by simp [halfK]; omega
theorem halfK_zero (bs : List BkD) : halfK bs 0 = bs := by simp [halfK]
theorem halfK_all (bs : List BkD) : halfK bs bs.length = bs.map w1K := by simp [halfK]
theorem halfK_get (bs : List BkD) (k : Nat) (hk' : k < bs.length) (h : k < (halfK bs k).length) : (halfK bs k)[k] = bs[k] := by
  have hl : ((bs.take k).map w1K).length = k := by simp; omega
  have e : (halfK bs k)[k]? = bs[k]? := by
    unfold halfK
    rw [List.getElem?_append_right (by omega), hl, Nat.sub_self, List.getElem?_drop, Nat.add_zero]
  rw [List.getElem?_eq_getElem h, List.getElem?_eq_getElem hk'] at e
  simpa using e
theorem halfK_step (bs : List BkD) (k : Nat) (hk : k < (halfK bs k).length) : (halfK bs k).set k (w1K (halfK bs k)[k]) = halfK bs (k + 1) := by
  have hk' : k < bs.length := by rwa [halfK_len] at hk
  have hl : ((bs.take k).map w1K).length = k := by simp; omega
  rw [halfK_get bs k hk' hk]
  unfold halfK
  rw [List.set_append_right _ _ (by omega), hl, Nat.sub_self, List.take_succ_eq_append_getElem hk', List.drop_eq_getElem_cons hk']
  simp only [List.set_cons_zero, List.map_append, List.map_cons, List.map_nil, List.append_assoc, List.cons_append, List.nil_append]

theorem verB_cases (v : Int) (h : verB v = true) : v = 1 ∨ v = 2 ∨ v = 3 := by have := (verB_iff v).1 h; omega
end Go.Proofs.YtgpchkobjgglhaaGreatDoor

end

section
/- Records: what a writer's walk over a record puts; Encode of package record. -/
set_option linter.unusedVariables false
set_option linter.unusedSimpArgs false
namespace Go.Proofs.YtgpchkobjgglhaaGreatDoor
open Go.RowKit

/-- The body of a record. -/
def bodyF (r : RecD) (v : Int) : List Nat :=
  if r.kind = 1 then flowF r v
  else if r.kind = 2 then tbF r.t
  else if r.kind = 3 then beB 4 (u64N r.gen) ++ (beB 1 (u64N r.bs.length) ++ bksF v r.bs)
  else if r.kind = 4 then beB 2 (u64N r.be) ++ beB 8 (u64N r.un)
  else if r.kind = 5 then beB 2 (u64N r.be)
  else beB 4 (u64N r.ct)
structure RecLess (r : RecD) : Prop where
  fg : r.kind = 1 → 0 ≤ r.fg ∧ r.fg ≤ 4294967295
  gen : r.kind = 3 → 0 ≤ r.gen ∧ r.gen ≤ 4294967295
  ct : r.kind = 6 → 0 ≤ r.ct ∧ r.ct ≤ 4294967295
  bs : r.kind = 3 → r.bs.length ≤ 16

end Go.Proofs.YtgpchkobjgglhaaGreatDoor

end

section
/- Records: what Encode of package record answers. -/
set_option linter.unusedVariables false
set_option linter.unusedSimpArgs false
namespace Go.Proofs.YtgpchkobjgglhaaGreatDoor
open Go.RowKit

def f3 (k v : Int) (a : Option Addr) (len cap : Nat) : Array Value := #[.int .i64 k, .int .i64 v, .slice a len cap]
/-- What Encode tells: its error; the frame's kind, format and body. -/
def encE (r : RecD) (v : Int) : Int := if verB v = true then (if mayRB r = true then 0 else 1) else 10
def encK (r : RecD) (v : Int) : Int := if encE r v = 0 then r.kind else 0
def encV (r : RecD) (v : Int) : Int := if encE r v = 0 then v else 0
def encB (r : RecD) (v : Int) : List Nat := if encE r v = 0 then bodyF r v else []
def EncIs (w : World) (r : RecD) (v : Int) (e : Ending) (w' : World) : Prop :=
  ∃ (a' : Option Addr) (c' : Nat), e = .returned (.tuple #[.agg (f3 (encK r v) (encV r v) a' (encB r v).length c'), .int .i64 (encE r v)]) ∧ FreshB w w' (.slice a' (encB r v).length c') (encB r v)
theorem less_of {r : RecD} (h : mayRB r = true) : RecLess r := by
  refine ⟨fun hk => ?_, fun hk => ?_, fun hk => ?_, fun hk => ?_⟩
  · unfold mayRB at h; rw [if_pos hk] at h
    simp only [Bool.and_eq_true, cntB_iff] at h; omega
  · unfold mayRB at h; rw [if_neg (by omega), if_neg (by omega), if_pos hk] at h
    simp only [Bool.and_eq_true, cntB_iff] at h; omega
  · unfold mayRB at h; rw [if_neg (by omega), if_neg (by omega), if_neg (by omega), if_neg (by omega), if_neg (by omega), if_pos hk] at h
    rw [cntB_iff] at h; omega
  · unfold mayRB at h; rw [if_neg (by omega), if_neg (by omega), if_pos hk] at h
    simp only [Bool.and_eq_true, decide_eq_true_eq] at h; omega
theorem kind_of {r : RecD} (h : mayRB r = true) : r.kind = 1 ∨ r.kind = 2 ∨ r.kind = 3 ∨ r.kind = 4 ∨ r.kind = 5 ∨ r.kind = 6 := by
  unfold mayRB at h
  by_cases h1 : r.kind = 1; · exact .inl h1
  by_cases h2 : r.kind = 2; · exact .inr (.inl h2)
  by_cases h3 : r.kind = 3; · exact .inr (.inr (.inl h3))
  by_cases h4 : r.kind = 4; · exact .inr (.inr (.inr (.inl h4)))
  by_cases h5 : r.kind = 5; · exact .inr (.inr (.inr (.inr (.inl h5))))
  by_cases h6 : r.kind = 6; · exact .inr (.inr (.inr (.inr (.inr h6))))
  rw [if_neg h1, if_neg h2, if_neg h3, if_neg h4, if_neg h5, if_neg h6] at h; cases h
theorem bodyF_le (r : RecD) (v : Int) (h : mayRB r = true) : (bodyF r v).length ≤ 1000 := by
  have less := less_of h
  have hb := bksF_le v r.bs
  unfold bodyF flowF
  by_cases h3 : r.kind = 3
  · have := less.bs h3
    rw [if_neg (by omega), if_neg (by omega), if_pos h3]
    simp only [List.length_append, beB_length]; omega
  · rw [if_neg h3]
    repeat' split
    all_goals simp [beB_length, tbF_length]

end Go.Proofs.YtgpchkobjgglhaaGreatDoor

end

section
/- Records: may one be? What the reference's MayRecord answers. -/
set_option linter.unusedVariables false
set_option linter.unusedSimpArgs false
namespace Go.Proofs.YtgpchkobjgglhaaGreatDoor
open Go.RowKit

def mayPB (p : RecD) : Bool :=
  (if p.kind = 1 ∨ p.kind = 2 then mayTB p.t else true) && decide (p.bs.length ≤ 16) && p.bs.all mayKB && idB p.fb && cntB p.fg && timB p.fs && cntB p.gen && idB p.be && timB p.un && cntB p.ct
theorem zero_ok : idB 0 = true ∧ cntB 0 = true ∧ timB 0 = true := by decide
theorem mayP_eq (r : RecD) (h1 : 1 ≤ r.kind) (h2 : r.kind ≤ 6) : mayPB (plainD r) = mayRB r := by
  obtain ⟨z1, z2, z3⟩ := zero_ok
  have h : r.kind = 1 ∨ r.kind = 2 ∨ r.kind = 3 ∨ r.kind = 4 ∨ r.kind = 5 ∨ r.kind = 6 := by omega
  obtain ⟨kind, t, fb, fg, fs, gen, bs, be, un, ct⟩ := r
  simp only at h
  rcases h with rfl | rfl | rfl | rfl | rfl | rfl <;> simp [mayPB, plainD, mayRB, z1, z2, z3]
  · cases cntB gen <;> cases decide (bs.length ≤ 16) <;> simp
theorem plain_kind (r : RecD) : (plainD r).kind = r.kind := by
  unfold plainD
  repeat' split
  all_goals simp_all

end Go.Proofs.YtgpchkobjgglhaaGreatDoor

end

section
/- Records: their bodies tell them apart. -/
set_option linter.unusedVariables false
set_option linter.unusedSimpArgs false
namespace Go.Proofs.YtgpchkobjgglhaaGreatDoor
open Go.RowKit

theorem be1_inj {n m : Int} (h : beB 1 (u64N n) = beB 1 (u64N m)) (hn : 0 ≤ n ∧ n < 256) (hm : 0 ≤ m ∧ m < 256) : n = m := by
  simp [beB, List.range_succ, u64N] at h; omega
theorem be2_inj {n m : Int} (h : beB 2 (u64N n) = beB 2 (u64N m)) (hn : 0 ≤ n ∧ n < 65536) (hm : 0 ≤ m ∧ m < 65536) : n = m := by
  simp [beB, List.range_succ, u64N] at h; omega
theorem be4_inj {n m : Int} (h : beB 4 (u64N n) = beB 4 (u64N m)) (hn : 0 ≤ n ∧ n < 4294967296) (hm : 0 ≤ m ∧ m < 4294967296) : n = m := by
  simp [beB, List.range_succ, u64N] at h; omega
set_option maxHeartbeats 4000000 in
theorem be8_inj {n m : Int} (h : beB 8 (u64N n) = beB 8 (u64N m)) (hn : 0 ≤ n ∧ n < 1099511627777) (hm : 0 ≤ m ∧ m < 1099511627777) : n = m := by
  simp [beB, List.range_succ, u64N] at h; omega
theorem app_inj {a b c d : List Nat} (h : a ++ b = c ++ d) (hl : a.length = c.length) : a = c ∧ b = d := List.append_inj h hl
theorem tbF_inj {t u : TupD} (h : tbF t = tbF u) (ot : TupOk t) (ou : TupOk u) (ht : mayTB t = true) (hu : mayTB u = true) : t.src = u.src ∧ t.dst = u.dst ∧ t.proto = u.proto ∧ t.sport = u.sport ∧ t.dport = u.dport := by
  rw [mayTB_iff] at ht hu
  have o1 := ot.src; have o2 := ot.dst; have p1 := ou.src; have p2 := ou.dst
  simp only [u32] at o1 o2 p1 p2
  unfold tbF at h
  obtain ⟨h, h5⟩ := app_inj h (by simp [beB_length])
  obtain ⟨h, h4⟩ := app_inj h (by simp [beB_length])
  obtain ⟨h, h3⟩ := app_inj h (by simp [beB_length])
  obtain ⟨h1, h2⟩ := app_inj h (by simp [beB_length])
  exact ⟨be4_inj h1 (by omega) (by omega), be4_inj h2 (by omega) (by omega), be1_inj h3 (by omega) (by omega), be2_inj h4 (by omega) (by omega), be2_inj h5 (by omega) (by omega)⟩
theorem bkF_inj {b c : BkD} (h : bkF 3 b = bkF 3 c) (ob : BkOk b) (oc : BkOk c) (hb : mayKB b = true) (hc : mayKB c = true) : b.val = c.val := by
  rw [mayKB_iff] at hb hc
  have o1 := ob.addr; have p1 := oc.addr
  simp only [u32] at o1 p1
  unfold bkF at h
  rw [if_neg (by decide), if_neg (by decide)] at h
  obtain ⟨h, h3⟩ := app_inj h (by simp [beB_length])
  obtain ⟨h1, h2⟩ := app_inj h (by simp [beB_length])
  simp only [BkD.val, Prod.mk.injEq]
  exact ⟨be2_inj h1 (by omega) (by omega), be4_inj h2 (by omega) (by omega), be1_inj h3 (by omega) (by omega)⟩
theorem bksF_inj : ∀ {bs cs : List BkD}, bksF 3 bs = bksF 3 cs → bs.length = cs.length → (∀ b ∈ bs, BkOk b) → (∀ b ∈ cs, BkOk b) → bs.all mayKB = true → cs.all mayKB = true → bs.map BkD.val = cs.map BkD.val
  | [], [], _, _, _, _, _, _ => rfl
  | [], c :: cs, _, hl, _, _, _, _ => by simp at hl
  | b :: bs, [], _, hl, _, _, _, _ => by simp at hl
  | b :: bs, c :: cs, h, hl, ob, oc, hb, hc => by
    have e : ∀ (x : BkD) (l : List BkD), bksF 3 (x :: l) = bkF 3 x ++ bksF 3 l := fun x l => by simp [bksF]
    rw [e, e] at h
    have l7 : ∀ x : BkD, (bkF 3 x).length = 7 := fun x => by unfold bkF; rw [if_neg (by decide)]; simp [beB_length]
    obtain ⟨h1, h2⟩ := app_inj h (by rw [l7, l7])
    simp only [List.all_cons, Bool.and_eq_true] at hb hc
    have h3 := bkF_inj h1 (ob b (List.mem_cons_self ..)) (oc c (List.mem_cons_self ..)) hb.1 hc.1
    have h4 := bksF_inj h2 (by simpa using hl) (fun x hx => ob x (List.mem_cons_of_mem _ hx)) (fun x hx => oc x (List.mem_cons_of_mem _ hx)) hb.2 hc.2
    simp only [List.map_cons, h3, h4]
theorem apart_math (r s : RecD) (or : RecOk r) (os : RecOk s) (hr : mayRB r = true) (hs : mayRB s = true) (hk : r.kind = s.kind) (hb : bodyF r 3 = bodyF s 3) : (plainD r).val = (plainD s).val := by
  rw [val_eq]
  have kr := kind_of hr
  have lr := less_of hr
  have ls := less_of hs
  rcases kr with h | h | h | h | h | h
  · have h' : s.kind = 1 := by omega
    unfold mayRB at hr hs
    rw [if_pos h] at hr; rw [if_pos h'] at hs
    simp only [Bool.and_eq_true, idB_iff, cntB_iff, timB_iff] at hr hs
    unfold bodyF flowF at hb
    rw [if_pos h, if_pos h', if_neg (by decide), if_neg (by decide), if_neg (by decide), if_neg (by decide)] at hb
    obtain ⟨hb, h4⟩ := app_inj hb (by simp [beB_length, tbF_length])
    obtain ⟨hb, h3⟩ := app_inj hb (by simp [beB_length, tbF_length])
    obtain ⟨h1, h2⟩ := app_inj hb (by simp [tbF_length])
    have q1 : r.fb = s.fb := be2_inj h2 (by omega) (by omega)
    have q2 : r.fg = s.fg := be4_inj h3 (by omega) (by omega)
    have q3 : r.fs = s.fs := be8_inj h4 (by omega) (by omega)
    unfold plainD
    rw [if_pos h, if_pos h']
    exact ⟨rfl, tbF_inj h1 or.t os.t hr.1.1.1 hs.1.1.1, ⟨q1, q2, q3⟩, rfl, rfl, rfl, rfl, rfl⟩
  · have h' : s.kind = 2 := by omega
    unfold mayRB at hr hs
    rw [if_neg (by omega), if_pos h] at hr; rw [if_neg (by omega), if_pos h'] at hs
    unfold bodyF at hb
    rw [if_neg (by omega), if_pos h, if_neg (by omega), if_pos h'] at hb
    unfold plainD
    rw [if_neg (by omega), if_pos h, if_neg (by omega), if_pos h']
    exact ⟨rfl, tbF_inj hb or.t os.t hr hs, ⟨rfl, rfl, rfl⟩, rfl, rfl, rfl, rfl, rfl⟩
  · have h' : s.kind = 3 := by omega
    have l1 := lr.bs h
    have l2 := ls.bs h'
    unfold mayRB at hr hs
    rw [if_neg (by omega), if_neg (by omega), if_pos h] at hr; rw [if_neg (by omega), if_neg (by omega), if_pos h'] at hs
    simp only [Bool.and_eq_true, cntB_iff] at hr hs
    unfold bodyF at hb
    rw [if_neg (by omega), if_neg (by omega), if_pos h, if_neg (by omega), if_neg (by omega), if_pos h'] at hb
    obtain ⟨h1, hb⟩ := app_inj hb (by simp [beB_length])
    obtain ⟨h2, h3⟩ := app_inj hb (by simp [beB_length])
    have hl := be1_inj h2 (by omega) (by omega)
    have hl' : r.bs.length = s.bs.length := by omega
    have q1 : r.gen = s.gen := be4_inj h1 (by omega) (by omega)
    unfold plainD
    rw [if_neg (by omega), if_neg (by omega), if_pos h, if_neg (by omega), if_neg (by omega), if_pos h']
    exact ⟨rfl, ⟨rfl, rfl, rfl, rfl, rfl⟩, ⟨rfl, rfl, rfl⟩, q1, bksF_inj h3 hl' or.bs os.bs hr.2 hs.2, rfl, rfl, rfl⟩
  · have h' : s.kind = 4 := by omega
    unfold mayRB at hr hs
    rw [if_neg (by omega), if_neg (by omega), if_neg (by omega), if_pos h] at hr; rw [if_neg (by omega), if_neg (by omega), if_neg (by omega), if_pos h'] at hs
    simp only [Bool.and_eq_true, idB_iff, timB_iff] at hr hs
    unfold bodyF at hb
    rw [if_neg (by omega), if_neg (by omega), if_neg (by omega), if_pos h, if_neg (by omega), if_neg (by omega), if_neg (by omega), if_pos h'] at hb
    obtain ⟨h1, h2⟩ := app_inj hb (by simp [beB_length])
    have q1 : r.be = s.be := be2_inj h1 (by omega) (by omega)
    have q2 : r.un = s.un := be8_inj h2 (by omega) (by omega)
    unfold plainD
    rw [if_neg (by omega), if_neg (by omega), if_neg (by omega), if_pos h, if_neg (by omega), if_neg (by omega), if_neg (by omega), if_pos h']
    exact ⟨rfl, ⟨rfl, rfl, rfl, rfl, rfl⟩, ⟨rfl, rfl, rfl⟩, rfl, rfl, q1, q2, rfl⟩
  · have h' : s.kind = 5 := by omega
    unfold mayRB at hr hs
    rw [if_neg (by omega), if_neg (by omega), if_neg (by omega), if_neg (by omega), if_pos h] at hr; rw [if_neg (by omega), if_neg (by omega), if_neg (by omega), if_neg (by omega), if_pos h'] at hs
    rw [idB_iff] at hr hs
    have hr' : 0 ≤ r.be ∧ r.be < 65536 := by omega
    have hs' : 0 ≤ s.be ∧ s.be < 65536 := by omega
    unfold bodyF at hb
    rw [if_neg (by omega), if_neg (by omega), if_neg (by omega), if_neg (by omega), if_pos h, if_neg (by omega), if_neg (by omega), if_neg (by omega), if_neg (by omega), if_pos h'] at hb
    unfold plainD
    rw [if_neg (by omega), if_neg (by omega), if_neg (by omega), if_neg (by omega), if_pos h, if_neg (by omega), if_neg (by omega), if_neg (by omega), if_neg (by omega), if_pos h']
    exact ⟨rfl, ⟨rfl, rfl, rfl, rfl, rfl⟩, ⟨rfl, rfl, rfl⟩, rfl, rfl, (be2_inj hb hr' hs' : r.be = s.be), rfl, rfl⟩
  · have h' : s.kind = 6 := by omega
    unfold mayRB at hr hs
    rw [if_neg (by omega), if_neg (by omega), if_neg (by omega), if_neg (by omega), if_neg (by omega), if_pos h] at hr; rw [if_neg (by omega), if_neg (by omega), if_neg (by omega), if_neg (by omega), if_neg (by omega), if_pos h'] at hs
    rw [cntB_iff] at hr hs
    have hr' : 0 ≤ r.ct ∧ r.ct < 4294967296 := by omega
    have hs' : 0 ≤ s.ct ∧ s.ct < 4294967296 := by omega
    unfold bodyF at hb
    rw [if_neg (by omega), if_neg (by omega), if_neg (by omega), if_neg (by omega), if_neg (by omega), if_neg (by omega), if_neg (by omega), if_neg (by omega), if_neg (by omega), if_neg (by omega)] at hb
    unfold plainD
    rw [if_neg (by omega), if_neg (by omega), if_neg (by omega), if_neg (by omega), if_neg (by omega), if_pos h, if_neg (by omega), if_neg (by omega), if_neg (by omega), if_neg (by omega), if_neg (by omega), if_pos h']
    exact ⟨rfl, ⟨rfl, rfl, rfl, rfl, rfl⟩, ⟨rfl, rfl, rfl⟩, rfl, rfl, rfl, rfl, (be4_inj hb hr' hs' : r.ct = s.ct)⟩
/-- What is the same in all that is plain has the same body, and may be or not. -/
theorem plain_body (r s : RecD) (h : plainD r = plainD s) (v : Int) : r.kind = s.kind ∧ mayRB r = mayRB s ∧ (mayRB r = true → bodyF r v = bodyF s v) := by
  have hk : r.kind = s.kind := by have := congrArg RecD.kind h; rwa [plain_kind, plain_kind] at this
  obtain ⟨k, t, fb, fg, fs, gen, bs, be, un, ct⟩ := r
  obtain ⟨k2, t2, fb2, fg2, fs2, gen2, bs2, be2, un2, ct2⟩ := s
  simp only at hk
  subst hk
  refine ⟨rfl, ?_, ?_⟩
  all_goals
    by_cases h1 : k = 1
    · subst h1; simp [plainD] at h; obtain ⟨rfl, rfl, rfl, rfl⟩ := h; simp [mayRB, bodyF, flowF]
    by_cases h2 : k = 2
    · subst h2; simp [plainD] at h; subst h; simp [mayRB, bodyF]
    by_cases h3 : k = 3
    · subst h3; simp [plainD] at h; obtain ⟨rfl, rfl⟩ := h; simp [mayRB, bodyF]
    by_cases h4 : k = 4
    · subst h4; simp [plainD] at h; obtain ⟨rfl, rfl⟩ := h; simp [mayRB, bodyF]
    by_cases h5 : k = 5
    · subst h5; simp [plainD] at h; subst h; simp [mayRB, bodyF]
    by_cases h6 : k = 6
    · subst h6; simp [plainD] at h; subst h; simp [mayRB, bodyF]
    simp [mayRB, h1, h2, h3, h4, h5, h6]
theorem tup_ext {t u : TupD} (h : t.src = u.src ∧ t.dst = u.dst ∧ t.proto = u.proto ∧ t.sport = u.sport ∧ t.dport = u.dport) : t = u := by
  obtain ⟨a, b, c, d, e⟩ := t
  obtain ⟨a2, b2, c2, d2, e2⟩ := u
  simp only at h
  obtain ⟨rfl, rfl, rfl, rfl, rfl⟩ := h
  rfl
theorem bks_ext : ∀ {bs cs : List BkD}, bs.map BkD.val = cs.map BkD.val → bs = cs
  | [], [], _ => rfl
  | [], c :: cs, h => by simp at h
  | b :: bs, [], h => by simp at h
  | b :: bs, c :: cs, h => by
    simp only [List.map_cons, List.cons.injEq] at h
    rw [bks_ext h.2]
    obtain ⟨x1, x2, x3⟩ := b
    obtain ⟨y1, y2, y3⟩ := c
    simp only [BkD.val, Prod.mk.injEq] at h
    obtain ⟨⟨rfl, rfl, rfl⟩, _⟩ := h
    rfl
theorem rec_ext {p q : RecD} (h : p.val = q.val) : p = q := by
  rw [val_eq] at h
  obtain ⟨h1, h2, ⟨h3, h4, h5⟩, h6, h7, h8, h9, h10⟩ := h
  have e1 := tup_ext h2
  have e2 := bks_ext h7
  obtain ⟨k, t, fb, fg, fs, gen, bs, be, un, ct⟩ := p
  obtain ⟨k2, t2, fb2, fg2, fs2, gen2, bs2, be2, un2, ct2⟩ := q
  simp only at h1 e1 h3 h4 h5 h6 e2 h8 h9 h10
  subst h1 e1 h3 h4 h5 h6 e2 h8 h9 h10
  rfl
theorem sameR_iff (r s : RecD) : sameR r s = true ↔ plainD r = plainD s := by
  unfold sameR
  rw [decide_eq_true_iff]
  exact ⟨rec_ext, fun h => by rw [h]⟩
end Go.Proofs.YtgpchkobjgglhaaGreatDoor

end

section
/- Records: a reader beside blocks that are not its own; what its calls tell and leave. -/
set_option linter.unusedVariables false
set_option linter.unusedSimpArgs false
namespace Go.Proofs.YtgpchkobjgglhaaGreatDoor
open Go.RowKit

section
variable {w w' : World} {G : Nat} {D : Nat → Prop} {xs : List Nat} {err : Int}
end
theorem nxtX_nxtX (m n : Nat) (xs : List Nat) : nxtX m (nxtX n xs) = nxtX (n + m) xs := by
  unfold nxtX
  by_cases h : n ≤ xs.length
  · rw [if_pos h, List.length_drop, List.drop_drop]
    by_cases h2 : n + m ≤ xs.length
    · rw [if_pos (by omega), if_pos h2]
    · rw [if_neg (by omega), if_neg h2]
  · have h2 : ¬ n + m ≤ xs.length := by omega
    simp [h, h2]
theorem nxtE_nxtE (m n : Nat) (xs : List Nat) (err : Int) : nxtE m (nxtX n xs) (nxtE n xs err) = nxtE (n + m) xs err := by
  unfold nxtE nxtX
  by_cases h : n ≤ xs.length
  · rw [if_pos h, if_pos h, List.length_drop]
    by_cases h2 : n + m ≤ xs.length
    · rw [if_pos (by omega), if_pos h2]
    · rw [if_neg (by omega), if_neg h2]
  · have h2 : ¬ n + m ≤ xs.length := by omega
    simp [h, h2]
theorem nxtX_zero (xs : List Nat) : nxtX 0 xs = xs := by simp [nxtX]
theorem nxtE_zero (xs : List Nat) (err : Int) : nxtE 0 xs err = err := by simp [nxtE]
def tupV (xs : List Nat) : TupD := ⟨(valN 4 xs : Nat), (valN 4 (nxtX 4 xs) : Nat), (valN 1 (nxtX 8 xs) : Nat), (valN 2 (nxtX 9 xs) : Nat), (valN 2 (nxtX 11 xs) : Nat)⟩
/-- Is a tuple read? Which? -/
def rtB (xs : List Nat) : Bool := decide (13 ≤ xs.length) && mayTB (tupV xs)
def rtF (xs : List Nat) : TupD := if rtB xs = true then tupV xs else noT
def bkV (v : Int) (xs : List Nat) : BkD := ⟨(valN 2 xs : Nat), (valN 4 (nxtX 2 xs) : Nat), if v < 2 then 0 else (valN 1 (nxtX 6 xs) : Nat)⟩
def bkW (v : Int) : Nat := if v < 2 then 6 else 7
def bksV (v : Int) : Nat → List Nat → List BkD
  | 0, _ => []
  | n + 1, xs => bkV v xs :: bksV v n (nxtX (bkW v) xs)
theorem bksV_length (v : Int) : ∀ n xs, (bksV v n xs).length = n
  | 0, _ => rfl
  | n + 1, xs => by simp [bksV, bksV_length v n]
theorem bksV_snoc (v : Int) : ∀ n xs, bksV v (n + 1) xs = bksV v n xs ++ [bkV v (nxtX (n * bkW v) xs)]
  | 0, xs => by simp [bksV, nxtX_zero]
  | n + 1, xs => by
    have h := bksV_snoc v n (nxtX (bkW v) xs)
    show bkV v xs :: bksV v (n + 1) (nxtX (bkW v) xs) = _
    rw [h, nxtX_nxtX]
    have e : bkW v + n * bkW v = (n + 1) * bkW v := by rw [Nat.add_mul]; omega
    rw [e]; rfl
def flW (v : Int) : Nat := 15 + (if v < 2 then 0 else 4) + (if v < 3 then 0 else 8)

end Go.Proofs.YtgpchkobjgglhaaGreatDoor

end
