/- A disk that was made since: its calls; awake. -/
import Derived.Test.YtmokcfmlolohaaaDskCrZ
import Derived.Test.YtmokcfmlolohaaaGBZ
import Derived.Lib.SlBytesConst
set_option linter.unusedVariables false
set_option linter.unusedSimpArgs false
namespace Go.Proofs.Ytmokcfmlolohaaa
open Go.RowKit

section
variable {w0 w : World} {d : Nat} {h : DkH} {st : DkS}
/-- Bytes of a block that is none of the disk's. -/
def OffB (h : DkH) (a : Option Addr) (len : Nat) : Prop := ∀ x, a = some x → len = 0 ∨ ¬ footK h x.block
theorem DkN.offB (n : DkN w0 w d h st) {a : Option Addr} {len cap : Nat} {xs : List Nat} (r : RowB w0 a len cap xs) : OffB h a len := fun x hx => by
  rcases r.lt x hx with h1 | h1
  · exact .inl h1
  · exact .inr (fun hf => by have := n.f _ hf; omega)
theorem DkN.offNew (n : DkN w0 w d h st) {B off len : Nat} (hB : w.heap.size ≤ B) : OffB h (some ⟨B, off, none⟩) len := fun x hx => by
  cases hx
  exact .inr (fun hf => by have h1 := n.m.lt _ hf; have h1 : B < w.heap.size := h1; omega)
def DkTo (w0 w w' : World) (d : Nat) (h : DkH) (st' : DkS) : Prop := ∃ h', DkN w0 w' d h' st' ∧ (∀ k, h.T k = .fb → h'.T k = .fb) ∧ (∀ k, footK h' k → footK h k ∨ w.heap.size ≤ k) ∧ Touch w w' (footK h)
theorem DkN.to (n : DkN w0 w d h st) {w' : World} {st' : DkS} (s : DkStep w w' d h st') : DkTo w0 w w' d h st' := by
  obtain ⟨h', m', t', mo, ne⟩ := s
  refine ⟨h', ⟨m', n.t.trans t' (fun k hk hf => by have := n.f k hf; omega), fun k hk => ?_⟩, mo, ne, t'⟩
  rcases ne k hk with h1 | h1
  · exact n.f k h1
  · exact Nat.le_trans n.t.size h1
theorem DkN.app (n : DkN w0 w d h st) (k : ByteArray) (hk : szN k) {a : Option Addr} {len cap : Nat} {xs : List Nat} (r : RowB w a len cap xs) (ho : OffB h a len) (hC : st.C.length ≤ 100000) :
    Calls Try.prog 23 #[.pointer (some ⟨d, 0, none⟩), .string k, .slice a len cap] w fun e w' => ∃ g, h.T g = .out ∧ e = .returned (.int .i64 (dkAppE st k xs.length)) ∧ DkTo w0 w w' d h (dkAppS st k g xs) :=
  (dapp_any w d h st n.m k hk a len cap xs r ho hC).mono fun e w' ⟨g, h1, h2, s⟩ => ⟨g, h1, h2, n.to s⟩
theorem DkN.sync (n : DkN w0 w d h st) (k : ByteArray) (hk : szN k) :
    Calls Try.prog 24 #[.pointer (some ⟨d, 0, none⟩), .string k] w fun e w' => e = .returned (.int .i64 (dkOnE st k)) ∧ DkTo w0 w w' d h (dkSync st k) :=
  (dsync_any w d h st n.m k hk).mono fun e w' ⟨h2, s⟩ => ⟨h2, n.to s⟩
theorem DkN.cut (n : DkN w0 w d h st) (k : ByteArray) (hk : szN k) (j : Int) :
    Calls Try.prog 28 #[.pointer (some ⟨d, 0, none⟩), .string k, .int .i64 j] w fun e w' => e = .returned (.int .i64 (dkCutE st k j)) ∧ DkTo w0 w w' d h (dkCut st k j) :=
  (dcut_any w d h st n.m k hk j).mono fun e w' ⟨h2, s⟩ => ⟨h2, n.to s⟩
theorem DkN.ren (n : DkN w0 w d h st) (k t : ByteArray) (hk : szN k) (ht : szN t) (hC : st.C.length ≤ 100000) :
    Calls Try.prog 26 #[.pointer (some ⟨d, 0, none⟩), .string k, .string t] w fun e w' => e = .returned (.int .i64 (dkRenE st k t)) ∧ DkTo w0 w w' d h (dkRen st k t) :=
  (dren_any w d h st n.m k t hk ht hC).mono fun e w' ⟨h2, s⟩ => ⟨h2, n.to s⟩
theorem DkN.rem (n : DkN w0 w d h st) (k : ByteArray) (hk : szN k) (hC : st.C.length ≤ 100000) :
    Calls Try.prog 27 #[.pointer (some ⟨d, 0, none⟩), .string k] w fun e w' => e = .returned (.int .i64 (dkOnE st k)) ∧ DkTo w0 w w' d h (dkRem st k) :=
  (drem_any w d h st n.m k hk hC).mono fun e w' ⟨h2, s⟩ => ⟨h2, n.to s⟩
theorem DkN.syncdir (n : DkN w0 w d h st) (hC : st.C.length ≤ 100000) :
    Calls Try.prog 25 #[.pointer (some ⟨d, 0, none⟩)] w fun e w' => e = .returned (.int .i64 (dkBeg st)) ∧ DkTo w0 w w' d h (dkSyncDir st) :=
  (dsyncdir_any w d h st n.m hC).mono fun e w' ⟨h2, s⟩ => ⟨h2, n.to s⟩
theorem DkN.crash (n : DkN w0 w d h st) {a : Option Addr} {len cap : Nat} {ps : List Nat} (r : RowB w a len cap ps) (ho : OffB h a len) (hC : st.C.length ≤ 100000) :
    Calls Try.prog 22 #[.pointer (some ⟨d, 0, none⟩), .slice a len cap] w fun e w' => e = .returned (.tuple #[]) ∧ DkTo w0 w w' d h (dkCrash st ps) :=
  (dcrash_any w d h st n.m a len cap ps r ho hC).mono fun e w' ⟨h2, s⟩ => ⟨h2, n.to s⟩
theorem DkN.fail (n : DkN w0 w d h st) (j : Int) (hj : j ≤ 9223372036854775807) :
    Calls Try.prog 21 #[.pointer (some ⟨d, 0, none⟩), .int .i64 j] w fun e w' => e = .returned (.tuple #[]) ∧ DkTo w0 w w' d h { st with fail := max j 0 } :=
  (dfail_any w d h st n.m j hj).mono fun e w' ⟨h2, m', t⟩ => ⟨h2, n.to (n.m.top m' t)⟩
theorem DkN.read (n : DkN w0 w d h st) (k : ByteArray) (hk : szN k) :
    Calls Try.prog 18 #[.pointer (some ⟨d, 0, none⟩), .string k] w fun e w' => ∃ a c, e = .returned (.tuple #[.slice a (dkRead st k).length c, .bool (getN st.N k).isSome]) ∧ RowB w' a (dkRead st k).length c (dkRead st k) ∧ (∀ x, a = some x → w.heap.size ≤ x.block) ∧ DkN w0 w' d h st ∧ Touch w w' (fun _ => False) :=
  (dread_any w d h st n.m k hk).mono fun e w' ⟨a, c, h1, h2, t⟩ => ⟨a, c, h1, by
    obtain ⟨a', c', hv, hr, -⟩ := h2.row
    simp only [Value.slice.injEq, true_and] at hv
    obtain ⟨rfl, rfl⟩ := hv
    exact hr, fun x hx => by
    subst hx
    exact (h2.own.lt x.block rfl).1, n.still t, t⟩
end
/-! ### pure words -/
def szF (F : Nat → DkFc) (N : List NmD) : Nat := (N.map (fun x => match x.f with | some g => (F g).b.length | none => 0)).sum
theorem szF_is (st : DkS) : dkSz st = szF st.F st.N := rfl
theorem fPut_same (F : Nat → DkFc) (g : Nat) (f : DkFc) : fPut F g f g = f := by unfold fPut; rw [if_pos rfl]
theorem fPut_ne (F : Nat → DkFc) {g x : Nat} (f : DkFc) (h : x ≠ g) : fPut F g f x = F x := by unfold fPut; rw [if_neg h]
section
variable {q o o' : Int} {S N : List NmD} {C : List DkCh} {F : Nat → DkFc} {k t : ByteArray} {g : Nat} {xs : List Nat}
theorem app_new (ho : wrap64 (o + 1) = o') (hN : dkAll S C = N) (hk : 1 ≤ k.size ∧ k.size ≤ 16) (hg : getN N k = none) (hq : (szF F N : Int) + xs.length ≤ q) (hx : xs.length ≤ 1048576) (hl : N.length < 200) :
    dkAppE ⟨q, o, 0, S, C, F⟩ k xs.length = 0 ∧ dkAppS ⟨q, o, 0, S, C, F⟩ k g xs = ⟨q, o', 0, S, C ++ [⟨0, k, ⟨#[]⟩, some g⟩], fPut F g ⟨xs, 0⟩⟩ := by
  subst ho
  have e0 : DkS.N ⟨q, o, 0, S, C, F⟩ = N := hN
  have hr : dkRoom ⟨q, o, 0, S, C, F⟩ none xs.length = true := by
    unfold dkRoom
    rw [szF_is, e0]
    simp only [Bool.and_eq_true, decide_eq_true_eq]
    exact ⟨hq, hx, hl⟩
  have e : dkAppE ⟨q, o, 0, S, C, F⟩ k xs.length = 0 := by
    unfold dkAppE
    rw [if_neg (by simp), if_neg (fun h => h hk), e0, hg, hr, if_pos rfl]
  refine ⟨e, ?_⟩
  unfold dkAppS
  rw [e, if_neg (by decide), e0, hg]
  rfl
theorem app_old (ho : wrap64 (o + 1) = o') (hN : dkAll S C = N) (hk : 1 ≤ k.size ∧ k.size ≤ 16) (hg : getN N k = some g) (hq : (szF F N : Int) + xs.length ≤ q) (hx : (F g).b.length + xs.length ≤ 1048576) (g2 : Nat) :
    dkAppE ⟨q, o, 0, S, C, F⟩ k xs.length = 0 ∧ dkAppS ⟨q, o, 0, S, C, F⟩ k g2 xs = ⟨q, o', 0, S, C, fPut F g ⟨(F g).b ++ xs, (F g).s⟩⟩ := by
  subst ho
  have e0 : DkS.N ⟨q, o, 0, S, C, F⟩ = N := hN
  have hr : dkRoom ⟨q, o, 0, S, C, F⟩ (some g) xs.length = true := by
    unfold dkRoom
    rw [szF_is, e0]
    simp only [Bool.and_eq_true, decide_eq_true_eq]
    exact ⟨hq, hx⟩
  have e : dkAppE ⟨q, o, 0, S, C, F⟩ k xs.length = 0 := by
    unfold dkAppE
    rw [if_neg (by simp), if_neg (fun h => h hk), e0, hg, hr, if_pos rfl]
  refine ⟨e, ?_⟩
  unfold dkAppS
  rw [e, if_neg (by decide), e0, hg]
  rfl
theorem on_at (hN : dkAll S C = N) (hg : getN N k = some g) : dkOnE ⟨q, o, 0, S, C, F⟩ k = 0 ∧ dkOnF ⟨q, o, 0, S, C, F⟩ k = some g := by
  have e0 : DkS.N ⟨q, o, 0, S, C, F⟩ = N := hN
  have h1 : ¬ (0 : Int) = 1 := by decide
  refine ⟨?_, ?_⟩
  · unfold dkOnE
    rw [if_neg h1, e0, hg]; rfl
  · unfold dkOnF
    rw [if_neg h1, e0, hg]
theorem on_none (hN : dkAll S C = N) (hg : getN N k = none) : dkOnE ⟨q, o, 0, S, C, F⟩ k = 6 ∧ dkOnF ⟨q, o, 0, S, C, F⟩ k = none := by
  have e0 : DkS.N ⟨q, o, 0, S, C, F⟩ = N := hN
  have h1 : ¬ (0 : Int) = 1 := by decide
  refine ⟨?_, ?_⟩
  · unfold dkOnE
    rw [if_neg h1, e0, hg]; rfl
  · unfold dkOnF
    rw [if_neg h1, e0, hg]
theorem sync_at (ho : wrap64 (o + 1) = o') (hN : dkAll S C = N) (hg : getN N k = some g) : dkSync ⟨q, o, 0, S, C, F⟩ k = ⟨q, o', 0, S, C, fPut F g ⟨(F g).b, (F g).b.length⟩⟩ := by
  subst ho
  unfold dkSync
  rw [(on_at hN hg).2]
  rfl
theorem cut_at (ho : wrap64 (o + 1) = o') (hN : dkAll S C = N) (hg : getN N k = some g) (n : Nat) (hn : n ≤ (F g).b.length) : dkCutE ⟨q, o, 0, S, C, F⟩ k n = 0 ∧ dkCut ⟨q, o, 0, S, C, F⟩ k n = ⟨q, o', 0, S, C, keepF F g n⟩ := by
  subst ho
  unfold dkCutE dkCut
  rw [(on_at hN hg).2]
  have hc : ¬ ((n : Int) < 0 ∨ ((F g).b.length : Int) < n) := by omega
  simp only
  rw [if_neg hc, if_neg hc]
  exact ⟨rfl, rfl⟩
theorem cut_far (ho : wrap64 (o + 1) = o') (hN : dkAll S C = N) (hg : getN N k = some g) (n : Int) (hn : ((F g).b.length : Int) < n) : dkCutE ⟨q, o, 0, S, C, F⟩ k n = 1 ∧ dkCut ⟨q, o, 0, S, C, F⟩ k n = ⟨q, o', 0, S, C, F⟩ := by
  subst ho
  unfold dkCutE dkCut
  rw [(on_at hN hg).2]
  have hc : (n < 0 ∨ ((F g).b.length : Int) < n) := .inr hn
  simp only
  rw [if_pos hc, if_pos hc]
  exact ⟨rfl, rfl⟩
theorem ren_at (ho : wrap64 (o + 1) = o') (hN : dkAll S C = N) (hg : getN N k = some g) (ht : 1 ≤ t.size ∧ t.size ≤ 16) (hne : k ≠ t) : dkRenE ⟨q, o, 0, S, C, F⟩ k t = 0 ∧ dkRen ⟨q, o, 0, S, C, F⟩ k t = ⟨q, o', 0, S, C ++ [⟨1, k, t, none⟩], F⟩ := by
  subst ho
  unfold dkRenE dkRen
  rw [(on_at hN hg).2]
  simp only
  rw [if_pos ht, if_pos ⟨ht, hne⟩]
  exact ⟨rfl, rfl⟩
theorem ren_same (ho : wrap64 (o + 1) = o') (hN : dkAll S C = N) (hg : getN N k = some g) (ht : 1 ≤ k.size ∧ k.size ≤ 16) : dkRenE ⟨q, o, 0, S, C, F⟩ k k = 0 ∧ dkRen ⟨q, o, 0, S, C, F⟩ k k = ⟨q, o', 0, S, C, F⟩ := by
  subst ho
  unfold dkRenE dkRen
  rw [(on_at hN hg).2]
  simp only
  rw [if_pos ht, if_neg (fun h => h.2 rfl)]
  exact ⟨rfl, rfl⟩
theorem ren_none (ho : wrap64 (o + 1) = o') (hN : dkAll S C = N) (hg : getN N k = none) : dkRenE ⟨q, o, 0, S, C, F⟩ k t = 6 ∧ dkRen ⟨q, o, 0, S, C, F⟩ k t = ⟨q, o', 0, S, C, F⟩ := by
  subst ho
  unfold dkRenE dkRen
  rw [(on_none hN hg).2]
  exact ⟨(on_none hN hg).1, rfl⟩
theorem rem_at (ho : wrap64 (o + 1) = o') (hN : dkAll S C = N) (hg : getN N k = some g) : dkRem ⟨q, o, 0, S, C, F⟩ k = ⟨q, o', 0, S, C ++ [⟨2, k, ⟨#[]⟩, none⟩], F⟩ := by
  subst ho
  unfold dkRem
  rw [(on_at hN hg).2]
  rfl
theorem rem_none (ho : wrap64 (o + 1) = o') (hN : dkAll S C = N) (hg : getN N k = none) : dkRem ⟨q, o, 0, S, C, F⟩ k = ⟨q, o', 0, S, C, F⟩ := by
  subst ho
  unfold dkRem
  rw [(on_none hN hg).2]
  rfl
theorem syncdir_at (ho : wrap64 (o + 1) = o') (hN : dkAll S C = N) : dkBeg ⟨q, o, 0, S, C, F⟩ = 0 ∧ dkSyncDir ⟨q, o, 0, S, C, F⟩ = ⟨q, o', 0, N, [], F⟩ := by
  subst ho
  refine ⟨rfl, ?_⟩
  have e0 : DkS.N ⟨q, o, 0, S, C, F⟩ = N := hN
  unfold dkSyncDir
  rw [if_neg (by simp), e0]
  rfl
theorem read_at (fl : Int) (hN : dkAll S C = N) (hg : getN N k = some g) : dkRead ⟨q, o, fl, S, C, F⟩ k = (F g).b ∧ getN (DkS.N ⟨q, o, fl, S, C, F⟩) k = some g := by
  have e0 : DkS.N ⟨q, o, fl, S, C, F⟩ = N := hN
  unfold dkRead
  rw [e0, hg]
  exact ⟨rfl, rfl⟩
theorem read_none (fl : Int) (hN : dkAll S C = N) (hg : getN N k = none) : dkRead ⟨q, o, fl, S, C, F⟩ k = [] ∧ getN (DkS.N ⟨q, o, fl, S, C, F⟩) k = none := by
  have e0 : DkS.N ⟨q, o, fl, S, C, F⟩ = N := hN
  unfold dkRead
  rw [e0, hg]
  exact ⟨rfl, rfl⟩
end
def sA : ByteArray := ⟨#[97]⟩
def cA (g : Nat) : DkCh := ⟨0, sA, ⟨#[]⟩, some g⟩
theorem sA_name : 1 ≤ sA.size ∧ sA.size ≤ 16 := by decide
theorem sA_sz : szN sA := by unfold szN; decide
theorem allA (g : Nat) : dkAll [] [cA g] = [⟨sA, some g⟩] := by kernel_rfl
theorem getA (g : Nat) : getN [⟨sA, some g⟩] sA = some g := by kernel_rfl
def F0 : Nat → DkFc := fun _ => ⟨[], 0⟩
theorem aw_1 (g : Nat) : dkAppE (dkNew 100) sA 2 = 0 ∧ dkAppS (dkNew 100) sA g [120, 121] = ⟨100, 1, 0, [], [cA g], fPut F0 g ⟨[120, 121], 0⟩⟩ :=
  app_new (q := 100) (o := 0) (S := []) (C := []) (F := F0) (g := g) (xs := [120, 121]) (by unfold wrap64; omega) rfl sA_name rfl (by decide) (by decide) (by decide)
theorem aw_2 (g : Nat) (F : Nat → DkFc) (hF : F g = ⟨[120, 121], 0⟩) : ∃ F', dkOnE ⟨100, 1, 0, [], [cA g], F⟩ sA = 0 ∧ dkSync ⟨100, 1, 0, [], [cA g], F⟩ sA = ⟨100, 2, 0, [], [cA g], F'⟩ ∧ F' g = ⟨[120, 121], 2⟩ := by
  refine ⟨_, (on_at (allA g) (getA g)).1, sync_at (by unfold wrap64; omega) (allA g) (getA g), ?_⟩
  rw [fPut_same, hF]; rfl
theorem aw_3 (g : Nat) (F : Nat → DkFc) : dkBeg ⟨100, 2, 0, [], [cA g], F⟩ = 0 ∧ dkSyncDir ⟨100, 2, 0, [], [cA g], F⟩ = ⟨100, 3, 0, [⟨sA, some g⟩], [], F⟩ := syncdir_at (by unfold wrap64; omega) (allA g)
theorem aw_4 (g g2 : Nat) (F : Nat → DkFc) (hF : F g = ⟨[120, 121], 2⟩) : ∃ F', dkAppE ⟨100, 3, 0, [⟨sA, some g⟩], [], F⟩ sA 1 = 0 ∧ dkAppS ⟨100, 3, 0, [⟨sA, some g⟩], [], F⟩ sA g2 [122] = ⟨100, 4, 0, [⟨sA, some g⟩], [], F'⟩ ∧ F' g = ⟨[120, 121, 122], 2⟩ := by
  have h := app_old (q := 100) (o := 3) (S := [⟨sA, some g⟩]) (C := []) (F := F) (N := [⟨sA, some g⟩]) (o' := 4) (xs := [122]) (by unfold wrap64; omega) rfl sA_name (getA g) (by unfold szF; simp [hF]) (by rw [hF]; decide) g2
  refine ⟨_, h.1, h.2, ?_⟩
  rw [fPut_same, hF]; rfl
theorem dkSort_one (x : NmD) : dkSort [x] = [x] := by unfold dkSort; rw [List.mergeSort_singleton]
theorem aw_5 (g : Nat) (F : Nat → DkFc) (hF : F g = ⟨[120, 121, 122], 2⟩) : ∃ F', dkCrash ⟨100, 4, 0, [⟨sA, some g⟩], [], F⟩ [] = ⟨100, 4, 0, [⟨sA, some g⟩], [], F'⟩ ∧ F' g = ⟨[120, 121], 2⟩ := by
  have e : dkCrS ⟨100, 4, 0, [⟨sA, some g⟩], [], F⟩ [] = [⟨sA, some g⟩] := rfl
  refine ⟨dkCrF (dkSort [⟨sA, some g⟩]) [] F, by unfold dkCrash; rw [e]; rfl, ?_⟩
  rw [dkSort_one]
  unfold dkCrF dkCrF dkCr1
  simp only
  unfold keepF
  rw [fPut_same, hF]
  rfl
theorem aw_6 (g : Nat) (F : Nat → DkFc) (hF : F g = ⟨[120, 121], 2⟩) : dkRead ⟨100, 4, 0, [⟨sA, some g⟩], [], F⟩ sA = [120, 121] ∧ getN (DkS.N ⟨100, 4, 0, [⟨sA, some g⟩], [], F⟩) sA = some g := by
  have h := read_at (q := 100) (o := 4) (F := F) (C := []) (S := [⟨sA, some g⟩]) 0 rfl (getA g)
  exact ⟨by rw [h.1, hF], h.2⟩
theorem lit_row (w : World) (xs : List Nat) (cs : Array Value) (n : Nat) (hcs : cs.toList = xs.map cellB) (hn : xs.length = n) (hx : ∀ x ∈ xs, x < 256) (hs : n ≤ 281474976710656) : RowB (w.alloc (.cells cs 5)) (some ⟨w.heap.size, 0, none⟩) n n xs := by
  obtain ⟨a, c, hv, hr, -⟩ := (OwnB.lit w _ rfl _ (Nat.le_refl _) 5 cs n xs hcs hn hx hs).row
  rw [hn] at hv hr
  simp only [Value.slice.injEq, true_and] at hv
  obtain ⟨rfl, rfl⟩ := hv
  exact hr
set_option maxRecDepth 20000 in
set_option maxHeartbeats 16000000 in
theorem awake3 (w : World) : Calls Try.prog 13 #[] w fun e w' => e = .returned (.bool true) ∧ Touch w w' (fun _ => False) := by
  have kc := fun (w : World) (C : Array Value) (n c : Nat) => Lib.run_convert_bytes_const (P := Try.prog) w 29 5 C n c Try.underlying29 Try.underlying5
  go_enter Try.func13, Try.ntmps13
  go_wp2_with fail
  refine (dnew_any w 100 (by decide)).mono ?_
  rintro e w1 ⟨d, h1, rfl, n1⟩
  have HN := Lib.hid n1
  clear n1
  have hr1 := row_mark w1 #[.int .u8 120, .int .u8 121] (2, 3) 2 [120, 121] rfl rfl (by decide) (by decide)
  have tt1 := (Touch.refl w1 (fun _ => False)).alloc (.cells #[.int .u8 120, .int .u8 121] 5 (2, 3))
  have HA := Lib.hid ((HN.out.still tt1).app sA sA_sz hr1 (fun x hx => .inr (fun hf => by cases hx; have h1 := HN.out.m.lt _ hf; have h1 : w1.heap.size < w1.heap.size := h1; omega)) (by decide))
  clear hr1 tt1
  go_wp2_with fail
  refine HA.out.mono ?_
  rintro e w2 ⟨g, -, rfl, h2, n2, -, -, -⟩
  rw [(aw_1 g).2] at n2
  have hF := fPut_same F0 g ⟨[120, 121], 0⟩
  obtain ⟨F2, e1, e2, hF2⟩ := aw_2 g _ hF
  have HN := Lib.hid n2
  have HS := Lib.hid (HN.out.sync sA sA_sz)
  rw [e1, e2] at HS
  rw [show ([120, 121] : List Nat).length = 2 from rfl, (aw_1 g).1]
  clear n2 hF e1 e2 HA
  go_wp2_with fail
  refine HS.out.mono ?_
  rintro e w3 ⟨rfl, h3, n3, -, -, -⟩
  have HN := Lib.hid n3
  have HS := Lib.hid (HN.out.syncdir (show 1 ≤ 100000 by decide))
  rw [(aw_3 g F2).1, (aw_3 g F2).2] at HS
  clear n3
  go_wp2_with fail
  refine HS.out.mono ?_
  rintro e w4 ⟨rfl, h4, n4, -, -, -⟩
  have HN := Lib.hid n4
  have hr1 := row_mark w4 #[.int .u8 122] (1, 2) 1 [122] rfl rfl (by decide) (by decide)
  have tt1 := (Touch.refl w4 (fun _ => False)).alloc (.cells #[.int .u8 122] 5 (1, 2))
  have HA := Lib.hid ((HN.out.still tt1).app sA sA_sz hr1 (fun x hx => .inr (fun hf => by cases hx; have h1 := HN.out.m.lt _ hf; have h1 : w4.heap.size < w4.heap.size := h1; omega)) (show 0 ≤ 100000 by decide))
  clear hr1 tt1 n4
  go_wp2_with fail
  refine HA.out.mono ?_
  rintro e w5 ⟨g2, -, rfl, h5, n5, -, -, -⟩
  obtain ⟨F4, e1, e2, hF4⟩ := aw_4 g g2 F2 hF2
  rw [e2] at n5
  rw [show ([122] : List Nat).length = 1 from rfl, e1]
  have HN := Lib.hid n5
  have HS := Lib.hid (HN.out.crash (RowB.nil w5 none 0 (by omega)) (fun x hx => by cases hx) (show 0 ≤ 100000 by decide))
  obtain ⟨F5, e5, hF5⟩ := aw_5 g F4 hF4
  rw [e5] at HS
  clear n5 e1 e2 e5 HA
  go_wp2_with fail
  refine HS.out.mono ?_
  rintro e w6 ⟨rfl, h6, n6, -, -, -⟩
  have HN := Lib.hid n6
  have HR := Lib.hid (HN.out.read sA sA_sz)
  rw [(aw_6 g F5 hF5).1, (aw_6 g F5 hF5).2] at HR
  clear n6
  go_wp2_with fail
  refine HR.out.mono ?_
  rintro e w7 ⟨a7, c7, rfl, r7, -, n7, -⟩
  have r7 : RowB w7 a7 2 c7 [120, 121] := r7
  have hE : ((strB [120, 121]).toList == ([120, 121] : List UInt8)) = true := by decide +kernel
  have hsr := run_string_of (P := Try.prog) r7 29 9 5 Try.underlying29 Try.underlying5 Try.underlying9
  have HT := Lib.hid n7.t
  clear r7 n7
  go_wp2_with fail
  go_ret
  exact ⟨rfl, HT.out⟩
end Go.Proofs.Ytmokcfmlolohaaa
