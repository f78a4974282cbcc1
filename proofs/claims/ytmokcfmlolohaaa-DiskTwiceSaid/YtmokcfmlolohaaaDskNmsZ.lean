/- A disk's names, in order; the bytes of a file. -/
import Derived.Test.YtmokcfmlolohaaaDskAppZ
import Derived.Test.YtmokcfmlolohaaaIterS
import Derived.CallsIn
set_option linter.unusedVariables false
set_option linter.unusedSimpArgs false
namespace Go.Proofs.Ytmokcfmlolohaaa
open Go.RowKit Go.Maps Go.Sort Go.Shelf

def keyL (d : NmD) : List UInt8 := d.n.data.toList
def dkSort (M : List NmD) : List NmD := M.mergeSort (fun a b => decide (keyL a ≤ keyL b))
theorem dkSort_perm (M : List NmD) : (dkSort M).Perm M := List.mergeSort_perm _ _
theorem dkSort_len (M : List NmD) : (dkSort M).length = M.length := (dkSort_perm M).length_eq
theorem dkSort_keys (M : List NmD) : (dkSort M).map keyL = (M.map keyL).mergeSort leB := List.map_mergeSort (fun _ _ _ _ => rfl)
theorem PN.strs {D : DataW Unit} {M : List NmD} (p : PN D M) (hn : (M.map NmD.n).Nodup) : (M.map keyL).Perm (strKeys D) := by
  obtain ⟨es, rfl, hp⟩ := p.tidy
  refine perm_strKeys hp (fun q hq => ?_) ?_ (fun x => ?_)
  · obtain ⟨k, hk⟩ := p.keys es rfl q hq
    exact ⟨_, hk⟩
  · rw [show M.map keyL = (M.map NmD.n).map (fun k => k.data.toList) by rw [List.map_map]; rfl]
    refine List.Pairwise.map _ (fun a b hne e => hne ?_) hn
    exact ByteArray.ext (Array.ext' e)
  · have h1 := p.has ⟨x.toArray⟩
    have h2 : klN ⟨x.toArray⟩ = Lit.string x := by unfold klN; simp
    rw [h2] at h1
    rw [h1, hasN_iff, List.mem_map, List.mem_map]
    constructor
    · rintro ⟨d, hd, e⟩
      refine ⟨d, hd, ?_⟩
      unfold keyL at e
      rw [← e]
    · rintro ⟨d, hd, e⟩
      refine ⟨d, hd, ?_⟩
      unfold keyL
      rw [e]
theorem sortsN (m : Nat) : AnyZ.SortsIn Try.prog Try.sortedS_ren Fence.wide m :=
  ⟨fun blk off cap ss W hH hblk hsz => callsIn_wide.2 (AnyM.slices_Sort_string Try.sortS blk off cap ss W hH hblk hsz),
   fun p cap W => callsIn_wide.2 (AnyM.slices_Sort_string_none Try.sortS p cap W)⟩
theorem keysN_any (w : World) (mb : Nat) :
    Calls Try.prog 51 #[.map (some mb)] w fun e w' => e = .returned (.func (.func 71) #[] #[.pointer (some ⟨w.heap.size, 0, none⟩)]) ∧ w' = w.alloc (.cells #[.map (some mb)] 62) :=
  (callsIn_wide (n := 6)).1 (AnyZ.keys_in Try.keysS Fence.wide 6 trivial rfl (some mb) w)
def strRow (M : List NmD) : List (List Value) := M.map (fun d => [Value.string d.n])
theorem strRow_flat (M : List NmD) : (strRow M).flatten = (M.map keyL).map encStr := by
  unfold strRow
  induction M with
  | nil => rfl
  | cons d M ih =>
    simp only [List.map_cons, List.flatten_cons, List.cons_append, List.nil_append]
    rw [ih]
    unfold keyL
    rfl
theorem sortedN_any (w : World) (mb : Nat) (M : List NmD) (o : OwnN w mb M) (hl : M.length ≤ 1000000) :
    Calls Try.prog 50 #[.func (.func 71) #[] #[.pointer (some ⟨w.heap.size, 0, none⟩)]] (w.alloc (.cells #[.map (some mb)] 62)) fun e w' => ∃ a c, e = .returned (.slice a M.length c) ∧
      OwnS w' (w.heap.size + 1) 9 1 (.slice a M.length c) (strRow (dkSort M)) ∧ Touch w w' (fun _ => False) := by
  obtain ⟨hnd, D, hown, hP⟩ := o
  have hbl := hown.lt
  have hsz : Maps.size D ≤ 1000000 := by rw [hP.size]; exact hl
  refine (callsIn_wide (n := 5)).1 ?_
  have hseq : SeqGives Fence.wide 2 Try.prog 71 #[.pointer (some ⟨w.heap.size, 0, none⟩)] encStr (fun ss => ss.Perm (strKeys D)) (Maps.size D) (w.alloc (.cells #[.map (some mb)] 62)) :=
    AnyZ.keys_gives (ρ := Try.keysS_ren) { Try.keysS with } Fence.wide _ trivial rfl (by omega) w.heap.size mb M.length D _ (by simp) (by simp) (by
      obtain ⟨es, clock, hb, Ft, hs, hD⟩ := hown
      exact ⟨es, clock, (Below.heap_alloc _ _ mb hbl).trans hb, Ft, hs, hD⟩)
  have cS := AnyZ.sorted_in Try.sortedS Fence.wide 5 trivial trivial trivial trivial rfl (by omega) (sortsN _) (enters_of Try.func70 (by kernel_rfl) rfl) 71 #[.pointer (some ⟨w.heap.size, 0, none⟩)] trivial (enters_of Try.func71 (by kernel_rfl) rfl) _ _ (by simp only [maxLen]; omega) (by omega) _ hseq
  change CallsIn _ _ Try.prog 50 _ _ _ at cS
  refine cS.mono ?_
  rintro e w' ⟨v, ss, rfl, hS, hrow, _, hb⟩
  have e1 : (w.alloc (.cells #[.map (some mb)] 62)).heap.size = w.heap.size + 1 := by simp
  rw [e1] at hrow hb
  have hpm := hS.trans (hP.strs hnd).symm
  have hms : ss.mergeSort (fun x y => decide (x ≤ y)) = (dkSort M).map keyL := by rw [dkSort_keys]; exact mergeSort_of_perm hpm
  have hsl : ss.length = M.length := by rw [hpm.length_eq]; simp
  have hil : (strRow (dkSort M)).length = M.length := by unfold strRow; rw [List.length_map, dkSort_len]
  have hOI : OwnS w' (w.heap.size + 1) 9 1 v (strRow (dkSort M)) := ⟨by rw [strRow_flat, ← hms, hil, ← hsl]; exact hrow, by simp [strRow]⟩
  obtain ⟨a2, c2, hv, -, -⟩ := hOI.row
  rw [hil] at hv
  subst hv
  exact ⟨a2, c2, rfl, hOI, ((Touch.refl w (fun _ => False)).alloc (.cells #[.map (some mb)] 62)).trans (Touch.ofBelow (S := fun k => w.heap.size < k) hb (fun k hk _ => by omega)) (fun k hk h => by omega)⟩
set_option maxRecDepth 20000 in
set_option maxHeartbeats 8000000 in
theorem dnames_any (w : World) (d : Nat) (h : DkH) (st : DkS) (m : DkM w d h st) :
    Calls Try.prog 29 #[.pointer (some ⟨d, 0, none⟩)] w fun e w' => ∃ a c, e = .returned (.slice a st.N.length c) ∧ OwnS w' w.heap.size 9 1 (.slice a st.N.length c) (strRow (dkSort st.N)) ∧ Touch w w' (fun _ => False) := by
  obtain ⟨c0, c1, -, -, -, -⟩ := m.cells
  have HK := Lib.hid (keysN_any w h.mn)
  have HS := Lib.hid (sortedN_any w h.mn st.N m.nm (by have := m.goodN.len; omega))
  clear m c0
  go_enter Try.func29, Try.ntmps29
  go_wp2_with fail
  refine HK.out.mono ?_
  rintro e w1 ⟨rfl, rfl⟩
  go_wp2_with fail
  refine HS.out.mono ?_
  rintro e w2 ⟨a, c, rfl, ho, t⟩
  have HR := Lib.hid (And.intro ho t)
  clear ho t
  go_wp2_with fail
  go_ret
  exact ⟨a, c, rfl, HR.out.1.rebase (fun x hx => by have := (HR.out.1.own.lt x hx).1; omega), HR.out.2⟩
theorem bclone_any (w : World) (a : Option Addr) (n c : Nat) (xs : List Nat) (hr : RowB w a n c xs) (hn : n ≤ 140737488355328) :
    Calls Try.prog 46 #[.slice a n c] w fun e w' => ∃ a' c', e = .returned (.slice a' n c') ∧ OwnB w' w.heap.size 5 (.slice a' n c') xs ∧ Touch w w' (fun _ => False) := by
  obtain ⟨h1, h2, h3, h4, h5, h6⟩ := hr
  cases a with
  | none =>
    have h0 : n = 0 := by
      rcases h6 with h | ⟨b, off, e, -⟩
      · exact h
      · cases e
    subst h0
    obtain rfl := List.length_eq_zero_iff.1 h1
    have hc : Calls Try.prog 46 #[.slice none 0 c] w _ := Any.bytes_Clone_nil Try.bcloneS 0 c w
    refine hc.mono ?_
    rintro e w' ⟨rfl, rfl⟩
    exact ⟨none, 0, rfl, OwnB.nil _ _ _, Touch.refl _ _⟩
  | some x =>
    have hcs : ∀ i, i < n → w.cell? (x.add i) = some (.int .u8 ((xs.map (fun y : Nat => (y : Int))).getD i 0)) := by
      intro i hi
      rcases h6 with h | ⟨b, off, e, hc⟩
      · omega
      · cases e
        have ea : (⟨b, off, none⟩ : Addr).add i = ⟨b, off + i, none⟩ := by simp only [Addr.add]; split <;> simp_all
        rw [ea, hc i (by omega)]
        rw [List.getD_eq_getElem?_getD, List.getElem?_map, List.getElem?_eq_getElem (by omega)]
        rfl
    have hc : Calls Try.prog 46 #[.slice (some x) n c] w _ := Any.bytes_Clone_at Try.bcloneS x n c (xs.map (fun y : Nat => (y : Int))) w (by simpa using h1) hn hcs
    refine hc.mono ?_
    rintro e w' ⟨v, rfl, how, -, hb⟩
    have how2 : w'.ownsRow w.heap.size 5 1 v n (xs.map cellB) := by
      have e9 : (xs.map (fun y : Nat => (y : Int))).map (Value.int .u8) = xs.map cellB := by rw [List.map_map]; rfl
      rw [← e9]
      exact how
    have hB : OwnB w' w.heap.size 5 v xs := ⟨by rw [h1]; exact how2, h5, by omega⟩
    obtain ⟨a', c', hv, -, -⟩ := hB.row
    rw [h1] at hv
    subst hv
    exact ⟨a', c', rfl, hB, Touch.ofBelow hb (fun k hk hlt => by omega)⟩
/-- What Read tells. -/
def dkRead (st : DkS) (k : ByteArray) : List Nat := match getN st.N k with
  | none => []
  | some g => (st.F g).b
set_option maxRecDepth 20000 in
set_option maxHeartbeats 8000000 in
theorem dread_any (w : World) (d : Nat) (h : DkH) (st : DkS) (m : DkM w d h st) (k : ByteArray) (hk : szN k) :
    Calls Try.prog 18 #[.pointer (some ⟨d, 0, none⟩), .string k] w fun e w' => ∃ a c, e = .returned (.tuple #[.slice a (dkRead st k).length c, .bool (getN st.N k).isSome]) ∧ OwnB w' w.heap.size 5 (.slice a (dkRead st k).length c) (dkRead st k) ∧ Touch w w' (fun _ => False) := by
  obtain ⟨c0, c1, -, -, -, -⟩ := m.cells
  have hl := m.nm.get hk
  unfold dkRead
  cases ho : getN st.N k with
  | none =>
    rw [ho] at hl
    simp only [pvN, Option.map_none] at hl
    clear m ho c0
    go_enter Try.func18, Try.ntmps18
    go_wp2_with fail
    go_ret2
    exact ⟨none, 0, rfl, OwnB.nil _ _ _, Touch.refl _ _⟩
  | some g =>
    rw [ho] at hl
    simp only [pvN, Option.map_some] at hl
    have f := m.files g (m.get ho)
    obtain ⟨y0, -⟩ := f.cells
    obtain ⟨a0, cap0, hv0, hrow, -⟩ := f.own.row
    simp only [Value.slice.injEq] at hv0
    obtain ⟨rfl, -, rfl⟩ := hv0
    have HC := Lib.hid (bclone_any w _ _ _ _ hrow (by have := f.len; omega))
    clear m ho c0 f hrow
    simp only
    go_enter Try.func18, Try.ntmps18
    go_wp2_with fail
    refine HC.out.mono ?_
    rintro e w1 ⟨a, c, rfl, ho, t⟩
    have HR := Lib.hid (And.intro ho t)
    clear ho t
    go_wp2_with fail
    go_ret2
    exact ⟨a, c, rfl, HR.out⟩
end Go.Proofs.Ytmokcfmlolohaaa
