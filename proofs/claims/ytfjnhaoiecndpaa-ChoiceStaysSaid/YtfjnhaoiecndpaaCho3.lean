/- A chooser: made, set. -/
import Derived.Test.YtfjnhaoiecndpaaCho2
import Derived.Deep.RegionHeld3
set_option linter.unusedVariables false
namespace Go.Proofs.Ytfjnhaoiecndpaa
open Go.RowKit

theorem RowI.touch {w w' : World} {a : Option Addr} {len cap : Nat} {zs : List Int} {S : Nat → Prop} (h : RowI w a len cap zs) (t : Touch w w' S) (hn : ∀ x, a = Option.some x → len = 0 ∨ ¬ S x.block) : RowI w' a len cap zs := by
  obtain ⟨h1, h2, h3, h4, h5⟩ := h
  refine ⟨h1, h2, h3, h4, ?_⟩
  rcases h5 with h5 | ⟨b, off, ha, hlt, hc⟩
  · exact .inl h5
  · rcases hn _ ha with h9 | h9
    · exact .inl h9
    · exact .inr ⟨b, off, ha, Nat.lt_of_lt_of_le hlt t.size, fun i hi => (t.cell (p := ⟨b, off + i, none⟩) hlt h9).trans (hc i hi)⟩

/-- A chooser's cells. -/
def chC (n : Nat) (ab : Option Addr) (lb cb : Nat) (at_ : Option Addr) (lt ct : Nat) (m : Nat) : Array Value := #[.int .i64 (n : Nat), .slice ab lb cb, .slice at_ lt ct, .int .i64 (m : Nat)]
theorem may8 : mayS 8 = false := by decide +kernel

set_option maxRecDepth 20000 in
set_option maxHeartbeats 2000000 in
theorem new_any (n : Nat) (w : World) (hp : Prm n) :
    Calls Try.prog 12 #[.int .i64 n] w fun e w' => ∃ C G, e = .returned (.pointer (some ⟨C, 0, none⟩)) ∧ w'.heap[C]? = some (.cells (chC n none 0 0 (some ⟨G, 0, none⟩) n n 0) 49 (0, 0)) ∧ w.heap.size ≤ C ∧ RowI w' (some ⟨G, 0, none⟩) n n (tabF [] n) ∧ Touch w w' (fun _ => False) := by
  have h3 := hp.lo
  have h251 := hp.hi
  have HM := Lib.hid (mayS_any n w h3 h251)
  rw [prm_may hp] at HM
  have HTB := Lib.hid (table_any none 0 0 n [] w hp (RowS.nil _ _ _ _ (by omega)))
  have HP := Lib.hid hp
  go_enter Try.func12, Try.ntmps12
  go_wp2_with (first
    | (go_at_call 20; (with_reducible refine HM.out.mono ?_); rintro e w9 ⟨rfl, rfl⟩)
    | (go_at_call 22; (with_reducible refine HTB.out.mono ?_); rintro e w4 ⟨G, rfl, ho, t4⟩; have HI := Lib.hid (ho.rowI (tab_i64 HP.out)); have HT := Lib.hid t4; clear ho t4))
  go_ret
  have t5 := (Touch.refl w4 (fun _ => False)).alloc (.cells (chC n none 0 0 (some ⟨G, 0, none⟩) n n 0) 49)
  exact ⟨w4.heap.size, G, rfl, heap_alloc_new .., HT.out.size, HI.out.still t5, HT.out.trans t5 (fun _ _ h => h)⟩
theorem new8 (w : World) : Calls Try.prog 12 #[.int .i64 8] w fun e w' => e = .returned (.pointer none) ∧ w' = w := by
  have HM : RowKit.Hid (Calls Try.prog 20 #[.int .i64 8] w fun e w' => e = .returned (.bool false) ∧ w = w') := Lib.hid (by rw [← may8]; exact mayS_any 8 w (by omega) (by omega))
  go_enter Try.func12, Try.ntmps12
  go_wp2_with (go_at_call 20; (with_reducible refine HM.out.mono ?_); rintro e w9 ⟨rfl, rfl⟩)
  go_ret
  exact ⟨rfl, rfl⟩

set_option maxRecDepth 20000 in
set_option maxHeartbeats 4000000 in
theorem set_any (n : Nat) (C : Nat) (ab : Option Addr) (lb cb : Nat) (at_ : Option Addr) (lt ct m : Nat) (a : Option Addr) (len cap : Nat) (bs : List BkD) (w : World) (hp : Prm n) (hm : m ≤ 1000000)
    (hc : w.heap[C]? = some (.cells (chC n ab lb cb at_ lt ct m) 49 (0, 0))) (hr : RowK w a len cap bs) (hg : gmay bs = true) (hne : ∀ x, a = some x → len = 0 ∨ ¬ x.block = C) :
    Calls Try.prog 7 #[.pointer (some ⟨C, 0, none⟩), .slice a len cap, .nilFunc] w fun e w' => e = .returned (.int .i64 0) ∧ ∃ a' c' G, w'.heap[C]? = some (.cells (chC n a' len c' (some ⟨G, 0, none⟩) n n (m + 1)) 49 (0, 0)) ∧ RowK w' a' len c' bs ∧ RowI w' (some ⟨G, 0, none⟩) n n (tabF bs n) ∧ Touch w w' (fun k => k = C) := by
  have h3 := hp.lo
  have h251 := hp.hi
  have HM := Lib.hid (fun W => mayS_any n W h3 h251)
  rw [prm_may hp] at HM
  have hl := hr.len
  have hl16 : len ≤ 16 := by have := ((gmay_iff bs).1 hg).1; omega
  have HP := Lib.hid hp
  have HG := Lib.hid hg
  have HC := Lib.hid hc
  have HR := Lib.hid hr
  have HNE := Lib.hid hne
  have HGM : RowKit.Hid (∀ W, RowK W a len cap bs → Calls Try.prog 21 #[.slice a len cap] W fun e w' => e = .returned (.bool true) ∧ Touch W w' (fun _ => False)) := Lib.hid (fun W h => by have := gmay_any a len cap bs W h; rwa [hg] at this)
  have hmf : ∀ (fn : Fn) (first cap : Array Value) (w : World), (Instr.makeFunc fn first cap).run Try.prog w = .ok (.func fn first cap) w := fun _ _ _ _ => rfl
  have c0 : w.cell? ⟨C, 0, none⟩ = some (.int .i64 (n : Nat)) := cell_of_cells hc 0
  clear hc hr hg hne hp hl
  go_enter Try.func7, Try.ntmps7
  go_wp2_with (first
    | (go_at_call 20; (with_reducible refine (HM.out _).mono ?_); rintro e w9 ⟨rfl, rfl⟩)
    | (go_at_call 21; (with_reducible refine (HGM.out _ HR.out).mono ?_); rintro e w3 ⟨rfl, t3⟩; have HT := Lib.hid t3; have HC := Lib.hid (t3.keeps HC.out (fun h => h)); have HR := Lib.hid (HR.out.still t3); clear t3))
  have hc := HC.out
  have c0 : w3.cell? ⟨C, 0, none⟩ = some (.int .i64 (n : Nat)) := cell_of_cells hc 0
  have HCC : RowKit.Hid (∀ W, Touch w3 W (fun _ => False) → W.cell? ⟨C, 0, none⟩ = some (.int .i64 (n : Nat))) := Lib.hid (fun W t => cell_of_cells (t.keeps hc (fun h => h)) 0)
  have HWO : RowKit.Hid (∀ W, Touch w3 W (fun _ => False) → Calls Try.prog 23 #[.slice a len cap, .func (.func 24) #[.nilFunc] #[]] W fun e w' => ∃ a' c', e = .returned (.slice a' len c') ∧ RowK w' a' len c' bs ∧ Touch w3 w' (fun _ => False)) := Lib.hid (fun W t => by
    refine (without_nil a len cap bs W (HR.out.still t) (by omega)).mono ?_
    rintro e w' ⟨a', c', he, ho, t'⟩
    exact ⟨a', c', he, ho.row.2.1, t.trans t' (fun _ _ h => h)⟩)
  have HTA : RowKit.Hid (∀ W a5 c5, RowK W a5 len c5 bs → Touch w3 W (fun _ => False) → Calls Try.prog 22 #[.slice a5 len c5, .int .i64 n] W fun e w' => ∃ G, e = .returned (.slice (some ⟨G, 0, none⟩) n n) ∧ RowI w' (some ⟨G, 0, none⟩) n n (tabF bs n) ∧ w3.heap.size ≤ G ∧ Touch w3 w' (fun _ => False)) := Lib.hid (fun W a5 c5 h t => by
    refine (table_any a5 len c5 n bs W HP.out h).mono ?_
    rintro e w' ⟨G, he, ho, t'⟩
    exact ⟨G, he, ho.rowI (tab_i64 HP.out), Nat.le_trans t.size ho.lt.1, t.trans t' (fun _ _ h => h)⟩)
  clear hc
  go_region_held3 (fun w' => w'.cell? ⟨C, 0, none⟩ = some (.int .i64 (n : Nat)))
    (first | (with_reducible exact HK8.out _) | (with_reducible exact HCC.out _ T8.out) | (with_reducible exact HCC.out _ T5.out) | go_keep)
    (first
    | (go_simp; go_at_call 22; have _u := HK5; (with_reducible refine (HTA.out _ _ _ HK5.out T5.out).mono ?_); rintro e w8 ⟨G, rfl, hi8, hg8, t8⟩; have HI8 := Lib.hid hi8; have HGS := Lib.hid hg8; have T8 := Lib.hid t8; have c2 : w8.cell? ⟨C, 2, none⟩ = some (.slice at_ lt ct) := cell_of_cells (t8.keeps HC.out (fun h => h)) 2; have f2 := free_of_cells (t8.keeps HC.out (fun h => h)) 2; have k0 := HCC.out _ t8; have HK8 : RowKit.Hid (∀ v, (w8.setCell ⟨C, 2, none⟩ v).cell? ⟨C, 0, none⟩ = some (.int .i64 (n : Nat))) := Lib.hid (fun v => (cell_of_cells (heap_setCell_same w8 C 2 _ _ v (T8.out.keeps HC.out (fun h => h))) 0).trans rfl); clear hi8 t8 hg8)
    | (go_simp; go_at_call 23; (with_reducible refine (HWO.out _ (Touch.refl _ _).drew).mono ?_); rintro e w5 ⟨a5, c5, rfl, hk5, t5⟩; have HK5 := Lib.hid hk5; have T5 := Lib.hid t5; have k5 := HCC.out _ t5; clear hk5 t5))
  clear k5 k0 c2 f2 c0 _u
  have HC8 := T8.out.keeps HC.out (fun h => h)
  have hCl : C < w3.heap.size := heap_lt HC.out
  obtain ⟨W9, hW9⟩ : ∃ W, w8.setCell ⟨C, 2, none⟩ (.slice (some ⟨G, 0, none⟩) n n) = W := ⟨_, rfl⟩
  have HC9 : RowKit.Hid (W9.heap[C]? = some (.cells (chC n ab lb cb (some ⟨G, 0, none⟩) n n m) 49 (0, 0))) := Lib.hid (by rw [← hW9]; exact heap_setCell_same w8 C 2 _ _ _ HC8)
  have t9 : Touch w8 W9 (fun k => k = C) := hW9 ▸ (Touch.refl w8 (fun k => k = C)).setCell _ _ (fun _ => rfl)
  have HR9 := Lib.hid ((HR.out.still T8.out).touch t9 HNE.out)
  have hGC : ¬ G = C := by have := HGS.out; omega
  have HI9 := Lib.hid (HI8.out.touch t9 (fun x hx => by cases hx; exact .inr hGC))
  have HT9 := Lib.hid ((HT.out.mono (fun _ _ h => h.elim)).trans ((T8.out.mono (fun _ _ h => h.elim)).trans t9 (fun _ _ h => h)) (fun _ _ h => h))
  rw [hW9]
  clear hW9 t9 HC8
  go_wp2_with fail
  refine (cloneK_any a len cap bs W9 HR9.out (by omega)).mono ?_
  rintro e w10 ⟨a10, c10, rfl, ho10, t10⟩
  have g10 := t10.keeps HC9.out (fun h => h)
  have y1 : w10.cell? ⟨C, 1, none⟩ = some (.slice ab lb cb) := cell_of_cells g10 1
  have y3 : w10.cell? ⟨C, 3, none⟩ = some (.int .i64 (m : Nat)) := cell_of_cells g10 3
  have f1 := free_of_cells g10 1
  have f3 := free_of_cells g10 3
  have hC9 : C < W9.heap.size := heap_lt HC9.out
  have g11 := heap_setCell_same w10 C 1 _ _ (.slice a10 len c10) g10
  have g12 := heap_setCell_same (w10.setCell ⟨C, 1, none⟩ (.slice a10 len c10)) C 3 _ _ (.int .i64 ((m + 1 : Nat))) g11
  have t12 := ((Touch.refl w10 (fun k => k = C)).setCell ⟨C, 1, none⟩ (.slice a10 len c10) (fun _ => rfl)).setCell ⟨C, 3, none⟩ (.int .i64 ((m + 1 : Nat))) (fun _ => rfl)
  have HG12 := Lib.hid g12
  have HK12 := Lib.hid (ho10.row.2.1.touch t12 (fun x hx => .inr (fun h => by have := (ho10.row.2.2 x hx).1; omega)))
  have HI12 := Lib.hid ((HI9.out.still t10).touch t12 (fun x hx => by cases hx; exact .inr hGC))
  have HT12 := Lib.hid ((HT9.out.trans (t10.mono (fun _ _ h => h.elim)) (fun _ _ h => h)).trans t12 (fun _ _ h => h))
  clear ho10 t10 g10 g11 g12 t12
  go_wp2_with fail
  go_ret
  have e : ((m : Int) + 1) = ((m + 1 : Nat) : Int) := by omega
  rw [e]
  exact ⟨rfl, a10, c10, G, HG12.out, HK12.out, HI12.out, HT12.out⟩
end Go.Proofs.Ytfjnhaoiecndpaa
