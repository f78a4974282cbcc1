import Derived.Test.YtpjdcgjoepjmcaaGreatPathVZ
set_option linter.unusedVariables false
set_option linter.unusedSimpArgs false
namespace Go.Proofs.YtpjdcgjoepjmcaaGreat
open Go.RowKit

set_option maxRecDepth 20000 in
set_option maxHeartbeats 2000000 in
theorem new_off (n : Nat) (w : World) (hp : Prm n) :
    Calls Tryz.prog 12 #[.int .i64 n] w fun e w' => ∃ C G, e = .returned (.pointer (some ⟨C, 0, none⟩)) ∧ w'.heap[C]? = some (.cells (chC n none 0 0 (some ⟨G, 0, none⟩) n n 0) 100 (0, 0)) ∧ w.heap.size ≤ C ∧ w.heap.size ≤ G ∧ RowI w' (some ⟨G, 0, none⟩) n n (tabF [] n) ∧ Touch w w' (fun _ => False) := by
  have h3 := hp.lo
  have h251 := hp.hi
  have HM := Lib.hid (mayS_any n w h3 h251)
  rw [prm_may hp] at HM
  have HTB := Lib.hid (table_any none 0 0 n [] w hp (RowS.nil _ _ _ _ (by omega)))
  have HP := Lib.hid hp
  go_enter Tryz.func12, Tryz.ntmps12
  go_wp2_with (first
    | (go_at_call 36; (with_reducible refine HM.out.mono ?_); rintro e w9 ⟨rfl, rfl⟩)
    | (go_at_call 37; (with_reducible refine HTB.out.mono ?_); rintro e w4 ⟨G, rfl, ho, t4⟩; have HI := Lib.hid (ho.rowI (tab_i64 HP.out)); have HT := Lib.hid t4; have HG := Lib.hid ho.lt.1; clear ho t4))
  go_ret
  have t5 := (Touch.refl w4 (fun _ => False)).alloc (.cells (chC n none 0 0 (some ⟨G, 0, none⟩) n n 0) 100)
  exact ⟨w4.heap.size, G, rfl, heap_alloc_new .., HT.out.size, HG.out, HI.out.still t5, HT.out.trans t5 (fun _ _ h => h)⟩
theorem PW.fresh {w w1 w2 : World} {g : Nat} {h : FH} {most idle : Int} {M : List FlD} (p : FN w w1 g h most idle M) {C n : Nat} {T : List Int} {G m : Nat} (hn : 0 < n) (t : Touch w1 w2 (fun _ => False))
    (hc : w2.heap[C]? = some (.cells (chC n none 0 0 (some ⟨G, 0, none⟩) n n m) 100 (0, 0))) (hC : w1.heap.size ≤ C) (hG : w1.heap.size ≤ G) (hi : RowI w2 (some ⟨G, 0, none⟩) n n T) :
    PW w w2 g h most idle M C n [] T none 0 0 G m := by
  refine ⟨p.still t, ⟨hc, RowS.nil _ _ _ _ (by omega), hi⟩, ⟨fun e => by have := p.q.footlt _ e; omega, .inl rfl, fun e => by have := p.q.footlt _ e; omega⟩, heap_lt hc, .inl rfl, ?_⟩
  rcases hi.2.2.2.2 with h0 | ⟨b, off, ha, hlt, -⟩
  · omega
  · cases ha; exact hlt
end Go.Proofs.YtpjdcgjoepjmcaaGreat
