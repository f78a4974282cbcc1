/- The reference's reader beside blocks that are not its own. -/
import Derived.Test.YtibpnlhdpdfhiaaDoorRecRdZ
import Derived.Test.YtibpnlhdpdfhiaaDoorGAZ
set_option linter.unusedVariables false
set_option linter.unusedSimpArgs false
namespace Go.Proofs.YtibpnlhdpdfhiaaDoor
open Go.RowKit

/-- The reference's reader in block M has the bytes xs left, and the error err; none of its blocks is one of D. -/
structure RfD (w : World) (M : Nat) (D : Nat → Prop) (xs : List Nat) (err : Int) : Prop where
  dg : ¬ D M
  he : err = 0 ∨ xs = []
  hl : xs.length ≤ 140737488355328
  ex : ∃ a cap, RfB w M a xs.length cap xs err ∧ ∀ x, a = some x → xs.length = 0 ∨ ¬ D x.block
section
variable {w w' : World} {M : Nat} {D : Nat → Prop} {xs : List Nat} {err : Int}
theorem RfD.touch (h : RfD w M D xs err) {S : Nat → Prop} (t : Touch w w' S) (hS : ∀ k, k < w.heap.size → S k → D k) : RfD w' M D xs err := by
  obtain ⟨dg, he, hl, a, c, h1, h2⟩ := h
  refine ⟨dg, he, hl, a, c, h1.touch t (fun hs => dg (hS _ h1.lt hs)) (fun x hx => ?_), h2⟩
  rcases h1.row.lt x hx with hl | hl
  · exact .inl hl
  · rcases h2 x hx with h3 | h3
    · exact .inl h3
    · exact .inr (fun hs => h3 (hS _ hl hs))
theorem RfD.still (h : RfD w M D xs err) (t : Touch w w' (fun _ => False)) : RfD w' M D xs err := h.touch t (fun _ _ h => h.elim)
theorem RfD.lt (h : RfD w M D xs err) : M < w.heap.size := by obtain ⟨a, c, h1, _⟩ := h.ex; exact h1.lt
theorem RfD.small (h : RfD w M D xs err) : ∀ x ∈ xs, x < 256 := by obtain ⟨a, c, h1, _⟩ := h.ex; exact h1.row.2.2.2.2.1
theorem RfD.mono {D' : Nat → Prop} (h : RfD w M D xs err) (hd : ∀ k, D' k → D k) : RfD w M D' xs err :=
  ⟨fun hk => h.dg (hd _ hk), h.he, h.hl, by
    obtain ⟨a, c, h1, h2⟩ := h.ex
    exact ⟨a, c, h1, fun x hx => (h2 x hx).imp id (fun h3 h4 => h3 (hd _ h4))⟩⟩
/-- What is laid from now on is not the reader's. -/
theorem RfD.above (h : RfD w M D xs err) : RfD w M (fun k => D k ∨ w.heap.size ≤ k) xs err := by
  obtain ⟨dg, he, hle, a, c, h1, h2⟩ := h
  refine ⟨fun hk => ?_, he, hle, a, c, h1, fun x hx => ?_⟩
  · have := h1.lt
    rcases hk with hk | hk
    · exact dg hk
    · omega
  · rcases h1.row.lt x hx with hl | hl
    · exact .inl hl
    · rcases h2 x hx with h5 | h5
      · exact .inl h5
      · refine .inr (fun hk => ?_)
        rcases hk with hk | hk
        · exact h5 hk
        · omega
theorem RfD.none (hdg : ¬ D M) (h : RfB w M Option.none 0 0 [] 2) : RfD w M D [] 2 := ⟨hdg, .inr rfl, by simp, Option.none, 0, h, fun x hx => by cases hx⟩
theorem RfD.took {a : Option Addr} {cap n : Nat} {v : Value} (hn : n ≤ xs.length) (hl : xs.length ≤ 140737488355328) (hdg : ¬ D M) (ha : ∀ x, a = some x → xs.length = 0 ∨ ¬ D x.block) (t : TookR M a xs.length cap xs n w w' v) :
    RfD w' M D (nxtX n xs) (nxtE n xs 0) ∧ Touch w w' (fun k => k = M) := by
  obtain ⟨a3, c3, a', hv, hr, hb, h1, h4, h3⟩ := t
  unfold nxtX nxtE
  rw [if_pos hn, if_pos hn]
  refine ⟨⟨hdg, .inl rfl, by simp; omega, a', cap - n, by simpa using h1, fun x hx => ?_⟩, h3⟩
  obtain ⟨y, hy, hxy⟩ := h4 x hx
  rcases ha y hy with h | h
  · left; simp; omega
  · right; rw [hxy]; exact h
end
set_option maxHeartbeats 1000000 in
theorem d_fU16 (M : Nat) (D : Nat → Prop) (xs : List Nat) (err : Int) (w : World) (h : RfD w M D xs err) :
    Calls Tryd.prog 50 #[.pointer (some ⟨M, 0, none⟩)] w fun e w' => e = .returned (.int .i64 ((valN 2 xs) : Nat)) ∧ RfD w' M D (nxtX 2 xs) (nxtE 2 xs err) ∧ Touch w w' (fun k => k = M) := by
  obtain ⟨dg, he, hlen, a, cap, h1, h2⟩ := h
  have hsm := h1.row.2.2.2.2.1
  have hb : valN 2 xs < 256 ^ 2 := valN_lt 2 xs hsm
  have hb2 : valN 2 xs < 65536 := by
    have e : (256 : Nat) ^ 2 = 65536 := by decide
    omega
  have HS := Lib.hid (sgn_w64 (valN 2 xs) (by omega))
  have key : Calls Tryd.prog 81 #[.pointer (some ⟨M, 0, none⟩), .int .i64 2] w fun e w' => e = .returned (.int .u64 (valN 2 xs : Nat)) ∧ RfD w' M D (nxtX 2 xs) (nxtE 2 xs err) ∧ Touch w w' (fun k => k = M) := by
    by_cases hn : err = 0 ∧ 2 ≤ xs.length
    · obtain ⟨rfl, hn⟩ := hn
      refine (rf_num_ok M a _ cap xs 2 w h1 (by omega) hn (by omega) hlen).mono ?_
      rintro e w' ⟨rfl, v, ht⟩
      exact ⟨by unfold valN; rw [if_pos hn], RfD.took hn hlen dg h2 ht⟩
    · have hn' : ¬ 2 ≤ xs.length := by
        rcases he with he | he
        · exact fun h => hn ⟨he, h⟩
        · subst he; simp
      refine (rf_num_bad M a _ cap xs err 2 w h1 (by omega)).mono ?_
      rintro e w' ⟨rfl, hr, ht⟩
      obtain ⟨e1, e2, e3, _⟩ := nxt_bad (err := err) hn'
      rw [e1, e2, e3]
      exact ⟨rfl, RfD.none dg hr, ht⟩
  have H := Lib.hid key
  clear key h1 hsm he hb
  generalize valN 2 xs = z at *
  go_enter Tryd.func50, Tryd.ntmps50
  go_wp2_with (go_at_call 81; refine H.out.mono ?_; rintro e w' ⟨rfl, hrf, ht⟩)
  try rw [HS.out]
  go_ret
  exact ⟨rfl, hrf, ht⟩
set_option maxHeartbeats 1000000 in
theorem d_fU32 (M : Nat) (D : Nat → Prop) (xs : List Nat) (err : Int) (w : World) (h : RfD w M D xs err) :
    Calls Tryd.prog 49 #[.pointer (some ⟨M, 0, none⟩)] w fun e w' => e = .returned (.int .u32 ((valN 4 xs) : Nat)) ∧ RfD w' M D (nxtX 4 xs) (nxtE 4 xs err) ∧ Touch w w' (fun k => k = M) := by
  obtain ⟨dg, he, hlen, a, cap, h1, h2⟩ := h
  have hsm := h1.row.2.2.2.2.1
  have hb : valN 4 xs < 256 ^ 4 := valN_lt 4 xs hsm
  have hb2 : valN 4 xs < 4294967296 := by
    have e : (256 : Nat) ^ 4 = 4294967296 := by decide
    omega
  have HS := Lib.hid (sgn_w64 (valN 4 xs) (by omega))
  have key : Calls Tryd.prog 81 #[.pointer (some ⟨M, 0, none⟩), .int .i64 4] w fun e w' => e = .returned (.int .u64 (valN 4 xs : Nat)) ∧ RfD w' M D (nxtX 4 xs) (nxtE 4 xs err) ∧ Touch w w' (fun k => k = M) := by
    by_cases hn : err = 0 ∧ 4 ≤ xs.length
    · obtain ⟨rfl, hn⟩ := hn
      refine (rf_num_ok M a _ cap xs 4 w h1 (by omega) hn (by omega) hlen).mono ?_
      rintro e w' ⟨rfl, v, ht⟩
      exact ⟨by unfold valN; rw [if_pos hn], RfD.took hn hlen dg h2 ht⟩
    · have hn' : ¬ 4 ≤ xs.length := by
        rcases he with he | he
        · exact fun h => hn ⟨he, h⟩
        · subst he; simp
      refine (rf_num_bad M a _ cap xs err 4 w h1 (by omega)).mono ?_
      rintro e w' ⟨rfl, hr, ht⟩
      obtain ⟨e1, e2, e3, _⟩ := nxt_bad (err := err) hn'
      rw [e1, e2, e3]
      exact ⟨rfl, RfD.none dg hr, ht⟩
  have H := Lib.hid key
  clear key h1 hsm he hb
  generalize valN 4 xs = z at *
  go_enter Tryd.func49, Tryd.ntmps49
  go_wp2_with (go_at_call 81; refine H.out.mono ?_; rintro e w' ⟨rfl, hrf, ht⟩)
  try rw [HS.out]
  go_ret
  exact ⟨rfl, hrf, ht⟩
theorem d_fEnd (M : Nat) (D : Nat → Prop) (xs : List Nat) (err : Int) (w : World) (h : RfD w M D xs err) :
    Calls Tryd.prog 51 #[.pointer (some ⟨M, 0, none⟩)] w fun e w' => e = .returned (.int .i64 (endOf xs.length err)) ∧ w' = w := by
  obtain ⟨dg, he, hl, a, cap, h1, h2⟩ := h
  by_cases hx : xs.length = 0
  · exact rf_End M (M + 1) xs err w ⟨a, cap, h1, fun x hx2 => .inl hx⟩
  · refine rf_End M (if (∃ x, a = some x ∧ x.block = M + 1) then M + 2 else M + 1) xs err w ⟨a, cap, h1, fun x hx2 => .inr (fun e => ?_)⟩
    split at e
    · rename_i hh
      obtain ⟨y, hy, hb⟩ := hh
      rw [hx2] at hy; cases hy
      omega
    · rename_i hh
      exact hh ⟨x, hx2, e⟩
theorem RfD.err {w : World} {M : Nat} {D : Nat → Prop} {xs : List Nat} {err : Int} (h : RfD w M D xs err) : w.cell? ⟨M, 1, Option.none⟩ = some (.int .i64 err) := by
  obtain ⟨a, c, h1, _⟩ := h.ex
  exact cell_of_cells h1.head 1
end Go.Proofs.YtibpnlhdpdfhiaaDoor
