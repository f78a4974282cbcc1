/- IpBehind answers true for any header and any bytes: what is behind a packet's own length makes no difference. No condition. -/
import Derived.Test.YthjdebcjfpokoaaIpBuilt
import Derived.Test.YthjdebcjfpokoaaIpAwake
import Derived.Test.YthjdebcjfpokoaaIpArgs
import Derived.Test.YthjdebcjfpokoaaFrIpBehind
set_option linter.unusedVariables false
namespace Go.Proofs.Ythjdebcjfpokoaa
open Go.RowKit

theorem set_ok (h : HArg) (ok : h.Ok) (n : Nat) (hn : n ≤ 1000000) : HArg.Ok ⟨h.ihl, h.tos, 20 + (n : Int), h.id, h.flags, h.off, h.ttl, h.proto, h.sum, h.src, h.dst⟩ :=
  ⟨ok.ihl, ok.tos, ⟨by show _ ≤ 20 + (n : Int); omega, by show 20 + (n : Int) ≤ _; omega⟩, ok.id, ok.flags, ok.off, ok.ttl, ok.proto, ok.sum, ok.src, ok.dst⟩

set_option maxRecDepth 20000 in
set_option maxHeartbeats 4000000 in
theorem behind_walk (h : HArg) (ok : h.Ok) (a1 : Option Addr) (l1 c1 : Nat) (xs : List Nat) (a2 : Option Addr) (l2 c2 : Nat) (ys : List Nat) (w : World) (hr1 : RowB w a1 l1 c1 xs) (hr2 : RowB w a2 l2 c2 ys) :
    Calls Try.prog 6 #[.agg (acs h), .slice a1 l1 c1, .slice a2 l2 c2] w fun e w' => e = .returned (.bool true) ∧ Touch w w' (fun _ => False) := by
  by_cases hb1 : 500 < l1
  · have hb' : (500 : Int) < l1 := by omega
    clear hr1 hr2
    simp only [acs]
    go_enter Try.func6, Try.ntmps6
    go_wp2_with (go_at_call 13; with_reducible refine (awake20 _).mono ?_; rintro e w' ⟨rfl, ht⟩)
    go_ret
    exact ⟨rfl, ((Touch.refl _ _).alloc _).trans ht (fun _ _ h => h)⟩
  have hb1' : ¬ (500 : Int) < l1 := by omega
  by_cases hb2 : 200 < l2
  · have hb' : (200 : Int) < l2 := by omega
    clear hr1 hr2
    simp only [acs]
    go_enter Try.func6, Try.ntmps6
    go_wp2_with (go_at_call 13; with_reducible refine (awake20 _).mono ?_; rintro e w' ⟨rfl, ht⟩)
    go_ret
    exact ⟨rfl, ((Touch.refl _ _).alloc _).trans ht (fun _ _ h => h)⟩
  have hb2' : ¬ (200 : Int) < l2 := by omega
  obtain ⟨h', hh'⟩ : ∃ h' : HArg, (⟨h.ihl, h.tos, 20 + (l1 : Int), h.id, h.flags, h.off, h.ttl, h.proto, h.sum, h.src, h.dst⟩ : HArg) = h' := ⟨_, rfl⟩
  have ok' : h'.Ok := hh' ▸ set_ok h ok l1 (by omega)
  have hn' : h'.len = (20 + l1 : Nat) := by rw [← hh']; simp
  obtain ⟨W1, hW1⟩ : ∃ W, w.alloc (.cells (acs h') 24) = W := ⟨_, rfl⟩
  have t1 : Touch w W1 (fun _ => False) := hW1 ▸ (Touch.refl _ _).alloc _
  have H := build_any h' ok' W1
  have HN := Lib.hid hn'
  have HX := Lib.hid hr1.1
  have HY := Lib.hid hr2.1
  have HR1 := Lib.hid (hr1.touch t1 (fun _ _ => .inr (fun h => h)))
  have HR2 := Lib.hid (hr2.touch t1 (fun _ _ => .inr (fun h => h)))
  have HT1 := Lib.hid t1
  have HR20 := HR2
  have hF := builtF_length h'
  have HF := Lib.hid hF
  generalize hB : builtF h' = F at *
  subst hh'
  simp only [acs] at hW1 H
  have H' := Lib.hid H
  have HW1 := Lib.hid hW1
  clear hW1
  have HB := Lib.hid hB
  clear H hr1 hr2 t1 hn' hF hB ok'
  simp only [acs]
  go_enter Try.func6, Try.ntmps6
  go_wp2_with fail
  rw [HW1.out]
  with_reducible refine H'.out.mono ?_
  rintro e w2 ⟨a3, c3, rfl, hf2⟩
  obtain ⟨hown2, t2⟩ := hf2
  have HO2 := Lib.hid hown2
  have HR1 := Lib.hid (HR1.out.touch t2 (fun _ _ => .inr (fun h => h)))
  have HR2 := Lib.hid (HR2.out.touch t2 (fun _ _ => .inr (fun h => h)))
  have HT2 := Lib.hid (HT1.out.trans t2 (fun _ _ h => h))
  have HS2 := Lib.hid t2.size
  have HT12 := Lib.hid t2
  have HFX : RowKit.Hid ((F ++ xs).length = 20 + l1) := Lib.hid (by simp [HF.out, HX.out])
  clear hown2 t2
  go_wp2_with (at_builtin; go_must (refine wpList_appendB rfl _ _ 25 rfl 5 Try.underlying25 infoB W1.heap.size (.slice a3 20 c3) F rfl HO2.out _ _ _ xs rfl HR1.out (20 + l1) (F ++ xs) rfl HFX.out (by omega) HS2.out W1.heap.size W1 (HT12.out.below (fun _ _ h => h.elim) (Nat.le_refl _)) (Nat.le_refl _) ?_; intro a4 c4 w4 hown4 hr4 hg4 hb4 hs4 hp4 hl4))
  have HT4 := Lib.hid (HT1.out.trans (Touch.ofBelow (S := fun _ => False) hb4 (fun k h1 h2 => by omega)) (fun _ _ h => h))
  have HR2 := Lib.hid (HR2.out.touch (Touch.grown (S := fun k => (Value.slice a3 20 c3).ownBlock = some k) (Touch.refl _ _) hg4 (fun k hk _ => hk)) (fun x hx => by
    rcases HR2.out.lt x hx with h0 | h0
    · exact .inl h0
    · rcases HR20.out.lt x hx with h1 | h1
      · exact .inl h1
      · exact .inr (fun hk => by have := (HO2.out.own.lt _ hk).1; omega)))
  have hF4 := hr4
  rw [show F ++ xs = F ++ (xs ++ []) from by simp] at hF4
  have HF4 := Lib.hid hr4
  have hc4 : 20 + l1 ≤ c4 := hr4.2.1
  have HP := parse_built ⟨h.ihl, h.tos, 20 + (l1 : Int), h.id, h.flags, h.off, h.ttl, h.proto, h.sum, h.src, h.dst⟩ xs [] a4 (20 + l1) c4 w4 (by rw [HB.out]; exact hF4) l1 HX.out HN.out (by omega)
  rw [HB.out] at HP
  clear hown4 hr4 hg4 hb4 hs4 hp4 hl4 hF4 HO2 HR1 H'
  with_reducible refine HP.mono ?_
  rintro e w5 ⟨a5, c5, rfl, hf5⟩
  clear HP
  have t5 := hf5.2
  obtain ⟨b5, d5, hv5, hr5⟩ := hf5.row
  rw [HX.out] at hv5 hr5
  simp only [Value.slice.injEq, true_and] at hv5
  obtain ⟨rfl, rfl⟩ := hv5
  have HF5 := Lib.hid (HF4.out.touch t5 (fun _ _ => .inr (fun h => h)))
  have HR2 := Lib.hid (HR2.out.touch t5 (fun _ _ => .inr (fun h => h)))
  have HT5 := Lib.hid (HT4.out.trans t5 (fun _ _ h => h))
  have HP5 := Lib.hid hr5
  clear hf5 t5 hr5 HF4 HT4
  generalize hg : hdr F = g at *
  have HG := Lib.hid hg
  clear hg
  simp only [hv]
  obtain ⟨W6, hW6⟩ : ∃ W, w5.alloc (.cells #[.int .i64 (g.ihl : Nat), .int .i64 (g.tos : Nat), .int .i64 (g.len : Nat), .int .i64 (g.id : Nat), .int .i64 (g.flags : Nat), .int .i64 (g.off : Nat), .int .i64 (g.ttl : Nat), .int .i64 (g.proto : Nat), .int .i64 (g.sum : Nat), .int .u32 (g.src : Nat), .int .u32 (g.dst : Nat)] 24) = W := ⟨_, rfl⟩
  have t6 : Touch w5 W6 (fun _ => False) := hW6 ▸ (Touch.refl _ _).alloc _
  have HG6 : RowKit.Hid (W6.heap[w5.heap.size]? = some (.cells (hcs g) 24 (0, 0))) := Lib.hid (hW6 ▸ heap_alloc_new w5 _)
  have HS6 : RowKit.Hid (w5.heap.size + 1 = W6.heap.size) := Lib.hid (by rw [← hW6]; simp)
  have HF6 := Lib.hid (HF5.out.touch t6 (fun _ _ => .inr (fun h => h)))
  have HR2 := Lib.hid (HR2.out.touch t6 (fun _ _ => .inr (fun h => h)))
  have HT6 := Lib.hid (HT5.out.trans t6 (fun _ _ h => h))
  have HP6 := Lib.hid (HP5.out.touch t6 (fun _ _ => .inr (fun h => h)))
  have HW6 := Lib.hid hW6
  clear hW6 t6 HF5 HP5 HT5
  have HFY : RowKit.Hid ((F ++ xs ++ ys).length = 20 + l1 + l2) := Lib.hid (by simp [HF.out, HX.out, HY.out]; omega)
  go_wp2_with (first
    | (at_builtin; have _u := HW6; refine wpList_appendB rfl (.tmp 43) _ 25 rfl 5 Try.underlying25 infoB W6.heap.size (.slice a7 (20 + l1) c7) (F ++ xs) rfl HO7.out _ _ _ ys rfl HR2.out (20 + l1 + l2) (F ++ xs ++ ys) rfl HFY.out (by omega) HS7.out W6.heap.size W6 HB7.out (Nat.le_refl _) ?_; intro a8 c8 w8 hown8 hr8 hg8 hb8 hs8 hp8 hl8)
    | (at_builtin; go_must (rw [HW6.out]; refine wpList_appendB rfl _ _ 25 rfl 5 Try.underlying25 infoB W6.heap.size (.slice (some ⟨w5.heap.size + 1, 0, none⟩) 0 0) [] rfl (OwnB.lit W6 _ HS6.out _ (Nat.le_of_eq HS6.out.symm) _ _ _ _ rfl rfl (by decide) (by decide)) _ _ _ (F ++ xs) rfl (HF6.out.old (Below.alloc (Below.refl _ _) (Nat.le_refl _) _)) (20 + l1) (F ++ xs) rfl HFX.out (by omega) (by simp) W6.heap.size W6 (Below.alloc (Below.refl _ _) (Nat.le_refl _) _) (Nat.le_refl _) ?_; intro a7 c7 w7 hown7 hr7 hg7 hb7 hs7 hp7 hl7; have HO7 := Lib.hid hown7; have HB7 := Lib.hid hb7; have HS7 := Lib.hid hb7.size; have HR2 := Lib.hid (HR2.out.old hb7); clear hown7 hr7 hg7 hb7 hs7 hp7 hl7)))
  have hF8 := hr8
  rw [List.append_assoc] at hF8
  have HP := parse_built ⟨h.ihl, h.tos, 20 + (l1 : Int), h.id, h.flags, h.off, h.ttl, h.proto, h.sum, h.src, h.dst⟩ xs ys a8 (20 + l1 + l2) c8 w8 (by rw [HB.out]; exact hF8) l1 HX.out HN.out (by omega)
  rw [HB.out, HG.out] at HP
  have t8 : Touch W6 w8 (fun _ => False) := Touch.ofBelow hb8 (fun k h1 h2 => by omega)
  have HG8 := Lib.hid (t8.keeps HG6.out (fun h => h))
  have HF8 := Lib.hid (HF6.out.touch t8 (fun _ _ => .inr (fun h => h)))
  have HP8 := Lib.hid (HP6.out.touch t8 (fun _ _ => .inr (fun h => h)))
  have HT8 := Lib.hid (HT6.out.trans t8 (fun _ _ h => h))
  clear hown8 hr8 hg8 hb8 hs8 hp8 hl8 hF8 t8 HO7 HB7 HS7 HR2 HT6 HP6 HF6 HG6 _u
  with_reducible refine HP.mono ?_
  rintro e w9 ⟨a9, c9, rfl, hf9⟩
  clear HP
  have t9 := hf9.2
  obtain ⟨b9, d9, hv9, hr9⟩ := hf9.row
  rw [HX.out] at hv9 hr9
  simp only [Value.slice.injEq, true_and] at hv9
  obtain ⟨rfl, rfl⟩ := hv9
  simp only [hv]
  obtain ⟨W10, hW10⟩ : ∃ W, w9.alloc (.cells #[.int .i64 (g.ihl : Nat), .int .i64 (g.tos : Nat), .int .i64 (g.len : Nat), .int .i64 (g.id : Nat), .int .i64 (g.flags : Nat), .int .i64 (g.off : Nat), .int .i64 (g.ttl : Nat), .int .i64 (g.proto : Nat), .int .i64 (g.sum : Nat), .int .u32 (g.src : Nat), .int .u32 (g.dst : Nat)] 24) = W := ⟨_, rfl⟩
  have t10 : Touch w9 W10 (fun _ => False) := hW10 ▸ (Touch.refl _ _).alloc _
  have HH10 : RowKit.Hid (W10.heap[w9.heap.size]? = some (.cells (hcs g) 24 (0, 0))) := Lib.hid (hW10 ▸ heap_alloc_new w9 _)
  have t910 := t9.trans t10 (fun _ _ h => h)
  have HG10 := Lib.hid (t910.keeps HG8.out (fun h => h))
  have HF10 := Lib.hid (HF8.out.touch t910 (fun _ _ => .inr (fun h => h)))
  have HP10 := Lib.hid (HP8.out.touch t910 (fun _ _ => .inr (fun h => h)))
  have HQ10 := Lib.hid (hr9.touch t10 (fun _ _ => .inr (fun h => h)))
  have HT10 := Lib.hid (HT8.out.trans t910 (fun _ _ h => h))
  clear hf9 t9 t10 t910 hr9 HG8 HF8 HP8 HT8
  obtain ⟨e0, e1, e2, e3, e4, e5, e6, e7, e8, e9, e10⟩ := hcells_of HG10.out
  obtain ⟨f0, f1, f2, f3, f4, f5, f6, f7, f8, f9, f10⟩ := hcells_of HH10.out
  have st1 : Sem.run Try.prog (convert 25 9 (.slice a5 l1 c5)) W10 = .ok (.string (strB xs)) W10 := run_string_of (P := Try.prog) HP10.out 25 9 5 Try.underlying25 Try.underlying5 Try.underlying9
  have st2 : Sem.run Try.prog (convert 25 9 (.slice a9 l1 c9)) W10 = .ok (.string (strB xs)) W10 := run_string_of (P := Try.prog) HQ10.out 25 9 5 Try.underlying25 Try.underlying5 Try.underlying9
  by_cases h0 : l1 = 0
  · subst h0
    have hx0 : xs = [] := List.length_eq_zero_iff.1 HX.out
    subst hx0
    have hc5 : (20 : Int) ≤ c4 := by omega
    have HP := parse_built ⟨h.ihl, h.tos, 20 + ((0 : Nat) : Int), h.id, h.flags, h.off, h.ttl, h.proto, h.sum, h.src, h.dst⟩ [] [] a4 20 c4 W10 (by rw [HB.out]; exact HF10.out) 0 rfl HN.out (by omega)
    rw [HB.out, HG.out] at HP
    have H' := Lib.hid HP
    clear HP
    go_wp2_with fail
    with_reducible refine H'.out.mono ?_
    rintro e w11 ⟨a11, c11, rfl, hf11⟩
    simp only [hv]
    have T11 := Lib.hid (HT10.out.trans hf11.2 (fun _ _ h => h))
    clear hf11
    go_wp2_with (go_at_call 13; with_reducible refine (awake20 _).mono ?_; rintro e w' ⟨rfl, ht⟩)
    go_ret
    exact ⟨rfl, (T11.out.alloc _).trans ht (fun _ _ h => h)⟩
  · have h1 : 0 < l1 := by omega
    have h1' : (0 : Int) < l1 := by omega
    have hmin : min (1 : Int) l1 = 1 := by omega
    have hc5 : 20 + (l1 : Int) - 1 ≤ c4 := by omega
    have hrc := HF10.out.take (19 + l1) (by omega)
    have htk : (F ++ xs).take (19 + l1) = F ++ xs.take (l1 - 1) := by
      rw [List.take_append, HF.out, List.take_of_length_le (by rw [HF.out]; omega)]
      congr 2; omega
    rw [htk] at hrc
    have HP := parse_cut ⟨h.ihl, h.tos, 20 + (l1 : Int), h.id, h.flags, h.off, h.ttl, h.proto, h.sum, h.src, h.dst⟩ (xs.take (l1 - 1)) a4 (19 + l1) c4 W10 (by rw [HB.out]; exact hrc) (20 + l1) HN.out (by omega) (by omega) (by simp [HX.out]; omega)
    have H' := Lib.hid HP
    clear HP hrc htk
    go_wp2_with fail
    with_reducible refine H'.out.mono ?_
    rintro e w11 ⟨rfl, t11⟩
    simp only [hv, hdr0]
    have T11 := Lib.hid (HT10.out.trans t11 (fun _ _ h => h))
    clear t11
    go_wp2_with (go_at_call 13; with_reducible refine (awake20 _).mono ?_; rintro e w' ⟨rfl, ht⟩)
    go_ret
    exact ⟨rfl, (T11.out.alloc _).trans ht (fun _ _ h => h)⟩
theorem ipBehind_holds : Rows.IpBehindSaid := by
  refine ipBehind.said fun H enc W base v0 v1 v2 d0 d1 d2 p0 p1 p2 h0 h1 h2 => ?_
  obtain ⟨h, rfl, ok⟩ := h0.header
  obtain ⟨a1, l1, c1, xs, rfl, hr1, _, _⟩ := h1.bytes Try.underlying25 Try.underlying5 (by kernel_rfl) (by kernel_rfl)
  obtain ⟨a2, l2, c2, ys, rfl, hr2, _, _⟩ := h2.bytes Try.underlying25 Try.underlying5 (by kernel_rfl) (by kernel_rfl)
  exact (behind_walk h ok a1 l1 c1 xs a2 l2 c2 ys W hr1 hr2).mono fun e w' h => ⟨h.1, h.2.below (fun _ _ h => h.elim) (Nat.le_refl _)⟩
end Go.Proofs.Ythjdebcjfpokoaa
