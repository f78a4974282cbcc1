/- Who is out where nobody is: leaving, says, Without; the backend of a number. -/
import Derived.Test.YtfjnhaoiecndpaaMagA
import Derived.Test.YtfjnhaoiecndpaaRecClone
import Derived.Defers
import Derived.Recover
import Derived.Laws.Pointers
set_option linter.unusedVariables false
namespace Go.Proofs.Ytfjnhaoiecndpaa
open Go.RowKit

theorem has_nil (id : Int) (w : World) :
    Calls Try.prog 24 #[.nilFunc, .int .i64 id] w fun e w' => e = .returned (.bool false) ∧ w = w' := by
  have hnn : ∀ W : World, (binOp BinOp.neq 53 Value.nilFunc Value.nilFunc).run Try.prog W = .ok (.bool false) W := fun W => by kernel_rfl
  go_enter Try.func24, Try.ntmps24
  go_wp2_with fail
  go_ret
  exact ⟨rfl, rfl⟩

theorem catch_idle (p : Addr) (w : World) :
    CallsD Try.prog 44 #[.pointer (some p)] .returning w fun e u' w' => e = .returned (.tuple #[]) ∧ u' = .returning ∧ w' = w := by
  refine callsD_of_wpS Try.func44 rfl fun c₀ cs hu => ?_
  apply wpS_seq
  apply wpS_region
  simp [wpOpsS, go_sem, recoverD, hu, Try.ntmps44, Exit.thenS]
  refine wpS_cond (t := false) (by simp [Act.eval, Array.replicate]) ?_
  simp only [Bool.false_eq_true, if_false]
  refine wpS_of_wp (wp_skip ?_)
  cases c₀
  simp_all [bodyPostS, results, Try.results44]

theorem says_nil (id : Int) (w : World) :
    Calls Try.prog 36 #[.func (.func 24) #[.nilFunc] #[], .int .i64 id] w fun e w' => e = .returned (.bool false) ∧ Touch w w' (fun _ => False) := by
  have hmf : ∀ (fn : Fn) (first cap : Array Value) (w : World), (Instr.makeFunc fn first cap).run Try.prog w = .ok (.func fn first cap) w := fun _ _ _ _ => rfl
  have t1 := (Touch.refl w (fun _ => False)).alloc (.cells #[.bool false] 4)
  have hnf : ∀ W : World, (binOp BinOp.neq 42 (.func (.func 24) #[.nilFunc] #[]) Value.nilFunc).run Try.prog W = .ok (.bool true) W := fun W => by kernel_rfl
  go_enter_defers Try.func36, Try.ntmps36
  go_wp2_with (go_at_call 24; (with_reducible refine (has_nil _ _).mono ?_); rintro e w9 ⟨rfl, rfl⟩)
  refine leaves_cons (f := 44) (args := #[.pointer (some ⟨w.heap.size, 0, none⟩)]) (by simp) (by simp [go_sem]) ?_
  refine (catch_idle ⟨w.heap.size, 0, none⟩ _).mono ?_
  rintro e u' w'' ⟨rfl, rfl, rfl⟩
  simp [Leaves, settle, results, Try.results36, go_sem]
  exact t1

set_option maxRecDepth 20000 in
set_option maxHeartbeats 2000000 in
/-- Where nobody is out all stay. -/
theorem without_nil (a : Option Addr) (len cap : Nat) (bs : List BkD) (w : World) (hr : RowK w a len cap bs) (hlen : len ≤ 1000) :
    Calls Try.prog 23 #[.slice a len cap, .func (.func 24) #[.nilFunc] #[]] w fun e w' => ∃ a' c', e = .returned (.slice a' len c') ∧ OwnK w' w.heap.size (.slice a' len c') bs ∧ Touch w w' (fun _ => False) := by
  have hl := hr.len
  have hcap := hr.hmax
  have hcap1 := hr.hcap
  have HR := Lib.hid hr
  have HL := Lib.hid hl
  have HII := Lib.hid infoBk
  clear hr hl
  go_enter Try.func23, Try.ntmps23
  go_wp2_with fail
  go_loopw [5, 10] (fun s i wr => ∃ (k : Nat) (a' : Option Addr) (c' : Nat), k ≤ len ∧ i = .int .i64 k ∧ s = .slice a' k c' ∧ OwnK wr w.heap.size (.slice a' k c') (bs.take k) ∧ Touch w wr (fun _ => False)) (fun _ i _ => len - (intOf i).toNat)
  case atStart => exact ⟨0, none, 0, Nat.zero_le _, rfl, rfl, OwnS.nil _ _ _ _, Touch.refl _ _⟩
  case round =>
    obtain ⟨k, a', c', hk, rfl, rfl, ho, ht⟩ := hrel
    have HO := Lib.hid ho
    have HT := Lib.hid ht
    clear ho ht
    by_cases hlt : k < len
    case neg =>
      obtain rfl : len = k := by omega
      have hlt' : ¬ (len : Int) < len := by omega
      go_wp2
      go_ret
      exact ⟨a', c', rfl, by have := HO.out; rwa [← HL.out, List.take_length, HL.out] at this, HT.out⟩
    case pos =>
    have hr := HR.out.still HT.out
    obtain ⟨b, off, rfl⟩ := hr.some (by omega)
    have hk1 : k < bs.length := by rw [HL.out]; exact hlt
    obtain ⟨c0, c1, c2⟩ := hr.cells k hk1
    have HS : RowKit.Hid (bs.take (k + 1) = bs.take k ++ [bs[k]]) := Lib.hid (List.take_succ_eq_append_getElem hk1)
    have HLN : RowKit.Hid ((bs.take k).length = k) := Lib.hid (by rw [List.length_take]; omega)
    generalize bs[k] = f at *
    obtain ⟨W2, hW2⟩ : ∃ W, wr.alloc (.cells #[.int .i64 f.id, .int .u32 f.addr, .int .i64 f.weight] 28) = W := ⟨_, rfl⟩
    have t1 : Touch wr W2 (fun _ => False) := hW2 ▸ (Touch.refl wr _).alloc _
    have g2 : W2.heap[wr.heap.size]? = some (.cells #[.int .i64 f.id, .int .u32 f.addr, .int .i64 f.weight] 28 (0, 0)) := hW2 ▸ heap_alloc_new ..
    have HG2 := Lib.hid g2
    have HT2 := Lib.hid (HT.out.trans t1 (fun _ _ h => h))
    have HO2 := Lib.hid (OwnS.still HO.out.toS t1)
    have HW2 := Lib.hid hW2
    have hlI : (k : Int) < len := by omega
    clear hr t1 g2 hW2
    go_wp2_with fail
    rw [HW2.out]
    refine (says_nil f.id W2).mono ?_
    rintro e w4 ⟨rfl, t4⟩
    have g4 := t4.keeps HG2.out (fun h => h)
    have x0 : w4.cell? ⟨wr.heap.size, 0, none⟩ = some (.int .i64 f.id) := cell_of_cells g4 0
    have x1 : w4.cell? ⟨wr.heap.size, 1, none⟩ = some (.int .u32 f.addr) := cell_of_cells g4 1
    have x2 : w4.cell? ⟨wr.heap.size, 2, none⟩ = some (.int .i64 f.weight) := cell_of_cells g4 2
    have t5 := (Touch.refl w4 (fun _ => False)).alloc (.cells #[.int .i64 f.id, .int .u32 f.addr, .int .i64 f.weight] 28)
    have HT5 := Lib.hid ((HT2.out.trans t4 (fun _ _ h => h)).trans t5 (fun _ _ h => h))
    have HO5 := Lib.hid (OwnS.still (OwnS.still HO2.out t4) t5)
    have hown : (w4.alloc (.cells #[.int .i64 f.id, .int .u32 f.addr, .int .i64 f.weight] 28)).ownsRow w.heap.size 28 3 (.slice a' k c') k ((bs.take k).map BkD.cells).flatten := by
      have := HO5.out.own
      rwa [List.length_map, HLN.out] at this
    have HOWN := Lib.hid hown
    have HQ := Lib.hid (news_of (heap_alloc_new w4 (.cells #[.int .i64 f.id, .int .u32 f.addr, .int .i64 f.weight] 28)))
    clear hown t4 t5 g4
    go_wp2_with (at_builtin; (with_reducible refine wp_appR HOWN.out 22 Try.underlying22 _ 24 HII.out rfl (by decide) ⟨w4.heap.size, 0, none⟩ 1 1 _ rfl HQ.out (by simp [Value.oneCell']) (by simp only [maxLen]; omega) (by omega) (HT5.out.under (Nat.le_refl _)) (Nat.le_refl _) HT5.out.size rfl _ _ rfl rfl rfl ?_); intro a4 c4 w6 ho4 hg4 hb4 hp4; have HO4 := Lib.hid ho4; have HT4 := Lib.hid (Touch.ofBelow (S := fun _ => False) hb4 (fun k h1 h2 => by omega)); clear ho4 hg4 hb4 hp4)
    have HO6 : RowKit.Hid (OwnK w6 w.heap.size (.slice a4 (k + 1) c4) (bs.take (k + 1))) := Lib.hid (by
      rw [HS.out]
      unfold OwnK
      rw [List.map_append, List.map_cons, List.map_nil]
      refine HO5.out.add (L2 := [f.cells]) (by simp [BkD.cells]) ?_
      have := HO4.out
      rw [List.length_map, HLN.out]
      simpa [BkD.cells] using this)
    exact ⟨⟨k + 1, a4, c4, hlt, by go_num, rfl, HO6.out, HT4.out⟩, by simp [intOf]; omega⟩
end Go.Proofs.Ytfjnhaoiecndpaa
