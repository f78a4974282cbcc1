/- What is written as text is read: numbers, addresses, tuples. -/
import Derived.Test.YtgpchkobjgglhaaGreatDoorTupMathZ
import Derived.Test.YtgpchkobjgglhaaGreatDoorTupParseZ
set_option linter.unusedVariables false
namespace Go.Proofs.YtgpchkobjgglhaaGreatDoor

theorem index_at (c : UInt8) : ∀ (a b : List UInt8), c ∉ a → Lib.index (a ++ c :: b) [c] = a.length
  | [], b, _ => by simp [Lib.index]
  | x :: a, b, h => by
    simp only [List.mem_cons, not_or] at h
    have ih := index_at c a b h.2
    rw [List.cons_append]
    unfold Lib.index
    rw [ih]
    have h1 : ([c].isPrefixOf (x :: (a ++ c :: b))) = false := by simp [List.isPrefixOf]; exact h.1
    rw [h1]
    have h2 : ((a.length : Int) == -1) = false := beq_eq_false_iff_ne.2 (by omega)
    simp [h2]
theorem index_not (c : UInt8) : ∀ (a : List UInt8), c ∉ a → Lib.index a [c] = -1
  | [], _ => by simp [Lib.index]
  | x :: a, h => by
    simp only [List.mem_cons, not_or] at h
    have ih := index_not c a h.2
    unfold Lib.index
    rw [ih]
    have h1 : ([c].isPrefixOf (x :: a)) = false := by simp [List.isPrefixOf]; exact h.1
    rw [h1]; rfl
theorem cutL_at (c : UInt8) (a b : List UInt8) (h : c ∉ a) : cutL (a ++ c :: b) c = (a, b) := by
  unfold cutL Lib.cut
  rw [index_at c a b h, if_pos (by omega)]
  have e : a.length + [c].length = a.length + 1 := rfl
  simp [List.take_left', List.drop_append]

/-- Digits alone, whose number fits. -/
theorem pum_digits (M : Nat) (hM : M < 1844674407370955162 ∨ True) : ∀ (l : List UInt8) (acc : Nat), (∀ c ∈ l, 48 ≤ c.toNat ∧ c.toNat ≤ 57) → valL acc l ≤ M → valL acc l < 1844674407370955162 → Lib.parseUintM M acc l = .ok (valL acc l)
  | [], acc, _, _, _ => rfl
  | c :: r, acc, h, h1, h2 => by
    have hc := h c (List.mem_cons_self ..)
    have hv : valL acc (c :: r) = valL (acc * 10 + (c.toNat - 48)) r := rfl
    have hge : ∀ (l : List UInt8) (a : Nat), a ≤ valL a l := by
      intro l
      induction l with
      | nil => intro a; exact Nat.le_refl _
      | cons x l ih => intro a; have := ih (a * 10 + (x.toNat - 48)); show a ≤ valL (a * 10 + (x.toNat - 48)) l; omega
    have g := hge r (acc * 10 + (c.toNat - 48))
    rw [hv] at h1 h2 ⊢
    unfold Lib.parseUintM
    rw [if_pos hc, if_neg (by omega), if_neg (by omega)]
    exact pum_digits M hM r _ (fun x hx => h x (List.mem_cons_of_mem _ hx)) h1 h2
theorem puB_dec (B u : Nat) (h : u ≤ 2 ^ B - 1) (h2 : u < 1844674407370955162) : Lib.parseUintB B (Lib.decDigits u) = .ok u := by
  unfold Lib.parseUintB
  rw [if_neg (dec_ne_nil u), pum_digits _ (.inr trivial) _ 0 (dec_digit u) (by rw [valL_dec]; exact h) (by rw [valL_dec]; exact h2), valL_dec]
theorem puV_itoa (n : Int) (h0 : 0 ≤ n) (h1 : n ≤ 255) : puV (Lib.itoa n) = some n.toNat := by
  unfold puV Lib.itoa
  rw [if_neg (by omega), puB_dec 8 n.toNat (by omega) (by omega)]
theorem atV_itoa (n : Int) (h0 : 0 ≤ n) (h1 : n ≤ 65535) : atV (Lib.itoa n) = n := by
  have e : Lib.atoiAll (Lib.itoa n) = .ok n := by
    unfold Lib.itoa
    rw [if_neg (by omega)]
    cases hd : Lib.decDigits n.toNat with
    | nil => exact absurd hd (dec_ne_nil _)
    | cons c r =>
      have hc := dec_digit n.toNat c (by rw [hd]; exact List.mem_cons_self ..)
      have hp : Lib.parseMag (c :: r) = .ok n.toNat := by rw [← Lib.parseUintB_64, ← hd]; exact puB_dec 64 _ (by omega) (by omega)
      unfold Lib.atoiAll
      simp only [show ¬ (c.toNat = 43 ∨ c.toNat = 45) by omega, if_false, hp]
      rw [if_neg (by omega), if_neg (by omega), if_neg (by omega)]
      congr 1; omega
  unfold atV; rw [e]

theorem parts_last (c : UInt8) (a : List UInt8) (h : c ∉ a) : partsOf a c = [mkS a] := by
  unfold partsOf
  have e : Lib.indexB (mkS a) (mkS [c]) = -1 := by
    show Lib.index (mkS a).data.toList (mkS [c]).data.toList = -1
    rw [mkS_data, mkS_data]; exact index_not c a h
  rw [Lib.countB_miss _ _ e]; rfl
theorem parts_first (c : UInt8) (a b : List UInt8) (h : c ∉ a) : partsOf (a ++ c :: b) c = mkS a :: partsOf b c := by
  unfold partsOf
  have e : Lib.indexB (mkS (a ++ c :: b)) (mkS [c]) = a.length := by
    show Lib.index (mkS (a ++ c :: b)).data.toList (mkS [c]).data.toList = _
    rw [mkS_data, mkS_data]; exact index_at c a b h
  have e2 : (mkS (a ++ c :: b)).extract (a.length + (mkS [c]).size) (mkS (a ++ c :: b)).size = mkS b := by
    apply ByteArray.ext; apply Array.ext'
    rw [Lib.extract_data, mkS_data, mkS_data, mkS_size, mkS_size]
    have e1 : (a ++ c :: b).drop (a.length + [c].length) = b := by simp [List.drop_append]
    rw [e1]
    exact List.take_of_length_le (by simp; omega)
  have e3 : (mkS (a ++ c :: b)).extract 0 (a.length + 0) = mkS a := by
    apply ByteArray.ext; apply Array.ext'
    rw [Lib.extract_data]
    simp [mkS]
  rw [Lib.countB_hit _ _ a.length (by simp [mkS_size]) e, e2, Nat.add_comm 1, Lib.splitB_hit _ _ _ _ a.length e, e2, e3]
theorem paO_addr (x : Int) (h0 : 0 ≤ x) (h1 : x ≤ 4294967295) : paO (addrL x) = some x.toNat := by
  have n46 : ∀ n, (46 : UInt8) ∉ Lib.itoa n := fun n => num_ne (itoa_num n) (by decide) (by decide)
  have e : partsOf (addrL x) 46 = [mkS (Lib.itoa (x / 16777216)), mkS (Lib.itoa (x / 65536 % 256)), mkS (Lib.itoa (x / 256 % 256)), mkS (Lib.itoa (x % 256))] := by
    rw [addrL_eq, parts_first _ _ _ (n46 _), parts_first _ _ _ (n46 _), parts_first _ _ _ (n46 _), parts_last _ _ (n46 _)]
  have f : foldA 0 (partsOf (addrL x) 46) = some x.toNat := by
    rw [e]
    simp only [foldA, mkS_data]
    rw [puV_itoa _ (by omega) (by omega), puV_itoa _ (by omega) (by omega), puV_itoa _ (by omega) (by omega), puV_itoa _ (by omega) (by omega)]
    simp only
    congr 1; omega
  unfold paO
  rw [f]
  simp only
  rw [if_pos (by congr 1; omega)]
theorem parseT_text (t : TupD) (ok : TupOk t) (hm : mayTB t = true) : parseT (textL t) = t := by
  obtain ⟨t1, t2, t3, t4, t5⟩ := t
  obtain ⟨⟨o1, o1'⟩, ⟨o2, o2'⟩, _, _, _⟩ := ok
  obtain ⟨m1, m2, m3⟩ := (mayTB_iff _).1 hm
  simp only at o1 o1' o2 o2' m1 m2 m3
  have c1 : cutL (textL ⟨t1, t2, t3, t4, t5⟩) 32 = (nameL t3, endL t1 t4 ++ 62 :: endL t2 t5) := by rw [textL_eq]; exact cutL_at _ _ _ (nameL_no _)
  have c2 : cutL (endL t1 t4 ++ 62 :: endL t2 t5) 62 = (endL t1 t4, endL t2 t5) := cutL_at _ _ _ (endL_no _ _ (by decide) (by decide) (by decide) (by decide))
  have c3 : ∀ x p, cutL (endL x p) 58 = (addrL x, Lib.itoa p) := fun x p => by rw [endL_eq]; exact cutL_at _ _ _ (addrL_no _ (by decide) (by decide) (by decide))
  have pv : ∀ x : Int, 0 ≤ x → x ≤ 4294967295 → (paV (addrL x) : Int) = x := fun x a b => by unfold paV; rw [paO_addr x a b]; simp; omega
  have nn : numberL (nameL t3) = t3 := by rcases m1 with rfl | rfl <;> decide
  simp only [parseT, c1, c2, c3, pv t1 o1 o1', pv t2 o2 o2', nn, atV_itoa _ m2.1 m2.2, atV_itoa _ m3.1 m3.2]
theorem parseB_text (t : TupD) (ok : TupOk t) (hm : mayTB t = true) : parseB (textL t) = true ∧ parseR (textL t) = t := by
  have e := parseT_text t ok hm
  have h : parseB (textL t) = true := by unfold parseB; rw [e, hm]; simp
  exact ⟨h, by unfold parseR; rw [if_pos h, e]⟩
theorem parseB_not (t : TupD) (ok : TupOk t) (hm : mayTB t = false) : parseB (textL t) = false := by
  cases h : parseB (textL t) with
  | false => rfl
  | true =>
    unfold parseB at h
    simp only [Bool.and_eq_true, decide_eq_true_eq] at h
    have := textL_inj (parseT_ok _) ok h.1 h.2
    rw [this, hm] at h
    exact absurd h.1 (by decide)
theorem pa_addr (x : Int) (h0 : 0 ≤ x) (h1 : x ≤ 4294967295) : (paV (addrL x) : Int) = x ∧ paB (addrL x) = true := by
  unfold paV paB; rw [paO_addr x h0 h1]; simp; omega
end Go.Proofs.YtgpchkobjgglhaaGreatDoor
