import Derived.Test.YtpjdcgjoepjmcaaGreatPathPZ
import Derived.Test.YtpjdcgjoepjmcaaGreatKMZ
import Derived.Test.YtpjdcgjoepjmcaaGreatJEZ
set_option linter.unusedVariables false
set_option linter.unusedSimpArgs false
namespace Go.Proofs.YtpjdcgjoepjmcaaGreat
open Go.RowKit
def sameP (bs : List BkD) (L : List FlD) (t : TupD) : Bool := hasF L t && (findF bs (getF L t).fb).isSome
def rkM (L : List FlD) (most : Int) (f : FlD) (ends same : Bool) : List FlD := if ends then delF L f.t else if same then rtouF L f.t f.fs else rpL L most f
def rkR (L : List FlD) (most : Int) (f : FlD) (ends same : Bool) : List RecD := if ends then (if hasF L f.t then [recF 2 ⟨f.t, 0, 0, 0⟩] else []) else if same then [] else if rpE L most f = 0 then [recF 1 f] else []
def rpkF (self mtu gen now most : Int) (bs : List BkD) (T : List Int) (n : Nat) (L : List FlD) (xs : List Nat) : PkR :=
 if whyT xs ≠ 0 then ⟨1, (whyT xs : Nat), 0, [], [], L⟩
 else match backF bs T n L (tupT (tellT xs)) with
  | none => ⟨1, 10, 0, [], [], L⟩
  | some b => if whyW xs mtu ≠ 0 then ⟨1, (whyW xs mtu : Nat), 0, [], [], L⟩
    else ⟨2, 0, b.id, wrapF xs self b.addr, rkR L most ⟨tupT (tellT xs), b.id, gen, now⟩ (endsB (kOf (tupT (tellT xs))) xs) (sameP bs L (tupT (tellT xs))), rkM L most ⟨tupT (tellT xs), b.id, gen, now⟩ (endsB (kOf (tupT (tellT xs))) xs) (sameP bs L (tupT (tellT xs)))⟩
theorem same_id {bs : List BkD} {T : List Int} {n : Nat} {M : List FlD} {t : TupD} {b : BkD} (h : backF bs T n M t = some b) : (hasF M t && decide ((getF M t).fb = b.id)) = sameP bs M t := by
 unfold sameP
 cases hh : hasF M t with
 | false => rfl
 | true =>
   have hm := backF_mem h
   unfold backF at h
   rw [hh, if_pos rfl] at h
   cases hf : findF bs (getF M t).fb with
   | some c =>
     rw [hf] at h
     obtain rfl := Option.some.inj h
     rw [(findF_id hf).1]; simp
   | none =>
     have hn : ¬ (getF M t).fb = b.id := fun e => by
      unfold findF at hf
      have := List.find?_eq_none.1 hf b hm
      simp [e] at this
     simp [hn]
theorem backF_like {most : Int} {M L : List FlD} (k : LikeF most M L) (bs : List BkD) (T : List Int) (n : Nat) (t : TupD) : backF bs T n L t = backF bs T n M t := by
 unfold backF
 rw [k.has, k.get]
theorem sameP_like {most : Int} {M L : List FlD} (k : LikeF most M L) (bs : List BkD) (t : TupD) : sameP bs L t = sameP bs M t := by
 unfold sameP
 rw [k.has, k.get]
theorem keep_like {most : Int} {M L : List FlD} (k : LikeF most M L) (f : FlD) (of : TupOk f.t) (ends : Bool) (same : Bool) (hs : (hasF M f.t && decide ((getF M f.t).fb = f.fb)) = same) :
 rkR L most f ends same = keepR M most f ends ∧ LikeF most (keepM M most f ends) (rkM L most f ends same) := by
 unfold rkR rkM keepR keepM
 rw [k.has, hs]
 cases ends with
 | true => exact ⟨by simp, by simpa using del_like k f.t⟩
 | false =>
   cases same with
   | true => exact ⟨by simp, by simpa using k.touched f.t of f.fs⟩
   | false =>
     obtain ⟨h1, h2⟩ := k.puts f of
     refine ⟨?_, by simpa using h2⟩
     have h3 : (rpE L most f = 0) = (putB M most f = true) := by
      unfold putE at h1
      by_cases hm : mayFB f = false
      ·have e1 : rpE L most f = 1 := by unfold rpE; rw [if_pos hm]
       have e2 : putB M most f = false := by unfold putB; rw [hm]; rfl
       rw [e1, e2]; simp
      ·rw [if_neg hm] at h1
       by_cases hp : putB M most f = false
       ·rw [if_pos hp] at h1
        have e : (9 : Int) = rpE L most f := by
         injection h1 with h1
         have h5 : [Value.bool false, .int .i64 9] = [Value.bool (rpB L most f), .int .i64 (rpE L most f)] := congrArg Array.toList h1
         simpa using (List.cons.inj (List.cons.inj h5).2).1
        rw [← e, hp]; simp
       ·rw [if_neg hp] at h1
        have e : (0 : Int) = rpE L most f := by
         injection h1 with h1
         have h5 : [Value.bool (!hasF M f.t), .int .i64 0] = [Value.bool (rpB L most f), .int .i64 (rpE L most f)] := congrArg Array.toList h1
         simpa using (List.cons.inj (List.cons.inj h5).2).1
        have hp2 : putB M most f = true := by
         cases h : putB M most f with
         | true => rfl
         | false => exact absurd h hp
        rw [← e, hp2]; simp
     simp only [Bool.false_eq_true, if_false, h3]
theorem pk_like {most : Int} {M L : List FlD} (k : LikeF most M L) (self mtu gen now : Int) (hn : 0 ≤ now ∧ now ≤ 1099511627776) (bs : List BkD) (T : List Int) (n : Nat) (xs : List Nat) (of : TupOk (tupT (tellT xs))) :
 ∃ v r b ys rs M' L', pkF self mtu gen now most bs T n M xs = ⟨v, r, b, ys, rs, M'⟩ ∧ rpkF self mtu gen now most bs T n L xs = ⟨v, r, b, ys, rs, L'⟩ ∧ LikeF most M' L' := by
 unfold pkF rpkF
 rw [if_neg (by omega), backF_like k, sameP_like k]
 by_cases h0 : whyT xs = 0
 ·rw [if_neg (fun e => e h0), if_neg (fun e => e h0)]
  cases hb : backF bs T n M (tupT (tellT xs)) with
  | none => exact ⟨_, _, _, _, _, _, _, rfl, rfl, k⟩
  | some b =>
    simp only
    by_cases hw : whyW xs mtu = 0
    ·rw [if_neg (fun e => e hw), if_neg (fun e => e hw)]
     obtain ⟨h1, h2⟩ := keep_like k ⟨tupT (tellT xs), b.id, gen, now⟩ of (endsB (kOf (tupT (tellT xs))) xs) _ (same_id hb)
     rw [h1]
     exact ⟨_, _, _, _, _, _, _, rfl, rfl, h2⟩
    ·rw [if_pos hw, if_pos hw]
     exact ⟨_, _, _, _, _, _, _, rfl, rfl, k⟩
 ·rw [if_pos h0, if_pos h0]
  exact ⟨_, _, _, _, _, _, _, rfl, rfl, k⟩
end Go.Proofs.YtpjdcgjoepjmcaaGreat
