/- Packets that are dropped: no backend, the TTL at its end, too long: pure facts. -/
import Derived.Test.YtpjdcgjoepjmcaaGreatPathVZ
set_option linter.unusedVariables false
set_option linter.unusedSimpArgs false
namespace Go.Proofs.YtpjdcgjoepjmcaaGreat
open Go.RowKit

theorem tell_long (k : TupD) (ok : TupOk k) (hm : mayTB k = true) (ttl flags : Int) (ys : List Nat) (hl : ys.length ≤ 10000) : whyT (madeF (kOf k) ttl flags ys) = 0 ∧ tupT (tellT (madeF (kOf k) ttl flags ys)) = k := by
  obtain ⟨r1, r2, r3⟩ := ref_made (kOf k) flags ys (may_k hm) (by omega)
  have hpl := pK_length (kOf k) flags ys
  have hsz : sizeK (kOf k) ys.length ≤ 10020 := by unfold sizeK; split <;> omega
  obtain ⟨z1, z2, z3⟩ := tell_built (hK (kOf k) ttl (sizeK (kOf k) ys.length)) (pK (kOf k) flags ys) (by simp only [hK, hpl]; omega) (by omega) (ok_k ok).src (ok_k ok).dst
  obtain ⟨h1, h2, h3⟩ := (mayTB_iff k).1 hm
  have hpr : u64N k.proto % 256 = k.proto.toNat := by unfold u64N; omega
  have hy : whyT (madeF (kOf k) ttl flags ys) = 0 := by
    unfold whyT madeF
    rw [if_pos z1, z2, z3]
    simpa [hK] using r1
  refine ⟨hy, ?_⟩
  have e : tellT (madeF (kOf k) ttl flags ys) = ⟨k.src.toNat, k.dst.toNat, k.proto.toNat, k.sport.toNat, k.dport.toNat⟩ := by
    unfold tellT
    rw [if_pos hy]
    unfold madeF
    rw [z2, z3, r2, r3]
    simp only [hK, kOf, hpr]
  rw [e]
  have o1 : 0 ≤ k.src := ok.src.1
  have o2 : 0 ≤ k.dst := ok.dst.1
  have o3 : 0 ≤ k.proto := by rcases h1 with h | h <;> omega
  show (⟨((k.src.toNat : Nat) : Int), ((k.dst.toNat : Nat) : Int), ((k.proto.toNat : Nat) : Int), ((k.sport.toNat : Nat) : Int), ((k.dport.toNat : Nat) : Int)⟩ : TupD) = k
  rw [Int.toNat_of_nonneg o1, Int.toNat_of_nonneg o2, Int.toNat_of_nonneg o3, Int.toNat_of_nonneg h2.1, Int.toNat_of_nonneg h3.1]
theorem back_none (T : List Int) (n : Nat) (t : TupD) : backF [] T n [] t = none := by
  unfold backF pickO findF hasF
  simp
/-- No backend. -/
theorem pk_nobody (k : TupD) (ok : TupOk k) (hm : mayTB k = true) (ttl flags : Int) (ys : List Nat) (hl : ys.length ≤ 10000) (self mtu gen now most : Int) (T : List Int) (n : Nat) (hnow : 0 ≤ now ∧ now ≤ 1099511627776) :
    pkF self mtu gen now most [] T n [] (madeF (kOf k) ttl flags ys) = ⟨1, 10, 0, [], [], []⟩ := by
  obtain ⟨z1, z2⟩ := tell_long k ok hm ttl flags ys hl
  unfold pkF
  rw [if_neg (by omega), if_neg (fun h => h z1), z2, back_none]
/-- It is refused by Wrap. -/
theorem pk_refused (k : TupD) (ok : TupOk k) (hm : mayTB k = true) (ttl flags : Int) (ys : List Nat) (hl : ys.length ≤ 10000) (self mtu gen now most : Int) (bs : List BkD) (T : List Int) (n : Nat) (M : List FlD) (hnow : 0 ≤ now ∧ now ≤ 1099511627776) (b : BkD) (hb : backF bs T n M k = some b) (V : Nat) (hV : whyW (madeF (kOf k) ttl flags ys) mtu = V) (h0 : V ≠ 0) :
    pkF self mtu gen now most bs T n M (madeF (kOf k) ttl flags ys) = ⟨1, (V : Nat), 0, [], [], M⟩ := by
  obtain ⟨z1, z2⟩ := tell_long k ok hm ttl flags ys hl
  unfold pkF
  rw [if_neg (by omega), if_neg (fun h => h z1), z2, hb]
  simp only
  rw [hV, if_pos h0]
theorem why_ttl (k : TupD) (ok : TupOk k) (flags : Int) (ys : List Nat) (hl : ys.length ≤ 10000) (hs : ∀ x ∈ ys, x < 256) (mtu : Int) : whyW (madeF (kOf k) 1 flags ys) mtu = 7 := by
  obtain ⟨p, q⟩ := pkt_made (kOf k) (ok_k ok) 1 flags ys hl hs
  have h1 : u64N 1 % 256 = 1 := by decide
  exact why_old p (by omega) mtu
theorem why_long (k : TupD) (ok : TupOk k) (flags : Int) (ys : List Nat) (hl : ys.length ≤ 10000) (hs : ∀ x ∈ ys, x < 256) (h2 : 1453 ≤ ys.length) : whyW (madeF (kOf k) 9 flags ys) 1500 = 11 := by
  obtain ⟨p, q⟩ := pkt_made (kOf k) (ok_k ok) 9 flags ys hl hs
  have h1 : u64N 9 % 256 = 9 := by decide
  have hl2 := madeF_length (kOf k) 9 flags ys
  have hz : 8 + ys.length ≤ sizeK (kOf k) ys.length := by unfold sizeK; split <;> omega
  have := p.len
  unfold whyW
  rw [if_neg (by rw [p.why]; simp), if_neg (by omega), if_pos (by omega)]
set_option maxRecDepth 20000 in
set_option maxHeartbeats 2000000 in
theorem new_off (n : Nat) (w : World) (hp : Prm n) :
    Calls Tryz.prog 12 #[.int .i64 n] w fun e w' => ∃ C G, e = .returned (.pointer (some ⟨C, 0, none⟩)) ∧ w'.heap[C]? = some (.cells (chC n none 0 0 (some ⟨G, 0, none⟩) n n 0) 100 (0, 0)) ∧ w.heap.size ≤ C ∧ w.heap.size ≤ G ∧ RowI w' (some ⟨G, 0, none⟩) n n (tabF [] n) ∧ Touch w w' (fun _ => False) := by
  have h3 := hp.lo
  have h251 := hp.hi
  have HM := Lib.hid (mayS_any n w h3 h251)
  rw [prm_may hp] at HM
  have HTB := Lib.hid (table_any none 0 0 n [] w hp (RowS.nil _ _ _ _ (by omega)))
  have HP := Lib.hid hp
  go_enter Tryz.func12, Tryz.ntmps12
  go_wp2_with (first
    | (go_at_call 36; (with_reducible refine HM.out.mono ?_); rintro e w9 ⟨rfl, rfl⟩)
    | (go_at_call 37; (with_reducible refine HTB.out.mono ?_); rintro e w4 ⟨G, rfl, ho, t4⟩; have HI := Lib.hid (ho.rowI (tab_i64 HP.out)); have HT := Lib.hid t4; have HG := Lib.hid ho.lt.1; clear ho t4))
  go_ret
  have t5 := (Touch.refl w4 (fun _ => False)).alloc (.cells (chC n none 0 0 (some ⟨G, 0, none⟩) n n 0) 100)
  exact ⟨w4.heap.size, G, rfl, heap_alloc_new .., HT.out.size, HG.out, HI.out.still t5, HT.out.trans t5 (fun _ _ h => h)⟩
/-- A new chooser beside a table that was made before. -/
theorem PW.fresh {w w1 w2 : World} {g : Nat} {h : FH} {most idle : Int} {M : List FlD} (p : FN w w1 g h most idle M) {C n : Nat} {T : List Int} {G m : Nat} (hn : 0 < n) (t : Touch w1 w2 (fun _ => False))
    (hc : w2.heap[C]? = some (.cells (chC n none 0 0 (some ⟨G, 0, none⟩) n n m) 100 (0, 0))) (hC : w1.heap.size ≤ C) (hG : w1.heap.size ≤ G) (hi : RowI w2 (some ⟨G, 0, none⟩) n n T) :
    PW w w2 g h most idle M C n [] T none 0 0 G m := by
  refine ⟨p.still t, ⟨hc, RowS.nil _ _ _ _ (by omega), hi⟩, ⟨fun e => by have := p.q.footlt _ e; omega, .inl rfl, fun e => by have := p.q.footlt _ e; omega⟩, heap_lt hc, .inl rfl, ?_⟩
  rcases hi.2.2.2.2 with h0 | ⟨b, off, ha, hlt, -⟩
  · omega
  · cases ha; exact hlt
/-- What Packet hands back when it drops. -/
theorem pktD (W : World) (g : Nat) (h : FH) (most idle : Int) (M : List FlD) (d : FS W g h most idle M) (C : Nat) (bs : List BkD) (T : List Int) (ab : Option Addr) (lb cb G mv : Nat) (c : ChP W C 13 bs T ab lb cb G mv) (hbs : ∀ b ∈ bs, 0 ≤ b.addr ∧ b.addr ≤ 4294967295) (nf gen now : Int) (xs : List Nat) (V : Int) (hR : pkF 168364297 1500 gen now most bs T 13 M xs = ⟨1, V, 0, [], [], M⟩) (a : Option Addr) (len cap : Nat) (hr : RowB W a len cap xs) :
    Calls Tryz.prog 18 #[.agg (cfg23 nf), .pointer (some ⟨g, 0, none⟩), .pointer (some ⟨C, 0, none⟩), .int .i64 gen, .int .i64 now, .slice a len cap] W fun e w' => ∃ pa pn pc qa qc, e = .returned (.agg (planV 1 V 0 (.slice pa pn pc) (.slice qa 0 qc))) ∧ FStep W w' g h most idle M := by
  refine (packet_any 168364297 13 nf 20 1500 200 20000 3 gen now W g h most idle M d C 13 bs T ab lb cb G mv c (by omega) (by omega) ⟨by decide, by decide⟩ hbs a len cap _ hr).mono ?_
  intro e w' hp
  rw [hR] at hp
  obtain ⟨pa, pn, pc, q, he, -, ⟨qa, qc, rfl, -, -⟩, hs⟩ := hp
  exact ⟨pa, pn, pc, qa, qc, he, hs⟩
end Go.Proofs.YtpjdcgjoepjmcaaGreat
