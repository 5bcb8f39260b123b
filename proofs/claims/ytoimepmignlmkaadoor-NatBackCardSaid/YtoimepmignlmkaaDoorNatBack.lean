/-
  What was added comes back, and what was divided; of up to 250 limbs.
  Conditions: none.
-/
import Derived.Test.YtoimepmignlmkaaDoorLawM
import Derived.Test.YtoimepmignlmkaaDoorOpenA
import Derived.ShutString
import Derived.Test.YtoimepmignlmkaaDoorNatK
import Derived.Test.YtoimepmignlmkaaDoorTie
import Derived.Test.YtoimepmignlmkaaDoorCards
import Derived.SevenTiedAt
import Derived.ChangeOld
namespace Go.Proofs.YtoimepmignlmkaaDoor.natBack
open Go.ChangeShapes Go.WideShapes Go.ChangeAt Go.RowKit
set_option linter.unusedVariables false
set_option linter.unusedSimpArgs false
set_option maxRecDepth 100000

theorem own : ownKnob Tryd.prog.godebug = none := by kernel_rfl
theorem laidOut : laidOutB Tryd.prog = true := by kernel_rfl

theorem lim_of {l : List Int} (h : ∀ z ∈ l, (Lit.int .u32 z).wf = true) : Lim l := fun z hz => by
  have := bounds_u32 (h z hz)
  omega
set_option maxHeartbeats 8000000 in
theorem early_walk (Aa : Option Addr) (ca : Nat) (za : List Int) (Ab : Option Addr) (cb : Nat) (zb : List Int) (d : Int) (w : World) (hk : PowT w) (rda : Rd .u32 w w.heap.size Aa za.length za) (lca : za.length ≤ ca) (cma : ca ≤ maxLen) (lia : Lim za) (rdb : Rd .u32 w w.heap.size Ab zb.length zb) (lcb : zb.length ≤ cb) (cmb : cb ≤ maxLen) (lib : Lim zb) (d0 : 0 ≤ d) (d1 : d < 18446744073709551616) (hc : 250 < za.length ∨ (za.length ≤ 250 ∧ 250 < zb.length) ∨ (za.length ≤ 250 ∧ zb.length ≤ 250 ∧ (rightN za = false ∨ (rightN za = true ∧ rightN zb = false)))) :
    Calls Tryd.prog 6 #[.slice Aa za.length ca, .slice Ab zb.length cb, .int .u64 d] w fun e w' => e = .returned (.bool true) ∧ Below w.heap.size w w' := by
  have HPT := Lib.hid hk
  clear hk
  have La := Lib.hid lca
  have Ma := Lib.hid cma
  have LIa := Lib.hid lia
  have hra := fun W h => r10right_c za Aa za.length ca (by omega) W h
  have Lb := Lib.hid lcb
  have Mb := Lib.hid cmb
  have LIb := Lib.hid lib
  have hrb := fun W h => r10right_c zb Ab zb.length cb (by omega) W h
  have G0 := Lib.hid (NFx.more (NFx.more (NFx.start w) rdb) rda)
  clear lca lcb cma cmb rda rdb lia lib
  rcases hc with h | ⟨h, h'⟩ | ⟨h, h', hR⟩
  · have i0 : (250 : Int) < (za.length : Int) := by omega
    clear h  hra hrb
    go_enter Tryd.func6, Tryd.ntmps6
    go_wp2_with (first
      | (go_at_call 8; (with_reducible refine (alive10_c w HPT.out).mono ?_); rintro e w1 ⟨rfl, hbw1⟩; have G2 := Lib.hid (NFx.below G0.out hbw1); clear G0; clear hbw1))
    go_ret
    exact ⟨rfl, (NFx.bel G2.out)⟩
  · have i0 : (za.length : Int) ≤ 250 := by omega
    have i1 : (250 : Int) < (zb.length : Int) := by omega
    clear h h' hra hrb
    go_enter Tryd.func6, Tryd.ntmps6
    go_wp2_with (first
      | (go_at_call 8; (with_reducible refine (alive10_c w HPT.out).mono ?_); rintro e w1 ⟨rfl, hbw1⟩; have G2 := Lib.hid (NFx.below G0.out hbw1); clear G0; clear hbw1))
    go_ret
    exact ⟨rfl, (NFx.bel G2.out)⟩
  · have i0 : (za.length : Int) ≤ 250 := by omega
    have i1 : (zb.length : Int) ≤ 250 := by omega
    clear h h'
    rcases hR with r | ⟨r, r'⟩
    · rw [r] at hra
      have HRa := Lib.hid hra
      clear hra hrb r
      go_enter Tryd.func6, Tryd.ntmps6
      go_wp2_with (first
        | (go_at_call 8; (with_reducible refine (alive10_c w HPT.out).mono ?_); rintro e w1 ⟨rfl, hbw1⟩; have G2 := Lib.hid (NFx.below G0.out hbw1); clear G0; clear hbw1)
        | (go_at_call 23; (with_reducible refine (HRa.out _ (NFx.r0 G2.out)).mono ?_); rintro e _ ⟨rfl, rfl⟩))
      go_ret
      exact ⟨rfl, (NFx.bel G2.out)⟩
    · rw [r] at hra
      have HRa := Lib.hid hra
      rw [r'] at hrb
      have HRb := Lib.hid hrb
      clear hra hrb r r'
      go_enter Tryd.func6, Tryd.ntmps6
      go_wp2_with (first
        | (go_at_call 8; (with_reducible refine (alive10_c w HPT.out).mono ?_); rintro e w1 ⟨rfl, hbw1⟩; have G2 := Lib.hid (NFx.below G0.out hbw1); clear G0; clear hbw1)
        | (go_at_call 23; (with_reducible refine (HRa.out _ (NFx.r0 G2.out)).mono ?_); rintro e _ ⟨rfl, rfl⟩)
        | (go_at_call 23; (with_reducible refine (HRb.out _ (NFx.r1 G2.out)).mono ?_); rintro e _ ⟨rfl, rfl⟩))
      go_ret
      exact ⟨rfl, (NFx.bel G2.out)⟩
set_option maxHeartbeats 8000000 in
theorem main_walk (Aa : Option Addr) (ca : Nat) (za : List Int) (Ab : Option Addr) (cb : Nat) (zb : List Int) (d : Int) (w : World) (hk : PowT w) (rda : Rd .u32 w w.heap.size Aa za.length za) (lca : za.length ≤ ca) (cma : ca ≤ maxLen) (lia : Lim za) (rdb : Rd .u32 w w.heap.size Ab zb.length zb) (lcb : zb.length ≤ cb) (cmb : cb ≤ maxLen) (lib : Lim zb) (d0 : 0 ≤ d) (d1 : d < 18446744073709551616) (ha : za.length ≤ 250) (hb : zb.length ≤ 250) (ra : rightN za = true) (rb : rightN zb = true) :
    Calls Tryd.prog 6 #[.slice Aa za.length ca, .slice Ab zb.length cb, .int .u64 d] w fun e w' => e = .returned (.bool true) ∧ Below w.heap.size w w' := by
  have HPT := Lib.hid hk
  clear hk
  have La := Lib.hid lca
  have Ma := Lib.hid cma
  have LIa := Lib.hid lia
  have hra := fun W h => r10right_c za Aa za.length ca (by omega) W h
  have Lb := Lib.hid lcb
  have Mb := Lib.hid cmb
  have LIb := Lib.hid lib
  have hrb := fun W h => r10right_c zb Ab zb.length cb (by omega) W h
  have G0 := Lib.hid (NFx.more (NFx.more (NFx.start w) rdb) rda)
  rw [ra] at hra
  rw [rb] at hrb
  have HRa := Lib.hid hra
  have HRb := Lib.hid hrb
  have ba := lt_len lia ha
  have bb := lt_len lib hb
  have ca := rightN_can lia ra
  have cb := rightN_can lib rb
  obtain ⟨va, hva⟩ : ∃ v, valL za = v := ⟨_, rfl⟩
  obtain ⟨vb, hvb⟩ : ∃ v, valL zb = v := ⟨_, rfl⟩
  rw [hva] at ba ca
  rw [hvb] at bb cb
  have b251 : va + vb < 4294967296 ^ 251 := by rw [Nat.pow_succ]; omega
  have n256 : ∀ {n k : Nat}, n < 4294967296 ^ k → k ≤ 256 → (natL n).length ≤ 256 := fun h hk => Nat.le_trans ((natL_len _ _).2 h) hk
  have rs : rightN (natL (va + vb)) = true := rightN_natL (n256 b251 (by omega))
  have hls := n256 b251 (by omega)
  have H1 : Hid (∀ (A B : Option Addr) (c1 c2 : Nat) (Q : Option Addr) (c : Nat) (W : World), RdNs W W.heap.size Q 2 [rowN A za c1, rowN B zb c2] → Calls Tryd.prog 10 #[.slice Q 2 c] W (RetNE W (0, natL (va + vb)))) := Lib.hid (fun A B c1 c2 Q c W h => by
    have h2 := q10add_c _ Q 2 c (by omega) W h
    rw [addR_two ra rb (by rw [hva, hvb]; exact hls), hva, hvb] at h2
    exact h2)
  have H2 : Hid (∀ (A B : Option Addr) (c1 c2 : Nat) (Q : Option Addr) (c : Nat) (W : World), RdNs W W.heap.size Q 2 [rowN A zb c1, rowN B za c2] → Calls Tryd.prog 10 #[.slice Q 2 c] W (RetNE W (0, natL (va + vb)))) := Lib.hid (fun A B c1 c2 Q c W h => by
    have h2 := q10add_c _ Q 2 c (by omega) W h
    rw [addR_two rb ra (by rw [hva, hvb, Nat.add_comm]; exact hls), hva, hvb, Nat.add_comm vb va] at h2
    exact h2)
  have hsub : subR (natL (va + vb)) za = (0, zb) := by
    conv => lhs; rw [ca]
    rw [sub_nat rs (by rw [← ca]; exact ra), if_neg (by omega), Nat.add_sub_cancel_left, ← cb]
  have h3 := fun A B c1 c2 W (h : Rd .u32 W W.heap.size A (natL (va + vb)).length (natL (va + vb))) (h' : Rd .u32 W W.heap.size B za.length za) => q10sub_c _ _ (natL_lim _) lia A B _ _ c1 c2 (by unfold maxLen; omega) (by unfold maxLen; omega) W h h'
  rw [hsub] at h3
  obtain ⟨S, hS⟩ : ∃ l, natL (va + vb) = l := ⟨_, rfl⟩
  rw [hS] at H1 H2 h3 hls
  have H3 := Lib.hid h3
  have lS : S.length ≤ 256 := hls
  have lzb : zb.length ≤ 256 := by omega
  have lza : za.length ≤ 256 := by omega
  have H4 : Hid (∀ A B c1 c2 W, Rd .u32 W W.heap.size A S.length S → Rd .u32 W W.heap.size B S.length S → Calls Tryd.prog 14 #[.slice A S.length c1, .slice B S.length c2] W fun e w' => e = .returned (.bool true) ∧ Below W.heap.size W w') := Lib.hid (fun A B c1 c2 W h h' => by
    have h2 := r10same_c S S A B _ _ c1 c2 (by have := lS; have := lS; unfold maxLen; omega) (by have := lS; have := lS; unfold maxLen; omega) W h h'
    rw [decide_eq_true rfl] at h2
    exact h2)
  have H5 : Hid (∀ A B c1 c2 W, Rd .u32 W W.heap.size A zb.length zb → Rd .u32 W W.heap.size B zb.length zb → Calls Tryd.prog 14 #[.slice A zb.length c1, .slice B zb.length c2] W fun e w' => e = .returned (.bool true) ∧ Below W.heap.size W w') := Lib.hid (fun A B c1 c2 W h h' => by
    have h2 := r10same_c zb zb A B _ _ c1 c2 (by have := lzb; have := lzb; unfold maxLen; omega) (by have := lzb; have := lzb; unfold maxLen; omega) W h h'
    rw [decide_eq_true rfl] at h2
    exact h2)
  have H11 : Hid (∀ A B c1 c2 W, Rd .u32 W W.heap.size A za.length za → Rd .u32 W W.heap.size B za.length za → Calls Tryd.prog 14 #[.slice A za.length c1, .slice B za.length c2] W fun e w' => e = .returned (.bool true) ∧ Below W.heap.size W w') := Lib.hid (fun A B c1 c2 W h h' => by
    have h2 := r10same_c za za A B _ _ c1 c2 (by have := lza; have := lza; unfold maxLen; omega) (by have := lza; have := lza; unfold maxLen; omega) W h h'
    rw [decide_eq_true rfl] at h2
    exact h2)
  have i0 : (za.length : Int) ≤ 250 := by omega
  have i1 : (zb.length : Int) ≤ 250 := by omega
  have h6 := fun A c W (h : Rd .u32 W W.heap.size A za.length za) => q10div_c za lia A _ c (by unfold maxLen; omega) d d0 (by omega) W h
  by_cases hd : 1 ≤ d ∧ d < 9223372036854775808
  · obtain ⟨hd1, hd2⟩ := hd
    have e1 : divV za d = va / d.toNat := by unfold divV; rw [if_pos ⟨ra, hd1, hd2⟩, hva]
    have e2 : divL za d = va % d.toNat := by unfold divL; rw [if_pos ⟨ra, hd1, hd2⟩, hva]
    have e3 : divE za d = 0 := by unfold divE; rw [if_pos ⟨ra, hd1, hd2⟩]
    rw [e1, e2, e3] at h6
    have h7 := fun W => q10of_c d d0 (by omega) W
    obtain ⟨dn, hdn⟩ : ∃ dn, d.toNat = dn := ⟨_, rfl⟩
    have hdI : (dn : Int) = d := by omega
    rw [hdn] at h6 h7
    have hlt : va % dn < dn := Nat.mod_lt _ (by omega)
    have h9 := fun W => q10of_c ((va % dn : Nat) : Int) (by omega) (by omega) W
    rw [Int.toNat_natCast] at h9
    have hdm : va / dn * dn + va % dn = va := by rw [Nat.mul_comm]; exact Nat.div_add_mod va dn
    have hq : va / dn ≤ va := Nat.div_le_self _ _
    obtain ⟨q, hqq⟩ : ∃ q, va / dn = q := ⟨_, rfl⟩
    obtain ⟨r, hrr⟩ : ∃ q, va % dn = q := ⟨_, rfl⟩
    rw [hqq, hrr] at hdm h6
    rw [hqq] at hq
    rw [hrr] at hlt h9
    have rq : rightN (natL q) = true := rightN_natL (n256 (Nat.lt_of_le_of_lt hq ba) (by omega))
    have ro : rightN (natL dn) = true := rightN_natL (n256 (k := 2) (by omega) (by omega))
    have rr : rightN (natL r) = true := rightN_natL (n256 (k := 2) (by omega) (by omega))
    have rm : rightN (natL (q * dn)) = true := rightN_natL (n256 (Nat.lt_of_le_of_lt (show q * dn ≤ va by omega) ba) (by omega))
    have H8 : Hid (∀ (A B : Option Addr) (c1 c2 : Nat) (Q : Option Addr) (c : Nat) (W : World), RdNs W W.heap.size Q 2 [rowN A (natL q) c1, rowN B (natL dn) c2] → Calls Tryd.prog 12 #[.slice Q 2 c] W (RetNE W (0, natL (q * dn)))) := Lib.hid (fun A B c1 c2 Q c W h => by
      have h2 := q10mul_c _ Q 2 c (by omega) W h
      rw [mulR_two rq ro (by rw [natL_val]; exact n256 (Nat.lt_of_le_of_lt hq ba) (by omega)) (by rw [natL_val, natL_val]; exact n256 (Nat.lt_of_le_of_lt (show q * dn ≤ va by omega) ba) (by omega)), natL_val, natL_val] at h2
      exact h2)
    have H10 : Hid (∀ (A B : Option Addr) (c1 c2 : Nat) (Q : Option Addr) (c : Nat) (W : World), RdNs W W.heap.size Q 2 [rowN A (natL (q * dn)) c1, rowN B (natL r) c2] → Calls Tryd.prog 10 #[.slice Q 2 c] W (RetNE W (0, za))) := Lib.hid (fun A B c1 c2 Q c W h => by
      have h2 := q10add_c _ Q 2 c (by omega) W h
      rw [addR_two rm rr (by rw [natL_val, natL_val, hdm]; exact n256 ba (by omega)), natL_val, natL_val, hdm, ← ca] at h2
      exact h2)
    obtain ⟨Q, hQ⟩ : ∃ l, natL q = l := ⟨_, rfl⟩
    obtain ⟨O, hO⟩ : ∃ l, natL dn = l := ⟨_, rfl⟩
    obtain ⟨R, hR⟩ : ∃ l, natL r = l := ⟨_, rfl⟩
    obtain ⟨M, hM⟩ : ∃ l, natL (q * dn) = l := ⟨_, rfl⟩
    have LIq : Hid (Lim Q) := Lib.hid (by rw [← hQ]; exact natL_lim _)
    have LIo : Hid (Lim O) := Lib.hid (by rw [← hO]; exact natL_lim _)
    have LIr : Hid (Lim R) := Lib.hid (by rw [← hR]; exact natL_lim _)
    have LIm : Hid (Lim M) := Lib.hid (by rw [← hM]; exact natL_lim _)
    rw [hQ] at h6 H8
    rw [hO] at h7 H8
    rw [hR] at h9 H10
    rw [hM] at H8 H10
    have hrd : (r : Int) < d := by omega
    obtain ⟨ri, hri⟩ : ∃ z : Int, (r : Int) = z := ⟨_, rfl⟩
    rw [hri] at h9 hrd
    have h6' : ∀ A c W, Rd .u32 W W.heap.size A za.length za → Calls Tryd.prog 17 #[.slice A za.length c, .int .u64 d] W (fun e w' => ∃ A' c', e = .returned (.tuple #[.slice A' Q.length c', .int .u64 ri, .int .i64 0]) ∧ Q.length ≤ c' ∧ c' ≤ maxLen ∧ Rd .u32 w' w'.heap.size A' Q.length Q ∧ Below W.heap.size W w') := fun A c W h => (h6 A c W h).mono fun _ _ ⟨A', c', e, h⟩ => ⟨A', c', by rw [e, hri], h⟩
    have H6 := Lib.hid h6'
    have H7 := Lib.hid h7
    have H9 := Lib.hid h9
    have e0 : (d == 0) = false := by rw [beq_eq_false_iff_ne]; omega
    clear h3 h6 h6' h7 h9 hra hrb ba bb ca cb hva hvb b251 n256 rs hls hsub hS lS lzb lza e1 e2 e3 hdn hdI hlt hdm hq hqq hrr rq ro rr rm hQ hO hR hM hri lca lcb cma cmb rda rdb lia lib ha hb ra rb
    go_enter Tryd.func6, Tryd.ntmps6
    go_wp2_with (first
      | (go_at_call 8; (with_reducible refine (alive10_c w HPT.out).mono ?_); rintro e w1 ⟨rfl, hbw1⟩; have G2 := Lib.hid (NFx.below G0.out hbw1); clear G0; clear hbw1)
      | (go_at_call 23; (with_reducible refine (HRa.out _ (NFx.r0 G2.out)).mono ?_); rintro e _ ⟨rfl, rfl⟩)
      | (go_at_call 23; (with_reducible refine (HRb.out _ (NFx.r1 G2.out)).mono ?_); rintro e _ ⟨rfl, rfl⟩)
      | (go_at_call 10; (with_reducible refine (H1.out _ _ _ _ _ _ _ (rdNs_two (NFx.r0 G2.out) (NFx.r1 G2.out) La.out Lb.out Ma.out Mb.out LIa.out LIb.out)).mono ?_); rintro e w3 ⟨As, cs, rfl, hlw3, hmw3, hrw3, hbw3⟩; have Ls := Lib.hid hlw3; have Ms := Lib.hid hmw3; have G4 := Lib.hid (NFx.add (NFx.alloc G2.out (.cells #[.slice Aa za.length ca, .slice Ab zb.length cb] 26)) hbw3 hrw3); clear G2; clear hrw3 hbw3 hlw3 hmw3)
      | (go_at_call 10; (with_reducible refine (H2.out _ _ _ _ _ _ _ (rdNs_two (NFx.r2 G4.out) (NFx.r1 G4.out) Lb.out La.out Mb.out Ma.out LIb.out LIa.out)).mono ?_); rintro e w5 ⟨At, ct, rfl, hlw5, hmw5, hrw5, hbw5⟩; have Lt := Lib.hid hlw5; have Mt := Lib.hid hmw5; have G6 := Lib.hid (NFx.add (NFx.alloc G4.out (.cells #[.slice Ab zb.length cb, .slice Aa za.length ca] 26)) hbw5 hrw5); clear G4; clear hrw5 hbw5 hlw5 hmw5)
      | (go_at_call 15; (with_reducible refine (H3.out _ _ _ _ _ (NFx.r1 G6.out) (NFx.r2 G6.out)).mono ?_); rintro e w7 ⟨Ax, cx, rfl, hlw7, hmw7, hrw7, hbw7⟩; have Lx := Lib.hid hlw7; have Mx := Lib.hid hmw7; have G8 := Lib.hid (NFx.add G6.out hbw7 hrw7); clear G6; clear hrw7 hbw7 hlw7 hmw7)
      | (go_at_call 14; (with_reducible refine (H4.out _ _ _ _ _ (NFx.r2 G8.out) (NFx.r1 G8.out)).mono ?_); rintro e w9 ⟨rfl, hbw9⟩; have G10 := Lib.hid (NFx.below G8.out hbw9); clear G8; clear hbw9)
      | (go_at_call 14; (with_reducible refine (H5.out _ _ _ _ _ (NFx.r0 G10.out) (NFx.r4 G10.out)).mono ?_); rintro e w11 ⟨rfl, hbw11⟩; have G12 := Lib.hid (NFx.below G10.out hbw11); clear G10; clear hbw11)
      | (go_at_call 17; (with_reducible refine (H6.out _ _ _ (NFx.r3 G12.out)).mono ?_); rintro e w13 ⟨Aq, cq, rfl, hlw13, hmw13, hrw13, hbw13⟩; have Lq := Lib.hid hlw13; have Mq := Lib.hid hmw13; have G14 := Lib.hid (NFx.add G12.out hbw13 hrw13); clear G12; clear hrw13 hbw13 hlw13 hmw13)
      | (go_at_call 24; (with_reducible refine (H7.out _).mono ?_); rintro e w15 ⟨Ao, co, rfl, hlw15, hmw15, hrw15, hbw15⟩; have Lo := Lib.hid hlw15; have Mo := Lib.hid hmw15; have G16 := Lib.hid (NFx.add G14.out hbw15 hrw15); clear G14; clear hrw15 hbw15 hlw15 hmw15)
      | (go_at_call 12; (with_reducible refine (H8.out _ _ _ _ _ _ _ (rdNs_two (NFx.r1 G16.out) (NFx.r0 G16.out) Lq.out Lo.out Mq.out Mo.out LIq.out LIo.out)).mono ?_); rintro e w17 ⟨Am, cm, rfl, hlw17, hmw17, hrw17, hbw17⟩; have Lm := Lib.hid hlw17; have Mm := Lib.hid hmw17; have G18 := Lib.hid (NFx.add (NFx.alloc G16.out (.cells #[.slice Aq Q.length cq, .slice Ao O.length co] 26)) hbw17 hrw17); clear G16; clear hrw17 hbw17 hlw17 hmw17)
      | (go_at_call 24; (with_reducible refine (H9.out _).mono ?_); rintro e w19 ⟨Ar, cr, rfl, hlw19, hmw19, hrw19, hbw19⟩; have Lr := Lib.hid hlw19; have Mr := Lib.hid hmw19; have G20 := Lib.hid (NFx.add G18.out hbw19 hrw19); clear G18; clear hrw19 hbw19 hlw19 hmw19)
      | (go_at_call 10; (with_reducible refine (H10.out _ _ _ _ _ _ _ (rdNs_two (NFx.r1 G20.out) (NFx.r0 G20.out) Lm.out Lr.out Mm.out Mr.out LIm.out LIr.out)).mono ?_); rintro e w21 ⟨An, cn, rfl, hlw21, hmw21, hrw21, hbw21⟩; have Ln := Lib.hid hlw21; have Mn := Lib.hid hmw21; have G22 := Lib.hid (NFx.add (NFx.alloc G20.out (.cells #[.slice Am M.length cm, .slice Ar R.length cr] 26)) hbw21 hrw21); clear G20; clear hrw21 hbw21 hlw21 hmw21)
      | (go_at_call 14; (with_reducible refine (H11.out _ _ _ _ _ (NFx.r0 G22.out) (NFx.r8 G22.out)).mono ?_); rintro e w23 ⟨rfl, hbw23⟩; have G24 := Lib.hid (NFx.below G22.out hbw23); clear G22; clear hbw23))
    go_ret
    exact ⟨rfl, (NFx.bel G24.out)⟩
  · have e1 : divV za d = 0 := by unfold divV; rw [if_neg (fun h => hd h.2)]
    have e2 : divL za d = 0 := by unfold divL; rw [if_neg (fun h => hd h.2)]
    have e3 : divE za d = 1 := by unfold divE; rw [if_neg (fun h => hd h.2)]
    rw [e1, e2, e3, natL_zero] at h6
    have H6 := Lib.hid h6
    have hdd : d = 0 ∨ (¬ d = 0 ∧ 9223372036854775808 ≤ d) := by omega
    clear h3 h6 hra hrb ba bb ca cb hva hvb b251 n256 rs hls hsub hS lS lzb lza e1 e2 e3 lca lcb cma cmb rda rdb lia lib ha hb ra rb hd
    rcases hdd with hd | ⟨hd, hd'⟩
    · subst hd
      go_enter Tryd.func6, Tryd.ntmps6
      go_wp2_with (first
        | (go_at_call 8; (with_reducible refine (alive10_c w HPT.out).mono ?_); rintro e w1 ⟨rfl, hbw1⟩; have G2 := Lib.hid (NFx.below G0.out hbw1); clear G0; clear hbw1)
        | (go_at_call 23; (with_reducible refine (HRa.out _ (NFx.r0 G2.out)).mono ?_); rintro e _ ⟨rfl, rfl⟩)
        | (go_at_call 23; (with_reducible refine (HRb.out _ (NFx.r1 G2.out)).mono ?_); rintro e _ ⟨rfl, rfl⟩)
        | (go_at_call 10; (with_reducible refine (H1.out _ _ _ _ _ _ _ (rdNs_two (NFx.r0 G2.out) (NFx.r1 G2.out) La.out Lb.out Ma.out Mb.out LIa.out LIb.out)).mono ?_); rintro e w3 ⟨As, cs, rfl, hlw3, hmw3, hrw3, hbw3⟩; have Ls := Lib.hid hlw3; have Ms := Lib.hid hmw3; have G4 := Lib.hid (NFx.add (NFx.alloc G2.out (.cells #[.slice Aa za.length ca, .slice Ab zb.length cb] 26)) hbw3 hrw3); clear G2; clear hrw3 hbw3 hlw3 hmw3)
        | (go_at_call 10; (with_reducible refine (H2.out _ _ _ _ _ _ _ (rdNs_two (NFx.r2 G4.out) (NFx.r1 G4.out) Lb.out La.out Mb.out Ma.out LIb.out LIa.out)).mono ?_); rintro e w5 ⟨At, ct, rfl, hlw5, hmw5, hrw5, hbw5⟩; have Lt := Lib.hid hlw5; have Mt := Lib.hid hmw5; have G6 := Lib.hid (NFx.add (NFx.alloc G4.out (.cells #[.slice Ab zb.length cb, .slice Aa za.length ca] 26)) hbw5 hrw5); clear G4; clear hrw5 hbw5 hlw5 hmw5)
        | (go_at_call 15; (with_reducible refine (H3.out _ _ _ _ _ (NFx.r1 G6.out) (NFx.r2 G6.out)).mono ?_); rintro e w7 ⟨Ax, cx, rfl, hlw7, hmw7, hrw7, hbw7⟩; have Lx := Lib.hid hlw7; have Mx := Lib.hid hmw7; have G8 := Lib.hid (NFx.add G6.out hbw7 hrw7); clear G6; clear hrw7 hbw7 hlw7 hmw7)
        | (go_at_call 14; (with_reducible refine (H4.out _ _ _ _ _ (NFx.r2 G8.out) (NFx.r1 G8.out)).mono ?_); rintro e w9 ⟨rfl, hbw9⟩; have G10 := Lib.hid (NFx.below G8.out hbw9); clear G8; clear hbw9)
        | (go_at_call 14; (with_reducible refine (H5.out _ _ _ _ _ (NFx.r0 G10.out) (NFx.r4 G10.out)).mono ?_); rintro e w11 ⟨rfl, hbw11⟩; have G12 := Lib.hid (NFx.below G10.out hbw11); clear G10; clear hbw11)
        | (go_at_call 17; (with_reducible refine (H6.out _ _ _ (NFx.r3 G12.out)).mono ?_); rintro e w13 ⟨Aq, cq, rfl, hlw13, hmw13, hrw13, hbw13⟩; have Lq := Lib.hid hlw13; have Mq := Lib.hid hmw13; have G14 := Lib.hid (NFx.add G12.out hbw13 hrw13); clear G12; clear hrw13 hbw13 hlw13 hmw13))
      go_ret
      exact ⟨rfl, (NFx.bel G14.out)⟩
    · have e0 : (d == 0) = false := by rw [beq_eq_false_iff_ne]; exact hd
      go_enter Tryd.func6, Tryd.ntmps6
      go_wp2_with (first
        | (go_at_call 8; (with_reducible refine (alive10_c w HPT.out).mono ?_); rintro e w1 ⟨rfl, hbw1⟩; have G2 := Lib.hid (NFx.below G0.out hbw1); clear G0; clear hbw1)
        | (go_at_call 23; (with_reducible refine (HRa.out _ (NFx.r0 G2.out)).mono ?_); rintro e _ ⟨rfl, rfl⟩)
        | (go_at_call 23; (with_reducible refine (HRb.out _ (NFx.r1 G2.out)).mono ?_); rintro e _ ⟨rfl, rfl⟩)
        | (go_at_call 10; (with_reducible refine (H1.out _ _ _ _ _ _ _ (rdNs_two (NFx.r0 G2.out) (NFx.r1 G2.out) La.out Lb.out Ma.out Mb.out LIa.out LIb.out)).mono ?_); rintro e w3 ⟨As, cs, rfl, hlw3, hmw3, hrw3, hbw3⟩; have Ls := Lib.hid hlw3; have Ms := Lib.hid hmw3; have G4 := Lib.hid (NFx.add (NFx.alloc G2.out (.cells #[.slice Aa za.length ca, .slice Ab zb.length cb] 26)) hbw3 hrw3); clear G2; clear hrw3 hbw3 hlw3 hmw3)
        | (go_at_call 10; (with_reducible refine (H2.out _ _ _ _ _ _ _ (rdNs_two (NFx.r2 G4.out) (NFx.r1 G4.out) Lb.out La.out Mb.out Ma.out LIb.out LIa.out)).mono ?_); rintro e w5 ⟨At, ct, rfl, hlw5, hmw5, hrw5, hbw5⟩; have Lt := Lib.hid hlw5; have Mt := Lib.hid hmw5; have G6 := Lib.hid (NFx.add (NFx.alloc G4.out (.cells #[.slice Ab zb.length cb, .slice Aa za.length ca] 26)) hbw5 hrw5); clear G4; clear hrw5 hbw5 hlw5 hmw5)
        | (go_at_call 15; (with_reducible refine (H3.out _ _ _ _ _ (NFx.r1 G6.out) (NFx.r2 G6.out)).mono ?_); rintro e w7 ⟨Ax, cx, rfl, hlw7, hmw7, hrw7, hbw7⟩; have Lx := Lib.hid hlw7; have Mx := Lib.hid hmw7; have G8 := Lib.hid (NFx.add G6.out hbw7 hrw7); clear G6; clear hrw7 hbw7 hlw7 hmw7)
        | (go_at_call 14; (with_reducible refine (H4.out _ _ _ _ _ (NFx.r2 G8.out) (NFx.r1 G8.out)).mono ?_); rintro e w9 ⟨rfl, hbw9⟩; have G10 := Lib.hid (NFx.below G8.out hbw9); clear G8; clear hbw9)
        | (go_at_call 14; (with_reducible refine (H5.out _ _ _ _ _ (NFx.r0 G10.out) (NFx.r4 G10.out)).mono ?_); rintro e w11 ⟨rfl, hbw11⟩; have G12 := Lib.hid (NFx.below G10.out hbw11); clear G10; clear hbw11)
        | (go_at_call 17; (with_reducible refine (H6.out _ _ _ (NFx.r3 G12.out)).mono ?_); rintro e w13 ⟨Aq, cq, rfl, hlw13, hmw13, hrw13, hbw13⟩; have Lq := Lib.hid hlw13; have Mq := Lib.hid hmw13; have G14 := Lib.hid (NFx.add G12.out hbw13 hrw13); clear G12; clear hrw13 hbw13 hlw13 hmw13))
      go_ret
      exact ⟨rfl, (NFx.bel G14.out)⟩
theorem walk (a0 : Option Addr) (n0 c0 : Nat) (z0 : List Int) (a1 : Option Addr) (n1 c1 : Nat) (z1 : List Int) (a2 : Int) (w : World) (hk : PowT w) (rd0 : Rd .u32 w w.heap.size a0 n0 z0) (lc0 : n0 ≤ c0) (cm0 : c0 ≤ maxLen) (w0 : ∀ z ∈ z0, (Lit.int .u32 z).wf = true) (rd1 : Rd .u32 w w.heap.size a1 n1 z1) (lc1 : n1 ≤ c1) (cm1 : c1 ≤ maxLen) (w1 : ∀ z ∈ z1, (Lit.int .u32 z).wf = true) (w2 : (Lit.int .u64 a2).wf = true) :
    Calls Tryd.prog 6 #[.slice a0 n0 c0, .slice a1 n1 c1, .int .u64 a2] w fun e w' => e = .returned (.bool true) ∧ Below w.heap.size w w' := by
  have HPT := Lib.hid hk
  clear hk
  obtain rfl := rd0.len
  obtain rfl := rd1.len
  have hd := bounds_u64 w2
  by_cases h : z0.length ≤ 250 ∧ z1.length ≤ 250 ∧ rightN z0 = true ∧ rightN z1 = true
  · obtain ⟨h1, h2, h4, h5⟩ := h
    exact main_walk a0 c0 z0 a1 c1 z1 a2 w HPT.out rd0 lc0 cm0 (lim_of w0) rd1 lc1 cm1 (lim_of w1) (by omega) (by omega) h1 h2 h4 h5
  · refine early_walk a0 c0 z0 a1 c1 z1 a2 w HPT.out rd0 lc0 cm0 (lim_of w0) rd1 lc1 cm1 (lim_of w1) (by omega) (by omega) ?_
    by_cases h1 : 250 < z0.length
    · exact .inl h1
    · by_cases h2 : 250 < z1.length
      · exact .inr (.inl ⟨by omega, h2⟩)
      · refine .inr (.inr ⟨by omega, by omega, ?_⟩)
        cases r0 : rightN z0
        · exact .inl rfl
        · cases r1 : rightN z1
          · exact .inr ⟨rfl, rfl⟩
          · exact absurd ⟨by omega, by omega, r0, r1⟩ h


set_option maxRecDepth 100000 in
theorem lifted (os : Os) (started : os.Started) (H : Type) (enc : TypeId × Value → H) :
    ReturnsInHanded {} Tryd.checked os 6 .any (fun w args => (Rows.natBackSpec.pre enc Tryd.prog Tryd.f6 [] false w args ∧ laidMetH Tryd.prog laidP w) ∧ sizedMet enc Tryd.prog Tryd.f6 (OpenSpec.ofChange Rows.natBackSpec) false w args) (Rows.natBackSpec.post enc Tryd.prog Tryd.f6 false true false false) := by
  refine returnsInHanded_of_change_and (C := Tryd.checked) (X := fun w _ => laidMetH Tryd.prog laidP w) (fun _ _ _ hh h => h.of_heap hh) own started (by kernel_rfl) Tryd.func6
    (ChangeSpec.witness_shaped (enc := enc) (C := Tryd.checked) (os := os) (X := fun w _ => laidMetH Tryd.prog laidP w) false (World.doorLaid Tryd.prog 400 os) #[.slice none 0 0, .slice none 0 0, .int .u64 0] 8 rfl (World.shaped_of_RefB (by kernel_rfl) (by kernel_rfl)) (by kernel_rfl) (by kernel_rfl) (by kernel_rfl) (door_metP os _)) ?_
  intro W base args ds gs before hval0 hW _ _ hL _
  have hval : ∀ (j : Nat) t v, Tryd.f6.params[j]? = some t → args[j]? = some v → Value.okWide Tryd.prog W .any base t v := hval0
  have hW' := hW
  obtain ⟨p, q, hA0, hV, rfl, hfz, hnd⟩ := hW
  have hA : DataW.TrodAll enc Tryd.prog W 0 (fun _ => true) true Tryd.f6.params.toList args.toList ds p := hA0
  rw [Tryd.params6] at hA hval
  obtain ⟨v0, vs0, d0, ds0, p0, q0, hargs, rfl, rfl, h0, r0⟩ := trodAll_cons hA
  obtain ⟨v1, vs1, d1, ds1, p1, q1, rfl, rfl, rfl, h1, r1⟩ := trodAll_cons r0
  obtain ⟨v2, vs2, d2, ds2, p2, q2, rfl, rfl, rfl, h2, r2⟩ := trodAll_cons r1
  obtain ⟨rfl, rfl, rfl⟩ := trodAll_nil r2
  obtain rfl : args = #[v0, v1, v2] := by cases args; simp_all
  obtain ⟨rfl, rfl⟩ := trodVars_none hV
  obtain ⟨a0, n0, c0, rfl⟩ := okWide_slice Tryd.underlying26 (hval 0 26 v0 rfl rfl)
  have k0 := h0
  have lt0 : ∀ x ∈ p0, x.block < W.heap.size := by obtain ⟨m, hm⟩ := k0; exact DataW.trod_lt m _ _ _ hm
  obtain ⟨z0, rd0, lc0, cm0, w0⟩ := open_rd Tryd.underlying26 Tryd.underlying45 (by kernel_rfl) h0
  obtain ⟨a1, n1, c1, rfl⟩ := okWide_slice Tryd.underlying26 (hval 1 26 v1 rfl rfl)
  have k1 := h1
  have lt1 : ∀ x ∈ p1, x.block < W.heap.size := by obtain ⟨m, hm⟩ := k1; exact DataW.trod_lt m _ _ _ hm
  obtain ⟨z1, rd1, lc1, cm1, w1⟩ := open_rd Tryd.underlying26 Tryd.underlying45 (by kernel_rfl) h1
  obtain ⟨a2, rfl, rfl, rfl, w2⟩ := open_int Tryd.underlying32 (hval 2 32 v2 rfl rfl) h2
  clear hA0 hval0
  refine (walk a0 n0 c0 z0 a1 n1 c1 z1 a2 W (powT_of_laid hL) rd0 lc0 cm0 w0 rd1 lc1 cm1 w1 w2).mono fun e W' ⟨he, bel⟩ => ?_
  subst he
  exact ⟨_, rfl, _, _, _, [], _, [], hW', trodAll_mk1 (shut_bool Tryd.underlying4 _), (trodAll_cons_mk (Below.trod laidOut (by kernel_rfl) (of_decide_eq_true (by kernel_rfl)) k0 bel lt0) (trodAll_cons_mk (Below.trod laidOut (by kernel_rfl) (of_decide_eq_true (by kernel_rfl)) k1 bel lt1) (trodAll_cons_mk (shut_int Tryd.underlying32 w2) trodAll_mk0))), rfl, bel.frame _, fun h => by cases h⟩

theorem over : Rows.natBackRow.holds Tryd.pinned (OpenSpec.ofChange Rows.natBackSpec) :=
  OpenClaim.holds_of_wide 6 Tryd.f6 rfl rfl rfl rfl rfl rfl rfl ⟨rfl, rfl, rfl, rfl, rfl⟩ rfl rfl rfl rfl rfl (by kernel_rfl) Tryd.func6 (by kernel_rfl)
    (of_decide_eq_true (by kernel_rfl)) (by unfold Func.isWrapper; first | (rw [if_pos (by decide +kernel)]; kernel_rfl) | (rw [if_neg (by decide +kernel)]; exact ⟨rfl, rfl⟩))
    (fun os started H enc _ => lifted os started H enc)

end Go.Proofs.YtoimepmignlmkaaDoor.natBack
namespace Go.Proofs.YtoimepmignlmkaaDoor
theorem natBack_holds : Rows.NatBackCardSaid :=
  Claim7.holds_tied_plain_at .later [] [.data, .data, .data] true _ false
    natBack.over (fun _ h => by cases h) (by kernel_rfl) (fun _ h => by cases h) natBack_row_tie rfl ⟨rfl, rfl⟩ (by kernel_rfl) rfl
    (fun f fn hf hfn => by
      obtain rfl : f = 6 := Option.some.inj ((show Tryd.prog.funcNamed "drawlot/drawlotlaw10.NatBack" = some 6 by kernel_rfl).symm.trans hf) |>.symm
      obtain rfl : fn = Tryd.f6 := (Option.some.inj (Tryd.func6.symm.trans hfn)).symm
      exact ⟨by kernel_rfl, fun j t ht => by
        rw [Tryd.params6] at ht
        have hm : t ∈ [26, 26, 32] := by simpa using Array.mem_of_getElem? ht
        have hall : ([26, 26, 32].all fun u => !Tryd.prog.wantsStandIn u) = true := by kernel_rfl
        exact (show Tryd.prog.wantsStandIn t = false by simpa using List.all_eq_true.1 hall t hm)⟩)
    (by kernel_rfl)
#print axioms natBack_holds
end Go.Proofs.YtoimepmignlmkaaDoor
