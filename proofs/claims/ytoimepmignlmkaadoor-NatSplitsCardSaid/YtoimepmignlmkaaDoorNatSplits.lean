/-
  A product of a sum is the sum of the products; of up to 60 limbs.
  Conditions: none.
-/
import Derived.Test.YtoimepmignlmkaaDoorLawM
import Derived.Test.YtoimepmignlmkaaDoorOpenA
import Derived.ShutString
import Derived.Test.YtoimepmignlmkaaDoorNatK
import Derived.Test.YtoimepmignlmkaaDoorTie
import Derived.Test.YtoimepmignlmkaaDoorCards
import Derived.SevenTiedAt
import Derived.ChangeOld
namespace Go.Proofs.YtoimepmignlmkaaDoor.natSplits
open Go.ChangeShapes Go.WideShapes Go.ChangeAt Go.RowKit
set_option linter.unusedVariables false
set_option linter.unusedSimpArgs false
set_option maxRecDepth 100000

theorem own : ownKnob Tryd.prog.godebug = none := by kernel_rfl
theorem laidOut : laidOutB Tryd.prog = true := by kernel_rfl

theorem lim_of {l : List Int} (h : ∀ z ∈ l, (Lit.int .u32 z).wf = true) : Lim l := fun z hz => by
  have := bounds_u32 (h z hz)
  omega
set_option maxHeartbeats 8000000 in
theorem early_walk (Aa : Option Addr) (ca : Nat) (za : List Int) (Ab : Option Addr) (cb : Nat) (zb : List Int) (Ax : Option Addr) (cx : Nat) (zx : List Int) (w : World) (hk : PowT w) (rda : Rd .u32 w w.heap.size Aa za.length za) (lca : za.length ≤ ca) (cma : ca ≤ maxLen) (lia : Lim za) (rdb : Rd .u32 w w.heap.size Ab zb.length zb) (lcb : zb.length ≤ cb) (cmb : cb ≤ maxLen) (lib : Lim zb) (rdx : Rd .u32 w w.heap.size Ax zx.length zx) (lcx : zx.length ≤ cx) (cmx : cx ≤ maxLen) (lix : Lim zx) (hc : 60 < za.length ∨ (za.length ≤ 60 ∧ 60 < zb.length) ∨ (za.length ≤ 60 ∧ zb.length ≤ 60 ∧ 60 < zx.length) ∨ (za.length ≤ 60 ∧ zb.length ≤ 60 ∧ zx.length ≤ 60 ∧ (rightN za = false ∨ (rightN za = true ∧ rightN zb = false) ∨ (rightN za = true ∧ rightN zb = true ∧ rightN zx = false)))) :
    Calls Tryd.prog 7 #[.slice Aa za.length ca, .slice Ab zb.length cb, .slice Ax zx.length cx] w fun e w' => e = .returned (.bool true) ∧ Below w.heap.size w w' := by
  have HPT := Lib.hid hk
  clear hk
  have La := Lib.hid lca
  have Ma := Lib.hid cma
  have LIa := Lib.hid lia
  have hra := fun W h => r10right_c za Aa za.length ca (by omega) W h
  have Lb := Lib.hid lcb
  have Mb := Lib.hid cmb
  have LIb := Lib.hid lib
  have hrb := fun W h => r10right_c zb Ab zb.length cb (by omega) W h
  have Lx := Lib.hid lcx
  have Mx := Lib.hid cmx
  have LIx := Lib.hid lix
  have hrx := fun W h => r10right_c zx Ax zx.length cx (by omega) W h
  have G0 := Lib.hid (NFx.more (NFx.more (NFx.more (NFx.start w) rdx) rdb) rda)
  clear lca lcb lcx cma cmb cmx rda rdb rdx lia lib lix
  rcases hc with h | ⟨h, h'⟩ | ⟨h, h', h''⟩ | ⟨h, h', h'', hR⟩
  · have i0 : (60 : Int) < (za.length : Int) := by omega
    clear h  hra hrb hrx
    go_enter Tryd.func7, Tryd.ntmps7
    go_wp2_with (first
      | (go_at_call 8; (with_reducible refine (alive10_c w HPT.out).mono ?_); rintro e w1 ⟨rfl, hbw1⟩; have G2 := Lib.hid (NFx.below G0.out hbw1); clear G0; clear hbw1))
    go_ret
    exact ⟨rfl, (NFx.bel G2.out)⟩
  · have i0 : (za.length : Int) ≤ 60 := by omega
    have i1 : (60 : Int) < (zb.length : Int) := by omega
    clear h h' hra hrb hrx
    go_enter Tryd.func7, Tryd.ntmps7
    go_wp2_with (first
      | (go_at_call 8; (with_reducible refine (alive10_c w HPT.out).mono ?_); rintro e w1 ⟨rfl, hbw1⟩; have G2 := Lib.hid (NFx.below G0.out hbw1); clear G0; clear hbw1))
    go_ret
    exact ⟨rfl, (NFx.bel G2.out)⟩
  · have i0 : (za.length : Int) ≤ 60 := by omega
    have i1 : (zb.length : Int) ≤ 60 := by omega
    have i2 : (60 : Int) < (zx.length : Int) := by omega
    clear h h' h'' hra hrb hrx
    go_enter Tryd.func7, Tryd.ntmps7
    go_wp2_with (first
      | (go_at_call 8; (with_reducible refine (alive10_c w HPT.out).mono ?_); rintro e w1 ⟨rfl, hbw1⟩; have G2 := Lib.hid (NFx.below G0.out hbw1); clear G0; clear hbw1))
    go_ret
    exact ⟨rfl, (NFx.bel G2.out)⟩
  · have i0 : (za.length : Int) ≤ 60 := by omega
    have i1 : (zb.length : Int) ≤ 60 := by omega
    have i2 : (zx.length : Int) ≤ 60 := by omega
    clear h h' h''
    rcases hR with r | ⟨r, r'⟩ | ⟨r, r', r''⟩
    · rw [r] at hra
      have HRa := Lib.hid hra
      clear hra hrb hrx r
      go_enter Tryd.func7, Tryd.ntmps7
      go_wp2_with (first
        | (go_at_call 8; (with_reducible refine (alive10_c w HPT.out).mono ?_); rintro e w1 ⟨rfl, hbw1⟩; have G2 := Lib.hid (NFx.below G0.out hbw1); clear G0; clear hbw1)
        | (go_at_call 23; (with_reducible refine (HRa.out _ (NFx.r0 G2.out)).mono ?_); rintro e _ ⟨rfl, rfl⟩))
      go_ret
      exact ⟨rfl, (NFx.bel G2.out)⟩
    · rw [r] at hra
      have HRa := Lib.hid hra
      rw [r'] at hrb
      have HRb := Lib.hid hrb
      clear hra hrb hrx r r'
      go_enter Tryd.func7, Tryd.ntmps7
      go_wp2_with (first
        | (go_at_call 8; (with_reducible refine (alive10_c w HPT.out).mono ?_); rintro e w1 ⟨rfl, hbw1⟩; have G2 := Lib.hid (NFx.below G0.out hbw1); clear G0; clear hbw1)
        | (go_at_call 23; (with_reducible refine (HRa.out _ (NFx.r0 G2.out)).mono ?_); rintro e _ ⟨rfl, rfl⟩)
        | (go_at_call 23; (with_reducible refine (HRb.out _ (NFx.r1 G2.out)).mono ?_); rintro e _ ⟨rfl, rfl⟩))
      go_ret
      exact ⟨rfl, (NFx.bel G2.out)⟩
    · rw [r] at hra
      have HRa := Lib.hid hra
      rw [r'] at hrb
      have HRb := Lib.hid hrb
      rw [r''] at hrx
      have HRx := Lib.hid hrx
      clear hra hrb hrx r r' r''
      go_enter Tryd.func7, Tryd.ntmps7
      go_wp2_with (first
        | (go_at_call 8; (with_reducible refine (alive10_c w HPT.out).mono ?_); rintro e w1 ⟨rfl, hbw1⟩; have G2 := Lib.hid (NFx.below G0.out hbw1); clear G0; clear hbw1)
        | (go_at_call 23; (with_reducible refine (HRa.out _ (NFx.r0 G2.out)).mono ?_); rintro e _ ⟨rfl, rfl⟩)
        | (go_at_call 23; (with_reducible refine (HRb.out _ (NFx.r1 G2.out)).mono ?_); rintro e _ ⟨rfl, rfl⟩)
        | (go_at_call 23; (with_reducible refine (HRx.out _ (NFx.r2 G2.out)).mono ?_); rintro e _ ⟨rfl, rfl⟩))
      go_ret
      exact ⟨rfl, (NFx.bel G2.out)⟩
set_option maxHeartbeats 8000000 in
theorem main_walk (Aa : Option Addr) (ca : Nat) (za : List Int) (Ab : Option Addr) (cb : Nat) (zb : List Int) (Ax : Option Addr) (cx : Nat) (zx : List Int) (w : World) (hk : PowT w) (rda : Rd .u32 w w.heap.size Aa za.length za) (lca : za.length ≤ ca) (cma : ca ≤ maxLen) (lia : Lim za) (rdb : Rd .u32 w w.heap.size Ab zb.length zb) (lcb : zb.length ≤ cb) (cmb : cb ≤ maxLen) (lib : Lim zb) (rdx : Rd .u32 w w.heap.size Ax zx.length zx) (lcx : zx.length ≤ cx) (cmx : cx ≤ maxLen) (lix : Lim zx) (ha : za.length ≤ 60) (hb : zb.length ≤ 60) (hx : zx.length ≤ 60) (ra : rightN za = true) (rb : rightN zb = true) (rx : rightN zx = true) :
    Calls Tryd.prog 7 #[.slice Aa za.length ca, .slice Ab zb.length cb, .slice Ax zx.length cx] w fun e w' => e = .returned (.bool true) ∧ Below w.heap.size w w' := by
  have HPT := Lib.hid hk
  clear hk
  have La := Lib.hid lca
  have Ma := Lib.hid cma
  have LIa := Lib.hid lia
  have hra := fun W h => r10right_c za Aa za.length ca (by omega) W h
  have Lb := Lib.hid lcb
  have Mb := Lib.hid cmb
  have LIb := Lib.hid lib
  have hrb := fun W h => r10right_c zb Ab zb.length cb (by omega) W h
  have Lx := Lib.hid lcx
  have Mx := Lib.hid cmx
  have LIx := Lib.hid lix
  have hrx := fun W h => r10right_c zx Ax zx.length cx (by omega) W h
  have G0 := Lib.hid (NFx.more (NFx.more (NFx.more (NFx.start w) rdx) rdb) rda)
  rw [ra] at hra
  rw [rb] at hrb
  rw [rx] at hrx
  have HRa := Lib.hid hra
  have HRb := Lib.hid hrb
  have HRx := Lib.hid hrx
  have ba := lt_len lia ha
  have bb := lt_len lib hb
  have bx := lt_len lix hx
  obtain ⟨va, hva⟩ : ∃ v, valL za = v := ⟨_, rfl⟩
  obtain ⟨vb, hvb⟩ : ∃ v, valL zb = v := ⟨_, rfl⟩
  obtain ⟨vx, hvx⟩ : ∃ v, valL zx = v := ⟨_, rfl⟩
  rw [hva] at ba
  rw [hvb] at bb
  rw [hvx] at bx
  have b61 : va + vb < 4294967296 ^ 61 := by rw [Nat.pow_succ]; omega
  have m1 : (va + vb) * vx < 4294967296 ^ 121 := by rw [show 121 = 61 + 60 from rfl, Nat.pow_add]; exact Nat.mul_lt_mul'' b61 bx
  have m2 : va * vx < 4294967296 ^ 120 := by rw [show 120 = 60 + 60 from rfl, Nat.pow_add]; exact Nat.mul_lt_mul'' ba bx
  have m3 : vx * vb < 4294967296 ^ 120 := by rw [show 120 = 60 + 60 from rfl, Nat.pow_add]; exact Nat.mul_lt_mul'' bx bb
  have e1 : va * vx + vx * vb = (va + vb) * vx := by rw [Nat.add_mul, Nat.mul_comm vb vx]
  have m4 : va * vx + vx * vb < 4294967296 ^ 121 := by rw [e1]; exact m1
  have n256 : ∀ {n k : Nat}, n < 4294967296 ^ k → k ≤ 256 → (natL n).length ≤ 256 := fun h hk => Nat.le_trans ((natL_len _ _).2 h) hk
  have rs : rightN (natL (va + vb)) = true := rightN_natL (n256 b61 (by omega))
  have ru : rightN (natL (va * vx)) = true := rightN_natL (n256 m2 (by omega))
  have ry : rightN (natL (vx * vb)) = true := rightN_natL (n256 m3 (by omega))
  have H1 : Hid (∀ (A B : Option Addr) (c1 c2 : Nat) (Q : Option Addr) (c : Nat) (W : World), RdNs W W.heap.size Q 2 [rowN A za c1, rowN B zb c2] → Calls Tryd.prog 10 #[.slice Q 2 c] W (RetNE W (0, natL (va + vb)))) := Lib.hid (fun A B c1 c2 Q c W h => by
    have h2 := q10add_c _ Q 2 c (by omega) W h
    rw [addR_two ra rb (by rw [hva, hvb]; exact n256 b61 (by omega)), hva, hvb] at h2
    exact h2)
  have H2 : Hid (∀ (A B : Option Addr) (c1 c2 : Nat) (Q : Option Addr) (c : Nat) (W : World), RdNs W W.heap.size Q 2 [rowN A (natL (va + vb)) c1, rowN B zx c2] → Calls Tryd.prog 12 #[.slice Q 2 c] W (RetNE W (0, natL ((va + vb) * vx)))) := Lib.hid (fun A B c1 c2 Q c W h => by
    have h2 := q10mul_c _ Q 2 c (by omega) W h
    rw [mulR_two rs rx (by rw [natL_val]; exact n256 b61 (by omega)) (by rw [natL_val, hvx]; exact n256 m1 (by omega)), natL_val, hvx] at h2
    exact h2)
  have H3 : Hid (∀ (A B : Option Addr) (c1 c2 : Nat) (Q : Option Addr) (c : Nat) (W : World), RdNs W W.heap.size Q 2 [rowN A za c1, rowN B zx c2] → Calls Tryd.prog 12 #[.slice Q 2 c] W (RetNE W (0, natL (va * vx)))) := Lib.hid (fun A B c1 c2 Q c W h => by
    have h2 := q10mul_c _ Q 2 c (by omega) W h
    rw [mulR_two ra rx (by rw [hva]; exact n256 (Nat.lt_of_lt_of_le ba (Nat.le_refl _)) (by omega)) (by rw [hva, hvx]; exact n256 m2 (by omega)), hva, hvx] at h2
    exact h2)
  have H4 : Hid (∀ (A B : Option Addr) (c1 c2 : Nat) (Q : Option Addr) (c : Nat) (W : World), RdNs W W.heap.size Q 2 [rowN A zx c1, rowN B zb c2] → Calls Tryd.prog 12 #[.slice Q 2 c] W (RetNE W (0, natL (vx * vb)))) := Lib.hid (fun A B c1 c2 Q c W h => by
    have h2 := q10mul_c _ Q 2 c (by omega) W h
    rw [mulR_two rx rb (by rw [hvx]; exact n256 bx (by omega)) (by rw [hvx, hvb]; exact n256 m3 (by omega)), hvx, hvb] at h2
    exact h2)
  have H5 : Hid (∀ (A B : Option Addr) (c1 c2 : Nat) (Q : Option Addr) (c : Nat) (W : World), RdNs W W.heap.size Q 2 [rowN A (natL (va * vx)) c1, rowN B (natL (vx * vb)) c2] → Calls Tryd.prog 10 #[.slice Q 2 c] W (RetNE W (0, natL ((va + vb) * vx)))) := Lib.hid (fun A B c1 c2 Q c W h => by
    have h2 := q10add_c _ Q 2 c (by omega) W h
    rw [addR_two ru ry (by rw [natL_val, natL_val]; exact n256 m4 (by omega)), natL_val, natL_val, e1] at h2
    exact h2)
  have lp := n256 m1 (by omega)
  obtain ⟨S, hS⟩ : ∃ l, natL (va + vb) = l := ⟨_, rfl⟩
  obtain ⟨P, hP⟩ : ∃ l, natL ((va + vb) * vx) = l := ⟨_, rfl⟩
  obtain ⟨U, hU⟩ : ∃ l, natL (va * vx) = l := ⟨_, rfl⟩
  obtain ⟨Y, hY⟩ : ∃ l, natL (vx * vb) = l := ⟨_, rfl⟩
  have LIs : Hid (Lim S) := Lib.hid (by rw [← hS]; exact natL_lim _)
  have LIu : Hid (Lim U) := Lib.hid (by rw [← hU]; exact natL_lim _)
  have LIy : Hid (Lim Y) := Lib.hid (by rw [← hY]; exact natL_lim _)
  rw [hS] at H1 H2
  rw [hP] at H2 H5 lp
  rw [hU] at H3 H5
  rw [hY] at H4 H5
  have h6 := fun A B c1 c2 W (h : Rd .u32 W W.heap.size A P.length P) (h' : Rd .u32 W W.heap.size B P.length P) => r10same_c P P A B _ _ c1 c2 (by unfold maxLen; omega) (by unfold maxLen; omega) W h h'
  rw [decide_eq_true rfl] at h6
  have H6 := Lib.hid h6
  have i0 : (za.length : Int) ≤ 60 := by omega
  have i1 : (zb.length : Int) ≤ 60 := by omega
  have i2 : (zx.length : Int) ≤ 60 := by omega
  clear h6 hra hrb hrx ba bb bx hva hvb hvx b61 m1 m2 m3 e1 m4 n256 rs ru ry lp hS hP hU hY lca lcb lcx cma cmb cmx rda rdb rdx lia lib lix ha hb hx ra rb rx
  go_enter Tryd.func7, Tryd.ntmps7
  go_wp2_with (first
    | (go_at_call 8; (with_reducible refine (alive10_c w HPT.out).mono ?_); rintro e w1 ⟨rfl, hbw1⟩; have G2 := Lib.hid (NFx.below G0.out hbw1); clear G0; clear hbw1)
    | (go_at_call 23; (with_reducible refine (HRa.out _ (NFx.r0 G2.out)).mono ?_); rintro e _ ⟨rfl, rfl⟩)
    | (go_at_call 23; (with_reducible refine (HRb.out _ (NFx.r1 G2.out)).mono ?_); rintro e _ ⟨rfl, rfl⟩)
    | (go_at_call 23; (with_reducible refine (HRx.out _ (NFx.r2 G2.out)).mono ?_); rintro e _ ⟨rfl, rfl⟩)
    | (go_at_call 10; (with_reducible refine (H1.out _ _ _ _ _ _ _ (rdNs_two (NFx.r0 G2.out) (NFx.r1 G2.out) La.out Lb.out Ma.out Mb.out LIa.out LIb.out)).mono ?_); rintro e w3 ⟨As, cs, rfl, hlw3, hmw3, hrw3, hbw3⟩; have Ls := Lib.hid hlw3; have Ms := Lib.hid hmw3; have G4 := Lib.hid (NFx.add (NFx.alloc G2.out (.cells #[.slice Aa za.length ca, .slice Ab zb.length cb] 26)) hbw3 hrw3); clear G2; clear hrw3 hbw3 hlw3 hmw3)
    | (go_at_call 12; (with_reducible refine (H2.out _ _ _ _ _ _ _ (rdNs_two (NFx.r0 G4.out) (NFx.r3 G4.out) Ls.out Lx.out Ms.out Mx.out LIs.out LIx.out)).mono ?_); rintro e w5 ⟨Ap, cp, rfl, hlw5, hmw5, hrw5, hbw5⟩; have Lp := Lib.hid hlw5; have Mp := Lib.hid hmw5; have G6 := Lib.hid (NFx.add (NFx.alloc G4.out (.cells #[.slice As S.length cs, .slice Ax zx.length cx] 26)) hbw5 hrw5); clear G4; clear hrw5 hbw5 hlw5 hmw5)
    | (go_at_call 12; (with_reducible refine (H3.out _ _ _ _ _ _ _ (rdNs_two (NFx.r2 G6.out) (NFx.r4 G6.out) La.out Lx.out Ma.out Mx.out LIa.out LIx.out)).mono ?_); rintro e w7 ⟨Au, cu, rfl, hlw7, hmw7, hrw7, hbw7⟩; have Lu := Lib.hid hlw7; have Mu := Lib.hid hmw7; have G8 := Lib.hid (NFx.add (NFx.alloc G6.out (.cells #[.slice Aa za.length ca, .slice Ax zx.length cx] 26)) hbw7 hrw7); clear G6; clear hrw7 hbw7 hlw7 hmw7)
    | (go_at_call 12; (with_reducible refine (H4.out _ _ _ _ _ _ _ (rdNs_two (NFx.r5 G8.out) (NFx.r4 G8.out) Lx.out Lb.out Mx.out Mb.out LIx.out LIb.out)).mono ?_); rintro e w9 ⟨Ay, cy, rfl, hlw9, hmw9, hrw9, hbw9⟩; have Ly := Lib.hid hlw9; have My := Lib.hid hmw9; have G10 := Lib.hid (NFx.add (NFx.alloc G8.out (.cells #[.slice Ax zx.length cx, .slice Ab zb.length cb] 26)) hbw9 hrw9); clear G8; clear hrw9 hbw9 hlw9 hmw9)
    | (go_at_call 10; (with_reducible refine (H5.out _ _ _ _ _ _ _ (rdNs_two (NFx.r1 G10.out) (NFx.r0 G10.out) Lu.out Ly.out Mu.out My.out LIu.out LIy.out)).mono ?_); rintro e w11 ⟨Aq, cq, rfl, hlw11, hmw11, hrw11, hbw11⟩; have Lq := Lib.hid hlw11; have Mq := Lib.hid hmw11; have G12 := Lib.hid (NFx.add (NFx.alloc G10.out (.cells #[.slice Au U.length cu, .slice Ay Y.length cy] 26)) hbw11 hrw11); clear G10; clear hrw11 hbw11 hlw11 hmw11)
    | (go_at_call 14; (with_reducible refine (H6.out _ _ _ _ _ (NFx.r3 G12.out) (NFx.r0 G12.out)).mono ?_); rintro e w13 ⟨rfl, hbw13⟩; have G14 := Lib.hid (NFx.below G12.out hbw13); clear G12; clear hbw13))
  go_ret
  exact ⟨rfl, (NFx.bel G14.out)⟩
theorem walk (a0 : Option Addr) (n0 c0 : Nat) (z0 : List Int) (a1 : Option Addr) (n1 c1 : Nat) (z1 : List Int) (a2 : Option Addr) (n2 c2 : Nat) (z2 : List Int) (w : World) (hk : PowT w) (rd0 : Rd .u32 w w.heap.size a0 n0 z0) (lc0 : n0 ≤ c0) (cm0 : c0 ≤ maxLen) (w0 : ∀ z ∈ z0, (Lit.int .u32 z).wf = true) (rd1 : Rd .u32 w w.heap.size a1 n1 z1) (lc1 : n1 ≤ c1) (cm1 : c1 ≤ maxLen) (w1 : ∀ z ∈ z1, (Lit.int .u32 z).wf = true) (rd2 : Rd .u32 w w.heap.size a2 n2 z2) (lc2 : n2 ≤ c2) (cm2 : c2 ≤ maxLen) (w2 : ∀ z ∈ z2, (Lit.int .u32 z).wf = true) :
    Calls Tryd.prog 7 #[.slice a0 n0 c0, .slice a1 n1 c1, .slice a2 n2 c2] w fun e w' => e = .returned (.bool true) ∧ Below w.heap.size w w' := by
  have HPT := Lib.hid hk
  clear hk
  obtain rfl := rd0.len
  obtain rfl := rd1.len
  obtain rfl := rd2.len
  by_cases h : z0.length ≤ 60 ∧ z1.length ≤ 60 ∧ z2.length ≤ 60 ∧ rightN z0 = true ∧ rightN z1 = true ∧ rightN z2 = true
  · obtain ⟨h1, h2, h3, h4, h5, h6⟩ := h
    exact main_walk a0 c0 z0 a1 c1 z1 a2 c2 z2 w HPT.out rd0 lc0 cm0 (lim_of w0) rd1 lc1 cm1 (lim_of w1) rd2 lc2 cm2 (lim_of w2) h1 h2 h3 h4 h5 h6
  · refine early_walk a0 c0 z0 a1 c1 z1 a2 c2 z2 w HPT.out rd0 lc0 cm0 (lim_of w0) rd1 lc1 cm1 (lim_of w1) rd2 lc2 cm2 (lim_of w2) ?_
    by_cases h1 : 60 < z0.length
    · exact .inl h1
    · by_cases h2 : 60 < z1.length
      · exact .inr (.inl ⟨by omega, h2⟩)
      · by_cases h3 : 60 < z2.length
        · exact .inr (.inr (.inl ⟨by omega, by omega, h3⟩))
        · refine .inr (.inr (.inr ⟨by omega, by omega, by omega, ?_⟩))
          cases r0 : rightN z0
          · exact .inl rfl
          · cases r1 : rightN z1
            · exact .inr (.inl ⟨rfl, rfl⟩)
            · cases r2 : rightN z2
              · exact .inr (.inr ⟨rfl, rfl, rfl⟩)
              · exact absurd ⟨by omega, by omega, by omega, r0, r1, r2⟩ h


set_option maxRecDepth 100000 in
theorem lifted (os : Os) (started : os.Started) (H : Type) (enc : TypeId × Value → H) :
    ReturnsInHanded {} Tryd.checked os 7 .any (fun w args => (Rows.natSplitsSpec.pre enc Tryd.prog Tryd.f7 [] false w args ∧ laidMetH Tryd.prog laidP w) ∧ sizedMet enc Tryd.prog Tryd.f7 (OpenSpec.ofChange Rows.natSplitsSpec) false w args) (Rows.natSplitsSpec.post enc Tryd.prog Tryd.f7 false true false false) := by
  refine returnsInHanded_of_change_and (C := Tryd.checked) (X := fun w _ => laidMetH Tryd.prog laidP w) (fun _ _ _ hh h => h.of_heap hh) own started (by kernel_rfl) Tryd.func7
    (ChangeSpec.witness_shaped (enc := enc) (C := Tryd.checked) (os := os) (X := fun w _ => laidMetH Tryd.prog laidP w) false (World.doorLaid Tryd.prog 400 os) #[.slice none 0 0, .slice none 0 0, .slice none 0 0] 8 rfl (World.shaped_of_RefB (by kernel_rfl) (by kernel_rfl)) (by kernel_rfl) (by kernel_rfl) (by kernel_rfl) (door_metP os _)) ?_
  intro W base args ds gs before hval0 hW _ _ hL _
  have hval : ∀ (j : Nat) t v, Tryd.f7.params[j]? = some t → args[j]? = some v → Value.okWide Tryd.prog W .any base t v := hval0
  have hW' := hW
  obtain ⟨p, q, hA0, hV, rfl, hfz, hnd⟩ := hW
  have hA : DataW.TrodAll enc Tryd.prog W 0 (fun _ => true) true Tryd.f7.params.toList args.toList ds p := hA0
  rw [Tryd.params7] at hA hval
  obtain ⟨v0, vs0, d0, ds0, p0, q0, hargs, rfl, rfl, h0, r0⟩ := trodAll_cons hA
  obtain ⟨v1, vs1, d1, ds1, p1, q1, rfl, rfl, rfl, h1, r1⟩ := trodAll_cons r0
  obtain ⟨v2, vs2, d2, ds2, p2, q2, rfl, rfl, rfl, h2, r2⟩ := trodAll_cons r1
  obtain ⟨rfl, rfl, rfl⟩ := trodAll_nil r2
  obtain rfl : args = #[v0, v1, v2] := by cases args; simp_all
  obtain ⟨rfl, rfl⟩ := trodVars_none hV
  obtain ⟨a0, n0, c0, rfl⟩ := okWide_slice Tryd.underlying26 (hval 0 26 v0 rfl rfl)
  have k0 := h0
  have lt0 : ∀ x ∈ p0, x.block < W.heap.size := by obtain ⟨m, hm⟩ := k0; exact DataW.trod_lt m _ _ _ hm
  obtain ⟨z0, rd0, lc0, cm0, w0⟩ := open_rd Tryd.underlying26 Tryd.underlying45 (by kernel_rfl) h0
  obtain ⟨a1, n1, c1, rfl⟩ := okWide_slice Tryd.underlying26 (hval 1 26 v1 rfl rfl)
  have k1 := h1
  have lt1 : ∀ x ∈ p1, x.block < W.heap.size := by obtain ⟨m, hm⟩ := k1; exact DataW.trod_lt m _ _ _ hm
  obtain ⟨z1, rd1, lc1, cm1, w1⟩ := open_rd Tryd.underlying26 Tryd.underlying45 (by kernel_rfl) h1
  obtain ⟨a2, n2, c2, rfl⟩ := okWide_slice Tryd.underlying26 (hval 2 26 v2 rfl rfl)
  have k2 := h2
  have lt2 : ∀ x ∈ p2, x.block < W.heap.size := by obtain ⟨m, hm⟩ := k2; exact DataW.trod_lt m _ _ _ hm
  obtain ⟨z2, rd2, lc2, cm2, w2⟩ := open_rd Tryd.underlying26 Tryd.underlying45 (by kernel_rfl) h2
  clear hA0 hval0
  refine (walk a0 n0 c0 z0 a1 n1 c1 z1 a2 n2 c2 z2 W (powT_of_laid hL) rd0 lc0 cm0 w0 rd1 lc1 cm1 w1 rd2 lc2 cm2 w2).mono fun e W' ⟨he, bel⟩ => ?_
  subst he
  exact ⟨_, rfl, _, _, _, [], _, [], hW', trodAll_mk1 (shut_bool Tryd.underlying4 _), (trodAll_cons_mk (Below.trod laidOut (by kernel_rfl) (of_decide_eq_true (by kernel_rfl)) k0 bel lt0) (trodAll_cons_mk (Below.trod laidOut (by kernel_rfl) (of_decide_eq_true (by kernel_rfl)) k1 bel lt1) (trodAll_cons_mk (Below.trod laidOut (by kernel_rfl) (of_decide_eq_true (by kernel_rfl)) k2 bel lt2) trodAll_mk0))), rfl, bel.frame _, fun h => by cases h⟩

theorem over : Rows.natSplitsRow.holds Tryd.pinned (OpenSpec.ofChange Rows.natSplitsSpec) :=
  OpenClaim.holds_of_wide 7 Tryd.f7 rfl rfl rfl rfl rfl rfl rfl ⟨rfl, rfl, rfl, rfl, rfl⟩ rfl rfl rfl rfl rfl (by kernel_rfl) Tryd.func7 (by kernel_rfl)
    (of_decide_eq_true (by kernel_rfl)) (by unfold Func.isWrapper; first | (rw [if_pos (by decide +kernel)]; kernel_rfl) | (rw [if_neg (by decide +kernel)]; exact ⟨rfl, rfl⟩))
    (fun os started H enc _ => lifted os started H enc)

end Go.Proofs.YtoimepmignlmkaaDoor.natSplits
namespace Go.Proofs.YtoimepmignlmkaaDoor
theorem natSplits_holds : Rows.NatSplitsCardSaid :=
  Claim7.holds_tied_plain_at .later [] [.data, .data, .data] true _ false
    natSplits.over (fun _ h => by cases h) (by kernel_rfl) (fun _ h => by cases h) natSplits_row_tie rfl ⟨rfl, rfl⟩ (by kernel_rfl) rfl
    (fun f fn hf hfn => by
      obtain rfl : f = 7 := Option.some.inj ((show Tryd.prog.funcNamed "drawlot/drawlotlaw10.NatSplits" = some 7 by kernel_rfl).symm.trans hf) |>.symm
      obtain rfl : fn = Tryd.f7 := (Option.some.inj (Tryd.func7.symm.trans hfn)).symm
      exact ⟨by kernel_rfl, fun j t ht => by
        rw [Tryd.params7] at ht
        have hm : t ∈ [26, 26, 26] := by simpa using Array.mem_of_getElem? ht
        have hall : ([26, 26, 26].all fun u => !Tryd.prog.wantsStandIn u) = true := by kernel_rfl
        exact (show Tryd.prog.wantsStandIn t = false by simpa using List.all_eq_true.1 hall t hm)⟩)
    (by kernel_rfl)
#print axioms natSplits_holds
end Go.Proofs.YtoimepmignlmkaaDoor
