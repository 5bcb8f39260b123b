/-
  Any numbers' sum and product are the document's, or refused, for their reason; of up to 6 numbers of 260 limbs.
  Conditions: none.
-/
import Derived.Test.YtoimepmignlmkaaDoorLawN
import Derived.Test.YtoimepmignlmkaaDoorOpenN
import Derived.Test.YtoimepmignlmkaaDoorNatO
import Derived.ShutString
import Derived.Test.YtoimepmignlmkaaDoorNatK
import Derived.Test.YtoimepmignlmkaaDoorTie
import Derived.Test.YtoimepmignlmkaaDoorCards
import Derived.SevenTiedAt
import Derived.ChangeOld
namespace Go.Proofs.YtoimepmignlmkaaDoor.natSums
open Go.ChangeShapes Go.WideShapes Go.ChangeAt Go.RowKit
set_option linter.unusedVariables false
set_option linter.unusedSimpArgs false
set_option maxRecDepth 100000

theorem own : ownKnob Tryd.prog.godebug = none := by kernel_rfl
theorem laidOut : laidOutB Tryd.prog = true := by kernel_rfl

set_option maxHeartbeats 16000000 in
theorem walk (a0 : Option Addr) (n c0 : Nat) (z0 : List NRow) (w : World) (hk : PowT w) (rd0 : RdNs w w.heap.size a0 n z0) (lc0 : n ≤ c0) (cm0 : c0 ≤ maxLen) :
    Calls Tryd.prog 3 #[.slice a0 n c0] w fun e w' => e = .returned (.bool true) ∧ Below w.heap.size w w' := by
  have HPT := Lib.hid hk
  clear hk
  have HR := Lib.hid rd0
  have hgr := fun W h => great_c z0 a0 n c0 (Nat.le_trans lc0 cm0) W h
  have hnI : (n : Int) ≤ 9223372036854775807 := by unfold maxLen at cm0; omega
  cases hG : greatN z0 with
  | true =>
    rw [hG] at hgr
    have HGR := Lib.hid hgr
    clear hgr hG rd0 lc0 cm0
    go_enter Tryd.func3, Tryd.ntmps3
    go_wp2_with (first
      | (go_at_call 8; (with_reducible refine (alive10_c w HPT.out).mono ?_); rintro e wa ⟨rfl, hba⟩; have HB := Lib.hid hba; clear hba)
      | (go_at_call 9; (with_reducible refine (HGR.out _ (HR.out.to HB.out)).mono ?_); rintro e _ ⟨rfl, rfl⟩))
    go_ret
    exact ⟨rfl, HB.out⟩
  | false =>
    rw [hG] at hgr
    have HGR := Lib.hid hgr
    unfold greatN at hG
    rw [Bool.or_eq_false_iff] at hG
    have hn6 : n ≤ 6 := by have := of_decide_eq_false hG.1; have := rd0.1; omega
    have hsm : ∀ r ∈ z0, r.n ≤ 260 := fun r hr => by
      have := List.any_eq_false.1 hG.2 r hr
      have h2 : ¬ 260 < r.n := fun h => this (decide_eq_true h)
      omega
    have HSMR := Lib.hid hsm
    have hqa := fun A c (ds : List NRow) (hz : ds.map (·.zs) = z0.map (·.zs)) W (h : RdNs W W.heap.size A n ds) => q10add_c ds A n c (by omega) W h
    have hqm := fun A c (ds : List NRow) (hz : ds.map (·.zs) = z0.map (·.zs)) W (h : RdNs W W.heap.size A n ds) => q10mul_c ds A n c (by omega) W h
    have hra := fun W h => r10add_c z0 a0 n c0 (by omega) W h
    have hrm := fun W h => r10mul_c z0 a0 n c0 (by omega) W h
    have e1 : ∀ ds : List NRow, ds.map (·.zs) = z0.map (·.zs) → addR ds = addR z0 := fun ds h => addR_zs h
    have e2 : ∀ ds : List NRow, ds.map (·.zs) = z0.map (·.zs) → mulR ds = mulR z0 := fun ds h => mulR_zs h
    have hqa2 : ∀ A c (ds : List NRow), ds.map (·.zs) = z0.map (·.zs) → ∀ W, RdNs W W.heap.size A n ds → Calls Tryd.prog 10 #[.slice A n c] W (RetNE W (addR z0)) := fun A c ds hz W h => by rw [← e1 ds hz]; exact hqa A c ds hz W h
    have hqm2 : ∀ A c (ds : List NRow), ds.map (·.zs) = z0.map (·.zs) → ∀ W, RdNs W W.heap.size A n ds → Calls Tryd.prog 12 #[.slice A n c] W (RetNE W (mulR z0)) := fun A c ds hz W h => by rw [← e2 ds hz]; exact hqm A c ds hz W h
    obtain ⟨S, hS⟩ : ∃ S, addR z0 = S := ⟨_, rfl⟩
    obtain ⟨M, hM⟩ : ∃ S, mulR z0 = S := ⟨_, rfl⟩
    rw [hS] at hqa2 hra
    rw [hM] at hqm2 hrm
    obtain ⟨se, S⟩ := S
    obtain ⟨me, M⟩ := M
    have HSA : Hid (∀ A B c1 c2 W, Rd .u32 W W.heap.size A S.length S → Rd .u32 W W.heap.size B S.length S → S.length ≤ maxLen → Calls Tryd.prog 14 #[.slice A S.length c1, .slice B S.length c2] W fun e w' => e = .returned (.bool true) ∧ Below W.heap.size W w') := Lib.hid (fun A B c1 c2 W h h' hm => by
      have h2 := r10same_c S S A B _ _ c1 c2 hm hm W h h'
      rw [decide_eq_true rfl] at h2
      exact h2)
    have HSM : Hid (∀ A B c1 c2 W, Rd .u32 W W.heap.size A M.length M → Rd .u32 W W.heap.size B M.length M → M.length ≤ maxLen → Calls Tryd.prog 14 #[.slice A M.length c1, .slice B M.length c2] W fun e w' => e = .returned (.bool true) ∧ Below W.heap.size W w') := Lib.hid (fun A B c1 c2 W h h' hm => by
      have h2 := r10same_c M M A B _ _ c1 c2 hm hm W h h'
      rw [decide_eq_true rfl] at h2
      exact h2)
    have HQA0 := Lib.hid hqa2
    have HQM0 := Lib.hid hqm2
    have HRA := Lib.hid hra
    have HRM := Lib.hid hrm
    have HLN := Lib.hid rd0.1
    have hn6I : (n : Int) ≤ 6 := by omega
    clear hgr hG hsm hqa hqm hra hrm e1 e2 hqa2 hqm2 hS hM rd0 lc0 cm0 hnI
    go_enter Tryd.func3, Tryd.ntmps3
    go_wp2_with (first
      | (go_at_call 8; (with_reducible refine (alive10_c w HPT.out).mono ?_); rintro e wa ⟨rfl, hba⟩; have HB := Lib.hid hba; clear hba)
      | (go_at_call 9; (with_reducible refine (HGR.out _ (HR.out.to HB.out)).mono ?_); rintro e _ ⟨rfl, rfl⟩))
    have HC0 : Hid (CopyI w w.heap.size z0 (.slice none 0 0) 0 wa) := Lib.hid (CopyI.start HB.out HB.out.size)
    clear HGR
    go_loopw [3, 4] (fun v ii wr => ∃ i : Nat, i ≤ n ∧ ii = .int .i64 (i : Int) ∧ CopyI w w.heap.size z0 v i wr) (fun _ ii _ => n - (intOf ii).toNat)
    case atStart => exact ⟨0, by omega, rfl, HC0.out⟩
    case round =>
      clear HC0 HB
      obtain ⟨i, hi, rfl, hcp⟩ := hrel
      have HCP := Lib.hid hcp
      by_cases hlt : i < n
      · obtain ⟨r, b, off, hr, hA, hcell, hrr, hrc, hrm, hrl, hdr⟩ := (HR.out.to hcp.bel).row hlt
        have hi3 : (i : Int) < (n : Int) := by omega
        have hrn := hrr.len
        have hr260 : r.n ≤ 260 := HSMR.out r (List.mem_of_getElem? hr)
        have HRR := Lib.hid hrr
        have HRL := Lib.hid hrl
        have HNX := Lib.hid hr
        have HI6 : Hid (i ≤ 1000) := Lib.hid (by omega)
        have HM8 : Hid (r.n ≤ 100000000) := Lib.hid (by omega)
        have HCL : Hid ((wr.alloc (.cells #[] 45)).cell? ⟨b, off + i, none⟩ = some (.slice r.A r.n r.c)) := Lib.hid (by rw [World.cell?_alloc_lt _ _ _ (World.block_lt_of_cell? _ _ hcell)]; exact hcell)
        subst hA
        clear hr hrr hrc hrm hrl hdr hcp hrn hr260
        have hcl := HCL.out
        clear HCL hcell
        go_wp2_with (first
          | (with_reducible refine at_any ?_; refine at_dst 30 rfl ?_; refine wpList_nat_copy wr rfl (.tmp 25) (.tmp 29) rfl rfl r.A r.n r.c r.zs rfl HRR.out HM8.out ?_; intro A7 c7 w7 hb7 hown7 hl7 hm7; have HO7 := Lib.hid hown7.out; have HB7 := Lib.hid hb7; have HC7 := Lib.hid (HCP.out.keep hb7); clear hb7 hown7 hl7 hm7)
          | (with_reducible refine at_any ?_; refine at_dst 32 rfl ?_; refine CopyI.append HC7.out HO7.out HRL.out HNX.out HI6.out rfl (.tmp 24) (.tmp 31) rfl rfl rfl ?_; intro v8 w8 hc8; have HC8 := Lib.hid hc8.out; clear hc8))
        go_roundw
        case rel => exact ⟨i + 1, by omega, by go_num, HC8.out⟩
        case measure => simp [intOf]; omega
      · obtain rfl : i = n := by omega
        obtain ⟨A7, c7, ds, hv, hds, hzs⟩ := hcp.done HLN.out
        subst hv
        have hbl := hcp.bel
        have S0 : Hid (SumS w A7 a0 i ds z0 [] wr) := Lib.hid ⟨hds, HR.out.to hbl, hbl⟩
        have HQA := Lib.hid (HQA0.out A7 c7 ds hzs)
        have HQM := Lib.hid (HQM0.out A7 c7 ds hzs)
        have HZS := Lib.hid hzs
        clear hds hzs hbl hcp HCP HQA0 HQM0
        go_wp2_with (first
          | (go_at_call 10; (with_reducible refine (HQA.out _ (SumS.own S0.out)).mono ?_); rintro e w1 ⟨Aa, ca, rfl, hlw1, hmw1, hrw1, hbw1⟩; have La := Lib.hid hlw1; have Ma := Lib.hid hmw1; have G2 := Lib.hid (SumS.add S0.out hbw1 hrw1); clear S0; clear hrw1 hbw1 hlw1 hmw1)
          | (go_at_call 11; (with_reducible refine (HRA.out _ (SumS.arg G2.out)).mono ?_); rintro e w3 ⟨Ab, cb, rfl, hlw3, hmw3, hrw3, hbw3⟩; have Lb := Lib.hid hlw3; have Mb := Lib.hid hmw3; have G4 := Lib.hid (SumS.add G2.out hbw3 hrw3); clear G2; clear hrw3 hbw3 hlw3 hmw3)
          | (go_at_call 12; (with_reducible refine (HQM.out _ (SumS.own G4.out)).mono ?_); rintro e w5 ⟨Ax, cx, rfl, hlw5, hmw5, hrw5, hbw5⟩; have Lx := Lib.hid hlw5; have Mx := Lib.hid hmw5; have G6 := Lib.hid (SumS.add G4.out hbw5 hrw5); clear G4; clear hrw5 hbw5 hlw5 hmw5)
          | (go_at_call 13; (with_reducible refine (HRM.out _ (SumS.arg G6.out)).mono ?_); rintro e w7 ⟨Ay, cy, rfl, hlw7, hmw7, hrw7, hbw7⟩; have Ly := Lib.hid hlw7; have My := Lib.hid hmw7; have G8 := Lib.hid (SumS.add G6.out hbw7 hrw7); clear G6; clear hrw7 hbw7 hlw7 hmw7))
        have HF0 := G8.out
        clear G8
        obtain ⟨wo, hwo⟩ : ∃ wo : World, wo = w7 := ⟨_, rfl⟩
        rw [← hwo] at HF0
        rw [← hwo]
        have HF1 := Lib.hid HF0
        clear hwo HF0
        go_loopw [13] (fun ii wr => ∃ k : Nat, k ≤ i ∧ ii = .int .i64 (k : Int) ∧ SumS w A7 a0 i ds z0 [(Ay, M), (Ax, M), (Ab, S), (Aa, S)] wr) (fun ii _ => i - (intOf ii).toNat)
        case atStart => exact ⟨0, by omega, rfl, HF1.out⟩
        case round =>
          clear HF1
          obtain ⟨k, hk, rfl, hss⟩ := hrel
          have HSS := Lib.hid hss
          by_cases hlt2 : k < i
          · obtain ⟨dr, b1, o1, hd1, hA7, _, hrr1, _, hrm1, _, _⟩ := hss.own.row hlt2
            obtain ⟨rr, b2, o2, hd2, hA0, _, hrr2, _, hrm2, _, _⟩ := hss.arg.row hlt2
            subst hA7 hA0
            have hzz : dr.zs = rr.zs := by
              have h : (ds.map (·.zs))[k]? = (z0.map (·.zs))[k]? := by rw [HZS.out]
              rw [List.getElem?_map, List.getElem?_map, hd1, hd2] at h
              simpa using h
            have hln1 : dr.n = rr.zs.length := by rw [← hrr1.len, hzz]
            have hln2 : rr.n = rr.zs.length := hrr2.len.symm
            have HD1 := Lib.hid (fun W (h : SumS w (some ⟨b1, o1, none⟩) (some ⟨b2, o2, none⟩) i ds z0 [(Ay, M), (Ax, M), (Ab, S), (Aa, S)] W) => show W.cell? ⟨b1, o1 + k, none⟩ = some (.slice dr.A rr.zs.length dr.c) from (h.own.cell hd1 hlt2).trans (by rw [hln1]))
            have HD2 := Lib.hid (fun W (h : SumS w (some ⟨b1, o1, none⟩) (some ⟨b2, o2, none⟩) i ds z0 [(Ay, M), (Ax, M), (Ab, S), (Aa, S)] W) => show W.cell? ⟨b2, o2 + k, none⟩ = some (.slice rr.A rr.zs.length rr.c) from (h.arg.cell hd2 hlt2).trans (by rw [hln2]))
            have HD3 := Lib.hid (fun W (h : SumS w (some ⟨b1, o1, none⟩) (some ⟨b2, o2, none⟩) i ds z0 [(Ay, M), (Ax, M), (Ab, S), (Aa, S)] W) => show Rd .u32 W W.heap.size dr.A rr.zs.length rr.zs by have h2 := h.own.read hd1; rwa [hln1, hzz] at h2)
            have HD4 := Lib.hid (fun W (h : SumS w (some ⟨b1, o1, none⟩) (some ⟨b2, o2, none⟩) i ds z0 [(Ay, M), (Ax, M), (Ab, S), (Aa, S)] W) => show Rd .u32 W W.heap.size rr.A rr.zs.length rr.zs by have h2 := h.arg.read hd2; rwa [hln2] at h2)
            have hsz := fun W h h' => r10same_c rr.zs rr.zs dr.A rr.A rr.zs.length rr.zs.length dr.c rr.c (by omega) (by omega) W h h'
            rw [decide_eq_true rfl] at hsz
            have HSZ := Lib.hid hsz
            have HI2 := Lib.hid (show (k : Int) < (i : Int) by omega)
            have hk3 : (k : Int) < (i : Int) := by omega
            obtain ⟨DA, hDA⟩ : ∃ x, dr.A = x := ⟨_, rfl⟩
            obtain ⟨dc, hdc⟩ : ∃ x, dr.c = x := ⟨_, rfl⟩
            obtain ⟨RA, hRA⟩ : ∃ x, rr.A = x := ⟨_, rfl⟩
            obtain ⟨rc, hrc⟩ : ∃ x, rr.c = x := ⟨_, rfl⟩
            obtain ⟨z, hz⟩ : ∃ x, rr.zs = x := ⟨_, rfl⟩
            rw [hDA, hdc, hz] at HD1
            rw [hRA, hrc, hz] at HD2
            rw [hDA, hz] at HD3
            rw [hRA, hz] at HD4
            rw [hDA, hdc, hRA, hrc, hz] at HSZ
            clear hsz hd1 hd2 hrr1 hrr2 hrm1 hrm2 hzz hln1 hln2 hDA hdc hRA hrc hz hss hlt2
            go_wp2
            refine wp_region_held_drew (S := (SumS w (some ⟨b1, o1, none⟩) (some ⟨b2, o2, none⟩) i ds z0 [(Ay, M), (Ax, M), (Ab, S), (Aa, S)])) (by kernel_rfl) (HSS.out.drew) (fun hH => ?_)
            refine wpAnyH_letter #[false, false, false, false, false, false, false, false, false, false] (by kernel_rfl) (fun _ _ d _ _ h => by cases d <;> exact h) (fun QL HQ1 HQ2 => ?_)
            refine held_v 0 (some 59) rfl (by kernel_rfl) (by kernel_rfl) (by kernel_rfl) (by kernel_rfl) (fun c a v w h => HQ2.out c a _ v w h) (by kernel_rfl) (.slice (some ⟨b1, o1, none⟩) i c7) (fun W h => by kernel_rfl) hH ?_
            try simp only [Act.put, List.setIfInBounds_toArray, List.set_cons_zero, List.set_cons_succ]
            refine held_v 1 (some 60) rfl (by kernel_rfl) (by kernel_rfl) (by kernel_rfl) (by kernel_rfl) (fun c a v w h => HQ2.out c a _ v w h) (by kernel_rfl) (.int .i64 (k : Int)) (fun W h => by kernel_rfl) hH ?_
            try simp only [Act.put, List.setIfInBounds_toArray, List.set_cons_zero, List.set_cons_succ]
            refine held_v 2 (some 61) rfl (by kernel_rfl) (by kernel_rfl) (by kernel_rfl) (by kernel_rfl) (fun c a v w h => HQ2.out c a _ v w h) (by kernel_rfl) (.pointer (some ⟨b1, o1 + k, none⟩)) (fun W h => by have p := HI2.out; go_simp) hH ?_
            try simp only [Act.put, List.setIfInBounds_toArray, List.set_cons_zero, List.set_cons_succ]
            refine held_v 3 (some 62) rfl (by kernel_rfl) (by kernel_rfl) (by kernel_rfl) (by kernel_rfl) (fun c a v w h => HQ2.out c a _ v w h) (by kernel_rfl) (.slice DA z.length dc) (fun W h => by have p := HD1.out W h; go_simp) hH ?_
            try simp only [Act.put, List.setIfInBounds_toArray, List.set_cons_zero, List.set_cons_succ]
            refine held_v 4 (some 63) rfl (by kernel_rfl) (by kernel_rfl) (by kernel_rfl) (by kernel_rfl) (fun c a v w h => HQ2.out c a _ v w h) (by kernel_rfl) (.slice (some ⟨b2, o2, none⟩) i c0) (fun W h => by kernel_rfl) hH ?_
            try simp only [Act.put, List.setIfInBounds_toArray, List.set_cons_zero, List.set_cons_succ]
            refine held_v 5 (some 64) rfl (by kernel_rfl) (by kernel_rfl) (by kernel_rfl) (by kernel_rfl) (fun c a v w h => HQ2.out c a _ v w h) (by kernel_rfl) (.int .i64 (k : Int)) (fun W h => by kernel_rfl) hH ?_
            try simp only [Act.put, List.setIfInBounds_toArray, List.set_cons_zero, List.set_cons_succ]
            refine held_v 6 (some 65) rfl (by kernel_rfl) (by kernel_rfl) (by kernel_rfl) (by kernel_rfl) (fun c a v w h => HQ2.out c a _ v w h) (by kernel_rfl) (.pointer (some ⟨b2, o2 + k, none⟩)) (fun W h => by have p := HI2.out; go_simp) hH ?_
            try simp only [Act.put, List.setIfInBounds_toArray, List.set_cons_zero, List.set_cons_succ]
            refine held_v 7 (some 66) rfl (by kernel_rfl) (by kernel_rfl) (by kernel_rfl) (by kernel_rfl) (fun c a v w h => HQ2.out c a _ v w h) (by kernel_rfl) (.slice RA z.length rc) (fun W h => by have p := HD2.out W h; go_simp) hH ?_
            try simp only [Act.put, List.setIfInBounds_toArray, List.set_cons_zero, List.set_cons_succ]
            refine wpAnyH_ready (rs := [8]) (by kernel_rfl) (by decide) ?_
            refine AllReadyH.cons rfl (fun K hK => ?_) AllReadyH.nil
            refine step_call (some 67) (by kernel_rfl) (by kernel_rfl) _ _ (by kernel_rfl) _ (HSZ.out _ (HD3.out _ hH) (HD4.out _ hH)) ?_
            rintro e w41 ⟨rfl, hbw41⟩
            refine ⟨_, rfl, ?_⟩
            refine hK.out _ _ (hH.below hbw41) (fun hw41 => ?_)
            clear hK K
            try simp only [Act.put, List.setIfInBounds_toArray, List.set_cons_zero, List.set_cons_succ]
            refine held_v 9 (some 68) rfl (by kernel_rfl) (by kernel_rfl) (by kernel_rfl) (by kernel_rfl) (fun c a v w h => HQ2.out c a _ v w h) (by kernel_rfl) (.bool false) (fun W h => by kernel_rfl) hw41 ?_
            try simp only [Act.put, List.setIfInBounds_toArray, List.set_cons_zero, List.set_cons_succ]
            refine wpAnyH_done (by kernel_rfl) ?_ _
            refine HQ1.out _ _ ?_
            clear HQ1 HQ2
            have HN := Lib.hid hw41
            go_wp2
            go_roundw
            case rel => exact ⟨k + 1, by omega, by go_num, HN.out⟩
            case measure => simp [intOf]; omega
          · obtain rfl : k = i := by omega
            have Z0 := HSS
            clear hss HSS
            go_wp2_with (first
              | (go_at_call 14; (with_reducible refine (HSA.out _ _ _ _ _ (NFx.r3 (SumS.fx Z0.out)) (NFx.r2 (SumS.fx Z0.out)) (Nat.le_trans La.out Ma.out)).mono ?_); rintro e w61 ⟨rfl, hbw61⟩; have G62 := Lib.hid (SumS.below Z0.out hbw61); clear Z0; clear hbw61)
              | (go_at_call 14; (with_reducible refine (HSM.out _ _ _ _ _ (NFx.r1 (SumS.fx G62.out)) (NFx.r0 (SumS.fx G62.out)) (Nat.le_trans Lx.out Mx.out)).mono ?_); rintro e w63 ⟨rfl, hbw63⟩; have G64 := Lib.hid (SumS.below G62.out hbw63); clear G62; clear hbw63))
            go_ret
            exact ⟨rfl, (NFx.bel (SumS.fx G64.out))⟩


set_option maxRecDepth 100000 in
theorem lifted (os : Os) (started : os.Started) (H : Type) (enc : TypeId × Value → H) :
    ReturnsInHanded {} Tryd.checked os 3 .any (fun w args => (Rows.natSumsSpec.pre enc Tryd.prog Tryd.f3 [] false w args ∧ laidMetH Tryd.prog laidP w) ∧ sizedMet enc Tryd.prog Tryd.f3 (OpenSpec.ofChange Rows.natSumsSpec) false w args) (Rows.natSumsSpec.post enc Tryd.prog Tryd.f3 false true false false) := by
  refine returnsInHanded_of_change_and (C := Tryd.checked) (X := fun w _ => laidMetH Tryd.prog laidP w) (fun _ _ _ hh h => h.of_heap hh) own started (by kernel_rfl) Tryd.func3
    (ChangeSpec.witness_shaped (enc := enc) (C := Tryd.checked) (os := os) (X := fun w _ => laidMetH Tryd.prog laidP w) false (World.doorLaid Tryd.prog 400 os) #[.slice none 0 0] 8 rfl (World.shaped_of_RefB (by kernel_rfl) (by kernel_rfl)) (by kernel_rfl) (by kernel_rfl) (by kernel_rfl) (door_metP os _)) ?_
  intro W base args ds gs before hval0 hW _ _ hL _
  have hval : ∀ (j : Nat) t v, Tryd.f3.params[j]? = some t → args[j]? = some v → Value.okWide Tryd.prog W .any base t v := hval0
  have hW' := hW
  obtain ⟨p, q, hA0, hV, rfl, hfz, hnd⟩ := hW
  have hA : DataW.TrodAll enc Tryd.prog W 0 (fun _ => true) true Tryd.f3.params.toList args.toList ds p := hA0
  rw [Tryd.params3] at hA hval
  obtain ⟨v0, vs0, d0, ds0, p0, q0, hargs, rfl, rfl, h0, r0⟩ := trodAll_cons hA
  obtain ⟨rfl, rfl, rfl⟩ := trodAll_nil r0
  obtain rfl : args = #[v0] := by cases args; simp_all
  obtain ⟨rfl, rfl⟩ := trodVars_none hV
  obtain ⟨a0, n0, c0, rfl⟩ := okWide_slice Tryd.underlying22 (hval 0 22 v0 rfl rfl)
  have k0 := h0
  have lt0 : ∀ x ∈ p0, x.block < W.heap.size := by obtain ⟨m, hm⟩ := k0; exact DataW.trod_lt m _ _ _ hm
  obtain ⟨z0, rd0, lc0, cm0⟩ := open_nrows Tryd.underlying22 Tryd.underlying26 Tryd.underlying45 (by kernel_rfl) (by kernel_rfl) h0
  clear hA0 hval0
  refine (walk a0 n0 c0 z0 W (powT_of_laid hL) rd0 lc0 cm0).mono fun e W' ⟨he, bel⟩ => ?_
  subst he
  exact ⟨_, rfl, _, _, _, [], _, [], hW', trodAll_mk1 (shut_bool Tryd.underlying4 _), (trodAll_cons_mk (Below.trod laidOut (by kernel_rfl) (of_decide_eq_true (by kernel_rfl)) k0 bel lt0) trodAll_mk0), rfl, bel.frame _, fun h => by cases h⟩

theorem over : Rows.natSumsRow.holds Tryd.pinned (OpenSpec.ofChange Rows.natSumsSpec) :=
  OpenClaim.holds_of_wide 3 Tryd.f3 rfl rfl rfl rfl rfl rfl rfl ⟨rfl, rfl, rfl, rfl, rfl⟩ rfl rfl rfl rfl rfl (by kernel_rfl) Tryd.func3 (by kernel_rfl)
    (of_decide_eq_true (by kernel_rfl)) (by unfold Func.isWrapper; first | (rw [if_pos (by decide +kernel)]; kernel_rfl) | (rw [if_neg (by decide +kernel)]; exact ⟨rfl, rfl⟩))
    (fun os started H enc _ => lifted os started H enc)

end Go.Proofs.YtoimepmignlmkaaDoor.natSums
namespace Go.Proofs.YtoimepmignlmkaaDoor
theorem natSums_holds : Rows.NatSumsCardSaid :=
  Claim7.holds_tied_plain_at .later [] [.data, .data, .data] true _ false
    natSums.over (fun _ h => by cases h) (by kernel_rfl) (fun _ h => by cases h) natSums_row_tie rfl ⟨rfl, rfl⟩ (by kernel_rfl) rfl
    (fun f fn hf hfn => by
      obtain rfl : f = 3 := Option.some.inj ((show Tryd.prog.funcNamed "drawlot/drawlotlaw10.NatSums" = some 3 by kernel_rfl).symm.trans hf) |>.symm
      obtain rfl : fn = Tryd.f3 := (Option.some.inj (Tryd.func3.symm.trans hfn)).symm
      exact ⟨by kernel_rfl, fun j t ht => by
        rw [Tryd.params3] at ht
        have hm : t ∈ [22] := by simpa using Array.mem_of_getElem? ht
        have hall : ([22].all fun u => !Tryd.prog.wantsStandIn u) = true := by kernel_rfl
        exact (show Tryd.prog.wantsStandIn t = false by simpa using List.all_eq_true.1 hall t hm)⟩)
    (by kernel_rfl)
#print axioms natSums_holds
end Go.Proofs.YtoimepmignlmkaaDoor
