/-
  Who owns a ticket: the landed tree's descent from its highest bit.
  Conditions: the tree is that of a list of stakes; the library's table of trailing zeros is as the program's text lays it.
-/
import Derived.Test.YtilccjjagdedaaaDoorFenD
set_option maxRecDepth 100000
set_option linter.unusedVariables false
set_option linter.unusedSimpArgs false
namespace Go.Proofs.YtilccjjagdedaaaDoor
open Go.ChangeShapes Go.WideShapes Go.ChangeAt Go.RowKit
theorem ret_iiF {a b c d : Int} (h : a = b) (h2 : c = d) : Ending.returned (.tuple #[.int .i64 a, .int .i64 c]) = .returned (.tuple #[.int .i64 b, .int .i64 d]) := by rw [h, h2]
theorem fx_start {w w1 : World} {A : Option Addr} {m c : Nat} {ts : List Int} (hk : Blk w1 w.heap.size 26 #[.slice A m c]) (hr : Rd .u64 w w.heap.size A m ts) (hb : Below w.heap.size w w1) : Fx [.blk w.heap.size 26 #[.slice A m c], .rdb .u64 w.heap.size A m ts, .bel w] w1 :=
  ⟨hk, ⟨hr.below hb, hb.size⟩, hb, trivial⟩
set_option maxHeartbeats 8000000 in
theorem q11owner_c (l : List Int) (hz : ∀ z ∈ l, 0 ≤ z) (hs : sumL l < 9223372036854775808) (hl : l.length ≤ 1048576) (A : Option Addr) (m c : Nat) (hm : l.length = m) (hc : m ≤ c) (hcm : c ≤ maxLen) (t : Int) (t0 : 0 ≤ t) (t1 : t < 18446744073709551616) (w : World) (hT : TzT w) (hrd : Rd .u64 w w.heap.size A m (treeL l)) : Calls Tryd.prog 7 #[.agg #[.slice A m c], .int .u64 t] w fun e w' => e = .returned (.tuple #[.int .i64 (ownV l t), .int .i64 (ownE l t)]) ∧ Below w.heap.size w w' := by
  have HTT := Lib.hid hT
  have htot := fun W hW h => q11total_c l hz hs hl A m c hm hc hcm W hW h
  have hmI : (m : Int) ≤ 1048576 := by omega
  have hno : ¬ t < sumL l → ownV l t = 0 ∧ ownE l t = 3 := fun h => own_no hz (by omega)
  have HIS := Lib.hid (fun o (h : o < m) h1 h2 => own_is hz (t := t) (o := o) t0 (by omega) h1 h2)
  have HALL : Hid (preL l m = sumL l) := Lib.hid (by rw [← hm, preL_all])
  have HMID := Lib.hid (fun n s k (h1 : s = 2 ^ k) (h2 : 2 * s ∣ n) (h3 : n + s ≤ m) => tree_mid (l := l) h1 h2 (by omega))
  have HMO := Lib.hid (fun a b (h : a ≤ b) => preL_mono hz (l := l) h)
  have HNN := Lib.hid (fun a => preL_nn hz (l := l) a)
  have HLE := Lib.hid (fun a => Int.lt_of_le_of_lt (preL_le hz (l := l) a) hs)
  have hm0 : t < sumL l → 0 < m := fun h => by
    rcases Nat.eq_zero_or_pos m with h0 | h0
    · have : sumL l = 0 := by rw [← HALL.out, h0]; rfl
      omega
    · exact h0
  obtain ⟨x, hx⟩ : ∃ x, sumL l = x := ⟨_, rfl⟩
  obtain ⟨ts, hts⟩ : ∃ x, treeL l = x := ⟨_, rfl⟩
  rw [hx] at htot hno HALL hm0 hs
  rw [hts] at htot hrd HMID
  have HR := Lib.hid hrd
  have HTO := Lib.hid htot
  by_cases htx : t < x
  · have hmp := hm0 htx
    have hmp2 : (1 : Int) ≤ (m : Int) := by omega
    have HTX := Lib.hid htx
    obtain ⟨k0, -, hk1, hk2⟩ := bitLen_is m (by omega) (by omega)
    have HHI := Lib.hid (fun W => q11high_c m k0 hk1 hk2 (by omega) W)
    obtain ⟨g, off, hA, -, hcc⟩ := hrd.at_ hmp
    have HCELL : Hid (∀ j, j < m → ∀ W, Rd .u64 W W.heap.size A m ts → W.cell? ⟨g, off + j, none⟩ = some (.int .u64 (ts.getD j 0))) := Lib.hid (fun j hj W h => by
      obtain ⟨g2, off2, e1, -, e2⟩ := h.at_ hmp
      rw [hA] at e1
      injection e1 with e1
      injection e1 with e1 e3
      subst e1 e3
      exact e2 j hj)
    subst hA
    obtain ⟨A, hA⟩ : ∃ A : Option Addr, (some ⟨g, off, none⟩ : Option Addr) = A := ⟨_, rfl⟩
    have HA := Lib.hid hA
    have hntx : ¬ x ≤ t := by omega
    rw [hA] at HR HTO HCELL ⊢
    have HST : Hid (0 + 2 ^ (k0 + 1) ≤ m → t < preL l (0 + 2 ^ (k0 + 1))) := Lib.hid (fun h => absurd h (by omega))
    have hpk0 : 2 ^ (k0 + 1) = 2 * 2 ^ k0 := by rw [Nat.pow_succ, Nat.mul_comm]
    have HSM : Hid (2 ^ (k0 + 1) ≤ 2097152) := Lib.hid (by omega)
    have HSD : Hid (((2 ^ (k0 + 1) / 2 : Nat) : Int) = ((2 ^ k0 : Nat) : Int)) := Lib.hid (by rw [show 2 ^ (k0 + 1) = 2 * 2 ^ k0 by rw [Nat.pow_succ, Nat.mul_comm], Nat.mul_div_cancel_left _ (by omega)])
    have HP0 := Lib.hid hmp
    obtain ⟨sd, hsd⟩ : ∃ z : Int, ((2 ^ k0 : Nat) : Int) = z := ⟨_, rfl⟩
    rw [hsd] at HHI HSD
    clear hrd htot hno hm0 hz hl hm hc hcm hx hk1 hk2 hcc hts hT hA hsd hpk0
    go_enter Tryd.func7, Tryd.ntmps7
    go_wp2_with (first
      | (with_reducible refine at_any ?_; refine at_dst 2 rfl ?_; refine wpList_box_any rfl 26 (.tmp 0) rfl #[.slice A m c] rfl ?_; intro w1 hk1 hs1 hb1; have G1 := Lib.hid (fx_start hk1.out HR.out hb1); clear hk1 hs1 hb1)
      | (with_reducible refine at_any ?_; refine at_dst 11 rfl ?_; refine wpList_load_fen (by kernel_rfl) (.tmp 2) rfl w.heap.size rfl 26 (.slice A m c) (Fx.b0 G1.out) ?_)
      | (go_at_call 15; (with_reducible refine (HTO.out _ (HTT.out.below (Fx.e2 G1.out)) (Fx.r1 G1.out)).mono ?_); rintro e w2 ⟨rfl, hb2⟩; have G2 := Lib.hid (Fx.below G1.out hb2); clear hb2)
      | (with_reducible refine at_any ?_; refine at_dst 15 rfl ?_; refine wpList_load_fen (by kernel_rfl) (.tmp 2) rfl w.heap.size rfl 26 (.slice A m c) (Fx.b0 G2.out) ?_)
      | (go_at_call 17; (with_reducible refine (q11len_c A m c _).mono ?_); rintro e w3 ⟨rfl, hb3⟩; have G3 := Lib.hid (Fx.below G2.out hb3); clear hb3)
      | (go_at_call 16; (with_reducible refine (HHI.out _).mono ?_); rintro e _ ⟨rfl, rfl⟩))
    obtain ⟨gB, hgB⟩ : ∃ g, w.heap.size = g := ⟨_, rfl⟩
    have G9 : Hid (Fx [.blk gB 26 #[.slice A m c], .rdb .u64 w.heap.size A m ts, .bel w] w3) := Lib.hid (by rw [← hgB]; exact G3.out)
    rw [hgB]
    clear hgB G3
    go_loopw [6, 7, 8] (fun nn tt ss wr => ∃ (K n : Nat), ss = .int .i64 ((2 ^ K / 2 : Nat) : Int) ∧ nn = .int .i64 (n : Int) ∧ tt = .int .u64 (t - preL l n) ∧ 2 ^ K ≤ 2097152 ∧ 2 ^ K ∣ n ∧ n < m ∧ preL l n ≤ t ∧ (n + 2 ^ K ≤ m → t < preL l (n + 2 ^ K)) ∧ Fx [.blk gB 26 #[.slice A m c], .rdb .u64 w.heap.size A m ts, .bel w] wr) (fun _ _ ss _ => (intOf ss).toNat)
    case atStart => exact ⟨k0 + 1, 0, by rw [HSD.out], rfl, by rw [show preL l 0 = 0 from rfl, Int.sub_zero], HSM.out, ⟨0, rfl⟩, HP0.out, t0, HST.out, G9.out⟩
    case round =>
      clear HST HSM HSD G9 HHI HTO
      obtain ⟨K, n, rfl, rfl, rfl, hKm, hdv, hnm, hpn, hnx, hG⟩ := hrel
      have G11 := Lib.hid hG
      clear hG
      have hnmI : (n : Int) < (m : Int) := by omega
      have hn0I : (0 : Int) ≤ (n : Int) := by omega
      cases K with
      | zero =>
        obtain ⟨e1, e2⟩ := HIS.out n hnm hpn (by have h := hnx (by rw [Nat.pow_zero]; omega); rw [Nat.pow_zero] at h; exact h)
        have E1 := Lib.hid e1
        have E2 := Lib.hid e2
        rw [show ((2 ^ 0 / 2 : Nat) : Int) = 0 from rfl]
        clear hKm hdv hnm hpn hnx e1 e2
        go_wp2
        go_ret2
        exact ⟨ret_iiF E1.out.symm E2.out.symm, Fx.e2 G11.out⟩
      | succ k =>
        have hnk : 2 ^ (k + 1) = 2 * 2 ^ k := by rw [Nat.pow_succ, Nat.mul_comm]
        have hk1 : 1 ≤ 2 ^ k := Nat.one_le_two_pow
        have hmid := HMID.out n (2 ^ k) k rfl (by rw [← hnk]; exact hdv)
        have hd2 : 2 ^ k ∣ n := Nat.dvd_trans ⟨2, by rw [hnk, Nat.mul_comm]⟩ hdv
        rw [hnk] at hKm hnx
        rw [show 2 ^ (k + 1) / 2 = 2 ^ k by rw [hnk, Nat.mul_div_cancel_left _ (by omega)]]
        have hq : ((2 ^ k : Nat) : Int) / 2 = ((2 ^ k / 2 : Nat) : Int) := by omega
        have hqm : ((2 ^ k / 2 : Nat) : Int).toNat < (((2 ^ k : Nat) : Int)).toNat := by omega
        have HKM : Hid (2 ^ k ≤ 2097152) := Lib.hid (by omega)
        have HD2 := Lib.hid hd2
        have HDS : Hid (2 ^ k ∣ n + 2 ^ k) := Lib.hid (Nat.dvd_add hd2 (Nat.dvd_refl _))
        have hp0 := HNN.out n
        have hpl := HLE.out n
        by_cases hle : n + 2 ^ k < m
        · have hcell := hmid (by omega)
          have hck := HCELL.out (n + 2 ^ k - 1) (by omega)
          rw [hcell] at hck
          have hp1 := HMO.out n (n + 2 ^ k) (by omega)
          have hp2 := HLE.out (n + 2 ^ k)
          by_cases hgo : preL l (n + 2 ^ k) ≤ t
          · have HNX : Hid (n + 2 ^ k + 2 ^ k ≤ m → t < preL l (n + 2 ^ k + 2 ^ k)) := Lib.hid (fun h => by have h2 := hnx (by omega); rw [show n + 2 * 2 ^ k = n + 2 ^ k + 2 ^ k by omega] at h2; exact h2)
            have HRL := Lib.hid hgo
            obtain ⟨s, hsk⟩ : ∃ s, 2 ^ k = s := ⟨_, rfl⟩
            rw [hsk] at hk1 hle hck hp1 hp2 hgo hq HKM hqm ⊢
            have HSK := Lib.hid hsk
            obtain ⟨q, hqq⟩ : ∃ q, n + s - 1 = q := ⟨_, rfl⟩
            rw [hqq] at hck
            have HP1 : Hid (t - preL l n - (preL l (n + s) - preL l n) = t - preL l (n + s)) := Lib.hid (by omega)
            obtain ⟨u, hu⟩ : ∃ u, t - preL l n = u := ⟨_, rfl⟩
            obtain ⟨z, hzz⟩ : ∃ z, preL l (n + s) - preL l n = z := ⟨_, rfl⟩
            rw [hu, hzz] at HP1
            rw [hzz] at hck
            rw [hu]
            have HCK := Lib.hid hck
            have u0 : 0 ≤ u := by omega
            have u1 : u < 18446744073709551616 := by omega
            have z0 : 0 ≤ z := by omega
            have zu : z ≤ u := by omega
            have hsI : (1 : Int) ≤ (s : Int) := by omega
            have hsM : (n : Int) + (s : Int) < (m : Int) := by omega
            have hqI : (n : Int) + (s : Int) - 1 = (q : Int) := by omega
            have hqm2 : (q : Int) < (m : Int) := by omega
            have hq0 : (0 : Int) ≤ (q : Int) := by omega
            obtain ⟨sh, hsh⟩ : ∃ x : Int, ((s / 2 : Nat) : Int) = x := ⟨_, rfl⟩
            have HSH : Hid (sh = ((s / 2 : Nat) : Int)) := Lib.hid hsh.symm
            have hsh0 : 0 ≤ sh ∧ sh ≤ 1048576 := by omega
            obtain ⟨hsh1, hsh2⟩ := hsh0
            rw [hsh] at hq hqm
            have HQM := Lib.hid hqm
            have HLEM := Lib.hid hle
            have HAA := HA.out
            subst HAA
            clear hmid hcell hp0 hpl hp1 hp2 hgo hnk hk1 hd2 hKm hdv hnm hpn hnx hsk hqq hu hzz hsh hqm hck hle
            go_wp2_with (first
              | (with_reducible refine at_any ?_; refine at_dst 26 rfl ?_; refine wpList_load_fen (by kernel_rfl) (.tmp 2) rfl gB rfl 26 _ (Fx.b0 G11.out) ?_)
              | (go_at_call 17; (with_reducible refine (q11len_c _ m c _).mono ?_); rintro e w12 ⟨rfl, hb12⟩; have G12 := Lib.hid (Fx.below G11.out hb12); have c12 := Blk.cell0 (Fx.b0 G12.out); have z12 := HCK.out _ (Fx.r1 G12.out); clear hb12))
            go_quiet (fail)
            go_wp2
            go_roundw
            case rel => exact ⟨k, n + s, by rw [HSK.out, HSH.out], by go_num, by rw [HP1.out], by rw [HSK.out]; exact HKM.out, by have h := HDS.out; rw [HSK.out] at h ⊢; exact h, HLEM.out, by have h := HRL.out; rw [HSK.out] at h; exact h, by have h := HNX.out; rw [HSK.out] at h ⊢; exact h, Fx.below G12.out (below_drewN (Below.refl _ _) _)⟩
            case measure => exact HQM.out
          · have HRN : Hid (t < preL l (n + 2 ^ k)) := Lib.hid (by omega)
            have HNM := Lib.hid hnm
            have HPN := Lib.hid hpn
            obtain ⟨s, hsk⟩ : ∃ s, 2 ^ k = s := ⟨_, rfl⟩
            rw [hsk] at hk1 hle hck hp1 hp2 hgo hq HKM hqm ⊢
            have HSK := Lib.hid hsk
            obtain ⟨q, hqq⟩ : ∃ q, n + s - 1 = q := ⟨_, rfl⟩
            rw [hqq] at hck
            obtain ⟨u, hu⟩ : ∃ u, t - preL l n = u := ⟨_, rfl⟩
            obtain ⟨z, hzz⟩ : ∃ z, preL l (n + s) - preL l n = z := ⟨_, rfl⟩
            rw [hzz] at hck
            rw [hu]
            have HU := Lib.hid hu
            have HCK := Lib.hid hck
            have u0 : 0 ≤ u := by omega
            have zu : ¬ z ≤ u := by omega
            have hsI : (1 : Int) ≤ (s : Int) := by omega
            have hsM : (n : Int) + (s : Int) < (m : Int) := by omega
            have hqI : (n : Int) + (s : Int) - 1 = (q : Int) := by omega
            have hqm2 : (q : Int) < (m : Int) := by omega
            have hq0 : (0 : Int) ≤ (q : Int) := by omega
            obtain ⟨sh, hsh⟩ : ∃ x : Int, ((s / 2 : Nat) : Int) = x := ⟨_, rfl⟩
            have HSH : Hid (sh = ((s / 2 : Nat) : Int)) := Lib.hid hsh.symm
            have hsh0 : 0 ≤ sh ∧ sh ≤ 1048576 := by omega
            obtain ⟨hsh1, hsh2⟩ := hsh0
            rw [hsh] at hq hqm
            have HQM := Lib.hid hqm
            have HAA := HA.out
            subst HAA
            clear hmid hcell hp0 hpl hp1 hp2 hgo hnk hk1 hd2 hKm hdv hnm hpn hnx hsk hqq hu hzz hsh hqm hck hle
            go_wp2_with (first
              | (with_reducible refine at_any ?_; refine at_dst 26 rfl ?_; refine wpList_load_fen (by kernel_rfl) (.tmp 2) rfl gB rfl 26 _ (Fx.b0 G11.out) ?_)
              | (go_at_call 17; (with_reducible refine (q11len_c _ m c _).mono ?_); rintro e w12 ⟨rfl, hb12⟩; have G12 := Lib.hid (Fx.below G11.out hb12); have c12 := Blk.cell0 (Fx.b0 G12.out); have z12 := HCK.out _ (Fx.r1 G12.out); clear hb12))
            go_roundw
            case rel => exact ⟨k, n, by rw [HSK.out, HSH.out], rfl, by rw [HU.out], by rw [HSK.out]; exact HKM.out, HD2.out, HNM.out, HPN.out, fun _ => HRN.out, G12.out⟩
            case measure => exact HQM.out
        · have HNM := Lib.hid hnm
          have HPN := Lib.hid hpn
          have HOUT : Hid (n + 2 ^ k ≤ m → t < preL l (n + 2 ^ k)) := Lib.hid (fun h => by
            have e : n + 2 ^ k = m := by omega
            rw [e, HALL.out]
            exact HTX.out)
          obtain ⟨s, hsk⟩ : ∃ s, 2 ^ k = s := ⟨_, rfl⟩
          rw [hsk] at hk1 hle hq HKM hqm ⊢
          have HSK := Lib.hid hsk
          obtain ⟨u, hu⟩ : ∃ u, t - preL l n = u := ⟨_, rfl⟩
          rw [hu]
          have HU := Lib.hid hu
          have u0 : 0 ≤ u := by omega
          have hsI : (1 : Int) ≤ (s : Int) := by omega
          have hsX : (s : Int) ≤ 2097152 := by have := HKM.out; omega
          have hsM : ¬ (n : Int) + (s : Int) < (m : Int) := by omega
          obtain ⟨sh, hsh⟩ : ∃ x : Int, ((s / 2 : Nat) : Int) = x := ⟨_, rfl⟩
          have HSH : Hid (sh = ((s / 2 : Nat) : Int)) := Lib.hid hsh.symm
          have hsh0 : 0 ≤ sh ∧ sh ≤ 1048576 := by have := HKM.out; omega
          obtain ⟨hsh1, hsh2⟩ := hsh0
          rw [hsh] at hq hqm
          have HQM := Lib.hid hqm
          clear hmid hp0 hpl hnk hk1 hd2 hKm hdv hnm hpn hnx hsk hu hsh hqm hle
          go_wp2_with (first
            | (with_reducible refine at_any ?_; refine at_dst 26 rfl ?_; refine wpList_load_fen (by kernel_rfl) (.tmp 2) rfl gB rfl 26 _ (Fx.b0 G11.out) ?_)
            | (go_at_call 17; (with_reducible refine (q11len_c _ m c _).mono ?_); rintro e w12 ⟨rfl, hb12⟩; have G12 := Lib.hid (Fx.below G11.out hb12); have c12 := Blk.cell0 (Fx.b0 G12.out); clear hb12))
          go_roundw
          case rel => exact ⟨k, n, by rw [HSK.out, HSH.out], rfl, by rw [HU.out], by rw [HSK.out]; exact HKM.out, HD2.out, HNM.out, HPN.out, HOUT.out, G12.out⟩
          case measure => exact HQM.out
  · obtain ⟨e1, e2⟩ := hno htx
    rw [e1, e2]
    have htx2 : x ≤ t := by omega
    clear hrd htot hno hm0 hz hl hm hc hcm hx e1 e2 hts hT
    go_enter Tryd.func7, Tryd.ntmps7
    go_wp2_with (first
      | (with_reducible refine at_any ?_; refine at_dst 2 rfl ?_; refine wpList_box_any rfl 26 (.tmp 0) rfl #[.slice A m c] rfl ?_; intro w1 hk1 hs1 hb1; have G1 := Lib.hid (fx_start hk1.out HR.out hb1); clear hk1 hs1 hb1)
      | (with_reducible refine at_any ?_; refine at_dst 11 rfl ?_; refine wpList_load_fen (by kernel_rfl) (.tmp 2) rfl w.heap.size rfl 26 (.slice A m c) (Fx.b0 G1.out) ?_)
      | (go_at_call 15; (with_reducible refine (HTO.out _ (HTT.out.below (Fx.e2 G1.out)) (Fx.r1 G1.out)).mono ?_); rintro e w2 ⟨rfl, hb2⟩; have G2 := Lib.hid (Fx.below G1.out hb2); clear hb2))
    go_ret2
    exact ⟨rfl, Fx.e2 G2.out⟩
end Go.Proofs.YtilccjjagdedaaaDoor
