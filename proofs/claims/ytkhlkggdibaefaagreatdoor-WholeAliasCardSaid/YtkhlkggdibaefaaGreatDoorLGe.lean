/-
  Texts of this claim, joined (what the claim does not need is left out): ComA, TabP, TabQ, TabC, PikP, PairM, TabM, PikM, TabN, AlsL, RefZc, RefZ, RefZa, AlsB, AlsD, AlsE, AlsF, AlsG, RefZd, AlsH, AlsI, AlsA.
-/
import Derived.Test.YtkhlkggdibaefaaGreatDoorLGd
import Derived.BigQuiet
import Derived.Laws.StructEq
import Derived.Test.YtkhlkggdibaefaaGreatDoorRows
set_option maxRecDepth 100000
set_option linter.unusedVariables false
set_option linter.unusedSimpArgs false
set_option linter.unusedSectionVars false
namespace Go.Proofs.YtkhlkggdibaefaaGreatDoor
section
open Go.ChangeShapes Go.WideShapes Go.ChangeAt Go.RowKit
theorem com_sameF {Vj V2 Z : Array Value} (h1 : Z.size = Vj.size) (h2 : Z.size = V2.size) : Vj.size = V2.size := h1.symm.trans h2
def MemF (w w' : World) (os : List Int) (AM : Option Addr) (k cM : Nat) : Prop := os.length = k ∧ Rd .i64 w' w'.heap.size AM k os ∧ k ≤ cM ∧ cM ≤ maxLen ∧ Frs w AM
theorem memF_nil (w w' : World) : MemF w w' [] none 0 0 := ⟨rfl, rd_nil _ _ _ _, Nat.le_refl _, by simp [maxLen], Frs.none w⟩
theorem com_retF {w w' : World} {s t : Src} {A0 A2 AM : Option Addr} {L c2 k cM : Nat} {V2 : Array Value} {zs os : List Int} {E : Int} {rr : List Int × Src × Int} (h0 : rr = (os, t, E)) (hV : srcV t A2 c2 = V2) (hsp : Sep w A0 A2) (hc : L ≤ c2) (hcm : c2 ≤ maxLen) (hr : Rd .u8 w' w'.heap.size A2 L zs) (hb : Below w.heap.size w w') (hm : MemF w w' os AM k cM) (hz : s.tape = zs) (hl : zs.length = L) :
    RetComm w s A0 rr (.returned (.tuple #[.slice AM k cM, .agg V2, .int .i64 E])) w' := by
  obtain ⟨m1, m2, m3, m4, m5⟩ := hm
  subst h0 m1 hV
  refine ⟨A2, c2, AM, cM, rfl, m2, m3, m4, m5, ?_, ?_, hcm, hsp, hb⟩
  · rw [hz, hl]; exact hr
  · rw [hz, hl]; exact hc
theorem zero_sum_le {l : List Int} (hz : ∀ z ∈ l, 0 ≤ z) (k : Nat) : sumL (l.set k 0) ≤ sumL l := by
  by_cases hk : k < l.length
  · have h := preL_set (l := l) 0 hk l.length
    have e1 : preL (l.set k 0) l.length = sumL (l.set k 0) := by
      have := preL_all (l.set k 0)
      rwa [List.length_set] at this
    rw [e1, preL_all, if_pos hk] at h
    have := hz _ (getD_in hk)
    omega
  · rw [List.set_eq_of_length_le (by omega)]
    exact Int.le_refl _
theorem set_zero_ok {l : List Int} (hz : ∀ z ∈ l, 0 ≤ z) (hs : sumL l < 9223372036854775808) {k : Nat} (hk : k < l.length) : setL l (k : Int) 0 = l.set k 0 ∧ setE l (k : Int) 0 = 0 := by
  have h1 := zero_sum_le hz k
  obtain ⟨a1, a2⟩ := setE_ok (l := l) (i := (k : Int)) (v := 0) ⟨by omega, by omega⟩ (by rw [Int.toNat_natCast]; omega)
  rw [Int.toNat_natCast] at a2
  exact ⟨a2, a1⟩
theorem mem_lt_sum {l : List Int} (hz : ∀ z ∈ l, 0 ≤ z) (hs : sumL l < 9223372036854775808) : ∀ z ∈ l, 0 ≤ z ∧ z < 18446744073709551616 := fun z h => by
  obtain ⟨j, hj, e⟩ := List.getElem_of_mem h
  have h1 := sum_ge hz hj
  rw [List.getD_eq_getElem?_getD, List.getElem?_eq_getElem hj] at h1
  have h2 : z ≤ sumL l := by rw [← e]; exact h1
  have := hz z h
  omega
theorem com_ne13 {w0 w w5 : World} {g3 g7 gF n cF L : Nat} {V Z : Array Value} {A AF : Option Addr} {zs l os : List Int} {ov : Value} (h : ComF w0 g3 g7 gF V Z A L zs AF n cF l ov os w) (hb : Below w.heap.size w w5) : w5.heap.size ≠ g3 := by
  have h1 := h.src.lt3
  have h2 := hb.size
  omega
theorem com_start {w wF w5 w6 : World} {g3 g7 m c L C : Nat} {V Z : Array Value} {A0 AF : Option Addr} {zs l : List Int} (hrf : Rd .u64 w w.heap.size AF m (treeL l)) (hrd : Rd .u8 w w.heap.size A0 L zs) (hbF : Below w.heap.size w wF) (hS : DrS wF g3 g7 V A0 L zs w6) (hZ : Blk w6 g7 40 Z)
    (hT : Blk w6 w.heap.size 32 #[.slice AF m c]) (hT2 : Rd .u64 w6 w6.heap.size AF m (treeL l)) (ho : ∀ base, base ≤ w5.heap.size → OwnI w6 base 3 .i64 (.slice (some ⟨w5.heap.size, 0, none⟩) 0 C) []) (hb5 : Below w.heap.size w w5) (hr5 : Rd .u8 w5 w5.heap.size A0 L zs) :
    ComF w g3 g7 w.heap.size V Z A0 L zs AF m c l (.slice (some ⟨w5.heap.size, 0, none⟩) 0 C) [] w6 := by
  have h2 := hS.from_ hbF
  have l3 : w.heap.size ≤ g3 := h2.le3
  exact ⟨h2, hZ, hT, hT2, ho _ hb5.size, Nat.le_refl _, Apt.of_lt hrf l3, Apt.of_lt hrf (by have := h2.lt; omega), Apt.of_lt hrf (Nat.le_refl _), Apt.of_lt hrd (Nat.le_refl _), fun g e => by
    injection e with e
    subst e
    exact Apt.of_lt hr5 (Nat.le_refl _), fun g e => by
    injection e with e
    subst e
    exact Apt.of_lt hrf hb5.size⟩
theorem run_makeI (C : Nat) (hC : C ≤ 1000) (w : World) : (Instr.makeSlice 64 (.int .i64 0) (.int .i64 (C : Int))).run Tryz.prog w = .ok (.slice (some ⟨w.heap.size, 0, none⟩) 0 C) (w.alloc (.cells (madeCells #[.int .i64 0] C) 3)) := by
  obtain ⟨i, hi, hz0, hz1, hz2⟩ := info_parts info_intd
  have hr := run_make (P := Tryz.prog) w 64 3 i _ Tryz.underlying64 hi hz0 .i64 .i64 0 (C : Int) (by omega) (by omega) (by rw [hz2]; omega) (by omega)
  simp only [Int.toNat_natCast, hz1, Nat.mul_one] at hr
  exact hr
theorem wpList_makeI {ops : Array Oper} {rest : List Oper} {o : Oper} {a : Act} {w : World} {Q : Exit → Act → World → Prop} (hg : o.guard = none) (x : Operand) (ho : o.op = .makeSlice 64 (.const (.int .i64 0)) x) (C : Nat) (hx : a.eval x = .int .i64 (C : Int)) (hC : C ≤ 256)
    (h : ∀ w', (∀ base, base ≤ w.heap.size → OwnI w' base 3 .i64 (.slice (some ⟨w.heap.size, 0, none⟩) 0 C) []) → Below w.heap.size w w' → wpList Tryz.prog ops Q rest (a.put o.dst (.slice (some ⟨w.heap.size, 0, none⟩) 0 C)) w') : wpList Tryz.prog ops Q (o :: rest) a w := by
  have hr := run_makeI C (by omega) w
  refine wpList_plain hg fun K hK => ?_
  unfold Oper.wp execOp
  have e0 : a.eval (.const (.int .i64 0)) = .int .i64 0 := rfl
  simp only [ho, e0, hx, Sem.run_bind, hr, Result.andThen_ok, Sem.run_pure]
  refine hK _ _ (h _ (fun base hb => ⟨rfl, .inr ⟨w.heap.size, C, _, rfl, hb, Blk.new w _ _, Nat.zero_le _, by simp only [maxLen]; omega, by rw [size_madeCells, Nat.mul_one], by simp⟩⟩) ((Below.refl _ _).alloc (Nat.le_refl _) _))
set_option maxHeartbeats 16000000 in
theorem q17draw_c (l : List Int) (hz : ∀ z ∈ l, 0 ≤ z) (hs : sumL l < 9223372036854775808) (hl : l.length ≤ 1000000) (AF : Option Addr) (m c : Nat) (hm : l.length = m) (hfc : m ≤ c) (hfm : c ≤ maxLen) (Ci : Int) (C0 : -9223372036854775808 ≤ Ci) (C1 : Ci < 9223372036854775808) (s : Src) (ok : s.Ok) (a : Int) (a0 : -9223372036854775808 ≤ a) (a1 : a < 9223372036854775808) (A0 : Option Addr) (c0 : Nat) (hc : s.tape.length ≤ c0) (hcm : c0 ≤ maxLen) (w : World) (hrf : Rd .u64 w w.heap.size AF m (treeL l)) (hrd : Rd .u8 w w.heap.size A0 s.tape.length s.tape) (hkst : Kst w) :
    Calls Tryz.prog 36 #[.agg #[.slice AF m c], .int .i64 Ci, .agg (srcV s A0 c0), .int .i64 a] w (RetComm w s A0 (comR l Ci s a)) := by
  have HKS := Lib.hid hkst
  have HZ0 := Lib.hid zero_src
  have HRF := Lib.hid hrf
  have HLN := Lib.hid hm
  have HFC := Lib.hid hfc
  have HFM := Lib.hid hfm
  have hz6 := mem_lt_sum hz hs
  have HZSS := Lib.hid (fun (t : Src) (h : t.seed.length = 32) A c => srcV_same Src.zero t rfl h none A 0 c)
  obtain ⟨Z, hZ⟩ : ∃ Z, srcV Src.zero none 0 = Z := ⟨_, rfl⟩
  rw [hZ] at HZ0 HZSS
  have SV := Lib.hid (sizedS s ok.sl A0 c0)
  have OV := Lib.hid (srcV_ones s A0 c0)
  have ZV := Lib.hid (HZSS.out s ok.sl A0 c0)
  have hrt := fun W => qsright_c s ok A0 c0 W
  have HSK := Lib.hid (fun W hT h => calls_l (q11stakes_c l hz hs (by omega) AF m c hm hfc hfm W hT h) hm)
  have HPO := Lib.hid (fun A c W h => q12pos_c l hz6 A m c (by omega) W h)
  have HRET : Hid (∀ E wF, Below w.heap.size w wF → ∀ (w' : World), RdP A0 s.tape.length s.tape w' → Below wF.heap.size wF w' → RetComm w s A0 ([], s, E) (.returned (.tuple #[.slice none 0 0, .agg (srcV s A0 c0), .int .i64 E])) w') := Lib.hid (fun E wF h0 w' h1 h2 => ⟨A0, c0, none, 0, rfl, rd_nil _ _ _ _, Nat.le_refl _, by simp [maxLen], Frs.none w, h1, hc, hcm, .inl rfl, h0.trans (h2.mono h0.size)⟩)
  have HZL := Lib.hid hz
  have HSL := Lib.hid hs
  have hm6 : m ≤ 1000000 := by omega
  have OK := Lib.hid ok
  have hcb := hc
  have HCM := Lib.hid hcm
  obtain ⟨V, hV⟩ : ∃ V, srcV s A0 c0 = V := ⟨_, rfl⟩
  have HV := Lib.hid hV
  rw [hV] at SV OV ZV HRET hrt ⊢
  obtain ⟨zs, hzs⟩ : ∃ zs, s.tape = zs := ⟨_, rfl⟩
  obtain ⟨L, hL⟩ : ∃ L, zs.length = L := ⟨_, rfl⟩
  have HZS := Lib.hid hzs
  have HLZ := Lib.hid hL
  rw [hzs, hL] at HRET hrd hcb
  have HCB := Lib.hid hcb
  have hRd := Lib.hid hrd
  clear hz hZ ok hc hcm hcb hV hrf hrd hzs hL hl hm hfc hfm hs hz6 hkst
  by_cases hb : comB Ci s a = true
  · have hb2 := hb
    unfold comB at hb2
    rw [Bool.and_eq_true] at hb2
    obtain ⟨hr, hb3⟩ := hb2
    obtain ⟨b1, b2, b3, b4⟩ := of_decide_eq_true hb3
    rw [hr] at hrt
    have HRT := Lib.hid hrt
    obtain ⟨C, rfl⟩ := Int.eq_ofNat_of_zero_le b1
    have b5 : (C : Int) ≤ 256 := b2
    have b6 : ¬ (C : Int) < 0 := by omega
    have dA : decide ((C : Int) < 0) = false := decide_eq_false b6
    have dB : decide (256 < (C : Int)) = false := decide_eq_false (by omega)
    have dC : decide (a < 1) = false := decide_eq_false (by omega)
    have dD : decide (64 < a) = false := decide_eq_false (by omega)
    have hR : comR l (C : Int) s a = if (posL l : Int) < (C : Int) then ([], s, 12) else comGo a C l s := by
      unfold comR
      rw [if_pos hb, Int.toNat_natCast]
    rw [hR]
    clear hb hb3 hr hrt hR C0 C1
    by_cases hlow : (posL l : Int) < (C : Int)
    · rw [if_pos hlow]
      have HLOW := Lib.hid (fun wF h0 w' h1 h2 => HRET.out 12 wF h0 w' h1 h2)
      go_enter Tryz.func36, Tryz.ntmps36
      go_wp2_with (first
        | (with_reducible refine at_any ?_; refine at_dst 4 rfl ?_; refine wpList_box_any rfl 32 (.tmp 0) rfl #[.slice AF m c] rfl ?_; intro wF hkF hsF hbF; have G0 := Lib.hid (fx_start hkF.out HRF.out hbF); have HBF := Lib.hid hbF; have HRdF := Lib.hid ((hRd.out.below hbF).mono (Below.size hbF)); clear hkF hsF hbF)
        | (with_reducible refine at_any ?_; refine at_dst 6 rfl ?_; refine wpList_box_any rfl 40 (.tmp 2) rfl V rfl ?_; intro w1 hk1 hs1 hb1)
        | (with_reducible refine at_any ?_; refine at_dst 9 rfl ?_; refine wpList_alloc_any rfl 40 rfl Z HZ0.out ?_; intro w2 hk2 hs2 hb2; have HS2 := Lib.hid (DrS.mk2 HRdF.out hk1.out hb1 hk2.out hb2 (Below.refl _ _)); have HZ2 := Lib.hid (fx1 hk2.out); have G2 := Lib.hid (Fx.below (Fx.below G0.out hb1) hb2); clear G0 hs1 hb1 hs2 hb2)
        | (with_reducible refine at_any ?_; refine at_dst 22 rfl ?_; refine wpList_load_gdb (by kernel_rfl) 40 (.tmp 6) rfl wF.heap.size rfl 40 V HS2.out.blk _ Tryz.underlying40 rfl SV.out ?_)
        | (go_at_call 67; (with_reducible refine (HRT.out _).mono ?_); rintro e w3 ⟨rfl, hb3⟩; have HS3 := Lib.hid (DrS.below HS2.out hb3); have HZ3 := Lib.hid (Fx.below HZ2.out hb3); have G3 := Lib.hid (Fx.below G2.out hb3); clear hb3)
        | (with_reducible refine at_any ?_; refine at_dst 35 rfl ?_; refine wpList_load_fen (by kernel_rfl) (.tmp 4) rfl w.heap.size rfl 32 (.slice AF m c) (Fx.b0 G3.out) ?_)
        | (go_at_call 70; (with_reducible refine (HSK.out _ (Kst.tz (HKS.out.below (Fx.e2 G3.out))) (Fx.r1 G3.out)).mono ?_); rintro e w4 ⟨A4, c4, rfl, hr4, hc4, hm4, hb4⟩; have HR4 := Lib.hid hr4; have HB4 := Lib.hid hb4; clear hr4 hc4 hm4 hb4)
        | (go_at_call 32; (with_reducible refine (HPO.out _ _ _ HR4.out).mono ?_); rintro e w5 ⟨rfl, hb5⟩; have hb45 := HB4.out.trans (hb5.mono (Below.size HB4.out)); have HS5 := Lib.hid (DrS.below HS3.out hb45); have HZ5 := Lib.hid (Fx.below HZ3.out hb45); have G5 := Lib.hid (Fx.below G3.out hb45); clear hb5 hb45 HB4 HR4 HS3 HZ3 G3 HS2 HZ2 G2))
      obtain ⟨g3, hg3⟩ : ∃ g, wF.heap.size = g := ⟨_, rfl⟩
      obtain ⟨g7, hg7⟩ : ∃ g, w1.heap.size = g := ⟨_, rfl⟩
      have HS9 := HS5.out
      have HZ9 := HZ5.out
      rw [hg3, hg7] at HS9
      rw [hg7] at HZ9
      rw [hg3, hg7]
      clear hg3 hg7 hk1 hk2
      have HZ7 := HZ9.drew
      refine wp_region_held_drew (S := (DrS wF g3 g7 V A0 L zs)) (by kernel_rfl) HS9.drew (fun hH => ?_)
      refine wpAnyH_letter #[false, false, false, false] (by kernel_rfl) (fun _ _ d _ _ h => by cases d <;> exact h) (fun QL HQ1 HQ2 => ?_)
      refine held_row 0 (some 40) rfl (by kernel_rfl) (by kernel_rfl) (by kernel_rfl) (by kernel_rfl) (fun c a v w h => HQ2.out c a _ v w h) (by kernel_rfl) 40 (.tmp 6) rfl g3 (by kernel_rfl) 40 V (fun _ h => h.blk) _ Tryz.underlying40 rfl SV.out hH ?_
      try simp only [Act.put, List.setIfInBounds_toArray, List.set_cons_zero, List.set_cons_succ]
      refine held_v 1 (some 8) rfl (by kernel_rfl) (by kernel_rfl) (by kernel_rfl) (by kernel_rfl) (fun c a v w h => HQ2.out c a _ v w h) (by kernel_rfl) (.slice none 0 0) (fun W h => by kernel_rfl) hH ?_
      try simp only [Act.put, List.setIfInBounds_toArray, List.set_cons_zero, List.set_cons_succ]
      refine wpAnyH_ready (rs := [2]) (by kernel_rfl) (by decide) ?_
      refine AllReadyH.cons rfl (fun K hK => ?_) AllReadyH.nil
      refine step_store none (by kernel_rfl) (by kernel_rfl) 40 (.tmp 9) (.tmp 40) rfl g7 (by kernel_rfl) 40 Z V HZ7.1 (by kernel_rfl) ZV.out SV.out OV.out ?_
      intro w41 hkw41 hsw41 hbw41 how41
      have ex42 : Fx [.blk g7 40 V] w41 := ⟨hkw41.out, trivial⟩
      refine hK.out _ _ (hH.store HZ7.1 hH.store7 hsw41.out hbw41 how41) (fun hw41 => ?_)
      clear hK K
      try simp only [Act.put, List.setIfInBounds_toArray, List.set_cons_zero, List.set_cons_succ]
      refine held_v 3 (some 10) rfl (by kernel_rfl) (by kernel_rfl) (by kernel_rfl) (by kernel_rfl) (fun c a v w h => HQ2.out c a _ v w h) (by kernel_rfl) (.int .i64 12) (fun W h => by kernel_rfl) hw41 ?_
      try simp only [Act.put, List.setIfInBounds_toArray, List.set_cons_zero, List.set_cons_succ]
      refine wpAnyH_done (by kernel_rfl) ?_ _
      refine HQ1.out _ _ ?_
      clear HQ1 HQ2
      go_wp2_with (refine bodyPost_mid 8 9 10 40 rfl g7 rfl (.slice none 0 0) (.int .i64 12) rfl rfl 40 V ex42.1 _ Tryz.underlying40 rfl SV.out rfl ?_)
      exact HLOW.out wF HBF.out _ hw41.rd hw41.bel
    · rw [if_neg hlow]
      have HCC : Hid (C ≤ 256) := Lib.hid (by omega)
      obtain ⟨ii, hii, hiz0, hiz1, hizb⟩ := info_parts info_intd
      obtain ⟨rr, hrr⟩ : ∃ r, comGo a C l s = r := ⟨_, rfl⟩
      have HACC : Hid (rr = comAcc [] (comGo a (C - 0) l s)) := Lib.hid (by rw [Nat.sub_zero, comAcc_nil, hrr])
      rw [hrr]
      clear hrr HRET
      go_enter Tryz.func36, Tryz.ntmps36
      go_wp2_with (first
        | (with_reducible refine at_any ?_; refine at_dst 4 rfl ?_; refine wpList_box_any rfl 32 (.tmp 0) rfl #[.slice AF m c] rfl ?_; intro wF hkF hsF hbF; have G0 := Lib.hid (fx_start hkF.out HRF.out hbF); have HBF := Lib.hid hbF; have HRdF := Lib.hid ((hRd.out.below hbF).mono (Below.size hbF)); clear hkF hsF hbF)
        | (with_reducible refine at_any ?_; refine at_dst 6 rfl ?_; refine wpList_box_any rfl 40 (.tmp 2) rfl V rfl ?_; intro w1 hk1 hs1 hb1)
        | (with_reducible refine at_any ?_; refine at_dst 9 rfl ?_; refine wpList_alloc_any rfl 40 rfl Z HZ0.out ?_; intro w2 hk2 hs2 hb2; have HS2 := Lib.hid (DrS.mk2 HRdF.out hk1.out hb1 hk2.out hb2 (Below.refl _ _)); have HZ2 := Lib.hid (fx1 hk2.out); have G2 := Lib.hid (Fx.below (Fx.below G0.out hb1) hb2); clear G0 hs1 hb1 hs2 hb2)
        | (with_reducible refine at_any ?_; refine at_dst 22 rfl ?_; refine wpList_load_gdb (by kernel_rfl) 40 (.tmp 6) rfl wF.heap.size rfl 40 V HS2.out.blk _ Tryz.underlying40 rfl SV.out ?_)
        | (go_at_call 67; (with_reducible refine (HRT.out _).mono ?_); rintro e w3 ⟨rfl, hb3⟩; have HS3 := Lib.hid (DrS.below HS2.out hb3); have HZ3 := Lib.hid (Fx.below HZ2.out hb3); have G3 := Lib.hid (Fx.below G2.out hb3); clear hb3)
        | (with_reducible refine at_any ?_; refine at_dst 35 rfl ?_; refine wpList_load_fen (by kernel_rfl) (.tmp 4) rfl w.heap.size rfl 32 (.slice AF m c) (Fx.b0 G3.out) ?_)
        | (go_at_call 70; (with_reducible refine (HSK.out _ (Kst.tz (HKS.out.below (Fx.e2 G3.out))) (Fx.r1 G3.out)).mono ?_); rintro e w4 ⟨A4, c4, rfl, hr4, hc4, hm4, hb4⟩; have HR4 := Lib.hid hr4; have HB4 := Lib.hid hb4; clear hr4 hc4 hm4 hb4)
        | (go_at_call 32; (with_reducible refine (HPO.out _ _ _ HR4.out).mono ?_); rintro e w5 ⟨rfl, hb5⟩; have hb45 := HB4.out.trans (hb5.mono (Below.size HB4.out)); have HS5 := Lib.hid (DrS.below HS3.out hb45); have HZ5 := Lib.hid (Fx.below HZ3.out hb45); have G5 := Lib.hid (Fx.below G3.out hb45); clear hb5 hb45 HB4 HR4 HS3 HZ3 G3 HS2 HZ2 G2)
        | (with_reducible refine at_any ?_; refine at_dst 42 rfl ?_; refine wpList_makeI rfl (.tmp 41) rfl C rfl HCC.out ?_; intro w6 ho6 hb6; have HS6 := Lib.hid (DrS.below HS5.out hb6); have HZ6 := Lib.hid (Fx.below HZ5.out hb6); have G6 := Lib.hid (Fx.below G5.out hb6); have HO6 := Lib.hid ho6; have HB6 := Lib.hid hb6; clear ho6 hb6))
      obtain ⟨g3, hg3⟩ : ∃ g, wF.heap.size = g := ⟨_, rfl⟩
      obtain ⟨g7, hg7⟩ : ∃ g, w1.heap.size = g := ⟨_, rfl⟩
      have HS9 := HS6.out
      have HZ9 := HZ6.out
      rw [hg3, hg7] at HS9
      rw [hg7] at HZ9
      rw [hg3, hg7]
      clear hg3 hg7 hk1 hk2
      obtain ⟨gF, hgF⟩ : ∃ g, w.heap.size = g := ⟨_, rfl⟩
      have HC4 : Hid (ComF w g3 g7 gF V Z A0 L zs AF m c l (.slice (some ⟨w5.heap.size, 0, none⟩) 0 C) [] w6) := Lib.hid (by rw [← hgF]; exact com_start HRF.out hRd.out HBF.out HS9 HZ9.1 (Fx.b0 G6.out) (Fx.r1 G6.out) HO6.out (Fx.e2 G5.out) HS5.out.rd.rd)
      rw [hgF]
      clear HS9 HZ9 HO6 HB6 HS6 HZ6 G6 HS5 HZ5 G5
      go_loopw [11, 44] (fun oo ii' wr => ∃ (j : Nat) (sj : Src) (Aj : Option Addr) (cj : Nat) (lj os : List Int) (AFj : Option Addr) (cFj : Nat), j ≤ C ∧ ii' = .int .i64 (j : Int) ∧ os.length = j ∧ ComF w g3 g7 gF (srcV sj Aj cj) Z Aj L zs AFj m cFj lj oo os wr ∧ sj.Ok ∧ sj.tape = zs ∧ L ≤ cj ∧ cj ≤ maxLen ∧ Sep w A0 Aj ∧ lj.length = m ∧ (∀ z ∈ lj, 0 ≤ z) ∧ sumL lj < 9223372036854775808 ∧ m ≤ cFj ∧ cFj ≤ maxLen ∧ rr = comAcc os (comGo a (C - j) lj sj)) (fun _ ii' _ => C - (intOf ii').toNat)
      case atStart => exact ⟨0, s, A0, c0, l, [], AF, c, Nat.zero_le _, rfl, rfl, by rw [HV.out]; exact HC4.out, OK.out, HZS.out, HCB.out, HCM.out, .inl rfl, HLN.out, HZL.out, HSL.out, HFC.out, HFM.out, HACC.out⟩
      case round =>
        clear HC4 HACC
        obtain ⟨j, sj, Aj, cj, lj, os, AFj, cFj, hj, rfl, hos, hC, okj, htj, hcj, hcmj, hsp, hlj, hzj, hsj, hfc, hfm, hacc⟩ := hrel
        obtain ⟨AO, cO, rfl, hO1, hO2⟩ := hC.out.form
        rw [hos] at hC hO1 ⊢
        obtain ⟨Vj, hVj⟩ : ∃ V, srcV sj Aj cj = V := ⟨_, rfl⟩
        have SVj := Lib.hid (sizedS sj okj.sl Aj cj)
        have OVj := Lib.hid (srcV_ones sj Aj cj)
        have ZVj := Lib.hid (HZSS.out sj okj.sl Aj cj)
        rw [hVj] at hC SVj OVj ZVj
        have HC := Lib.hid hC
        clear hC
        have hjI : (j : Int) ≤ (C : Int) := by omega
        have hj0 : (0 : Int) ≤ (j : Int) := by omega
        by_cases hlt : j < C
        · have hltI : (j : Int) < (C : Int) := by omega
          have hdr := fun W h1 h2 h3 => q13draw_c lj hzj hsj (by omega) AFj m cFj hlj hfc hfm sj okj a a0 a1 Aj cj (by rw [htj, HLZ.out]; exact hcj) hcmj W h1 h2 h3
          obtain ⟨okt, htt⟩ := ledT_in lj sj a okj
          have hin := ledR_ok (l := lj) (fun z h => hzj z h) (s := sj) (a := a)
          have hno := comAcc_no (c := C - j - 1) (l := lj) (s := sj) (a := a) os
          have hon := comAcc_on (c := C - j - 1) (l := lj) (s := sj) (a := a) os
          rw [led_ok sj a hsj] at hin hno hon
          rw [show C - j - 1 + 1 = C - j by omega, ← hacc] at hno hon
          unfold RetLead at hdr
          rw [hVj, htj, HLZ.out] at hdr
          rw [htj] at htt
          obtain ⟨lr, hlr⟩ : ∃ r, ledT lj sj a = r := ⟨_, rfl⟩
          rw [hlr] at hdr okt htt hin hno hon
          obtain ⟨x, t, E⟩ := lr
          simp only at hdr okt htt hin hno hon
          have HDR := Lib.hid hdr
          have ST := Lib.hid (fun A c => sizedS t okt.sl A c)
          have OT := Lib.hid (fun A c => srcV_ones t A c)
          have ZT := Lib.hid (fun A c => HZSS.out t okt.sl A c)
          have HSP := Lib.hid hsp
          have HLT := Lib.hid hlt
          by_cases hE : E = 0
          · subst hE
            obtain ⟨k, hk, hxk, hkp, -⟩ := hin rfl
            subst hxk
            have hon2 := hon rfl
            rw [Int.toNat_natCast] at hon2
            have HON := Lib.hid hon2
            have hkI : (k : Int) < (m : Int) := by omega
            have hk0 : (0 : Int) ≤ (k : Int) := by omega
            have hss := zero_sum_le hzj k
            have hst := fun W h1 h2 => q11setF_c lj hzj hsj (by omega) AFj m cFj hlj hfc hfm (k : Int) 0 (by omega) (by omega) (by omega) (by omega) W h1 h2
            obtain ⟨e1, e2⟩ := set_zero_ok hzj hsj hk
            rw [e1, e2] at hst
            have HTL : Hid ((treeL (lj.set k 0)).length = m) := Lib.hid ((treeL_len _).trans (by rw [List.length_set]; exact hlj))
            have HST := Lib.hid hst
            have HZJ := Lib.hid (set_nn hzj k)
            have HSJ : Hid (sumL (lj.set k 0) < 9223372036854775808) := Lib.hid (Int.lt_of_le_of_lt hss hsj)
            have HOS := Lib.hid hos
            have HLJ : Hid ((lj.set k 0).length = m) := Lib.hid (by rw [List.length_set]; exact hlj)
            have HOKT := Lib.hid okt
            have HTT := Lib.hid htt
            have t2 : ((0 : Int) != 0) = false := rfl
            clear hon hon2 hno hin hdr hlr hacc hzj hlj okt htt hsp hos okj htj hcj hcmj hVj hk hkp hj hst e1 e2 hss hsj hfc hfm
            go_wp2_with (first
              | (with_reducible refine at_any ?_; refine at_dst 47 rfl ?_; refine wpList_load_fen (by kernel_rfl) (.tmp 4) rfl gF rfl 32 (.slice AFj m cFj) HC.out.tre ?_)
              | (with_reducible refine at_any ?_; refine at_dst 48 rfl ?_; refine wpList_load_blk rfl 40 (.tmp 6) rfl g3 rfl 40 Vj HC.out.src.blk _ Tryz.underlying40 rfl SVj.out ?_)
              | (go_at_call 15; (with_reducible refine (HDR.out _ HC.out.trd HC.out.src.rd.rd (HKS.out.below HC.out.src.bel)).mono ?_); rintro e w5 ⟨A2, c2, rfl, hrd2, hc2, hm2, hsp2, hb5⟩; obtain ⟨V2, hV2⟩ : ∃ V2, srcV t A2 c2 = V2 := ⟨_, rfl⟩; have SV2 := Lib.hid (ST.out A2 c2); have OV2 := Lib.hid (OT.out A2 c2); have ZV2 := Lib.hid (ZT.out A2 c2); have HV2 := Lib.hid hV2; rw [hV2] at SV2 OV2 ZV2 ⊢; clear hV2)
              | (with_reducible refine at_any ?_; refine at_dst 13 rfl ?_; refine wpList_alloc_any rfl 40 rfl Z HZ0.out ?_; intro w6 hk6 hs6 hb6)
              | (with_reducible refine at_any ?_; refine at_store 13 rfl ?_; refine wpList_store_any rfl 40 (.tmp 13) (.tmp 52) rfl w5.heap.size rfl 40 Z V2 hk6.out rfl ZV2.out SV2.out OV2.out ?_; intro w7 hk7 hs7 hb7 ho7; have TT := Lib.hid (ComF.took HC.out hrd2 hsp2 hb5 hb6 hk6.out hk7.out hs7.out hb7 ho7); have HS5 := Lib.hid (Sep.trans HSP.out hsp2 HC.out.size); have HC2 := Lib.hid hc2; have HM2 := Lib.hid hm2; have H13 := Lib.hid (com_ne13 HC.out hb5); clear hrd2 hsp2 hb5 hb6 hk6 hs6 hk7 hs7 hb7 ho7 hc2 hm2))
            obtain ⟨g13, hg13⟩ : ∃ g, w5.heap.size = g := ⟨_, rfl⟩
            have HC9 := TT.out.1
            have HN9 := TT.out.2
            have HN13 := H13
            rw [hg13] at HN9 HN13
            rw [hg13]
            clear TT hg13 H13
            have CD := HC9.drew
            have ND := HN9.drew
            refine wp_region_held_drew (S := fun W => Blk W g13 40 V2) (by kernel_rfl) ND.hand.blk (fun hH => ?_)
            refine wpAnyH_letter #[false, false, false, false, false, false, false] (by kernel_rfl) (fun _ _ d _ _ h => by cases d <;> exact h) (fun QL HQ1 HQ2 => ?_)
            refine held_v 0 (some 58) rfl (by kernel_rfl) (by kernel_rfl) (by kernel_rfl) (by kernel_rfl) (fun c a v w h => HQ2.out c a _ v w h) (by kernel_rfl) (.slice AO j cO) (fun W h => by kernel_rfl) hH ?_
            try simp only [Act.put, List.setIfInBounds_toArray, List.set_cons_zero, List.set_cons_succ]
            refine held_v 1 (some 59) rfl (by kernel_rfl) (by kernel_rfl) (by kernel_rfl) (by kernel_rfl) (fun c a v w h => HQ2.out c a _ v w h) (by kernel_rfl) (.int .i64 (k : Int)) (fun W h => by kernel_rfl) hH ?_
            try simp only [Act.put, List.setIfInBounds_toArray, List.set_cons_zero, List.set_cons_succ]
            refine held_row 4 (some 62) rfl (by kernel_rfl) (by kernel_rfl) (by kernel_rfl) (by kernel_rfl) (fun c a v w h => HQ2.out c a _ v w h) (by kernel_rfl) 40 (.tmp 13) rfl g13 (by kernel_rfl) 40 V2 (fun _ h => h) _ Tryz.underlying40 rfl SV2.out hH ?_
            try simp only [Act.put, List.setIfInBounds_toArray, List.set_cons_zero, List.set_cons_succ]
            refine wpAnyH_ready (rs := [2]) (by kernel_rfl) (by decide) ?_
            refine AllReadyH.cons rfl (fun K hK => ?_) AllReadyH.nil
            refine step_bldI (some 60) (by kernel_rfl) (by kernel_rfl) (.tmp 59) (by kernel_rfl) (k : Int) (by kernel_rfl) ?_
            intro bw61 w61 hrw61 hbw61
            have Cw61 := CD.below hbw61
            have Nw61 := ND.below hbw61
            refine hK.out _ _ Nw61.hand.blk (fun hw61 => ?_)
            clear hK K
            try simp only [Act.put, List.setIfInBounds_toArray, List.set_cons_zero, List.set_cons_succ]
            refine wpAnyH_ready (rs := [3]) (by kernel_rfl) (by decide) ?_
            refine AllReadyH.cons rfl (fun K hK => ?_) AllReadyH.nil
            refine step_append_d _ (some 61) (by kernel_rfl) (by kernel_rfl) (.tmp 58) (.tmp 60) 64 (by kernel_rfl) w.heap.size 3 ii _ 8 .i64 Tryz.underlying64 hii hiz0 hiz1 hizb rfl _ os (by kernel_rfl) Cw61.out w61.heap.size (some ⟨bw61, 0, none⟩) 1 1 [(k : Int)] (by kernel_rfl) hrw61 (by have h1 := HOS.out; have h2 := HLT.out; have h3 := HCC.out; simp only [maxLen]; omega) (by have h1 := HOS.out; have h2 := HLT.out; have h3 := HCC.out; omega) Cw61.size ?_
            intro vw62 w62 how62 hgw62 hatw62
            have Cw62 := Cw61.app how62 hgw62 hatw62
            have Nw62 := Nw61.app Cw61.out hgw62 hatw62
            have Fw62 := how62.form
            obtain ⟨Aw62, cw62, rfl, F1w62, F2w62⟩ := Fw62
            rw [List.length_append, HOS.out] at Cw62 Nw62 F1w62 how62 ⊢
            refine hK.out _ _ Nw62.hand.blk (fun hw62 => ?_)
            clear hK K
            try simp only [Act.put, List.setIfInBounds_toArray, List.set_cons_zero, List.set_cons_succ]
            refine held_v 5 (some 11) rfl (by kernel_rfl) (by kernel_rfl) (by kernel_rfl) (by kernel_rfl) (fun c a v w h => HQ2.out c a _ v w h) (by kernel_rfl) (.slice Aw62 (j + [(k : Int)].length) cw62) (fun W h => by kernel_rfl) hw62 ?_
            try simp only [Act.put, List.setIfInBounds_toArray, List.set_cons_zero, List.set_cons_succ]
            refine wpAnyH_ready (rs := [6]) (by kernel_rfl) (by decide) ?_
            refine AllReadyH.cons rfl (fun K hK => ?_) AllReadyH.nil
            refine step_store none (by kernel_rfl) (by kernel_rfl) 40 (.tmp 6) (.tmp 62) rfl g3 (by kernel_rfl) 40 Vj V2 Cw62.src.blk (by kernel_rfl) (com_sameF ZVj.out ZV2.out) SV2.out OV2.out ?_
            intro w63 hkw63 hsw63 hbw63 how63
            have Cw63 := Cw62.put Nw62 hkw63.out hsw63.out hbw63 how63
            refine hK.out _ _ (Blk.other Nw62.hand.blk how63 HN13.out) (fun hw63 => ?_)
            clear hK K
            try simp only [Act.put, List.setIfInBounds_toArray, List.set_cons_zero, List.set_cons_succ]
            refine wpAnyH_done (by kernel_rfl) ?_ _
            refine HQ1.out _ _ ?_
            clear HQ1 HQ2
            have CX := Lib.hid Cw63
            clear hH
            go_wp2_with (first
              | (with_reducible refine at_any ?_; refine at_dst 64 rfl ?_; refine wpList_load_fen (by kernel_rfl) (.tmp 4) rfl gF rfl 32 (.slice AFj m cFj) CX.out.tre ?_)
              | (go_at_call 71; (with_reducible refine (HST.out _ (Kst.tz (HKS.out.below CX.out.src.bel)) CX.out.trd).mono ?_); rintro e wS ⟨AS, cS, rfl, hrS, hcS, hmS, hbS, hfS⟩; rw [HTL.out] at hrS hcS ⊢; have HCS := Lib.hid hcS; have HMS := Lib.hid hmS; have KS := Lib.hid (CX.out.tre.below hbS CX.out.tre.lt))
              | (with_reducible refine at_any ?_; refine at_store 4 rfl ?_; refine wpList_store_any rfl 32 (.tmp 4) (.tmp 67) rfl gF rfl 32 #[.slice AFj m cFj] #[.slice AS m cS] KS.out rfl (size1 _ _) (sizedF _) (fen_ones _ _ _) ?_; intro wT hkT hsT hbT hoT; have CY := Lib.hid (ComF.setf (l' := lj.set k 0) CX.out hrS hfS hbS hkT.out hsT.out hbT hoT); clear hrS hcS hmS hbS hfS hkT hsT hbT hoT))
            go_roundw
            case rel => exact ⟨j + 1, t, A2, c2, lj.set k 0, os ++ [(k : Int)], AS, cS, by have := HLT.out; omega, by go_num, by rw [List.length_append, HOS.out]; rfl, by rw [HV2.out]; exact CY.out, HOKT.out, HTT.out, HC2.out, HM2.out, HS5.out, HLJ.out, HZJ.out, HSJ.out, HCS.out, HMS.out, by rw [HON.out, Nat.sub_sub]⟩
            case measure => have h1 := HLT.out; simp [intOf]; omega
          · have hno2 := hno hE
            have HNO := Lib.hid hno2
            have t2 : (E == 0) = false := by rw [beq_eq_false_iff_ne]; exact hE
            have t3 : (E != 0) = true := by rw [bne, t2]; rfl
            clear hon hno hno2 hin hdr hlr hacc hzj hlj okt htt hsp hos okj htj hcj hcmj hVj hj hE hsj hfc hfm
            go_wp2_with (first
              | (with_reducible refine at_any ?_; refine at_dst 47 rfl ?_; refine wpList_load_fen (by kernel_rfl) (.tmp 4) rfl gF rfl 32 (.slice AFj m cFj) HC.out.tre ?_)
              | (with_reducible refine at_any ?_; refine at_dst 48 rfl ?_; refine wpList_load_blk rfl 40 (.tmp 6) rfl g3 rfl 40 Vj HC.out.src.blk _ Tryz.underlying40 rfl SVj.out ?_)
              | (go_at_call 15; (with_reducible refine (HDR.out _ HC.out.trd HC.out.src.rd.rd (HKS.out.below HC.out.src.bel)).mono ?_); rintro e w5 ⟨A2, c2, rfl, hrd2, hc2, hm2, hsp2, hb5⟩; obtain ⟨V2, hV2⟩ : ∃ V2, srcV t A2 c2 = V2 := ⟨_, rfl⟩; have SV2 := Lib.hid (ST.out A2 c2); have OV2 := Lib.hid (OT.out A2 c2); have ZV2 := Lib.hid (ZT.out A2 c2); have HV2 := Lib.hid hV2; rw [hV2] at SV2 OV2 ZV2 ⊢; clear hV2)
              | (with_reducible refine at_any ?_; refine at_dst 13 rfl ?_; refine wpList_alloc_any rfl 40 rfl Z HZ0.out ?_; intro w6 hk6 hs6 hb6)
              | (with_reducible refine at_any ?_; refine at_store 13 rfl ?_; refine wpList_store_any rfl 40 (.tmp 13) (.tmp 52) rfl w5.heap.size rfl 40 Z V2 hk6.out rfl ZV2.out SV2.out OV2.out ?_; intro w7 hk7 hs7 hb7 ho7; have TT := Lib.hid (ComF.took HC.out hrd2 hsp2 hb5 hb6 hk6.out hk7.out hs7.out hb7 ho7); have HS5 := Lib.hid (Sep.trans HSP.out hsp2 HC.out.size); have HC2 := Lib.hid hc2; have HM2 := Lib.hid hm2; have H13 := Lib.hid (com_ne13 HC.out hb5); clear hrd2 hsp2 hb5 hb6 hk6 hs6 hk7 hs7 hb7 ho7 hc2 hm2))
            obtain ⟨g13, hg13⟩ : ∃ g, w5.heap.size = g := ⟨_, rfl⟩
            have HC9 := TT.out.1
            have HN9 := TT.out.2
            have HN13 := H13
            rw [hg13] at HN9 HN13
            rw [hg13]
            have HZ9 := HC9.fx
            have HD9 := HN9.hand
            clear hg13
            have HZ7 := HZ9.drew
            refine wp_region_held_drew (S := (DrH w g7 g13 V2 A2 L zs)) (by kernel_rfl) HD9.drew (fun hH => ?_)
            refine wpAnyH_letter #[false, false, false, false, false] (by kernel_rfl) (fun _ _ d _ _ h => by cases d <;> exact h) (fun QL HQ1 HQ2 => ?_)
            refine held_row 0 (some 56) rfl (by kernel_rfl) (by kernel_rfl) (by kernel_rfl) (by kernel_rfl) (fun c a v w h => HQ2.out c a _ v w h) (by kernel_rfl) 40 (.tmp 13) rfl g13 (by kernel_rfl) 40 V2 (fun _ h => h.blk) _ Tryz.underlying40 rfl SV2.out hH ?_
            try simp only [Act.put, List.setIfInBounds_toArray, List.set_cons_zero, List.set_cons_succ]
            refine held_v 1 (some 57) rfl (by kernel_rfl) (by kernel_rfl) (by kernel_rfl) (by kernel_rfl) (fun c a v w h => HQ2.out c a _ v w h) (by kernel_rfl) (.int .i64 E) (fun W h => by kernel_rfl) hH ?_
            try simp only [Act.put, List.setIfInBounds_toArray, List.set_cons_zero, List.set_cons_succ]
            refine held_v 2 (some 8) rfl (by kernel_rfl) (by kernel_rfl) (by kernel_rfl) (by kernel_rfl) (fun c a v w h => HQ2.out c a _ v w h) (by kernel_rfl) (.slice none 0 0) (fun W h => by kernel_rfl) hH ?_
            try simp only [Act.put, List.setIfInBounds_toArray, List.set_cons_zero, List.set_cons_succ]
            refine wpAnyH_ready (rs := [3]) (by kernel_rfl) (by decide) ?_
            refine AllReadyH.cons rfl (fun K hK => ?_) AllReadyH.nil
            refine step_store none (by kernel_rfl) (by kernel_rfl) 40 (.tmp 9) (.tmp 56) rfl g7 (by kernel_rfl) 40 Z V2 HZ7.1 (by kernel_rfl) ZV2.out SV2.out OV2.out ?_
            intro w141 hkw141 hsw141 hbw141 how141
            have ex142 : Fx [.blk g7 40 V2] w141 := ⟨hkw141.out, trivial⟩
            refine hK.out _ _ (hH.store HZ7.1 hH.store7 hsw141.out hbw141 how141) (fun hw141 => ?_)
            clear hK K
            try simp only [Act.put, List.setIfInBounds_toArray, List.set_cons_zero, List.set_cons_succ]
            refine held_v 4 (some 10) rfl (by kernel_rfl) (by kernel_rfl) (by kernel_rfl) (by kernel_rfl) (fun c a v w h => HQ2.out c a _ v w h) (by kernel_rfl) (.int .i64 E) (fun W h => by kernel_rfl) hw141 ?_
            try simp only [Act.put, List.setIfInBounds_toArray, List.set_cons_zero, List.set_cons_succ]
            refine wpAnyH_done (by kernel_rfl) ?_ _
            refine HQ1.out _ _ ?_
            clear HQ1 HQ2
            go_wp2_with (refine bodyPost_mid 8 9 10 40 rfl g7 rfl (.slice none 0 0) (.int .i64 E) rfl rfl 40 V2 ex142.1 _ Tryz.underlying40 rfl SV2.out rfl ?_)
            exact com_retF HNO.out HV2.out HS5.out HC2.out HM2.out hw141.rd.rd hw141.bel (memF_nil _ _) HZS.out HLZ.out
        · obtain rfl : j = C := by omega
          have hend := hacc
          rw [Nat.sub_self, comAcc_end] at hend
          have HEND := Lib.hid hend
          have HSP := Lib.hid hsp
          have HCJ := Lib.hid hcj
          have HCMJ := Lib.hid hcmj
          have HVJ := Lib.hid hVj
          have HOS := Lib.hid hos
          have HO1 := Lib.hid hO1
          have HO2 := Lib.hid hO2
          have hF : FinS w g3 g7 Vj Aj L zs (.slice AO j cO) os wr := ⟨HC.out.src, HC.out.out⟩
          have HZ9 := HC.out.fx
          clear hend hacc hsp hcj hcmj hVj hos hO1 hO2 hzj hlj okj htj hj hlt hsj hfc hfm
          go_wp2
          have HZ7 := HZ9.drew
          refine wp_region_held_drew (S := (FinS w g3 g7 Vj Aj L zs (.slice AO j cO) os)) (by kernel_rfl) hF.drew (fun hH => ?_)
          refine wpAnyH_letter #[false, false, false, false, false] (by kernel_rfl) (fun _ _ d _ _ h => by cases d <;> exact h) (fun QL HQ1 HQ2 => ?_)
          refine held_v 0 (some 70) rfl (by kernel_rfl) (by kernel_rfl) (by kernel_rfl) (by kernel_rfl) (fun c a v w h => HQ2.out c a _ v w h) (by kernel_rfl) (.slice AO j cO) (fun W h => by kernel_rfl) hH ?_
          try simp only [Act.put, List.setIfInBounds_toArray, List.set_cons_zero, List.set_cons_succ]
          refine held_row 1 (some 71) rfl (by kernel_rfl) (by kernel_rfl) (by kernel_rfl) (by kernel_rfl) (fun c a v w h => HQ2.out c a _ v w h) (by kernel_rfl) 40 (.tmp 6) rfl g3 (by kernel_rfl) 40 Vj (fun _ h => h.blk) _ Tryz.underlying40 rfl SVj.out hH ?_
          try simp only [Act.put, List.setIfInBounds_toArray, List.set_cons_zero, List.set_cons_succ]
          refine held_v 2 (some 8) rfl (by kernel_rfl) (by kernel_rfl) (by kernel_rfl) (by kernel_rfl) (fun c a v w h => HQ2.out c a _ v w h) (by kernel_rfl) (.slice AO j cO) (fun W h => by kernel_rfl) hH ?_
          try simp only [Act.put, List.setIfInBounds_toArray, List.set_cons_zero, List.set_cons_succ]
          refine wpAnyH_ready (rs := [3]) (by kernel_rfl) (by decide) ?_
          refine AllReadyH.cons rfl (fun K hK => ?_) AllReadyH.nil
          refine step_store none (by kernel_rfl) (by kernel_rfl) 40 (.tmp 9) (.tmp 71) rfl g7 (by kernel_rfl) 40 Z Vj HZ7.1 (by kernel_rfl) ZVj.out SVj.out OVj.out ?_
          intro w241 hkw241 hsw241 hbw241 how241
          have ex242 : Fx [.blk g7 40 Vj] w241 := ⟨hkw241.out, trivial⟩
          refine hK.out _ _ (hH.store HZ7.1 hH.store7 hsw241.out hbw241 how241) (fun hw241 => ?_)
          clear hK K
          try simp only [Act.put, List.setIfInBounds_toArray, List.set_cons_zero, List.set_cons_succ]
          refine held_v 4 (some 10) rfl (by kernel_rfl) (by kernel_rfl) (by kernel_rfl) (by kernel_rfl) (fun c a v w h => HQ2.out c a _ v w h) (by kernel_rfl) (.int .i64 0) (fun W h => by kernel_rfl) hw241 ?_
          try simp only [Act.put, List.setIfInBounds_toArray, List.set_cons_zero, List.set_cons_succ]
          refine wpAnyH_done (by kernel_rfl) ?_ _
          refine HQ1.out _ _ ?_
          clear HQ1 HQ2
          go_wp2_with (refine bodyPost_mid 8 9 10 40 rfl g7 rfl (.slice AO j cO) (.int .i64 0) rfl rfl 40 Vj ex242.1 _ Tryz.underlying40 rfl SVj.out rfl ?_)
          exact com_retF HEND.out HVJ.out HSP.out HCJ.out HCMJ.out hw241.src.rd.rd hw241.src.bel ⟨HOS.out, OwnI.rd hw241.out HOS.out, HO1.out, HO2.out, Frs.of_own hw241.out⟩ HZS.out HLZ.out
  · have hR : comR l Ci s a = ([], s, 1) := by
      unfold comR
      rw [if_neg hb]
    rw [hR]
    have HBAD := Lib.hid (fun wF h0 w' h1 h2 => HRET.out 1 wF h0 w' h1 h2)
    clear hR HRET
    by_cases h1 : Ci < 0
    · clear hb hrt
      go_enter Tryz.func36, Tryz.ntmps36
      go_wp2_with (first
        | (with_reducible refine at_any ?_; refine at_dst 4 rfl ?_; refine wpList_box_any rfl 32 (.tmp 0) rfl #[.slice AF m c] rfl ?_; intro wF hkF hsF hbF; have G0 := Lib.hid (fx_start hkF.out HRF.out hbF); have HBF := Lib.hid hbF; have HRdF := Lib.hid ((hRd.out.below hbF).mono (Below.size hbF)); clear hkF hsF hbF)
        | (with_reducible refine at_any ?_; refine at_dst 6 rfl ?_; refine wpList_box_any rfl 40 (.tmp 2) rfl V rfl ?_; intro w1 hk1 hs1 hb1)
        | (with_reducible refine at_any ?_; refine at_dst 9 rfl ?_; refine wpList_alloc_any rfl 40 rfl Z HZ0.out ?_; intro w2 hk2 hs2 hb2; have HS2 := Lib.hid (DrS.mk2 HRdF.out hk1.out hb1 hk2.out hb2 (Below.refl _ _)); have HZ2 := Lib.hid (fx1 hk2.out); have G2 := Lib.hid (Fx.below (Fx.below G0.out hb1) hb2); clear G0 hs1 hb1 hs2 hb2))
      obtain ⟨g3, hg3⟩ : ∃ g, wF.heap.size = g := ⟨_, rfl⟩
      obtain ⟨g7, hg7⟩ : ∃ g, w1.heap.size = g := ⟨_, rfl⟩
      have HS9 := HS2.out
      have HZ9 := HZ2.out
      rw [hg3, hg7] at HS9
      rw [hg7] at HZ9
      rw [hg3, hg7]
      clear hg3 hg7 hk1 hk2
      have HZ7 := HZ9.drew
      refine wp_region_held_drew (S := (DrS wF g3 g7 V A0 L zs)) (by kernel_rfl) HS9.drew (fun hH => ?_)
      refine wpAnyH_letter #[false, false, false, false] (by kernel_rfl) (fun _ _ d _ _ h => by cases d <;> exact h) (fun QL HQ1 HQ2 => ?_)
      refine held_row 0 (some 34) rfl (by kernel_rfl) (by kernel_rfl) (by kernel_rfl) (by kernel_rfl) (fun c a v w h => HQ2.out c a _ v w h) (by kernel_rfl) 40 (.tmp 6) rfl g3 (by kernel_rfl) 40 V (fun _ h => h.blk) _ Tryz.underlying40 rfl SV.out hH ?_
      try simp only [Act.put, List.setIfInBounds_toArray, List.set_cons_zero, List.set_cons_succ]
      refine held_v 1 (some 8) rfl (by kernel_rfl) (by kernel_rfl) (by kernel_rfl) (by kernel_rfl) (fun c a v w h => HQ2.out c a _ v w h) (by kernel_rfl) (.slice none 0 0) (fun W h => by kernel_rfl) hH ?_
      try simp only [Act.put, List.setIfInBounds_toArray, List.set_cons_zero, List.set_cons_succ]
      refine wpAnyH_ready (rs := [2]) (by kernel_rfl) (by decide) ?_
      refine AllReadyH.cons rfl (fun K hK => ?_) AllReadyH.nil
      refine step_store none (by kernel_rfl) (by kernel_rfl) 40 (.tmp 9) (.tmp 34) rfl g7 (by kernel_rfl) 40 Z V HZ7.1 (by kernel_rfl) ZV.out SV.out OV.out ?_
      intro w41 hkw41 hsw41 hbw41 how41
      have ex42 : Fx [.blk g7 40 V] w41 := ⟨hkw41.out, trivial⟩
      refine hK.out _ _ (hH.store HZ7.1 hH.store7 hsw41.out hbw41 how41) (fun hw41 => ?_)
      clear hK K
      try simp only [Act.put, List.setIfInBounds_toArray, List.set_cons_zero, List.set_cons_succ]
      refine held_v 3 (some 10) rfl (by kernel_rfl) (by kernel_rfl) (by kernel_rfl) (by kernel_rfl) (fun c a v w h => HQ2.out c a _ v w h) (by kernel_rfl) (.int .i64 1) (fun W h => by kernel_rfl) hw41 ?_
      try simp only [Act.put, List.setIfInBounds_toArray, List.set_cons_zero, List.set_cons_succ]
      refine wpAnyH_done (by kernel_rfl) ?_ _
      refine HQ1.out _ _ ?_
      clear HQ1 HQ2
      go_wp2_with (refine bodyPost_mid 8 9 10 40 rfl g7 rfl (.slice none 0 0) (.int .i64 1) rfl rfl 40 V ex42.1 _ Tryz.underlying40 rfl SV.out rfl ?_)
      exact HBAD.out wF HBF.out _ hw41.rd hw41.bel
    · have h2 : 0 ≤ Ci := by omega
      have dA : decide (Ci < 0) = false := decide_eq_false h1
      by_cases h3 : 256 < Ci
      · clear hb hrt
        go_enter Tryz.func36, Tryz.ntmps36
        go_wp2_with (first
          | (with_reducible refine at_any ?_; refine at_dst 4 rfl ?_; refine wpList_box_any rfl 32 (.tmp 0) rfl #[.slice AF m c] rfl ?_; intro wF hkF hsF hbF; have G0 := Lib.hid (fx_start hkF.out HRF.out hbF); have HBF := Lib.hid hbF; have HRdF := Lib.hid ((hRd.out.below hbF).mono (Below.size hbF)); clear hkF hsF hbF)
          | (with_reducible refine at_any ?_; refine at_dst 6 rfl ?_; refine wpList_box_any rfl 40 (.tmp 2) rfl V rfl ?_; intro w1 hk1 hs1 hb1)
          | (with_reducible refine at_any ?_; refine at_dst 9 rfl ?_; refine wpList_alloc_any rfl 40 rfl Z HZ0.out ?_; intro w2 hk2 hs2 hb2; have HS2 := Lib.hid (DrS.mk2 HRdF.out hk1.out hb1 hk2.out hb2 (Below.refl _ _)); have HZ2 := Lib.hid (fx1 hk2.out); have G2 := Lib.hid (Fx.below (Fx.below G0.out hb1) hb2); clear G0 hs1 hb1 hs2 hb2))
        obtain ⟨g3, hg3⟩ : ∃ g, wF.heap.size = g := ⟨_, rfl⟩
        obtain ⟨g7, hg7⟩ : ∃ g, w1.heap.size = g := ⟨_, rfl⟩
        have HS9 := HS2.out
        have HZ9 := HZ2.out
        rw [hg3, hg7] at HS9
        rw [hg7] at HZ9
        rw [hg3, hg7]
        clear hg3 hg7 hk1 hk2
        have HZ7 := HZ9.drew
        refine wp_region_held_drew (S := (DrS wF g3 g7 V A0 L zs)) (by kernel_rfl) HS9.drew (fun hH => ?_)
        refine wpAnyH_letter #[false, false, false, false] (by kernel_rfl) (fun _ _ d _ _ h => by cases d <;> exact h) (fun QL HQ1 HQ2 => ?_)
        refine held_row 0 (some 34) rfl (by kernel_rfl) (by kernel_rfl) (by kernel_rfl) (by kernel_rfl) (fun c a v w h => HQ2.out c a _ v w h) (by kernel_rfl) 40 (.tmp 6) rfl g3 (by kernel_rfl) 40 V (fun _ h => h.blk) _ Tryz.underlying40 rfl SV.out hH ?_
        try simp only [Act.put, List.setIfInBounds_toArray, List.set_cons_zero, List.set_cons_succ]
        refine held_v 1 (some 8) rfl (by kernel_rfl) (by kernel_rfl) (by kernel_rfl) (by kernel_rfl) (fun c a v w h => HQ2.out c a _ v w h) (by kernel_rfl) (.slice none 0 0) (fun W h => by kernel_rfl) hH ?_
        try simp only [Act.put, List.setIfInBounds_toArray, List.set_cons_zero, List.set_cons_succ]
        refine wpAnyH_ready (rs := [2]) (by kernel_rfl) (by decide) ?_
        refine AllReadyH.cons rfl (fun K hK => ?_) AllReadyH.nil
        refine step_store none (by kernel_rfl) (by kernel_rfl) 40 (.tmp 9) (.tmp 34) rfl g7 (by kernel_rfl) 40 Z V HZ7.1 (by kernel_rfl) ZV.out SV.out OV.out ?_
        intro w41 hkw41 hsw41 hbw41 how41
        have ex42 : Fx [.blk g7 40 V] w41 := ⟨hkw41.out, trivial⟩
        refine hK.out _ _ (hH.store HZ7.1 hH.store7 hsw41.out hbw41 how41) (fun hw41 => ?_)
        clear hK K
        try simp only [Act.put, List.setIfInBounds_toArray, List.set_cons_zero, List.set_cons_succ]
        refine held_v 3 (some 10) rfl (by kernel_rfl) (by kernel_rfl) (by kernel_rfl) (by kernel_rfl) (fun c a v w h => HQ2.out c a _ v w h) (by kernel_rfl) (.int .i64 1) (fun W h => by kernel_rfl) hw41 ?_
        try simp only [Act.put, List.setIfInBounds_toArray, List.set_cons_zero, List.set_cons_succ]
        refine wpAnyH_done (by kernel_rfl) ?_ _
        refine HQ1.out _ _ ?_
        clear HQ1 HQ2
        go_wp2_with (refine bodyPost_mid 8 9 10 40 rfl g7 rfl (.slice none 0 0) (.int .i64 1) rfl rfl 40 V ex42.1 _ Tryz.underlying40 rfl SV.out rfl ?_)
        exact HBAD.out wF HBF.out _ hw41.rd hw41.bel
      · have h4 : Ci ≤ 256 := by omega
        have dB : decide (256 < Ci) = false := decide_eq_false h3
        have HRT := Lib.hid hrt
        by_cases hr : rightS s = true
        · rw [hr] at HRT
          by_cases h5 : a < 1
          · clear hb hrt hr
            go_enter Tryz.func36, Tryz.ntmps36
            go_wp2_with (first
              | (with_reducible refine at_any ?_; refine at_dst 4 rfl ?_; refine wpList_box_any rfl 32 (.tmp 0) rfl #[.slice AF m c] rfl ?_; intro wF hkF hsF hbF; have G0 := Lib.hid (fx_start hkF.out HRF.out hbF); have HBF := Lib.hid hbF; have HRdF := Lib.hid ((hRd.out.below hbF).mono (Below.size hbF)); clear hkF hsF hbF)
              | (with_reducible refine at_any ?_; refine at_dst 6 rfl ?_; refine wpList_box_any rfl 40 (.tmp 2) rfl V rfl ?_; intro w1 hk1 hs1 hb1)
              | (with_reducible refine at_any ?_; refine at_dst 9 rfl ?_; refine wpList_alloc_any rfl 40 rfl Z HZ0.out ?_; intro w2 hk2 hs2 hb2; have HS2 := Lib.hid (DrS.mk2 HRdF.out hk1.out hb1 hk2.out hb2 (Below.refl _ _)); have HZ2 := Lib.hid (fx1 hk2.out); have G2 := Lib.hid (Fx.below (Fx.below G0.out hb1) hb2); clear G0 hs1 hb1 hs2 hb2)
              | (with_reducible refine at_any ?_; refine at_dst 22 rfl ?_; refine wpList_load_gdb (by kernel_rfl) 40 (.tmp 6) rfl wF.heap.size rfl 40 V HS2.out.blk _ Tryz.underlying40 rfl SV.out ?_)
              | (go_at_call 67; (with_reducible refine (HRT.out _).mono ?_); rintro e w3 ⟨rfl, hb3⟩; have HS3 := Lib.hid (DrS.below HS2.out hb3); have HZ3 := Lib.hid (Fx.below HZ2.out hb3); have G3 := Lib.hid (Fx.below G2.out hb3); clear hb3))
            obtain ⟨g3, hg3⟩ : ∃ g, wF.heap.size = g := ⟨_, rfl⟩
            obtain ⟨g7, hg7⟩ : ∃ g, w1.heap.size = g := ⟨_, rfl⟩
            have HS9 := HS3.out
            have HZ9 := HZ3.out
            rw [hg3, hg7] at HS9
            rw [hg7] at HZ9
            rw [hg3, hg7]
            clear hg3 hg7 hk1 hk2
            have HZ7 := HZ9.drew
            refine wp_region_held_drew (S := (DrS wF g3 g7 V A0 L zs)) (by kernel_rfl) HS9.drew (fun hH => ?_)
            refine wpAnyH_letter #[false, false, false, false] (by kernel_rfl) (fun _ _ d _ _ h => by cases d <;> exact h) (fun QL HQ1 HQ2 => ?_)
            refine held_row 0 (some 34) rfl (by kernel_rfl) (by kernel_rfl) (by kernel_rfl) (by kernel_rfl) (fun c a v w h => HQ2.out c a _ v w h) (by kernel_rfl) 40 (.tmp 6) rfl g3 (by kernel_rfl) 40 V (fun _ h => h.blk) _ Tryz.underlying40 rfl SV.out hH ?_
            try simp only [Act.put, List.setIfInBounds_toArray, List.set_cons_zero, List.set_cons_succ]
            refine held_v 1 (some 8) rfl (by kernel_rfl) (by kernel_rfl) (by kernel_rfl) (by kernel_rfl) (fun c a v w h => HQ2.out c a _ v w h) (by kernel_rfl) (.slice none 0 0) (fun W h => by kernel_rfl) hH ?_
            try simp only [Act.put, List.setIfInBounds_toArray, List.set_cons_zero, List.set_cons_succ]
            refine wpAnyH_ready (rs := [2]) (by kernel_rfl) (by decide) ?_
            refine AllReadyH.cons rfl (fun K hK => ?_) AllReadyH.nil
            refine step_store none (by kernel_rfl) (by kernel_rfl) 40 (.tmp 9) (.tmp 34) rfl g7 (by kernel_rfl) 40 Z V HZ7.1 (by kernel_rfl) ZV.out SV.out OV.out ?_
            intro w41 hkw41 hsw41 hbw41 how41
            have ex42 : Fx [.blk g7 40 V] w41 := ⟨hkw41.out, trivial⟩
            refine hK.out _ _ (hH.store HZ7.1 hH.store7 hsw41.out hbw41 how41) (fun hw41 => ?_)
            clear hK K
            try simp only [Act.put, List.setIfInBounds_toArray, List.set_cons_zero, List.set_cons_succ]
            refine held_v 3 (some 10) rfl (by kernel_rfl) (by kernel_rfl) (by kernel_rfl) (by kernel_rfl) (fun c a v w h => HQ2.out c a _ v w h) (by kernel_rfl) (.int .i64 1) (fun W h => by kernel_rfl) hw41 ?_
            try simp only [Act.put, List.setIfInBounds_toArray, List.set_cons_zero, List.set_cons_succ]
            refine wpAnyH_done (by kernel_rfl) ?_ _
            refine HQ1.out _ _ ?_
            clear HQ1 HQ2
            go_wp2_with (refine bodyPost_mid 8 9 10 40 rfl g7 rfl (.slice none 0 0) (.int .i64 1) rfl rfl 40 V ex42.1 _ Tryz.underlying40 rfl SV.out rfl ?_)
            exact HBAD.out wF HBF.out _ hw41.rd hw41.bel
          · have h6 : 64 < a := by
              by_cases h7 : a ≤ 64
              · exact absurd (by unfold comB; rw [hr, decide_eq_true ⟨h2, h4, by omega, h7⟩]; rfl) hb
              · omega
            have h8 : 1 ≤ a := by omega
            have dC : decide (a < 1) = false := decide_eq_false h5
            clear hb hrt hr
            go_enter Tryz.func36, Tryz.ntmps36
            go_wp2_with (first
              | (with_reducible refine at_any ?_; refine at_dst 4 rfl ?_; refine wpList_box_any rfl 32 (.tmp 0) rfl #[.slice AF m c] rfl ?_; intro wF hkF hsF hbF; have G0 := Lib.hid (fx_start hkF.out HRF.out hbF); have HBF := Lib.hid hbF; have HRdF := Lib.hid ((hRd.out.below hbF).mono (Below.size hbF)); clear hkF hsF hbF)
              | (with_reducible refine at_any ?_; refine at_dst 6 rfl ?_; refine wpList_box_any rfl 40 (.tmp 2) rfl V rfl ?_; intro w1 hk1 hs1 hb1)
              | (with_reducible refine at_any ?_; refine at_dst 9 rfl ?_; refine wpList_alloc_any rfl 40 rfl Z HZ0.out ?_; intro w2 hk2 hs2 hb2; have HS2 := Lib.hid (DrS.mk2 HRdF.out hk1.out hb1 hk2.out hb2 (Below.refl _ _)); have HZ2 := Lib.hid (fx1 hk2.out); have G2 := Lib.hid (Fx.below (Fx.below G0.out hb1) hb2); clear G0 hs1 hb1 hs2 hb2)
              | (with_reducible refine at_any ?_; refine at_dst 22 rfl ?_; refine wpList_load_gdb (by kernel_rfl) 40 (.tmp 6) rfl wF.heap.size rfl 40 V HS2.out.blk _ Tryz.underlying40 rfl SV.out ?_)
              | (go_at_call 67; (with_reducible refine (HRT.out _).mono ?_); rintro e w3 ⟨rfl, hb3⟩; have HS3 := Lib.hid (DrS.below HS2.out hb3); have HZ3 := Lib.hid (Fx.below HZ2.out hb3); have G3 := Lib.hid (Fx.below G2.out hb3); clear hb3))
            obtain ⟨g3, hg3⟩ : ∃ g, wF.heap.size = g := ⟨_, rfl⟩
            obtain ⟨g7, hg7⟩ : ∃ g, w1.heap.size = g := ⟨_, rfl⟩
            have HS9 := HS3.out
            have HZ9 := HZ3.out
            rw [hg3, hg7] at HS9
            rw [hg7] at HZ9
            rw [hg3, hg7]
            clear hg3 hg7 hk1 hk2
            have HZ7 := HZ9.drew
            refine wp_region_held_drew (S := (DrS wF g3 g7 V A0 L zs)) (by kernel_rfl) HS9.drew (fun hH => ?_)
            refine wpAnyH_letter #[false, false, false, false] (by kernel_rfl) (fun _ _ d _ _ h => by cases d <;> exact h) (fun QL HQ1 HQ2 => ?_)
            refine held_row 0 (some 34) rfl (by kernel_rfl) (by kernel_rfl) (by kernel_rfl) (by kernel_rfl) (fun c a v w h => HQ2.out c a _ v w h) (by kernel_rfl) 40 (.tmp 6) rfl g3 (by kernel_rfl) 40 V (fun _ h => h.blk) _ Tryz.underlying40 rfl SV.out hH ?_
            try simp only [Act.put, List.setIfInBounds_toArray, List.set_cons_zero, List.set_cons_succ]
            refine held_v 1 (some 8) rfl (by kernel_rfl) (by kernel_rfl) (by kernel_rfl) (by kernel_rfl) (fun c a v w h => HQ2.out c a _ v w h) (by kernel_rfl) (.slice none 0 0) (fun W h => by kernel_rfl) hH ?_
            try simp only [Act.put, List.setIfInBounds_toArray, List.set_cons_zero, List.set_cons_succ]
            refine wpAnyH_ready (rs := [2]) (by kernel_rfl) (by decide) ?_
            refine AllReadyH.cons rfl (fun K hK => ?_) AllReadyH.nil
            refine step_store none (by kernel_rfl) (by kernel_rfl) 40 (.tmp 9) (.tmp 34) rfl g7 (by kernel_rfl) 40 Z V HZ7.1 (by kernel_rfl) ZV.out SV.out OV.out ?_
            intro w41 hkw41 hsw41 hbw41 how41
            have ex42 : Fx [.blk g7 40 V] w41 := ⟨hkw41.out, trivial⟩
            refine hK.out _ _ (hH.store HZ7.1 hH.store7 hsw41.out hbw41 how41) (fun hw41 => ?_)
            clear hK K
            try simp only [Act.put, List.setIfInBounds_toArray, List.set_cons_zero, List.set_cons_succ]
            refine held_v 3 (some 10) rfl (by kernel_rfl) (by kernel_rfl) (by kernel_rfl) (by kernel_rfl) (fun c a v w h => HQ2.out c a _ v w h) (by kernel_rfl) (.int .i64 1) (fun W h => by kernel_rfl) hw41 ?_
            try simp only [Act.put, List.setIfInBounds_toArray, List.set_cons_zero, List.set_cons_succ]
            refine wpAnyH_done (by kernel_rfl) ?_ _
            refine HQ1.out _ _ ?_
            clear HQ1 HQ2
            go_wp2_with (refine bodyPost_mid 8 9 10 40 rfl g7 rfl (.slice none 0 0) (.int .i64 1) rfl rfl 40 V ex42.1 _ Tryz.underlying40 rfl SV.out rfl ?_)
            exact HBAD.out wF HBF.out _ hw41.rd hw41.bel
        · have hr2 : rightS s = false := by
            cases hh : rightS s with
            | true => exact absurd hh hr
            | false => rfl
          rw [hr2] at HRT
          clear hb hrt hr hr2
          go_enter Tryz.func36, Tryz.ntmps36
          go_wp2_with (first
            | (with_reducible refine at_any ?_; refine at_dst 4 rfl ?_; refine wpList_box_any rfl 32 (.tmp 0) rfl #[.slice AF m c] rfl ?_; intro wF hkF hsF hbF; have G0 := Lib.hid (fx_start hkF.out HRF.out hbF); have HBF := Lib.hid hbF; have HRdF := Lib.hid ((hRd.out.below hbF).mono (Below.size hbF)); clear hkF hsF hbF)
            | (with_reducible refine at_any ?_; refine at_dst 6 rfl ?_; refine wpList_box_any rfl 40 (.tmp 2) rfl V rfl ?_; intro w1 hk1 hs1 hb1)
            | (with_reducible refine at_any ?_; refine at_dst 9 rfl ?_; refine wpList_alloc_any rfl 40 rfl Z HZ0.out ?_; intro w2 hk2 hs2 hb2; have HS2 := Lib.hid (DrS.mk2 HRdF.out hk1.out hb1 hk2.out hb2 (Below.refl _ _)); have HZ2 := Lib.hid (fx1 hk2.out); have G2 := Lib.hid (Fx.below (Fx.below G0.out hb1) hb2); clear G0 hs1 hb1 hs2 hb2)
            | (with_reducible refine at_any ?_; refine at_dst 22 rfl ?_; refine wpList_load_gdb (by kernel_rfl) 40 (.tmp 6) rfl wF.heap.size rfl 40 V HS2.out.blk _ Tryz.underlying40 rfl SV.out ?_)
            | (go_at_call 67; (with_reducible refine (HRT.out _).mono ?_); rintro e w3 ⟨rfl, hb3⟩; have HS3 := Lib.hid (DrS.below HS2.out hb3); have HZ3 := Lib.hid (Fx.below HZ2.out hb3); have G3 := Lib.hid (Fx.below G2.out hb3); clear hb3))
          obtain ⟨g3, hg3⟩ : ∃ g, wF.heap.size = g := ⟨_, rfl⟩
          obtain ⟨g7, hg7⟩ : ∃ g, w1.heap.size = g := ⟨_, rfl⟩
          have HS9 := HS3.out
          have HZ9 := HZ3.out
          rw [hg3, hg7] at HS9
          rw [hg7] at HZ9
          rw [hg3, hg7]
          clear hg3 hg7 hk1 hk2
          have HZ7 := HZ9.drew
          refine wp_region_held_drew (S := (DrS wF g3 g7 V A0 L zs)) (by kernel_rfl) HS9.drew (fun hH => ?_)
          refine wpAnyH_letter #[false, false, false, false] (by kernel_rfl) (fun _ _ d _ _ h => by cases d <;> exact h) (fun QL HQ1 HQ2 => ?_)
          refine held_row 0 (some 34) rfl (by kernel_rfl) (by kernel_rfl) (by kernel_rfl) (by kernel_rfl) (fun c a v w h => HQ2.out c a _ v w h) (by kernel_rfl) 40 (.tmp 6) rfl g3 (by kernel_rfl) 40 V (fun _ h => h.blk) _ Tryz.underlying40 rfl SV.out hH ?_
          try simp only [Act.put, List.setIfInBounds_toArray, List.set_cons_zero, List.set_cons_succ]
          refine held_v 1 (some 8) rfl (by kernel_rfl) (by kernel_rfl) (by kernel_rfl) (by kernel_rfl) (fun c a v w h => HQ2.out c a _ v w h) (by kernel_rfl) (.slice none 0 0) (fun W h => by kernel_rfl) hH ?_
          try simp only [Act.put, List.setIfInBounds_toArray, List.set_cons_zero, List.set_cons_succ]
          refine wpAnyH_ready (rs := [2]) (by kernel_rfl) (by decide) ?_
          refine AllReadyH.cons rfl (fun K hK => ?_) AllReadyH.nil
          refine step_store none (by kernel_rfl) (by kernel_rfl) 40 (.tmp 9) (.tmp 34) rfl g7 (by kernel_rfl) 40 Z V HZ7.1 (by kernel_rfl) ZV.out SV.out OV.out ?_
          intro w41 hkw41 hsw41 hbw41 how41
          have ex42 : Fx [.blk g7 40 V] w41 := ⟨hkw41.out, trivial⟩
          refine hK.out _ _ (hH.store HZ7.1 hH.store7 hsw41.out hbw41 how41) (fun hw41 => ?_)
          clear hK K
          try simp only [Act.put, List.setIfInBounds_toArray, List.set_cons_zero, List.set_cons_succ]
          refine held_v 3 (some 10) rfl (by kernel_rfl) (by kernel_rfl) (by kernel_rfl) (by kernel_rfl) (fun c a v w h => HQ2.out c a _ v w h) (by kernel_rfl) (.int .i64 1) (fun W h => by kernel_rfl) hw41 ?_
          try simp only [Act.put, List.setIfInBounds_toArray, List.set_cons_zero, List.set_cons_succ]
          refine wpAnyH_done (by kernel_rfl) ?_ _
          refine HQ1.out _ _ ?_
          clear HQ1 HQ2
          go_wp2_with (refine bodyPost_mid 8 9 10 40 rfl g7 rfl (.slice none 0 0) (.int .i64 1) rfl rfl 40 V ex42.1 _ Tryz.underlying40 rfl SV.out rfl ?_)
          exact HBAD.out wF HBF.out _ hw41.rd hw41.bel
end
section
def cellL (ts : List (Int × Int)) (k : Nat) : Int × Int := ts.getD k (0, 0)
def tabR (T : Int) (ts : List (Int × Int)) : Bool := decide (0 < ts.length ∧ 0 < T ∧ (ts.length : Int) * T < 9223372036854775808 ∧ ∀ k, k < ts.length → (cellL ts k).1 ≤ T ∧ 0 ≤ (cellL ts k).2 ∧ (cellL ts k).2 < ts.length)
def tabZ (T : Int) (ts : List (Int × Int)) : Int := if tabR T ts = true then (ts.length : Int) * T else 0
def lkE (T : Int) (ts : List (Int × Int)) (c u : Int) : Int := if tabR T ts = true then (if 0 ≤ c ∧ c < ts.length ∧ u < T then 0 else 3) else 1
def lkV (T : Int) (ts : List (Int × Int)) (c u : Int) : Int := if lkE T ts c u = 0 then (if u < (cellL ts c.toNat).1 then c else (cellL ts c.toNat).2) else 0
def owE (T : Int) (ts : List (Int × Int)) (u : Int) : Int := if tabR T ts = true then (if u < (ts.length : Int) * T then 0 else 3) else 1
def owV (T : Int) (ts : List (Int × Int)) (u : Int) : Int := if owE T ts u = 0 then lkV T ts (u / T) (u % T) else 0
def ownK (T i : Int) (k : Nat) (p : Int × Int) : Int := (if (k : Int) = i then p.1 else 0) + (if p.2 = i then T - p.1 else 0)
def ownsN (T : Int) (ts : List (Int × Int)) (i : Int) : Nat → Int
  | 0 => 0
  | k + 1 => ownsN T ts i k + ownK T i k (cellL ts k)
theorem tabR_iff {T : Int} {ts : List (Int × Int)} : tabR T ts = true ↔ (0 < ts.length ∧ 0 < T ∧ (ts.length : Int) * T < 9223372036854775808 ∧ ∀ k, k < ts.length → (cellL ts k).1 ≤ T ∧ 0 ≤ (cellL ts k).2 ∧ (cellL ts k).2 < ts.length) := by unfold tabR; exact decide_eq_true_iff
theorem cellL_mem {ts : List (Int × Int)} {k : Nat} (h : k < ts.length) : cellL ts k ∈ ts := by
  unfold cellL
  rw [List.getD_eq_getElem?_getD, List.getElem?_eq_getElem h]
  exact List.getElem_mem h
theorem cellL_set {ts : List (Int × Int)} {a : Nat} {p : Int × Int} (h : a < ts.length) (k : Nat) : cellL (ts.set a p) k = if k = a then p else cellL ts k := by
  unfold cellL
  simp only [List.getD_eq_getElem?_getD, List.getElem?_set]
  split
  · subst_vars; simp [h]
  · rw [if_neg (by omega)]
theorem ownsN_set {T i : Int} {ts : List (Int × Int)} {a : Nat} {p : Int × Int} (ha : a < ts.length) : ∀ k : Nat, ownsN T (ts.set a p) i k = ownsN T ts i k + (if a < k then ownK T i a p - ownK T i a (cellL ts a) else 0)
  | 0 => by simp [ownsN]
  | k + 1 => by
    unfold ownsN
    rw [ownsN_set ha k, cellL_set ha]
    by_cases h : k = a
    · subst h
      rw [if_pos rfl, if_neg (by omega), if_pos (by omega)]
      omega
    · rw [if_neg h]
      by_cases h2 : a < k
      · rw [if_pos h2, if_pos (by omega)]; omega
      · rw [if_neg h2, if_neg (by omega)]; omega
structure AB where
  has : List Int
  ts : List (Int × Int)
  sm : List Int
  lg : List Int
def topL (l : List Int) : Int := l.getD (l.length - 1) 0
def abH (T : Int) (s : AB) : Int := s.has.getD (topL s.lg).toNat 0 - (T - s.has.getD (topL s.sm).toNat 0)
def abStep (T : Int) (s : AB) : AB where
  has := s.has.set (topL s.lg).toNat (abH T s)
  ts := s.ts.set (topL s.sm).toNat (s.has.getD (topL s.sm).toNat 0, topL s.lg)
  sm := if abH T s < T then s.sm.take (s.sm.length - 1) ++ [topL s.lg] else s.sm.take (s.sm.length - 1)
  lg := if abH T s < T then s.lg.take (s.lg.length - 1) else s.lg.take (s.lg.length - 1) ++ [topL s.lg]
def abRun (T : Int) : Nat → AB → AB
  | 0, s => s
  | f + 1, s => if s.sm.length = 0 ∨ s.lg.length = 0 then s else abRun T f (abStep T s)
def smL (T : Int) (hs : List Int) (k : Nat) : List Int := ((List.range k).filter fun i => decide (hs.getD i 0 < T)).map Int.ofNat
def lgL (T : Int) (hs : List Int) (k : Nat) : List Int := ((List.range k).filter fun i => !decide (hs.getD i 0 < T)).map Int.ofNat
def hasL (l : List Int) : List Int := l.map fun x => (l.length : Int) * x
def cellsL (T : Int) (n : Nat) : List (Int × Int) := (List.range n).map fun (i : Nat) => (T, (i : Int))
def abInit (T : Int) (l : List Int) : AB := ⟨hasL l, cellsL T l.length, smL T (hasL l) l.length, lgL T (hasL l) l.length⟩
def tbE (l : List Int) : Int := if l.length = 0 then 10 else if sumL l < 9223372036854775808 then (if sumL l = 0 then 10 else if (l.length : Int) * sumL l < 9223372036854775808 then 0 else 11) else 11
def tbT (l : List Int) : Int := if tbE l = 0 then sumL l else 0
def tbC (l : List Int) : List (Int × Int) := if tbE l = 0 then (abRun (sumL l) l.length (abInit (sumL l) l)).ts else []
theorem smL_succ (T : Int) (hs : List Int) (k : Nat) : smL T hs (k + 1) = if hs.getD k 0 < T then smL T hs k ++ [(k : Int)] else smL T hs k := by
  unfold smL
  rw [List.range_succ, List.filter_append, List.map_append]
  by_cases h : hs.getD k 0 < T
  · rw [if_pos h, List.filter_cons_of_pos (by simpa using h)]; rfl
  · rw [if_neg h, List.filter_cons_of_neg (by simpa using h)]; simp
theorem lgL_succ (T : Int) (hs : List Int) (k : Nat) : lgL T hs (k + 1) = if hs.getD k 0 < T then lgL T hs k else lgL T hs k ++ [(k : Int)] := by
  unfold lgL
  rw [List.range_succ, List.filter_append, List.map_append]
  by_cases h : hs.getD k 0 < T
  · rw [if_pos h, List.filter_cons_of_neg (by simpa using h)]; simp
  · rw [if_neg h, List.filter_cons_of_pos (by simpa using h)]; rfl
theorem sl_len (T : Int) (hs : List Int) : ∀ k : Nat, (smL T hs k).length + (lgL T hs k).length = k
  | 0 => rfl
  | k + 1 => by
    have := sl_len T hs k
    rw [smL_succ, lgL_succ]
    split <;> simp <;> omega
theorem abRun_stop {T : Int} {s : AB} (h : s.sm.length = 0 ∨ s.lg.length = 0) : ∀ f, abRun T f s = s
  | 0 => rfl
  | f + 1 => by unfold abRun; rw [if_pos h]
theorem abRun_go {T : Int} {s : AB} (h : s.sm.length ≠ 0) (h2 : s.lg.length ≠ 0) (f : Nat) : abRun T (f + 1) s = abRun T f (abStep T s) := by
  conv => lhs; unfold abRun
  rw [if_neg (by omega)]
theorem abStep_len {T : Int} {s : AB} (h : s.sm.length ≠ 0) (h2 : s.lg.length ≠ 0) : (abStep T s).sm.length + (abStep T s).lg.length + 1 = s.sm.length + s.lg.length := by
  unfold abStep
  dsimp only
  split <;> simp <;> omega
theorem top_split {l : List Int} (h : l.length ≠ 0) : l = l.take (l.length - 1) ++ [topL l] := by
  unfold topL
  conv => lhs; rw [← List.take_append_drop (l.length - 1) l]
  congr 1
  rw [List.drop_eq_getElem_cons (by omega), List.getD_eq_getElem?_getD, List.getElem?_eq_getElem (by omega), List.drop_eq_nil_of_le (by omega)]
  rfl
structure ABI (T : Int) (l : List Int) (s : AB) : Prop where
  hn : s.has.length = l.length
  tn : s.ts.length = l.length
  nd : (s.sm ++ s.lg).Nodup
  sm : ∀ a ∈ s.sm, 0 ≤ a ∧ a < l.length ∧ 0 ≤ s.has.getD a.toNat 0 ∧ s.has.getD a.toNat 0 < T
  lg : ∀ a ∈ s.lg, 0 ≤ a ∧ a < l.length ∧ T ≤ s.has.getD a.toNat 0 ∧ s.has.getD a.toNat 0 < 9223372036854775808
  ce : ∀ k, k < l.length → 0 ≤ (cellL s.ts k).1 ∧ (cellL s.ts k).1 ≤ T ∧ 0 ≤ (cellL s.ts k).2 ∧ (cellL s.ts k).2 < l.length
  ac : ∀ a : Nat, (a : Int) ∈ s.sm ++ s.lg → cellL s.ts a = (T, (a : Int))
  ow : ∀ i : Nat, i < l.length → ownsN T s.ts i l.length = (l.length : Int) * l.getD i 0 + (if (i : Int) ∈ s.sm ++ s.lg then T - s.has.getD i 0 else 0)
  su : sumL ((s.sm ++ s.lg).map fun a => s.has.getD a.toNat 0) = T * ((s.sm.length : Int) + (s.lg.length : Int))
theorem sumL_perm {l m : List Int} (h : l.Perm m) : sumL l = sumL m := by
  induction h with
  | nil => rfl
  | cons x _ ih => show x + _ = x + _; rw [ih]
  | swap x y l => show y + (x + sumL l) = x + (y + sumL l); omega
  | trans _ _ h1 h2 => exact h1.trans h2
theorem getD_setT {l : List Int} {a : Nat} {x : Int} (h : a < l.length) (k : Nat) : (l.set a x).getD k 0 = if k = a then x else l.getD k 0 := by
  simp only [List.getD_eq_getElem?_getD, List.getElem?_set]
  split
  · subst_vars; simp [h]
  · rw [if_neg (by omega)]
theorem perm_two (x y : List Int) (a b : Int) : ((x ++ [a]) ++ (y ++ [b])).Perm (a :: b :: (x ++ y)) := by
  rw [List.append_assoc, List.singleton_append]
  refine List.perm_middle.trans (List.Perm.cons a ?_)
  rw [← List.append_assoc]
  exact List.perm_append_comm (l₂ := [b])
theorem perm_s (x y : List Int) (b : Int) : ((x ++ [b]) ++ y).Perm (b :: (x ++ y)) := by
  rw [List.append_assoc, List.singleton_append]
  exact List.perm_middle
theorem perm_l (x y : List Int) (b : Int) : (x ++ (y ++ [b])).Perm (b :: (x ++ y)) := by
  rw [← List.append_assoc]
  exact List.perm_append_comm (l₂ := [b])
def restL (s : AB) : List Int := s.sm.take (s.sm.length - 1) ++ s.lg.take (s.lg.length - 1)
theorem ab_perm {s : AB} (h : s.sm.length ≠ 0) (h2 : s.lg.length ≠ 0) : (s.sm ++ s.lg).Perm (topL s.sm :: topL s.lg :: restL s) := by
  have h3 := perm_two (s.sm.take (s.sm.length - 1)) (s.lg.take (s.lg.length - 1)) (topL s.sm) (topL s.lg)
  rw [← top_split h, ← top_split h2] at h3
  exact h3
theorem ab_perm2 (T : Int) (s : AB) : ((abStep T s).sm ++ (abStep T s).lg).Perm (topL s.lg :: restL s) := by
  unfold abStep restL
  dsimp only
  split
  · exact perm_s _ _ _
  · exact perm_l _ _ _
theorem ownK_self (T i : Int) (a : Nat) : ownK T i a (T, (a : Int)) = if (a : Int) = i then T else 0 := by unfold ownK; dsimp only; split <;> omega
set_option maxHeartbeats 1000000 in
theorem ABI.step {T : Int} {l : List Int} {s : AB} (I : ABI T l s) (h : s.sm.length ≠ 0) (h2 : s.lg.length ≠ 0) : ABI T l (abStep T s) := by
  have P := ab_perm h h2
  have P2 := ab_perm2 T s
  have ND := (P.nodup_iff).1 I.nd
  have am : topL s.sm ∈ s.sm := by have := top_split h; rw [this]; simp [topL]
  have bm : topL s.lg ∈ s.lg := by have := top_split h2; rw [this]; simp [topL]
  obtain ⟨a0, a1, a2, a3⟩ := I.sm _ am
  obtain ⟨b0, b1, b2, b3⟩ := I.lg _ bm
  have hH : abH T s = s.has.getD (topL s.lg).toNat 0 - (T - s.has.getD (topL s.sm).toNat 0) := rfl
  have hab : topL s.sm ≠ topL s.lg := by
    intro e
    rw [e] at ND
    have := (List.nodup_cons.1 ND).1
    simp at this
  have haR : topL s.sm ∉ restL s := fun hm => (List.nodup_cons.1 ND).1 (by simp [hm])
  have hbR : topL s.lg ∉ restL s := (List.nodup_cons.1 (List.nodup_cons.1 ND).2).1
  have hRd := (List.nodup_cons.1 (List.nodup_cons.1 ND).2).2
  have hc := I.ac (topL s.sm).toNat (by rw [Int.toNat_of_nonneg a0]; simp [am])
  have pos : ∀ x ∈ s.sm ++ s.lg, 0 ≤ x ∧ x < l.length := fun x hx => by
    rcases List.mem_append.1 hx with hx | hx
    · exact ⟨(I.sm x hx).1, (I.sm x hx).2.1⟩
    · exact ⟨(I.lg x hx).1, (I.lg x hx).2.1⟩
  have memR : ∀ x ∈ restL s, x ∈ s.sm ++ s.lg := fun x hx => P.mem_iff.2 (by simp [hx])
  have hbl : (topL s.lg).toNat < s.has.length := by rw [I.hn]; omega
  have hal : (topL s.sm).toNat < s.ts.length := by rw [I.tn]; omega
  have hget : ∀ x : Int, 0 ≤ x → (abStep T s).has.getD x.toNat 0 = if x = topL s.lg then abH T s else s.has.getD x.toNat 0 := fun x hx => by
    show (s.has.set (topL s.lg).toNat (abH T s)).getD x.toNat 0 = _
    rw [getD_setT hbl]
    by_cases e : x = topL s.lg
    · rw [if_pos e, if_pos (by rw [e])]
    · rw [if_neg e, if_neg (by omega)]
  have hcell : ∀ k : Nat, cellL (abStep T s).ts k = if k = (topL s.sm).toNat then (s.has.getD (topL s.sm).toNat 0, topL s.lg) else cellL s.ts k := fun k => cellL_set hal k
  have hsm : (abStep T s).sm = if abH T s < T then s.sm.take (s.sm.length - 1) ++ [topL s.lg] else s.sm.take (s.sm.length - 1) := rfl
  have hlg : (abStep T s).lg = if abH T s < T then s.lg.take (s.lg.length - 1) else s.lg.take (s.lg.length - 1) ++ [topL s.lg] := rfl
  have hln := abStep_len (T := T) h h2
  have hhl : (abStep T s).has.length = s.has.length := List.length_set
  have htl : (abStep T s).ts.length = s.ts.length := List.length_set
  have hown : ∀ i k, ownsN T (abStep T s).ts i k = _ := fun i k => ownsN_set hal k
  generalize topL s.sm = a at *
  generalize topL s.lg = b at *
  obtain ⟨ha, hha⟩ : ∃ x, s.has.getD a.toNat 0 = x := ⟨_, rfl⟩
  rw [hha] at a2 a3 hH hown hcell
  have mem2 : ∀ x : Int, x ∈ (abStep T s).sm ++ (abStep T s).lg ↔ x = b ∨ x ∈ restL s := fun x => by rw [P2.mem_iff]; simp
  have mem1 : ∀ x : Int, x ∈ s.sm ++ s.lg ↔ x = a ∨ x = b ∨ x ∈ restL s := fun x => by rw [P.mem_iff]; simp
  have hsR : ∀ x ∈ s.sm.take (s.sm.length - 1), x ∈ restL s := fun x hx => List.mem_append.2 (Or.inl hx)
  have hlR : ∀ x ∈ s.lg.take (s.lg.length - 1), x ∈ restL s := fun x hx => List.mem_append.2 (Or.inr hx)
  have hb' : (abStep T s).has.getD b.toNat 0 = abH T s := by rw [hget b b0, if_pos rfl]
  have hR' : ∀ x ∈ restL s, (abStep T s).has.getD x.toNat 0 = s.has.getD x.toNat 0 := fun x hx => by rw [hget x (pos x (memR x hx)).1, if_neg (by rintro rfl; exact hbR hx)]
  refine ⟨hhl.trans I.hn, htl.trans I.tn, (P2.nodup_iff).2 (List.nodup_cons.2 ⟨hbR, hRd⟩), ?_, ?_, ?_, ?_, ?_, ?_⟩
  · intro x hx
    have key : ∀ x ∈ s.sm.take (s.sm.length - 1), 0 ≤ x ∧ x < l.length ∧ 0 ≤ (abStep T s).has.getD x.toNat 0 ∧ (abStep T s).has.getD x.toNat 0 < T := fun x hx => by
      rw [hR' x (hsR x hx)]
      exact I.sm x (List.mem_of_mem_take hx)
    rw [hsm] at hx
    split at hx
    · rcases List.mem_append.1 hx with hx | hx
      · exact key x hx
      · rw [List.mem_singleton.1 hx, hb']
        exact ⟨b0, b1, by omega, by assumption⟩
    · exact key x hx
  · intro x hx
    have key : ∀ x ∈ s.lg.take (s.lg.length - 1), 0 ≤ x ∧ x < l.length ∧ T ≤ (abStep T s).has.getD x.toNat 0 ∧ (abStep T s).has.getD x.toNat 0 < 9223372036854775808 := fun x hx => by
      rw [hR' x (hlR x hx)]
      exact I.lg x (List.mem_of_mem_take hx)
    rw [hlg] at hx
    split at hx
    · exact key x hx
    · rcases List.mem_append.1 hx with hx | hx
      · exact key x hx
      · rw [List.mem_singleton.1 hx, hb']
        exact ⟨b0, b1, by omega, by omega⟩
  · intro k hk
    rw [hcell]
    split
    · exact ⟨by dsimp only; omega, by dsimp only; omega, b0, b1⟩
    · exact I.ce k hk
  · intro x hx
    have hx2 := (mem2 x).1 hx
    have hne : (x : Int) ≠ a := by
      rintro rfl
      rcases hx2 with e | hx2
      · exact hab e
      · exact haR hx2
    rw [hcell, if_neg (by omega)]
    exact I.ac x ((mem1 x).2 (Or.inr hx2))
  · intro i hi
    rw [hown, if_pos (by omega), hc, I.ow i hi]
    obtain ⟨A, rfl⟩ := Int.eq_ofNat_of_zero_le a0
    rw [Int.toNat_natCast, ownK_self]
    have e1 := mem1 i
    have e2 := mem2 i
    have e3 := hget i (by omega)
    rw [Int.toNat_natCast] at e3
    rw [e3]
    unfold ownK
    dsimp only
    by_cases c1 : (A : Int) = i
    · have hA : A = i := by omega
      subst hA
      have n1 : ¬ ((A : Int) ∈ (abStep T s).sm ++ (abStep T s).lg) := fun hm => by
        rcases e2.1 hm with e | e
        · exact hab e
        · exact haR e
      rw [if_pos (show (A : Int) ∈ s.sm ++ s.lg from e1.2 (Or.inl rfl)), if_neg n1, if_pos rfl, if_pos rfl, if_neg (show ¬ b = (A : Int) from fun e => hab e.symm)]
      have : s.has.getD A 0 = ha := by simpa using hha
      omega
    · rw [if_neg c1, if_neg c1]
      by_cases c2 : b = i
      · rw [if_pos (show (i : Int) ∈ s.sm ++ s.lg from e1.2 (Or.inr (Or.inl c2.symm))), if_pos (show (i : Int) ∈ (abStep T s).sm ++ (abStep T s).lg from e2.2 (Or.inl c2.symm)), if_pos c2, if_pos c2.symm]
        have : s.has.getD b.toNat 0 = s.has.getD i 0 := by rw [c2]; simp
        omega
      · rw [if_neg c2, if_neg (show ¬ (i : Int) = b from fun e => c2 e.symm)]
        by_cases c3 : (i : Int) ∈ restL s
        · rw [if_pos (show (i : Int) ∈ s.sm ++ s.lg from e1.2 (Or.inr (Or.inr c3))), if_pos (show (i : Int) ∈ (abStep T s).sm ++ (abStep T s).lg from e2.2 (Or.inr c3))]; omega
        · rw [if_neg (show ¬ (i : Int) ∈ s.sm ++ s.lg from fun hm => by rcases e1.1 hm with e | e | e; exact c1 e.symm; exact c2 e.symm; exact c3 e), if_neg (show ¬ (i : Int) ∈ (abStep T s).sm ++ (abStep T s).lg from fun hm => by rcases e2.1 hm with e | e; exact c2 e.symm; exact c3 e)]; omega
  · have q1 := sumL_perm (P.map fun x => s.has.getD x.toNat 0)
    have q2 := sumL_perm (P2.map fun x => (abStep T s).has.getD x.toNat 0)
    rw [List.map_cons, List.map_cons] at q1
    rw [List.map_cons, hb', List.map_congr_left hR'] at q2
    have q3 := I.su
    rw [q1] at q3
    rw [q2]
    have q4 : ((abStep T s).sm.length : Int) + ((abStep T s).lg.length : Int) = ((s.sm.length : Int) + (s.lg.length : Int)) - 1 := by omega
    rw [q4, Int.mul_sub, ← q3, hH]
    show _ + sumL _ = s.has.getD a.toNat 0 + (s.has.getD b.toNat 0 + sumL _) - _
    omega
end
section
theorem sl_perm (T : Int) (hs : List Int) : ∀ k : Nat, (smL T hs k ++ lgL T hs k).Perm ((List.range k).map Int.ofNat)
  | 0 => List.Perm.refl _
  | k + 1 => by
    rw [smL_succ, lgL_succ, List.range_succ, List.map_append]
    have h := sl_perm T hs k
    have h2 : ((k : Int) :: (smL T hs k ++ lgL T hs k)).Perm ((List.range k).map Int.ofNat ++ [Int.ofNat k]) := (List.Perm.cons _ h).trans (List.perm_append_comm (l₁ := [(k : Int)]))
    split
    · exact (perm_s _ _ _).trans h2
    · exact (perm_l _ _ _).trans h2
theorem hasL_len (l : List Int) : (hasL l).length = l.length := by simp [hasL]
theorem hasL_at {l : List Int} {i : Nat} (h : i < l.length) : (hasL l).getD i 0 = (l.length : Int) * l.getD i 0 := by simp [hasL, h]
theorem cells_at {T : Int} {n k : Nat} (h : k < n) : cellL (cellsL T n) k = (T, (k : Int)) := by simp [cellL, cellsL, h]
theorem cells_len (T : Int) (n : Nat) : (cellsL T n).length = n := by simp [cellsL]
theorem sumL_mul (c : Int) : ∀ l : List Int, sumL (l.map fun x => c * x) = c * sumL l
  | [] => by simp [sumL]
  | x :: l => by
    show c * x + sumL (l.map _) = c * (x + sumL l)
    rw [sumL_mul c l, Int.mul_add]
theorem sum_range (hs : List Int) : ∀ k : Nat, k ≤ hs.length → sumL (((List.range k).map Int.ofNat).map fun a => hs.getD a.toNat 0) = sumL (hs.take k)
  | 0, _ => rfl
  | k + 1, h => by
    rw [List.range_succ, List.map_append, List.map_append, sumL_app, sum_range hs k (by omega), sumL_take (by omega)]
    simp [sumL]
theorem owns_init {T : Int} {n i : Nat} (hi : i < n) : ∀ k : Nat, k ≤ n → ownsN T (cellsL T n) i k = if i < k then T else 0
  | 0, _ => by simp [ownsN]
  | k + 1, h => by
    unfold ownsN
    rw [owns_init hi k (by omega), cells_at (by omega), ownK_self]
    by_cases h1 : k = i
    · subst h1; simp
    · by_cases h2 : i < k
      · rw [if_pos h2, if_neg (by omega), if_pos (by omega)]; omega
      · rw [if_neg h2, if_neg (by omega), if_neg (by omega)]; omega
theorem getD_le {l : List Int} (h : ∀ z ∈ l, 0 ≤ z) {i : Nat} (hi : i < l.length) : 0 ≤ l.getD i 0 ∧ l.getD i 0 ≤ sumL l := by
  have h0 := h _ (getD_in hi)
  have h1 := sumL_take hi
  have h2 := sumL_le h (i + 1)
  have h3 := sumL_nn (l := l.take i) (fun z hz => h z (List.mem_of_mem_take hz))
  exact ⟨h0, by omega⟩
theorem mul_le_of {n x T : Int} (hn : 0 ≤ n) (h : x ≤ T) : n * x ≤ n * T := Int.mul_le_mul_of_nonneg_left h hn
theorem ABI.init {l : List Int} (hz : ∀ z ∈ l, 0 ≤ z) (h0 : 0 < sumL l) (hs : (l.length : Int) * sumL l < 9223372036854775808) : ABI (sumL l) l (abInit (sumL l) l) := by
  have P := sl_perm (sumL l) (hasL l) l.length
  have ND : ((List.range l.length).map Int.ofNat).Nodup := by
    exact List.pairwise_map.2 (List.Pairwise.imp (fun h e => h (by injection e)) List.nodup_range)
  have hb : ∀ i, i < l.length → 0 ≤ (hasL l).getD i 0 ∧ (hasL l).getD i 0 < 9223372036854775808 := fun i hi => by
    rw [hasL_at hi]
    have h1 := getD_le hz hi
    have h2 := mul_le_of (n := (l.length : Int)) (by omega) h1.2
    exact ⟨Int.mul_nonneg (by omega) h1.1, by omega⟩
  have memS : ∀ a ∈ smL (sumL l) (hasL l) l.length, ∃ i : Nat, i < l.length ∧ a = (i : Int) ∧ (hasL l).getD i 0 < sumL l := fun a ha => by
    unfold smL at ha
    obtain ⟨i, hi, rfl⟩ := List.mem_map.1 ha
    obtain ⟨h1, h2⟩ := List.mem_filter.1 hi
    exact ⟨i, List.mem_range.1 h1, rfl, of_decide_eq_true h2⟩
  have memL : ∀ a ∈ lgL (sumL l) (hasL l) l.length, ∃ i : Nat, i < l.length ∧ a = (i : Int) ∧ ¬ (hasL l).getD i 0 < sumL l := fun a ha => by
    unfold lgL at ha
    obtain ⟨i, hi, rfl⟩ := List.mem_map.1 ha
    obtain ⟨h1, h2⟩ := List.mem_filter.1 hi
    exact ⟨i, List.mem_range.1 h1, rfl, by simpa using h2⟩
  have memA : ∀ i : Nat, (i : Int) ∈ smL (sumL l) (hasL l) l.length ++ lgL (sumL l) (hasL l) l.length ↔ i < l.length := fun i => by
    rw [P.mem_iff, List.mem_map]
    constructor
    · rintro ⟨j, hj, e⟩
      have : j = i := by injection e
      exact this ▸ List.mem_range.1 hj
    · exact fun h => ⟨i, List.mem_range.2 h, rfl⟩
  refine ⟨hasL_len l, cells_len _ _, P.nodup_iff.2 ND, ?_, ?_, ?_, ?_, ?_, ?_⟩
  · intro a ha
    obtain ⟨i, hi, rfl, h1⟩ := memS a ha
    exact ⟨by omega, by omega, (hb i hi).1, h1⟩
  · intro a ha
    obtain ⟨i, hi, rfl, h1⟩ := memL a ha
    exact ⟨by omega, by omega, by rw [Int.toNat_natCast]; show sumL l ≤ (hasL l).getD i 0; omega, (hb i hi).2⟩
  · intro k hk
    show 0 ≤ (cellL (cellsL _ _) k).1 ∧ _
    rw [show cellL (abInit (sumL l) l).ts k = (sumL l, (k : Int)) from cells_at hk, cells_at hk]
    exact ⟨by show 0 ≤ sumL l; omega, Int.le_refl _, by show 0 ≤ (k : Int); omega, by show (k : Int) < _; omega⟩
  · intro a ha
    exact cells_at ((memA a).1 ha)
  · intro i hi
    rw [if_pos (show (i : Int) ∈ (abInit (sumL l) l).sm ++ (abInit (sumL l) l).lg from (memA i).2 hi)]
    show ownsN _ (cellsL _ _) i _ = _ + (_ - (hasL l).getD i 0)
    rw [owns_init hi _ (Nat.le_refl _), if_pos hi, hasL_at hi]
    omega
  · have q := sumL_perm (P.map fun a => (hasL l).getD a.toNat 0)
    show sumL ((smL _ _ _ ++ lgL _ _ _).map fun a => (hasL l).getD a.toNat 0) = _ * (((smL (sumL l) (hasL l) l.length).length : Int) + ((lgL (sumL l) (hasL l) l.length).length : Int))
    have hl := sl_len (sumL l) (hasL l) l.length
    rw [q, sum_range _ _ (by rw [hasL_len]; exact Nat.le_refl _), show (hasL l).take l.length = hasL l from List.take_of_length_le (by rw [hasL_len]; exact Nat.le_refl _)]
    unfold hasL
    rw [sumL_mul, Int.mul_comm]
    congr 1
    unfold hasL at hl
    omega
theorem ABI.run {T : Int} {l : List Int} : ∀ (f : Nat) {s : AB}, ABI T l s → s.sm.length + s.lg.length ≤ f → ABI T l (abRun T f s) ∧ ((abRun T f s).sm.length = 0 ∨ (abRun T f s).lg.length = 0)
  | 0, s, I, h => ⟨I, by show s.sm.length = 0 ∨ _; omega⟩
  | f + 1, s, I, h => by
    by_cases h1 : s.sm.length = 0 ∨ s.lg.length = 0
    · rw [abRun_stop h1]; exact ⟨I, h1⟩
    · rw [abRun_go (by omega) (by omega)]
      have := abStep_len (T := T) (s := s) (by omega) (by omega)
      exact ABI.run f (I.step (by omega) (by omega)) (by omega)
theorem all_eq {T : Int} : ∀ {l : List Int}, (∀ z ∈ l, T ≤ z) → sumL l = T * (l.length : Int) → ∀ z ∈ l, z = T
  | [], _, _, z, hz => by cases hz
  | x :: l, h, hs, z, hz => by
    have h1 := h x (by simp)
    have h2 : T * (l.length : Int) ≤ sumL l := by
      have h3 : ∀ m : List Int, (∀ z ∈ m, T ≤ z) → T * (m.length : Int) ≤ sumL m := fun m => by
        induction m with
        | nil => intro _; simp [sumL]
        | cons y m ih =>
          intro hm
          have h4 := ih (fun z hz => hm z (by simp [hz]))
          have h5 := hm y (by simp)
          show T * ((m.length + 1 : Nat) : Int) ≤ y + sumL m
          rw [Int.natCast_add, Int.mul_add]
          simp
          omega
      exact h3 l (fun z hz => h z (by simp [hz]))
    have h3 : x + sumL l = T * (l.length : Int) + T := by
      have : sumL (x :: l) = x + sumL l := rfl
      rw [← this, hs]
      show T * ((l.length + 1 : Nat) : Int) = _
      rw [Int.natCast_add, Int.mul_add]
      simp
    rcases List.mem_cons.1 hz with rfl | hz
    · omega
    · exact all_eq (l := l) (fun z hz => h z (by simp [hz])) (by omega) z hz
theorem sum_lt {T : Int} : ∀ {l : List Int}, l ≠ [] → (∀ z ∈ l, z < T) → sumL l < T * (l.length : Int)
  | [x], _, h => by have := h x (by simp); show x + 0 < T * 1; omega
  | x :: y :: l, _, h => by
    have h1 := sum_lt (T := T) (l := y :: l) (by simp) (fun z hz => h z (by simp [List.mem_cons.1 hz]))
    have h2 := h x (by simp)
    show x + sumL (y :: l) < T * (((y :: l).length + 1 : Nat) : Int)
    rw [Int.natCast_add, Int.mul_add]
    simp at h1 ⊢
    omega
theorem ABI.fin {T : Int} {l : List Int} {s : AB} (I : ABI T l s) (h : s.sm.length = 0 ∨ s.lg.length = 0) : ∀ i : Nat, i < l.length → ownsN T s.ts i l.length = (l.length : Int) * l.getD i 0 := by
  intro i hi
  rw [I.ow i hi]
  have S := I.su
  have key : ∀ x ∈ s.sm ++ s.lg, s.has.getD x.toNat 0 = T := by
    have hsm : s.sm = [] := by
      rcases h with h | h
      · exact List.eq_nil_of_length_eq_zero h
      · have hl := List.eq_nil_of_length_eq_zero h
        rw [hl] at S
        simp only [List.append_nil, List.length_nil] at S
        by_cases hn : s.sm = []
        · exact hn
        · have := sum_lt (T := T) (l := s.sm.map fun a => s.has.getD a.toNat 0) (by simpa using hn) (fun z hz => by
            obtain ⟨a, ha, rfl⟩ := List.mem_map.1 hz
            exact (I.sm a ha).2.2.2)
          rw [List.length_map, S] at this
          simp at this
    rw [hsm] at S ⊢
    simp only [List.nil_append, List.length_nil] at S ⊢
    intro x hx
    exact all_eq (T := T) (l := s.lg.map fun a => s.has.getD a.toNat 0) (fun z hz => by
      obtain ⟨a, ha, rfl⟩ := List.mem_map.1 hz
      exact (I.lg a ha).2.2.1) (by rw [List.length_map, S]; simp) _ (List.mem_map.2 ⟨x, hx, rfl⟩)
  by_cases hm : (i : Int) ∈ s.sm ++ s.lg
  · rw [if_pos hm]
    have := key _ hm
    rw [Int.toNat_natCast] at this
    omega
  · rw [if_neg hm]; omega
theorem nodup_len : ∀ (n : Nat) (l : List Int), l.Nodup → (∀ z ∈ l, 0 ≤ z ∧ z < (n : Int)) → l.length ≤ n
  | 0, [], _, _ => Nat.le_refl _
  | 0, x :: l, _, h => by have := h x (by simp); omega
  | n + 1, l, hd, h => by
    by_cases hn : (n : Int) ∈ l
    · have hp := List.perm_cons_erase hn
      have hd2 := (hp.nodup_iff).1 hd
      have hr := List.nodup_cons.1 hd2
      have := nodup_len n (l.erase (n : Int)) hr.2 (fun z hz => by
        have h1 := h z (List.mem_of_mem_erase hz)
        have h2 : z ≠ (n : Int) := by rintro rfl; exact hr.1 hz
        omega)
      have h3 := hp.length_eq
      simp at h3
      omega
    · have := nodup_len n l hd (fun z hz => by
        have h1 := h z hz
        have h2 : z ≠ (n : Int) := by rintro rfl; exact hn hz
        omega)
      omega
theorem ABI.nd_len {T : Int} {l : List Int} {s : AB} (I : ABI T l s) : s.sm.length + s.lg.length ≤ l.length := by
  have := nodup_len l.length (s.sm ++ s.lg) I.nd (fun z hz => by
    rcases List.mem_append.1 hz with hz | hz
    · exact ⟨(I.sm z hz).1, (I.sm z hz).2.1⟩
    · exact ⟨(I.lg z hz).1, (I.lg z hz).2.1⟩)
  rwa [List.length_append] at this
theorem ABI.tops {T : Int} {l : List Int} {s : AB} (I : ABI T l s) (h : s.sm.length ≠ 0) (h2 : s.lg.length ≠ 0) : ∃ ia ib : Nat, topL s.sm = (ia : Int) ∧ topL s.lg = (ib : Int) ∧ ia < l.length ∧ ib < l.length ∧ 0 ≤ s.has.getD ia 0 ∧ s.has.getD ia 0 < T ∧ T ≤ s.has.getD ib 0 ∧ s.has.getD ib 0 < 9223372036854775808 ∧
    (abStep T s).has = s.has.set ib (s.has.getD ib 0 - (T - s.has.getD ia 0)) ∧ (abStep T s).ts = s.ts.set ia (s.has.getD ia 0, (ib : Int)) ∧
    (abStep T s).sm = (if s.has.getD ib 0 - (T - s.has.getD ia 0) < T then s.sm.take (s.sm.length - 1) ++ [(ib : Int)] else s.sm.take (s.sm.length - 1)) ∧
    (abStep T s).lg = (if s.has.getD ib 0 - (T - s.has.getD ia 0) < T then s.lg.take (s.lg.length - 1) else s.lg.take (s.lg.length - 1) ++ [(ib : Int)]) := by
  have am : topL s.sm ∈ s.sm := by have := top_split h; rw [this]; simp [topL]
  have bm : topL s.lg ∈ s.lg := by have := top_split h2; rw [this]; simp [topL]
  obtain ⟨a0, a1, a2, a3⟩ := I.sm _ am
  obtain ⟨b0, b1, b2, b3⟩ := I.lg _ bm
  unfold abStep abH
  obtain ⟨ia, ha⟩ := Int.eq_ofNat_of_zero_le a0
  obtain ⟨ib, hb⟩ := Int.eq_ofNat_of_zero_le b0
  rw [ha] at a1 a2 a3
  rw [hb] at b1 b2 b3
  rw [ha, hb]
  exact ⟨ia, ib, rfl, rfl, by omega, by omega, a2, a3, b2, b3, rfl, rfl, rfl, rfl⟩
theorem tbE_big {l : List Int} (h : l.length ≠ 0) (h2 : ¬ sumL l < 9223372036854775808) : tbE l = 11 := by unfold tbE; rw [if_neg h, if_neg h2]
theorem tbE_zero {l : List Int} (h : l.length ≠ 0) (h2 : sumL l < 9223372036854775808) (h3 : sumL l = 0) : tbE l = 10 := by unfold tbE; rw [if_neg h, if_pos h2, if_pos h3]
theorem tbE_mul {l : List Int} (h : l.length ≠ 0) (h2 : sumL l < 9223372036854775808) (h3 : sumL l ≠ 0) (h4 : ¬ (l.length : Int) * sumL l < 9223372036854775808) : tbE l = 11 := by unfold tbE; rw [if_neg h, if_pos h2, if_neg h3, if_neg h4]
theorem tbE_ok {l : List Int} (h : l.length ≠ 0) (h2 : sumL l < 9223372036854775808) (h3 : sumL l ≠ 0) (h4 : (l.length : Int) * sumL l < 9223372036854775808) : tbE l = 0 := by unfold tbE; rw [if_neg h, if_pos h2, if_neg h3, if_pos h4]
theorem tbE_iff {l : List Int} : tbE l = 0 ↔ (l.length ≠ 0 ∧ sumL l < 9223372036854775808 ∧ sumL l ≠ 0 ∧ (l.length : Int) * sumL l < 9223372036854775808) := by
  constructor
  · intro h
    unfold tbE at h
    split at h
    · cases h
    · split at h
      · split at h
        · cases h
        · split at h
          · exact ⟨by assumption, by assumption, by assumption, by assumption⟩
          · cases h
      · cases h
  · exact fun ⟨a, b, c, d⟩ => tbE_ok a b c d
theorem tb_no {l : List Int} (h : tbE l ≠ 0) : tbT l = 0 ∧ tbC l = [] := ⟨if_neg h, if_neg h⟩
theorem tb_abi {l : List Int} (hz : ∀ z ∈ l, 0 ≤ z) (h : tbE l = 0) : tbT l = sumL l ∧ ABI (sumL l) l (abRun (sumL l) l.length (abInit (sumL l) l)) ∧ tbC l = (abRun (sumL l) l.length (abInit (sumL l) l)).ts ∧ ((abRun (sumL l) l.length (abInit (sumL l) l)).sm.length = 0 ∨ (abRun (sumL l) l.length (abInit (sumL l) l)).lg.length = 0) := by
  obtain ⟨h1, h2, h3, h4⟩ := tbE_iff.1 h
  have h5 := sumL_nn hz
  have I := ABI.init hz (by omega) h4
  have R := ABI.run l.length I (by have := sl_len (sumL l) (hasL l) l.length; show (smL _ _ _).length + (lgL _ _ _).length ≤ _; omega)
  exact ⟨if_pos h, R.1, if_pos h, R.2⟩
theorem tb_right {l : List Int} (hz : ∀ z ∈ l, 0 ≤ z) (h : tbE l = 0) : (tbC l).length = l.length ∧ tabR (tbT l) (tbC l) = true ∧ (∀ k, k < l.length → 0 ≤ (cellL (tbC l) k).1) ∧ ∀ i : Nat, i < l.length → ownsN (tbT l) (tbC l) i l.length = (l.length : Int) * l.getD i 0 := by
  obtain ⟨h1, h2, h3, h4⟩ := tbE_iff.1 h
  obtain ⟨e1, I, e2, hf⟩ := tb_abi hz h
  have h5 := sumL_nn hz
  rw [e1, e2]
  refine ⟨I.tn, tabR_iff.2 ⟨by rw [I.tn]; omega, by omega, by rw [I.tn]; exact h4, fun k hk => ?_⟩, fun k hk => (I.ce k hk).1, fun i hi => I.fin hf i hi⟩
  rw [I.tn] at hk ⊢
  exact (I.ce k hk).2
end
section
def cntI (T : Int) (ts : List (Int × Int)) (i : Int) : Nat → Int
  | 0 => 0
  | u + 1 => cntI T ts i u + (if owV T ts (u : Int) = i then 1 else 0)
theorem ow_at {T : Int} {ts : List (Int × Int)} (hr : tabR T ts = true) {k r : Nat} (hk : k < ts.length) (hT : (r : Int) < T) : owV T ts ((k : Int) * T + (r : Int)) = if (r : Int) < (cellL ts k).1 then (k : Int) else (cellL ts k).2 := by
  have hT0 := (tabR_iff.1 hr).2.1
  have h1 : ((k : Int) * T + (r : Int)) / T = (k : Int) := by
    rw [Int.add_comm, Int.add_mul_ediv_right _ _ (by omega), Int.ediv_eq_zero_of_lt (by omega) hT]
    omega
  have h2 : ((k : Int) * T + (r : Int)) % T = (r : Int) := by
    rw [Int.add_comm, Int.add_mul_emod_self_right, Int.emod_eq_of_lt (by omega) hT]
  have h3 : ((k : Int) + 1) * T ≤ (ts.length : Int) * T := Int.mul_le_mul_of_nonneg_right (by omega) (by omega)
  rw [Int.add_mul, Int.one_mul] at h3
  have h4 : owE T ts ((k : Int) * T + (r : Int)) = 0 := by unfold owE; rw [if_pos hr, if_pos (by omega)]
  have h5 : lkE T ts (k : Int) (r : Int) = 0 := by unfold lkE; rw [if_pos hr, if_pos ⟨by omega, by omega, hT⟩]
  unfold owV
  rw [if_pos h4, h1, h2]
  unfold lkV
  rw [if_pos h5, Int.toNat_natCast]
theorem cnt_col {t : Nat} {ts : List (Int × Int)} (hr : tabR (t : Int) ts = true) {i : Int} {k : Nat} (hk : k < ts.length) (h0 : 0 ≤ (cellL ts k).1) : ∀ r : Nat, r ≤ t →
    cntI (t : Int) ts i (k * t + r) = cntI (t : Int) ts i (k * t) + (if (k : Int) = i then (if (r : Int) < (cellL ts k).1 then (r : Int) else (cellL ts k).1) else 0) + (if (cellL ts k).2 = i then (if (r : Int) < (cellL ts k).1 then 0 else (r : Int) - (cellL ts k).1) else 0)
  | 0, _ => by
    rw [Nat.add_zero]
    by_cases e1 : (k : Int) = i <;> by_cases e2 : (cellL ts k).2 = i <;> by_cases e3 : ((0 : Nat) : Int) < (cellL ts k).1 <;> simp only [if_pos, if_neg, e1, e2, e3, not_false_eq_true, if_true, if_false] <;> omega
  | r + 1, h => by
    have ih := cnt_col hr (i := i) hk h0 r (by omega)
    have ho := ow_at hr hk (r := r) (by omega)
    rw [show k * t + (r + 1) = (k * t + r) + 1 from rfl]
    rw [show cntI (t : Int) ts i ((k * t + r) + 1) = cntI (t : Int) ts i (k * t + r) + (if owV (t : Int) ts ((k * t + r : Nat) : Int) = i then 1 else 0) from rfl, ih, show ((k * t + r : Nat) : Int) = (k : Int) * (t : Int) + (r : Int) from by rw [Int.natCast_add, Int.natCast_mul], ho, Int.natCast_add]
    generalize (cellL ts k).1 = c at *
    generalize (cellL ts k).2 = a at *
    generalize cntI (t : Int) ts i (k * t) = C at *
    have hn1 : ((1 : Nat) : Int) = 1 := rfl
    rw [hn1]
    by_cases h1 : (r : Int) < c
    · simp only [if_pos h1]
      by_cases h2 : (r : Int) + 1 < c
      · simp only [if_pos h2]
        by_cases e1 : (k : Int) = i
        · by_cases e2 : a = i
          · simp only [if_pos e1, if_pos e2]; omega
          · simp only [if_pos e1, if_neg e2]; omega
        · by_cases e2 : a = i
          · simp only [if_neg e1, if_pos e2]; omega
          · simp only [if_neg e1, if_neg e2]; omega
      · simp only [if_neg h2]
        by_cases e1 : (k : Int) = i
        · by_cases e2 : a = i
          · simp only [if_pos e1, if_pos e2]; omega
          · simp only [if_pos e1, if_neg e2]; omega
        · by_cases e2 : a = i
          · simp only [if_neg e1, if_pos e2]; omega
          · simp only [if_neg e1, if_neg e2]; omega
    · have h2 : ¬ (r : Int) + 1 < c := by omega
      simp only [if_neg h1, if_neg h2]
      by_cases e1 : (k : Int) = i
      · by_cases e2 : a = i
        · simp only [if_pos e1, if_pos e2]; omega
        · simp only [if_pos e1, if_neg e2]; omega
      · by_cases e2 : a = i
        · simp only [if_neg e1, if_pos e2]; omega
        · simp only [if_neg e1, if_neg e2]; omega
theorem cnt_owns {t : Nat} {ts : List (Int × Int)} (hr : tabR (t : Int) ts = true) (h0 : ∀ k, k < ts.length → 0 ≤ (cellL ts k).1) (i : Int) : ∀ k : Nat, k ≤ ts.length → cntI (t : Int) ts i (k * t) = ownsN (t : Int) ts i k
  | 0, _ => by rw [Nat.zero_mul]; rfl
  | k + 1, h => by
    have hc := ((tabR_iff.1 hr).2.2.2 k (by omega)).1
    have h1 := cnt_col hr (i := i) (k := k) (by omega) (h0 k (by omega)) t (Nat.le_refl _)
    rw [show (k + 1) * t = k * t + t from by rw [Nat.add_mul, Nat.one_mul], h1, cnt_owns hr h0 i k (by omega), if_neg (show ¬ ((t : Int) < (cellL ts k).1) from by omega), if_neg (show ¬ ((t : Int) < (cellL ts k).1) from by omega)]
    show _ = ownsN (t : Int) ts i k + ownK (t : Int) i k (cellL ts k)
    unfold ownK
    omega
theorem ow_in {T u : Int} {ts : List (Int × Int)} (hr : tabR T ts = true) (u0 : 0 ≤ u) (h : u < (ts.length : Int) * T) : ∃ o : Nat, o < ts.length ∧ owV T ts u = (o : Int) ∧ owE T ts u = 0 := by
  have hT := (tabR_iff.1 hr).2.1
  have h0 : owE T ts u = 0 := by unfold owE; rw [if_pos hr, if_pos h]
  have q0 : 0 ≤ u / T := Int.ediv_nonneg u0 (by omega)
  have q1 : u / T < (ts.length : Int) := Int.ediv_lt_of_lt_mul hT h
  have r1 := Int.emod_lt_of_pos u hT
  have h1 : lkE T ts (u / T) (u % T) = 0 := by unfold lkE; rw [if_pos hr, if_pos ⟨q0, q1, r1⟩]
  obtain ⟨k, hk⟩ := Int.eq_ofNat_of_zero_le q0
  have hc := (tabR_iff.1 hr).2.2.2 k (by omega)
  have e : owV T ts u = if u % T < (cellL ts k).1 then (k : Int) else (cellL ts k).2 := by
    unfold owV
    rw [if_pos h0]
    unfold lkV
    rw [if_pos h1, hk, Int.toNat_natCast]
  by_cases h2 : u % T < (cellL ts k).1
  · exact ⟨k, by omega, by rw [e, if_pos h2], h0⟩
  · obtain ⟨a, ha⟩ := Int.eq_ofNat_of_zero_le hc.2.1
    exact ⟨a, by omega, by rw [e, if_neg h2, ha], h0⟩
end
section
def pikP (T : Int) (ts : List (Int × Int)) (i : Nat) (v : Nat) : Bool := decide (owV T ts (v : Int) = (i : Int))
theorem pik_cnt (T : Int) (ts : List (Int × Int)) (i : Nat) : ∀ u : Nat, ((sumB (fun v => if pikP T ts i v = true then 1 else 0) u : Nat) : Int) = cntI T ts (i : Int) u
  | 0 => rfl
  | u + 1 => by
    have ih := pik_cnt T ts i u
    rw [sumB, cntI, ← ih]
    by_cases h : owV T ts (u : Int) = (i : Int)
    · rw [if_pos h, if_pos (show pikP T ts i u = true from decide_eq_true h)]; push_cast; rfl
    · rw [if_neg h, if_neg (show ¬ pikP T ts i u = true from fun h2 => h (of_decide_eq_true h2))]; push_cast; rfl
theorem pik_count {l : List Int} (hz : ∀ z ∈ l, 0 ≤ z) (h : tbE l = 0) {tt b Q t N L : Nat} (ht : sumL l = (tt : Int)) (hb : l.length * tt = b) (hev : ∀ v, v < b → cnt (fun y => hits Q b t y == some v) N * b + L = N) {i : Nat} (hi : i < l.length) :
    ((cnt (fun y => pickB (pikP (tbT l) (tbC l) i) (hits Q b t y)) N : Nat) : Int) * (tt : Int) = l.getD i 0 * ((N : Int) - (L : Int)) := by
  obtain ⟨e1, e2, e3, e4⟩ := tb_right hz h
  have hT := (tb_abi hz h).1
  rw [ht] at hT
  rw [hT] at e2 e4 ⊢
  have ho := e4 i hi
  have hc := cnt_owns e2 (fun k hk => e3 k (by omega)) (i : Int) (tbC l).length (Nat.le_refl _)
  rw [e1, hb] at hc
  have h1 := cnt_split (hits Q b t) (pikP (tt : Int) (tbC l) i) b (fun y v h => hits_lt Q b t y v h) N
  have h2 : cnt (fun y => pickB (pikP (tt : Int) (tbC l) i) (hits Q b t y)) N * b = sumB (fun v => if pikP (tt : Int) (tbC l) i v = true then 1 else 0) b * (N - L) := by
    rw [h1, sumB_mul, sumB_mul]
    apply sumB_congr
    intro v hv
    have := hev v hv
    split
    · rw [Nat.one_mul]; omega
    · rw [Nat.zero_mul, Nat.zero_mul]
  have h3 := pik_cnt (tt : Int) (tbC l) i b
  rw [hc, ho] at h3
  have hn : l.length ≠ 0 := by omega
  have ht0 : sumL l ≠ 0 := (tbE_iff.1 h).2.2.1
  have hb0 : 0 < b := by rw [← hb]; exact Nat.mul_pos (by omega) (by omega)
  have h4 := hev 0 hb0
  have h5 : (N : Int) - (L : Int) = ((N - L : Nat) : Int) := by omega
  rw [h5]
  have h6 : ((cnt (fun y => pickB (pikP (tt : Int) (tbC l) i) (hits Q b t y)) N : Nat) : Int) * (b : Int) = ((sumB (fun v => if pikP (tt : Int) (tbC l) i v = true then 1 else 0) b : Nat) : Int) * ((N - L : Nat) : Int) := by exact_mod_cast h2
  rw [h3, ← hb] at h6
  push_cast at h6
  have h7 : (l.length : Int) * (((cnt (fun y => pickB (pikP (tt : Int) (tbC l) i) (hits Q (l.length * tt) t y)) N : Nat) : Int) * (tt : Int)) = (l.length : Int) * (l.getD i 0 * ((N - L : Nat) : Int)) := by
    rw [← Int.mul_assoc (l.length : Int) (l.getD i 0), ← h6, Int.mul_left_comm]
  rw [← hb]
  exact Int.eq_of_mul_eq_mul_left (by omega) h7
def pikC (T : Int) (ts : List (Int × Int)) (Q b t i x : Nat) : Nat := cnt (fun y => pickB (pikP T ts i) (hits Q b t y)) x
def pikL (T : Int) (ts : List (Int × Int)) (Q b t x : Nat) : List Int := (List.range ts.length).map fun i => ((pikC T ts Q b t i x : Nat) : Int)
theorem pikL_len (T : Int) (ts : List (Int × Int)) (Q b t x : Nat) : (pikL T ts Q b t x).length = ts.length := by simp [pikL]
theorem pikL_at {T : Int} {ts : List (Int × Int)} {i : Nat} (Q b t x : Nat) (h : i < ts.length) : (pikL T ts Q b t x).getD i 0 = ((pikC T ts Q b t i x : Nat) : Int) := by simp [pikL, h]
theorem pikL_zero (T : Int) (ts : List (Int × Int)) (Q b t : Nat) : pikL T ts Q b t 0 = List.replicate ts.length 0 := by
  apply ext_getD (by rw [pikL_len, List.length_replicate])
  intro j hj
  rw [pikL_len] at hj
  have e : (List.replicate ts.length (0 : Int)).getD j 0 = 0 := by rw [List.getD_eq_getElem?_getD, List.getElem?_replicate]; split <;> rfl
  rw [pikL_at _ _ _ _ hj, e]
  rfl
theorem pikC_le (T : Int) (ts : List (Int × Int)) (Q b t i x : Nat) : pikC T ts Q b t i x ≤ x := cnt_le _ _
theorem pikL_miss (T : Int) (ts : List (Int × Int)) (Q b t x : Nat) (h : hits Q b t x = none) : pikL T ts Q b t (x + 1) = pikL T ts Q b t x := by
  unfold pikL pikC
  congr 1
  funext i
  rw [cnt, h]
  rfl
theorem pikL_hit (T : Int) (ts : List (Int × Int)) (Q b t x v o : Nat) (h : hits Q b t x = some v) (ho : o < ts.length) (hv : owV T ts (v : Int) = (o : Int)) : (pikL T ts Q b t x).set o ((pikL T ts Q b t x).getD o 0 + 1) = pikL T ts Q b t (x + 1) := by
  apply ext_getD (by rw [List.length_set, pikL_len, pikL_len])
  intro j hj
  rw [List.length_set, pikL_len] at hj
  rw [pikL_at _ _ _ (x + 1) hj]
  have hstep : pikC T ts Q b t j (x + 1) = pikC T ts Q b t j x + if pikP T ts j v = true then 1 else 0 := by
    unfold pikC
    rw [cnt, h]
    rfl
  rw [hstep]
  by_cases hjo : j = o
  · subst hjo
    rw [List.getD_eq_getElem?_getD, List.getElem?_set_self (by rw [pikL_len]; exact hj)]
    show (pikL T ts Q b t x).getD j 0 + 1 = _
    rw [pikL_at _ _ _ x hj, if_pos (show pikP T ts j v = true from decide_eq_true hv)]
    push_cast
    rfl
  · rw [List.getD_eq_getElem?_getD, List.getElem?_set_ne (fun h => hjo h.symm), ← List.getD_eq_getElem?_getD, pikL_at _ _ _ x hj, if_neg (show ¬ pikP T ts j v = true from fun h => by have := of_decide_eq_true h; rw [hv] at this; omega)]
    rfl
end
section
open Go.ChangeShapes Go.WideShapes Go.ChangeAt Go.RowKit
def RdPr (k0 k1 : IntKind) (w : World) (B : Nat) (A : Option Addr) (n : Nat) (ts : List (Int × Int)) : Prop :=
  ts.length = n ∧ (0 < n → ∃ b off, A = some ⟨b, off, none⟩ ∧ b < B ∧ ∀ j, j < n → w.cell? ⟨b, off + j * 2, none⟩ = some (.int k0 (ts.getD j (0, 0)).1) ∧ w.cell? ⟨b, off + j * 2 + 1, none⟩ = some (.int k1 (ts.getD j (0, 0)).2))
theorem RdPr.below {k0 k1 : IntKind} {w w' : World} {B n : Nat} {A : Option Addr} {ts : List (Int × Int)} (h : RdPr k0 k1 w B A n ts) (hb : Below B w w') : RdPr k0 k1 w' B A n ts :=
  ⟨h.1, fun hn => by
    obtain ⟨b, off, e, hlt, hc⟩ := h.2 hn
    exact ⟨b, off, e, hlt, fun j hj => ⟨(hb.cell (p := ⟨b, off + j * 2, none⟩) hlt).trans (hc j hj).1, (hb.cell (p := ⟨b, off + j * 2 + 1, none⟩) hlt).trans (hc j hj).2⟩⟩⟩
theorem RdPr.mono {k0 k1 : IntKind} {w : World} {B B' n : Nat} {A : Option Addr} {ts : List (Int × Int)} (h : RdPr k0 k1 w B A n ts) (hB : B ≤ B') : RdPr k0 k1 w B' A n ts :=
  ⟨h.1, fun hn => by
    obtain ⟨b, off, e, hlt, hc⟩ := h.2 hn
    exact ⟨b, off, e, Nat.lt_of_lt_of_le hlt hB, hc⟩⟩
theorem RdPr.len {k0 k1 : IntKind} {w : World} {B n : Nat} {A : Option Addr} {ts : List (Int × Int)} (h : RdPr k0 k1 w B A n ts) : ts.length = n := h.1
theorem RdPr.at_ {k0 k1 : IntKind} {w : World} {B n : Nat} {A : Option Addr} {ts : List (Int × Int)} (h : RdPr k0 k1 w B A n ts) (hn : 0 < n) : ∃ b off, A = some ⟨b, off, none⟩ ∧ b < B ∧ ∀ j, j < n → w.cell? ⟨b, off + j * 2, none⟩ = some (.int k0 (ts.getD j (0, 0)).1) ∧ w.cell? ⟨b, off + j * 2 + 1, none⟩ = some (.int k1 (ts.getD j (0, 0)).2) := h.2 hn
theorem RdPr.nil (k0 k1 : IntKind) (w : World) (B : Nat) (A : Option Addr) : RdPr k0 k1 w B A 0 [] := ⟨rfl, fun h => absurd h (by omega)⟩
theorem RdPr.to {k0 k1 : IntKind} {w w' : World} {n : Nat} {A : Option Addr} {ts : List (Int × Int)} (h : RdPr k0 k1 w w.heap.size A n ts) (hb : Below w.heap.size w w') : RdPr k0 k1 w' w'.heap.size A n ts := (h.below hb).mono hb.size
end
section
open Go.ChangeShapes Go.WideShapes Go.ChangeAt Go.RowKit
def PrOk (ts : List (Int × Int)) : Prop := ∀ p ∈ ts, 0 ≤ p.1 ∧ p.1 < 18446744073709551616 ∧ -9223372036854775808 ≤ p.2 ∧ p.2 < 9223372036854775808
theorem PrOk.at_ {ts : List (Int × Int)} (h : PrOk ts) {k : Nat} (hk : k < ts.length) : 0 ≤ (cellL ts k).1 ∧ (cellL ts k).1 < 18446744073709551616 ∧ -9223372036854775808 ≤ (cellL ts k).2 ∧ (cellL ts k).2 < 9223372036854775808 := h _ (cellL_mem hk)
theorem RdPr.cells {w : World} {B n : Nat} {A : Option Addr} {ts : List (Int × Int)} {k0 k1 : IntKind} (h : RdPr k0 k1 w B A n ts) (hn : 0 < n) : ∃ b off, A = some ⟨b, off, none⟩ ∧ b < B ∧ ∀ j, j < n → w.cell? ⟨b, off + j * 2, none⟩ = some (.int k0 (cellL ts j).1) ∧ w.cell? ⟨b, off + j * 2 + 1, none⟩ = some (.int k1 (cellL ts j).2) := h.2 hn
theorem RdPr.cellAt {w : World} {B n k b off : Nat} {ts : List (Int × Int)} {k0 k1 : IntKind} (h : RdPr k0 k1 w B (some ⟨b, off, none⟩) n ts) (hk : k < n) : w.cell? ⟨b, off + k * 2, none⟩ = some (.int k0 (cellL ts k).1) ∧ w.cell? ⟨b, off + k * 2 + 1, none⟩ = some (.int k1 (cellL ts k).2) := by
  obtain ⟨b', off', e, _, h2⟩ := h.cells (by omega)
  cases e
  exact h2 k hk
theorem ret_u64v {a b : Int} (h : a = b) : Ending.returned (.int .u64 a) = .returned (.int .u64 b) := by rw [h]
structure TbS (w0 : World) (g : Nat) (T : Int) (A : Option Addr) (n c : Nat) (w : World) : Prop where
  b : Blk w g 54 #[.int .u64 T, .slice A n c]
  bel : Below w0.heap.size w0 w
  le : w0.heap.size ≤ g
section
variable {w0 w w' : World} {g : Nat} {T : Int} {A : Option Addr} {n c : Nat} {ts : List (Int × Int)}
theorem TbS.new (w : World) (T : Int) (A : Option Addr) (n c : Nat) : TbS w w.heap.size T A n c (w.alloc (.cells #[.int .u64 T, .slice A n c] 54)) := ⟨Blk.new w _ _, (Below.refl _ _).alloc (Nat.le_refl _) _, Nat.le_refl _⟩
theorem TbS.two (h : TbS w0 g T A n c w) {U : Int} {B : Option Addr} {m d : Nat} : TbS w0 w.heap.size U B m d (w.alloc (.cells #[.int .u64 U, .slice B m d] 54)) := ⟨Blk.new w _ _, h.bel.trans (((Below.refl _ _).alloc (Nat.le_refl _) _).mono h.bel.size), h.bel.size⟩
theorem TbS.below (h : TbS w0 g T A n c w) (hb : Below w.heap.size w w') : TbS w0 g T A n c w' := ⟨h.b.below hb h.b.lt, h.bel.trans (hb.mono h.bel.size), h.le⟩
theorem TbS.alloc (h : TbS w0 g T A n c w) (o : Obj) : TbS w0 g T A n c (w.alloc o) := h.below ((Below.refl _ _).alloc (Nat.le_refl _) _)
theorem TbS.drew (h : TbS w0 g T A n c w) : TbS w0 g T A n c w.drew := h.below (Below.refl _ _).drew
theorem TbS.drewN (h : TbS w0 g T A n c w) (m : Nat) : TbS w0 g T A n c (w.drewN m) := h.below (below_drewN (Below.refl _ _) _)
theorem TbS.c0 (h : TbS w0 g T A n c w) : w.cell? ⟨g, 0, none⟩ = some (.int .u64 T) := by rw [h.b.cell]; rfl
theorem TbS.c1 (h : TbS w0 g T A n c w) : w.cell? ⟨g, 1, none⟩ = some (.slice A n c) := by rw [h.b.cell]; rfl
theorem TbS.pr (h : TbS w0 g T A n c w) (hr : RdPr .u64 .i64 w0 w0.heap.size A n ts) : RdPr .u64 .i64 w w.heap.size A n ts := hr.to h.bel
end
theorem tabR_no {T : Int} {ts : List (Int × Int)} (h : ¬ (0 < ts.length ∧ 0 < T ∧ (ts.length : Int) * T < 9223372036854775808)) : tabR T ts = false := by
  rw [← Bool.not_eq_true, tabR_iff]
  exact fun g => h ⟨g.1, g.2.1, g.2.2.1⟩
theorem tabR_all {T : Int} {ts : List (Int × Int)} (h : 0 < ts.length ∧ 0 < T ∧ (ts.length : Int) * T < 9223372036854775808) (hc : ∀ k, k < ts.length → (cellL ts k).1 ≤ T ∧ 0 ≤ (cellL ts k).2 ∧ (cellL ts k).2 < ts.length) : tabR T ts = true := tabR_iff.2 ⟨h.1, h.2.1, h.2.2, hc⟩
theorem ow_ok {T u : Int} {ts : List (Int × Int)} (hr : tabR T ts = true) (u0 : 0 ≤ u) (h : u < (ts.length : Int) * T) : owE T ts u = 0 ∧ owV T ts u = lkV T ts (u / T) (u % T) ∧ lkE T ts (u / T) (u % T) = 0 ∧ 0 ≤ u / T ∧ u / T < (ts.length : Int) ∧ 0 ≤ u % T ∧ u % T < T := by
  have hT := (tabR_iff.1 hr).2.1
  have h0 : owE T ts u = 0 := by unfold owE; rw [if_pos hr, if_pos h]
  have q0 : 0 ≤ u / T := Int.ediv_nonneg u0 (by omega)
  have q1 : u / T < (ts.length : Int) := Int.ediv_lt_of_lt_mul hT h
  have r0 := Int.emod_nonneg u (show T ≠ 0 by omega)
  have r1 := Int.emod_lt_of_pos u hT
  exact ⟨h0, by unfold owV; rw [if_pos h0], by unfold lkE; rw [if_pos hr, if_pos ⟨q0, q1, r1⟩], q0, q1, r0, r1⟩
theorem ow_no {T u : Int} {ts : List (Int × Int)} (h : tabR T ts = false) : owE T ts u = 1 ∧ owV T ts u = 0 := by
  have h0 : owE T ts u = 1 := if_neg (by rw [h]; simp)
  exact ⟨h0, if_neg (by rw [h0]; decide)⟩
theorem ow_big {T u : Int} {ts : List (Int × Int)} (hr : tabR T ts = true) (h : ¬ u < (ts.length : Int) * T) : owE T ts u = 3 ∧ owV T ts u = 0 := by
  have h0 : owE T ts u = 3 := by unfold owE; rw [if_pos hr, if_neg h]
  exact ⟨h0, if_neg (by rw [h0]; decide)⟩
end
section
open Go.ChangeShapes Go.WideShapes Go.ChangeAt Go.RowKit
def pikGo (T : Int) (ts : List (Int × Int)) (r : Int × Src × Int) : Int × Src × Int := if r.2.2 = 0 then (owV T ts r.1, r.2.1, 0) else (0, r.2.1, r.2.2)
def pikT (T : Int) (ts : List (Int × Int)) (s : Src) (a : Int) : Int × Src × Int := if tabR T ts = true then pikGo T ts (drawR s (tabZ T ts) a) else (0, s, 1)
def pikR (l : List Int) (s : Src) (a : Int) : Int × Src × Int := if tbE l = 0 then pikT (tbT l) (tbC l) s a else (0, s, tbE l)
theorem pikT_bad {T : Int} {ts : List (Int × Int)} (s : Src) (a : Int) (h : tabR T ts = false) : pikT T ts s a = (0, s, 1) := if_neg (by rw [h]; decide)
theorem pikT_go {T : Int} {ts : List (Int × Int)} (s : Src) (a : Int) (h : tabR T ts = true) : pikT T ts s a = pikGo T ts (drawR s (tabZ T ts) a) := if_pos h
theorem pikR_err {l : List Int} (s : Src) (a : Int) (h : tbE l ≠ 0) : pikR l s a = (0, s, tbE l) := if_neg h
theorem pikR_go {l : List Int} (s : Src) (a : Int) (h : tbE l = 0) : pikR l s a = pikT (tbT l) (tbC l) s a := if_pos h
theorem pikT_in (T : Int) (ts : List (Int × Int)) (s : Src) (a : Int) (ok : s.Ok) : (pikT T ts s a).2.1.Ok ∧ (pikT T ts s a).2.1.tape = s.tape := by
  unfold pikT pikGo
  split
  · split
    · exact ⟨drawT_ok s _ a ok, drawT_tape s _ a⟩
    · exact ⟨drawT_ok s _ a ok, drawT_tape s _ a⟩
  · exact ⟨ok, rfl⟩
end
section
open Go.ChangeShapes Go.WideShapes Go.ChangeAt Go.RowKit
def prC : List (Int × Int) → List Value
  | [] => []
  | p :: ts => .int .u64 p.1 :: .int .i64 p.2 :: prC ts
def cellsA (ts : List (Int × Int)) : Array Value := (prC ts).toArray
theorem prC_len : ∀ ts : List (Int × Int), (prC ts).length = ts.length * 2
  | [] => rfl
  | p :: ts => by simp [prC, prC_len ts]; omega
theorem cellsA_size (ts : List (Int × Int)) : (cellsA ts).size = ts.length * 2 := by simp [cellsA, prC_len]
theorem prC_get : ∀ (ts : List (Int × Int)) (k : Nat), k < ts.length → (prC ts)[k * 2]? = some (.int .u64 (cellL ts k).1) ∧ (prC ts)[k * 2 + 1]? = some (.int .i64 (cellL ts k).2)
  | [], k, h => absurd h (by simp)
  | p :: ts, 0, _ => ⟨rfl, rfl⟩
  | p :: ts, k + 1, h => by
    have := prC_get ts k (by simpa using h)
    rw [show (k + 1) * 2 = k * 2 + 1 + 1 from by omega, show k * 2 + 1 + 1 + 1 = (k * 2 + 1) + 1 + 1 from rfl]
    exact this
theorem prC_set : ∀ (ts : List (Int × Int)) (k : Nat) (x y : Int), ((prC ts).set (k * 2) (.int .u64 x)).set (k * 2 + 1) (.int .i64 y) = prC (ts.set k (x, y))
  | [], k, x, y => rfl
  | p :: ts, 0, x, y => rfl
  | p :: ts, k + 1, x, y => by
    rw [show (k + 1) * 2 = k * 2 + 1 + 1 from by omega]
    show _ :: _ :: ((prC ts).set (k * 2) _).set (k * 2 + 1) _ = _ :: _ :: prC (ts.set k (x, y))
    rw [prC_set ts k x y]
theorem cellsA_put (ts : List (Int × Int)) (k : Nat) (x y : Int) : ((cellsA ts).setIfInBounds (k * 2) (.int .u64 x)).setIfInBounds (k * 2 + 1) (.int .i64 y) = cellsA (ts.set k (x, y)) := by
  apply Array.ext'
  simp [cellsA, prC_set]
theorem RdPr.of_blk {w : World} {g : Nat} {t : TypeId} {ts : List (Int × Int)} (h : Blk w g t (cellsA ts)) : RdPr .u64 .i64 w w.heap.size (some ⟨g, 0, none⟩) ts.length ts := by
  refine ⟨rfl, fun _ => ⟨g, 0, rfl, h.lt, fun j hj => ?_⟩⟩
  have := prC_get ts j hj
  rw [h.cell, h.cell, Nat.zero_add]
  simpa [cellsA, cellL] using this
def RetTab (w : World) (T : Int) (n : Nat) (ts : List (Int × Int)) (er : Int) (e : Ending) (w' : World) : Prop := ∃ A c, e = .returned (.tuple #[.agg #[.int .u64 T, .slice A n c], .int .i64 er]) ∧ RdPr .u64 .i64 w' w'.heap.size A n ts ∧ n ≤ c ∧ c ≤ maxLen ∧ Below w.heap.size w w'
def fillT {α : Type} (xs : List α) (d : α) (k : Nat) : List α := xs.take k ++ List.replicate (xs.length - k) d
theorem fill_len {α : Type} (xs : List α) (d : α) (k : Nat) (h : k ≤ xs.length) : (fillT xs d k).length = xs.length := by simp [fillT]; omega
theorem fill_zero {α : Type} (xs : List α) (d : α) : fillT xs d 0 = List.replicate xs.length d := by simp [fillT]
theorem fill_all {α : Type} (xs : List α) (d : α) : fillT xs d xs.length = xs := by simp [fillT]
theorem fill_next {α : Type} (xs : List α) (d : α) (k : Nat) (h : k < xs.length) : (fillT xs d k).set k xs[k] = fillT xs d (k + 1) := by
  unfold fillT
  have h1 : (xs.take k).length = k := by rw [List.length_take]; omega
  rw [List.set_append, if_neg (by rw [h1]; omega), h1, Nat.sub_self, show xs.length - k = (xs.length - (k + 1)) + 1 from by omega, List.replicate_succ, List.set_cons_zero, List.take_succ_eq_append_getElem h, List.append_assoc]
  rfl
theorem OwnI.other_row {w w' : World} {base : Nat} {e : TypeId} {k : IntKind} {v u : Value} {zs : List Int} (h : OwnI w base e k v zs) (ha : ∀ g, v.ownBlock = some g → u.ownBlock ≠ some g) (hg : w.grownBy w' u.ownBlock) : OwnI w' base e k v zs := by
  refine ⟨h.1, ?_⟩
  rcases h.2 with h1 | ⟨g, cap, cur, h1, h2, h3, h4⟩
  · exact .inl h1
  · have hlt : g < w.heap.size := by
      rcases Nat.lt_or_ge g w.heap.size with h5 | h5
      · exact h5
      · rw [Array.getElem?_eq_none h5] at h3; cases h3
    exact .inr ⟨g, cap, cur, h1, h2, (hg.block g hlt (fun e => ha g (by rw [h1]; rfl) e.symm)).trans h3, h4⟩
theorem OwnI.block_lt {w : World} {base : Nat} {e : TypeId} {k : IntKind} {v : Value} {zs : List Int} (h : OwnI w base e k v zs) : ∀ g, v.ownBlock = some g → g < w.heap.size := by
  intro g hg
  rcases h.2 with ⟨rfl, _⟩ | ⟨g', cap, cur, rfl, _, h3, _⟩
  · simp [Value.ownBlock] at hg
  · obtain rfl : g' = g := by simpa [Value.ownBlock] using hg
    rcases Nat.lt_or_ge g' w.heap.size with h5 | h5
    · exact h5
    · rw [Array.getElem?_eq_none h5] at h3; cases h3
theorem OwnI.cut {w : World} {base n c j : Nat} {e : TypeId} {k : IntKind} {A : Option Addr} {zs : List Int} (h : OwnI w base e k (.slice A n c) zs) (hj : j ≤ zs.length) : OwnI w base e k (.slice A j c) (zs.take j) := by
  have hl : (zs.take j).length = j := by rw [List.length_take]; omega
  refine ⟨by simp, ?_⟩
  rcases h.2 with ⟨h1, h2⟩ | ⟨g, cap, cur, h1, h2, h3, h4, h5, h6, h7⟩
  · injection h1 with e1 e2 e3
    obtain rfl : j = 0 := by omega
    exact .inl ⟨by rw [e1, e3], by simp⟩
  · injection h1 with e1 e2 e3
    subst e1 e3
    rw [hl]
    refine .inr ⟨g, c, cur, rfl, h2, h3, by omega, h5, h6, ?_⟩
    rw [Nat.mul_one] at h7 ⊢
    rw [List.map_take, ← h7, List.take_take, Nat.min_eq_left hj]
theorem Blk.ne {w : World} {g g' : Nat} {t t' : TypeId} {cs cs' : Array Value} (h : Blk w g t cs) (h' : Blk w g' t' cs') (hne : t ≠ t') : g ≠ g' := by
  rintro rfl
  unfold Blk at h h'
  rw [h] at h'
  injection h' with h'
  injection h' with _ h'
  exact hne h'
theorem OwnI.lenV {w : World} {base : Nat} {e : TypeId} {k : IntKind} {v : Value} {zs : List Int} (h : OwnI w base e k v zs) : lenV v = zs.length := by
  obtain ⟨A, c, rfl, _⟩ := h.form
  rfl
structure BldT (w0 : World) (g2 gH gC : Nat) (hs : List Int) (ts : List (Int × Int)) (vS vL : Value) (sm lg : List Int) (w : World) : Prop where
  b2 : Blk w g2 54 #[.int .u64 0, .slice none 0 0]
  bH : Blk w gH 24 (intsA .u64 hs)
  bC : Blk w gC 138 (cellsA ts)
  oS : OwnI w w0.heap.size 3 .i64 vS sm
  oL : OwnI w w0.heap.size 3 .i64 vL lg
  ap : ∀ g, vS.ownBlock = some g → vL.ownBlock ≠ some g
  bel : Below w0.heap.size w0 w
  le2 : w0.heap.size ≤ g2
  leH : w0.heap.size ≤ gH
  leC : w0.heap.size ≤ gC
section
variable {w0 w w' : World} {g2 gH gC n c k : Nat} {hs sm lg : List Int} {ts : List (Int × Int)} {vS vL v' : Value} {A : Option Addr} {x y : Int}
theorem BldT.below (h : BldT w0 g2 gH gC hs ts vS vL sm lg w) (hb : Below w.heap.size w w') : BldT w0 g2 gH gC hs ts vS vL sm lg w' :=
  ⟨h.b2.below hb h.b2.lt, h.bH.below hb h.bH.lt, h.bC.below hb h.bC.lt, h.oS.below hb, h.oL.below hb, h.ap, h.bel.trans (hb.mono h.bel.size), h.le2, h.leH, h.leC⟩
theorem BldT.alloc (h : BldT w0 g2 gH gC hs ts vS vL sm lg w) (o : Obj) : BldT w0 g2 gH gC hs ts vS vL sm lg (w.alloc o) := h.below ((Below.refl _ _).alloc (Nat.le_refl _) _)
theorem BldT.drew (h : BldT w0 g2 gH gC hs ts vS vL sm lg w) : BldT w0 g2 gH gC hs ts vS vL sm lg w.drew := h.below (Below.refl _ _).drew
theorem BldT.drewN (h : BldT w0 g2 gH gC hs ts vS vL sm lg w) (m : Nat) : BldT w0 g2 gH gC hs ts vS vL sm lg (w.drewN m) := h.below (below_drewN (Below.refl _ _) _)
theorem BldT.size (h : BldT w0 g2 gH gC hs ts vS vL sm lg w) : w0.heap.size ≤ w.heap.size := h.bel.size
theorem BldT.rd (h : BldT w0 g2 gH gC hs ts vS vL sm lg w) {l : List Int} (hr : Rd .u64 w0 w0.heap.size A n l) : Rd .u64 w w.heap.size A n l := (hr.below h.bel).mono h.size
theorem BldT.atH (h : BldT w0 g2 gH gC hs ts vS vL sm lg w) (hk : k < hs.length) : w.cell? ⟨gH, k, none⟩ = some (.int .u64 (hs.getD k 0)) := by
  rw [h.bH.cell]
  simp [intsA, hk]
theorem BldT.putH (h : BldT w0 g2 gH gC hs ts vS vL sm lg w) (hk : Blk w' gH 24 ((intsA .u64 hs).setIfInBounds k (.int .u64 x))) (ho : Only gH w w') : BldT w0 g2 gH gC (hs.set k x) ts vS vL sm lg w' := by
  have n2 : g2 ≠ gH := h.b2.ne h.bH (by decide)
  have nC : gC ≠ gH := h.bC.ne h.bH (by decide)
  refine ⟨h.b2.only ho n2, ?_, h.bC.only ho nC, h.oS.only h.bH (by decide) ho, h.oL.only h.bH (by decide) ho, h.ap, h.bel.trans (ho.below h.leH h.size), h.le2, h.leH, h.leC⟩
  have e : (intsA .u64 hs).setIfInBounds k (.int .u64 x) = intsA .u64 (hs.set k x) := by
    apply Array.ext'
    simp [intsA, List.map_set]
  rw [← e]
  exact hk
theorem BldT.putC (h : BldT w0 g2 gH gC hs ts vS vL sm lg w) (hk : Blk w' gC 138 (putAll (cellsA ts) (k * 2) [.int .u64 x, .int .i64 y])) (ho : Only gC w w') : BldT w0 g2 gH gC hs (ts.set k (x, y)) vS vL sm lg w' := by
  have n2 : g2 ≠ gC := h.b2.ne h.bC (by decide)
  have nH : gH ≠ gC := h.bH.ne h.bC (by decide)
  refine ⟨h.b2.only ho n2, h.bH.only ho nH, ?_, h.oS.only h.bC (by decide) ho, h.oL.only h.bC (by decide) ho, h.ap, h.bel.trans (ho.below h.leC h.size), h.le2, h.leH, h.leC⟩
  rw [← cellsA_put]
  exact hk
theorem BldT.growS (h : BldT w0 g2 gH gC hs ts vS vL sm lg w) (hg : w.grownBy w' vS.ownBlock) (ho : OwnI w' w0.heap.size 3 .i64 v' (sm ++ [x])) (hat : v'.ownBlock = vS.ownBlock ∨ v'.ownBlock = some w.heap.size) : BldT w0 g2 gH gC hs ts v' vL (sm ++ [x]) lg w' :=
  ⟨h.b2.grown h.oS (by decide) hg, h.bH.grown h.oS (by decide) hg, h.bC.grown h.oS (by decide) hg, ho, h.oL.other_row (fun g e1 e2 => h.ap g e2 e1) hg, fun g e => by
    rcases hat with e2 | e2
    · exact h.ap g (by rw [← e2]; exact e)
    · intro e3
      have := h.oL.block_lt g e3
      rw [e] at e2
      injection e2 with e2
      omega, h.oS.below_ h.bel h.size hg, h.le2, h.leH, h.leC⟩
theorem BldT.growL (h : BldT w0 g2 gH gC hs ts vS vL sm lg w) (hg : w.grownBy w' vL.ownBlock) (ho : OwnI w' w0.heap.size 3 .i64 v' (lg ++ [x])) (hat : v'.ownBlock = vL.ownBlock ∨ v'.ownBlock = some w.heap.size) : BldT w0 g2 gH gC hs ts vS v' sm (lg ++ [x]) w' :=
  ⟨h.b2.grown h.oL (by decide) hg, h.bH.grown h.oL (by decide) hg, h.bC.grown h.oL (by decide) hg, h.oS.other_row h.ap hg, ho, fun g e1 e => by
    rcases hat with e2 | e2
    · exact h.ap g e1 (by rw [← e2]; exact e)
    · have := h.oS.block_lt g e1
      rw [e] at e2
      injection e2 with e2
      omega, h.oL.below_ h.bel h.size hg, h.le2, h.leH, h.leC⟩
theorem own_slice (A : Option Addr) (n m c d : Nat) : (Value.slice A n c).ownBlock = (Value.slice A m d).ownBlock := by cases A <;> rfl
theorem BldT.cutS {j : Nat} (h : BldT w0 g2 gH gC hs ts (.slice A n c) vL sm lg w) (hj : j ≤ sm.length) : BldT w0 g2 gH gC hs ts (.slice A j c) vL (sm.take j) lg w :=
  ⟨h.b2, h.bH, h.bC, h.oS.cut hj, h.oL, fun g e => h.ap g (by rw [own_slice A n j c c]; exact e), h.bel, h.le2, h.leH, h.leC⟩
theorem BldT.cutL {j : Nat} (h : BldT w0 g2 gH gC hs ts vS (.slice A n c) sm lg w) (hj : j ≤ lg.length) : BldT w0 g2 gH gC hs ts vS (.slice A j c) sm (lg.take j) w :=
  ⟨h.b2, h.bH, h.bC, h.oS, h.oL.cut hj, fun g e => by rw [own_slice A j n c c]; exact h.ap g e, h.bel, h.le2, h.leH, h.leC⟩
theorem OwnI.last {w : World} {base : Nat} {e : TypeId} {kk : IntKind} {v : Value} {zs : List Int} (h : OwnI w base e kk v zs) (hn : zs.length ≠ 0) : ∃ g c, v = .slice (some ⟨g, 0, none⟩) zs.length c ∧ zs.length ≤ c ∧ c ≤ maxLen ∧ w.cell? ⟨g, zs.length - 1, none⟩ = some (.int kk (topL zs)) := by
  obtain ⟨B, c, rfl, hc, hc2⟩ := h.form
  obtain ⟨g, cur, rfl, _, hb, _, hcc⟩ := h.whole (by omega)
  exact ⟨g, c, rfl, hc, hc2, by rw [hb.cell, hcc _ (by omega)]; rfl⟩
end
section
variable {P : Program} {w : World} {ops : Array Oper} {rest : List Oper} {o : Oper} {a : Act} {Q : Exit → Act → World → Prop}
theorem wpList_store_mid (hgd : o.guard = none) (ty : TypeId) (x y : Operand) (ho : o.op = .store ty x y) (g off : Nat) (hx : a.eval x = .pointer (some ⟨g, off, none⟩)) (t : TypeId) (cs ys : Array Value) (hb : Blk w g t cs)
    (hy : a.eval y = .agg ys) (hl : off + ys.size ≤ cs.size) (hz : (P.info? ty).map (·.size) = some ys.size) (h1 : ys.all (·.oneCell') = true)
    (h : ∀ w', Hid (Blk w' g t (putAll cs off ys.toList)) → Only g w w' → wpList P ops Q rest (a.put o.dst undef) w') : wpList P ops Q (o :: rest) a w := by
  refine wpList_plain hgd fun K hK => ?_
  exact wp_store_mid ty x y ho g off ys hx hy (hb.there off ys.size hl) hz h1 (hK _ _ (h _ (Blk.setCells _ _ hb) (Only.setCells g _ _ _)))
end
end
section
open Go.ChangeShapes Go.WideShapes Go.ChangeAt Go.RowKit
theorem zero_tabL : ∀ W, (zeroValue 54).run Tryz.prog W = .ok (.agg #[.int .u64 0, .slice none 0 0]) W := (zero_of_info (n := 2) (by kernel_rfl)).1
theorem sizedT (u v : Value) : (Tryz.prog.info? 54).map (·.size) = some (#[u, v] : Array Value).size := by kernel_rfl
theorem onesT (T : Int) (A : Option Addr) (n c : Nat) : (#[.int .u64 T, .slice A n c] : Array Value).all (·.oneCell') = true := by simp [Value.oneCell']
theorem sameT2 (u v u' v' : Value) : (#[u, v] : Array Value).size = (#[u', v'] : Array Value).size := rfl
theorem Fx.addP {l : List Fact} {w w' : World} {k0 k1 : IntKind} {A : Option Addr} {n : Nat} {ts : List (Int × Int)} (h : Fx l w) (hb : Below w.heap.size w w') (hr : RdPr k0 k1 w' w'.heap.size A n ts) : Fx (.kept w'.heap.size (fun W => RdPr k0 k1 W W.heap.size A n ts) :: l) w' :=
  Fx.addK h hb (fun w2 h2 => hr.to h2)
theorem RdPr.kept {k0 k1 : IntKind} {w : World} {A : Option Addr} {n : Nat} {ts : List (Int × Int)} (h : RdPr k0 k1 w w.heap.size A n ts) : (Fact.kept w.heap.size (fun W => RdPr k0 k1 W W.heap.size A n ts)).on w := ⟨fun w2 h2 => h.to h2, Nat.le_refl _⟩
section
variable {ops : Array Oper} {rest : List Oper} {o : Oper} {a : Act} {w : World} {Q : Exit → Act → World → Prop}
theorem wpList_load_tab (hw : Region.wanted o (yielded ops a.tmps) = true) (x : Operand) (ho : o.op = .load 54 x) (g : Nat) (hx : a.eval x = .pointer (some ⟨g, 0, none⟩)) (t : TypeId) (u v : Value) (hb : Blk w g t #[u, v])
    (h : wpList Tryz.prog ops Q rest (a.put o.dst (.agg #[u, v])) w) : wpList Tryz.prog ops Q (o :: rest) a w := by
  refine wpList_run_gd hw (.agg #[u, v]) w ?_ h
  have p : w.cell? ⟨g, 0, none⟩ = some u := by rw [hb.cell]; rfl
  have q : w.cell? ⟨g, 1, none⟩ = some v := by rw [hb.cell]; rfl
  unfold execOp
  simp only [ho, hx]
  go_simp
end
theorem tb_in {l : List Int} (hz : ∀ z ∈ l, 0 ≤ z) : 0 ≤ tbT l ∧ tbT l < 9223372036854775808 ∧ (tbC l).length ≤ l.length ∧ ((l.length : Int) < 9223372036854775808 → PrOk (tbC l)) := by
  by_cases h : tbE l = 0
  · obtain ⟨h1, h2, h3, h4⟩ := tbE_iff.1 h
    obtain ⟨e1, e2, e3, -⟩ := tb_right hz h
    have h5 := sumL_nn hz
    obtain ⟨e4, I, e5, -⟩ := tb_abi hz h
    refine ⟨by omega, by omega, Nat.le_of_eq e1, fun hl p hp => ?_⟩
    obtain ⟨k, hk, rfl⟩ := List.getElem_of_mem hp
    have hc : (tbC l)[k] = cellL (tbC l) k := by simp [cellL, hk]
    have h6 := (tabR_iff.1 e2).2.2.2 k hk
    have h7 := e3 k (by omega)
    rw [hc]
    omega
  · obtain ⟨e1, e2⟩ := tb_no h
    rw [e1, e2]
    exact ⟨Int.le_refl _, by omega, Nat.zero_le _, fun _ p hp => by cases hp⟩
theorem size_u64l : (Tryz.prog.info? 24).map (·.size) = some 1 := by kernel_rfl
theorem calls_tab {P : Program} {f : FuncId} {args : Array Value} {w : World} {T T' er er' : Int} {n n' : Nat} {ts ts' : List (Int × Int)} (h : Calls P f args w (RetTab w T n ts er)) (h0 : T = T') (h1 : ts = ts') (h2 : er = er') (hn : n = n') : Calls P f args w (RetTab w T' n' ts' er') := by
  subst h0 h1 h2 hn
  exact h
end
section
open Go.ChangeShapes Go.WideShapes Go.ChangeAt Go.RowKit

end
section
open Go.ChangeShapes Go.WideShapes Go.ChangeAt Go.RowKit
theorem ret_iiT {a b c d : Int} (h : a = b) (h2 : c = d) : Ending.returned (.tuple #[.int .i64 a, .int .i64 c]) = .returned (.tuple #[.int .i64 b, .int .i64 d]) := by rw [h, h2]
end
section
open Go.ChangeShapes Go.WideShapes Go.ChangeAt Go.RowKit

end
section
open Go.ChangeShapes Go.WideShapes Go.ChangeAt Go.RowKit
theorem ret_intv {a b : Int} (h : a = b) : Ending.returned (.int .i64 a) = .returned (.int .i64 b) := by rw [h]
theorem q14col_c (T : Int) (A : Option Addr) (n c : Nat) (hn : n ≤ maxLen) (i : Int) (i0 : -9223372036854775808 ≤ i) (i1 : i < 9223372036854775808) (w : World) : Calls Tryz.prog 112 #[.agg #[.int .u64 T, .slice A n c], .int .i64 i] w fun e w' => e = .returned (.bool (decide (0 ≤ i ∧ i < (n : Int)))) ∧ Below w.heap.size w w' := by
  have hnm : (n : Int) ≤ 9223372036854775807 := by unfold maxLen at hn; omega
  have HS := Lib.hid (TbS.new w T A n c)
  by_cases h1 : 0 ≤ i
  · by_cases h2 : i < (n : Int)
    · have HV := Lib.hid (decide_eq_true (And.intro h1 h2))
      go_enter Tryz.func112, Tryz.ntmps112
      go_wp2
      go_ret
      exact ⟨ret_bool (by first | exact HV.out.symm | (rw [HV.out]; simp; omega) | (simp; omega)), HS.out.bel⟩
    · have HV := Lib.hid (decide_eq_false (fun h : 0 ≤ i ∧ i < (n : Int) => h2 h.2))
      go_enter Tryz.func112, Tryz.ntmps112
      go_wp2
      go_ret
      exact ⟨ret_bool (by first | exact HV.out.symm | (rw [HV.out]; simp; omega) | (simp; omega)), HS.out.bel⟩
  · have HV := Lib.hid (decide_eq_false (fun h : 0 ≤ i ∧ i < (n : Int) => h1 h.1))
    go_enter Tryz.func112, Tryz.ntmps112
    go_wp2
    go_ret
    exact ⟨ret_bool (by first | exact HV.out.symm | (rw [HV.out]; simp; omega) | (simp; omega)), HS.out.bel⟩
def lkC (ts : List (Int × Int)) (k : Nat) (u : Int) : Int := if u < (cellL ts k).1 then (k : Int) else (cellL ts k).2
set_option maxHeartbeats 2000000 in
theorem q14of_c (T : Int) (ts : List (Int × Int)) (hts : PrOk ts) (A : Option Addr) (n c : Nat) (hn : n ≤ maxLen) (w : World) (hrd : RdPr .u64 .i64 w w.heap.size A n ts) (k : Nat) (hk : k < n) (u : Int) (u0 : 0 ≤ u) (u1 : u < 18446744073709551616) :
    Calls Tryz.prog 65 #[.agg #[.int .u64 T, .slice A n c], .int .i64 (k : Int), .int .u64 u] w fun e w' => e = .returned (.int .i64 (lkC ts k u)) ∧ Below w.heap.size w w' := by
  have hlen := hrd.len
  have hnm : (n : Int) ≤ 9223372036854775807 := by unfold maxLen at hn; omega
  obtain ⟨b, off, rfl, hb, -⟩ := hrd.cells (by omega)
  have HS := Lib.hid (TbS.new w T (some ⟨b, off, none⟩) n c)
  have c0 := HS.out.c0
  have c1 := HS.out.c1
  obtain ⟨c2, c3⟩ := (HS.out.pr hrd).cellAt hk
  have hz := hts.at_ (k := k) (by omega)
  have HV : Hid (lkC ts k u = if u < (cellL ts k).1 then (k : Int) else (cellL ts k).2) := Lib.hid rfl
  obtain ⟨x, hx⟩ : ∃ x, (cellL ts k).1 = x := ⟨_, rfl⟩
  obtain ⟨y, hy⟩ : ∃ x, (cellL ts k).2 = x := ⟨_, rfl⟩
  rw [hx, hy] at hz HV
  rw [hx] at c2
  rw [hy] at c3
  have i0 : (0 : Int) ≤ (k : Int) := by omega
  have i1 : (k : Int) < (n : Int) := by omega
  clear hrd hts hx hy
  by_cases hu : u < x
  · rw [if_pos hu] at HV
    go_enter Tryz.func65, Tryz.ntmps65
    go_wp2
    go_ret
    exact ⟨ret_intv HV.out.symm, (HS.out.alloc _).bel⟩
  · rw [if_neg hu] at HV
    go_enter Tryz.func65, Tryz.ntmps65
    go_wp2
    go_ret
    exact ⟨ret_intv HV.out.symm, (HS.out.alloc _).bel⟩
def badC (T : Int) (n : Nat) (p : Int × Int) : Bool := decide (¬ (p.1 ≤ T ∧ 0 ≤ p.2 ∧ p.2 < (n : Int)))
set_option maxHeartbeats 2000000 in
theorem q14bad_c (T : Int) (T0 : 0 ≤ T) (T1 : T < 18446744073709551616) (A : Option Addr) (n c : Nat) (hn : n ≤ maxLen) (x y : Int) (x0 : 0 ≤ x) (x1 : x < 18446744073709551616) (y0 : -9223372036854775808 ≤ y) (y1 : y < 9223372036854775808) (w0 : World) (g : Nat) (w : World) (hS : TbS w0 g T A n c w) :
    Calls Tryz.prog 111 #[.agg #[.int .u64 x, .int .i64 y], .pointer (some ⟨g, 0, none⟩)] w fun e w' => e = .returned (.bool (badC T n (x, y))) ∧ Below w.heap.size w w' := by
  have HS := Lib.hid (hS.alloc (.cells #[.int .u64 x, .int .i64 y] 138))
  have c0 := HS.out.c0
  have c1 := HS.out.c1
  have HB := Lib.hid ((Below.refl w.heap.size w).alloc (Nat.le_refl _) (.cells #[.int .u64 x, .int .i64 y] 138))
  have hcl := fun W => q14col_c T A n c hn y y0 y1 W
  clear hS
  by_cases h1 : x ≤ T
  · by_cases h2 : 0 ≤ y ∧ y < (n : Int)
    · have HV : Hid (badC T n (x, y) = false) := Lib.hid (decide_eq_false (fun h => h ⟨h1, h2⟩))
      rw [decide_eq_true h2] at hcl
      have HCL := Lib.hid hcl
      clear hcl h2
      go_enter Tryz.func111, Tryz.ntmps111
      go_wp2_with (first
        | (go_at_call 112; (with_reducible refine (HCL.out _).mono ?_); rintro e w1 ⟨rfl, hb1⟩; have HB1 := Lib.hid (HB.out.trans (hb1.mono HB.out.size))))
      go_ret
      exact ⟨ret_bool (by first | exact HV.out.symm | (rw [HV.out]; simp; omega) | (simp; omega)), HB1.out⟩
    · have HV : Hid (badC T n (x, y) = true) := Lib.hid (decide_eq_true (fun h => h2 h.2))
      rw [decide_eq_false h2] at hcl
      have HCL := Lib.hid hcl
      clear hcl h2
      go_enter Tryz.func111, Tryz.ntmps111
      go_wp2_with (first
        | (go_at_call 112; (with_reducible refine (HCL.out _).mono ?_); rintro e w1 ⟨rfl, hb1⟩; have HB1 := Lib.hid (HB.out.trans (hb1.mono HB.out.size))))
      go_ret
      exact ⟨ret_bool (by first | exact HV.out.symm | (rw [HV.out]; simp; omega) | (simp; omega)), HB1.out⟩
  · have HV : Hid (badC T n (x, y) = true) := Lib.hid (decide_eq_true (fun h => h1 h.1))
    clear hcl
    go_enter Tryz.func111, Tryz.ntmps111
    go_wp2
    go_ret
    exact ⟨ret_bool (by first | exact HV.out.symm | (rw [HV.out]; simp; omega) | (simp; omega)), HB.out⟩
end
section
open Go.ChangeShapes Go.WideShapes Go.ChangeAt Go.RowKit
set_option maxHeartbeats 2000000 in
theorem q14ix_c (T : Int) (T0 : 0 ≤ T) (T1 : T < 18446744073709551616) (ts : List (Int × Int)) (hts : PrOk ts) (A : Option Addr) (n c : Nat) (hn : n ≤ maxLen) (w0 : World) (hrd : RdPr .u64 .i64 w0 w0.heap.size A n ts) (g : Nat) (w : World) (hS : TbS w0 g T A n c w) :
    Calls Tryz.prog 127 #[.slice A n c, .func (.func 111) #[] #[.pointer (some ⟨g, 0, none⟩)]] w fun e w' => (∃ r : Int, e = .returned (.int .i64 r) ∧ (r < 0 ↔ ∀ k, k < n → badC T n (cellL ts k) = false)) ∧ Below w.heap.size w w' := by
  have hlen := hrd.len
  have hnm : (n : Int) ≤ 9223372036854775807 := by unfold maxLen at hn; omega
  have HB := Lib.hid (fun W hW x y x0 x1 y0 y1 => q14bad_c T T0 T1 A n c hn x y x0 x1 y0 y1 w0 g W hW)
  have HR := Lib.hid hrd
  have HTS := Lib.hid hts
  have HS := Lib.hid hS
  clear hrd hts hS hn T0 T1
  go_enter Tryz.func127, Tryz.ntmps127
  go_wp2
  go_loopw [8] (fun i wr => ∃ k : Nat, k ≤ n ∧ i = .int .i64 (k : Int) ∧ (∀ j, j < k → badC T n (cellL ts j) = false) ∧ TbS w0 g T A n c wr ∧ Below w.heap.size w wr) (fun i _ => n - (intOf i).toNat)
  case atStart => exact ⟨0, by omega, rfl, fun j h => absurd h (by omega), HS.out, Below.refl _ _⟩
  case round =>
    obtain ⟨k, hk, rfl, hall, hS, hW⟩ := hrel
    have HSS := Lib.hid hS
    have HAL := Lib.hid hall
    have HWW := Lib.hid hW
    clear hall hS hW
    by_cases hlt : k < n
    · obtain ⟨b, off, rfl, hb, hcc⟩ := (HSS.out.pr HR.out).cells (by omega)
      obtain ⟨hc0, hc1⟩ := hcc k hlt
      have hz := HTS.out.at_ (k := k) (by omega)
      have HC0 := Lib.hid (HB.out _ HSS.out _ _ hz.1 hz.2.1 hz.2.2.1 hz.2.2.2)
      have HNX : Hid (badC T n ((cellL ts k).1, (cellL ts k).2) = false → ∀ j, j < k + 1 → badC T n (cellL ts j) = false) := Lib.hid (fun h j hj => by
        by_cases e : j = k
        · rw [e]; exact h
        · exact HAL.out j (by omega))
      have HNO : Hid (badC T n ((cellL ts k).1, (cellL ts k).2) = true → ¬ ∀ j, j < n → badC T n (cellL ts j) = false) := Lib.hid (fun h h2 => by
        have h3 := h2 k hlt
        rw [show cellL ts k = ((cellL ts k).1, (cellL ts k).2) from rfl, h] at h3
        cases h3)
      obtain ⟨x, hx⟩ : ∃ x, (cellL ts k).1 = x := ⟨_, rfl⟩
      obtain ⟨y, hy⟩ : ∃ x, (cellL ts k).2 = x := ⟨_, rfl⟩
      rw [hx, hy] at HC0 HNX HNO
      rw [hx] at hc0
      rw [hy] at hc1
      have i0 : (0 : Int) ≤ (k : Int) := by omega
      have i1 : (k : Int) < (n : Int) := by omega
      clear hcc hb hx hy hz
      cases hbd : badC T n (x, y)
      · rw [hbd] at HC0
        have HNN := Lib.hid (HNX.out hbd)
        clear hbd HNX HNO HAL
        go_wp2_with (first
          | (go_at_call 111; (with_reducible refine HC0.out.mono ?_); rintro e w1 ⟨rfl, hb1⟩; have HS1 := Lib.hid (HSS.out.below hb1); have HW1 := Lib.hid (HWW.out.trans (hb1.mono HWW.out.size))))
        go_roundw
        case rel => exact ⟨k + 1, by omega, by go_num, HNN.out, HS1.out, HW1.out⟩
        case measure => simp [intOf]; omega
      · rw [hbd] at HC0
        have HNN := Lib.hid (HNO.out hbd)
        clear hbd HNX HNO HAL
        go_wp2_with (first
          | (go_at_call 111; (with_reducible refine HC0.out.mono ?_); rintro e w1 ⟨rfl, hb1⟩; have HS1 := Lib.hid (HSS.out.below hb1); have HW1 := Lib.hid (HWW.out.trans (hb1.mono HWW.out.size))))
        go_ret
        exact ⟨⟨_, rfl, fun h => absurd h (by omega), fun h => absurd h HNN.out⟩, HW1.out⟩
    · obtain rfl : k = n := by omega
      go_wp2
      go_ret
      exact ⟨⟨_, rfl, fun _ => HAL.out, fun _ => by decide⟩, HWW.out⟩
theorem q14has_c (T : Int) (T0 : 0 ≤ T) (T1 : T < 18446744073709551616) (ts : List (Int × Int)) (hts : PrOk ts) (A : Option Addr) (n c : Nat) (hn : n ≤ maxLen) (w0 : World) (hrd : RdPr .u64 .i64 w0 w0.heap.size A n ts) (g : Nat) (w : World) (hS : TbS w0 g T A n c w) (p : Bool) (hp : p = false ↔ ∀ k, k < n → badC T n (cellL ts k) = false) :
    Calls Tryz.prog 110 #[.slice A n c, .func (.func 111) #[] #[.pointer (some ⟨g, 0, none⟩)]] w fun e w' => e = .returned (.bool p) ∧ Below w.heap.size w w' := by
  have HI := Lib.hid (q14ix_c T T0 T1 ts hts A n c hn w0 hrd g w hS)
  have HP := Lib.hid hp
  clear hts hrd hS hn hp
  go_enter Tryz.func110, Tryz.ntmps110
  go_wp2_with (first
    | (go_at_call 127; (with_reducible refine HI.out.mono ?_); rintro e w1 ⟨⟨r, rfl, hr⟩, hb1⟩; have HB1 := Lib.hid hb1; have HRR := Lib.hid hr; clear hb1 hr))
  go_ret
  refine ⟨ret_bool ?_, HB1.out⟩
  have h := HRR.out.trans HP.out.symm
  cases p
  · have := h.2 rfl
    simp; omega
  · have : ¬ r < 0 := fun h2 => by have := h.1 h2; cases this
    simp; omega
section
variable (T : Int) (T0 : 0 ≤ T) (T1 : T < 18446744073709551616) (ts : List (Int × Int)) (hts : PrOk ts) (A : Option Addr) (n c : Nat) (hn : n ≤ 1000) (hc : n ≤ c) (hcm : c ≤ maxLen) (w : World) (hrd : RdPr .u64 .i64 w w.heap.size A n ts)
include T0 T1 hts hn hrd
set_option maxHeartbeats 2000000 in
theorem q14rightB_c : Calls Tryz.prog 93 #[.agg #[.int .u64 T, .slice A n c]] w fun e w' => e = .returned (.bool (tabR T ts)) ∧ Below w.heap.size w w' := by
  have hlen := hrd.len
  have hmx : n ≤ maxLen := by unfold maxLen; omega
  have HM := Lib.hid (fun W => q9mul_c (n : Int) T (by omega) (by omega) T0 T1 W)
  have HS := Lib.hid (TbS.new w T A n c)
  have c0 := HS.out.c0
  have c1 := HS.out.c1
  by_cases h1 : (n : Int) * T < 9223372036854775808
  · rw [(mulV_ok h1).1, (mulV_ok h1).2] at HM
    by_cases h2 : (n : Int) * T = 0
    · have HT := Lib.hid (tabR_no (T := T) (ts := ts) (by
        rw [hlen]
        rintro ⟨a, b, -⟩
        have := Int.mul_pos (show (0 : Int) < (n : Int) by omega) b
        omega))
      rw [h2] at HM
      have hnm : (n : Int) ≤ 1000 := by omega
      clear h1 h2 hrd hts
      go_enter Tryz.func93, Tryz.ntmps93
      go_wp2_with (first
        | (go_at_call 58; (with_reducible refine (HM.out _).mono ?_); rintro e _ ⟨rfl, rfl⟩))
      go_ret
      exact ⟨ret_bool HT.out.symm, HS.out.bel⟩
    · have hT0 : 0 < T := by
        rcases Int.lt_or_le 0 T with h | h
        · exact h
        · exact absurd (show (n : Int) * T = 0 by rw [show T = 0 by omega]; simp) h2
      have hn0 : 0 < n := by
        rcases Nat.eq_zero_or_pos n with h | h
        · exact absurd (show (n : Int) * T = 0 by rw [h]; simp) h2
        · exact h
      have HH := Lib.hid (fun p hp => q14has_c T T0 T1 ts hts A n c hmx w hrd w.heap.size _ HS.out p hp)
      have hT : tabR T ts = !(tabR T ts == false) := by cases tabR T ts <;> rfl
      have HHP : Hid ((!tabR T ts) = false ↔ ∀ k, k < n → badC T n (cellL ts k) = false) := Lib.hid (by
        constructor
        · intro h k hk
          have h3 : tabR T ts = true := by simpa using h
          have h4 := (tabR_iff.1 h3).2.2.2 k (by omega)
          rw [hlen] at h4
          exact decide_eq_false (fun h5 => h5 h4)
        · intro h
          rw [tabR_all (T := T) (ts := ts) (by rw [hlen]; exact ⟨hn0, hT0, h1⟩) (fun k hk => by
            rw [hlen]
            exact Decidable.not_not.1 (of_decide_eq_false (h k (by omega))))]
          rfl)
      have HH2 := Lib.hid (HH.out _ HHP.out)
      clear HH HHP hT
      have hnm : (n : Int) ≤ 1000 := by omega
      have t1 : ((n : Int) * T == 0) = false := by rw [beq_eq_false_iff_ne]; exact h2
      obtain ⟨m, hm⟩ : ∃ m, (n : Int) * T = m := ⟨_, rfl⟩
      rw [hm] at HM t1
      obtain ⟨q, hq⟩ : ∃ q, tabR T ts = q := ⟨_, rfl⟩
      rw [hq] at HH2 ⊢
      clear h1 h2 hrd hts hm hq
      go_enter Tryz.func93, Tryz.ntmps93
      go_wp2_with (first
        | (go_at_call 58; (with_reducible refine (HM.out _).mono ?_); rintro e _ ⟨rfl, rfl⟩)
        | (go_at_call 110; (with_reducible refine HH2.out.mono ?_); rintro e w1 ⟨rfl, hb1⟩; have HS1 := Lib.hid (HS.out.below hb1)))
      go_ret
      exact ⟨ret_bool (by cases q <;> rfl), HS1.out.bel⟩
  · rw [(mulV_no h1).1, (mulV_no h1).2] at HM
    have HT := Lib.hid (tabR_no (T := T) (ts := ts) (by rw [hlen]; exact fun h => h1 h.2.2))
    have hnm : (n : Int) ≤ 1000 := by omega
    clear h1 hrd hts
    go_enter Tryz.func93, Tryz.ntmps93
    go_wp2_with (first
      | (go_at_call 58; (with_reducible refine (HM.out _).mono ?_); rintro e _ ⟨rfl, rfl⟩))
    go_ret
    exact ⟨ret_bool HT.out.symm, HS.out.bel⟩
set_option maxHeartbeats 2000000 in
theorem q14sizeB_c : Calls Tryz.prog 61 #[.agg #[.int .u64 T, .slice A n c]] w fun e w' => e = .returned (.int .u64 (tabZ T ts)) ∧ Below w.heap.size w w' := by
  have hlen := hrd.len
  have HC := Lib.hid (fun W h => q14rightB_c T T0 T1 ts hts A n c hn W h)
  have HR := Lib.hid hrd
  have HS := Lib.hid (TbS.new w T A n c)
  have c00 := HS.out.c0
  have c01 := HS.out.c1
  cases hr : tabR T ts
  · rw [hr] at HC
    have HZ : Hid (tabZ T ts = 0) := Lib.hid (if_neg (by rw [hr]; simp))
    clear hrd hts hr
    go_enter Tryz.func61, Tryz.ntmps61
    go_wp2_with (first
      | (go_at_call 93; (with_reducible refine (HC.out _ (HS.out.pr HR.out)).mono ?_); rintro e w1 ⟨rfl, hb1⟩; have HS1 := Lib.hid (HS.out.below hb1)))
    go_ret
    exact ⟨ret_u64v HZ.out.symm, HS1.out.bel⟩
  · rw [hr] at HC
    have HZ : Hid (tabZ T ts = (n : Int) * T) := Lib.hid (by unfold tabZ; rw [if_pos hr, hlen])
    have hm := (tabR_iff.1 hr).2.2.1
    have hm0 := Int.mul_nonneg (show 0 ≤ (n : Int) by omega) T0
    rw [hlen] at hm
    clear hrd hts hr
    have hnm : (n : Int) ≤ 9223372036854775807 := by omega
    have hw : IntKind.u64.wrap ((n : Int) * T) = (n : Int) * T := by rw [IntKind.wrap_u64]; omega
    clear hm hm0
    go_enter Tryz.func61, Tryz.ntmps61
    go_wp2_with (first
      | (go_at_call 93; (with_reducible refine (HC.out _ (HS.out.pr HR.out)).mono ?_); rintro e w1 ⟨rfl, hb1⟩; have HS1 := Lib.hid (HS.out.below hb1); have c0 := HS1.out.c0; have c1 := HS1.out.c1))
    go_ret
    exact ⟨ret_u64v HZ.out.symm, HS1.out.bel⟩
end
end
section
open Go.ChangeShapes Go.WideShapes Go.ChangeAt Go.RowKit
theorem size_tabE : (Tryz.prog.info? 54).map (·.size) = some 2 := by kernel_rfl
section
variable (T : Int) (T0 : 0 ≤ T) (T1 : T < 18446744073709551616) (ts : List (Int × Int)) (hts : PrOk ts) (A : Option Addr) (n c : Nat) (hn : n ≤ 1000) (w : World) (hrd : RdPr .u64 .i64 w w.heap.size A n ts)
include T0 T1 hts hn hrd
set_option maxHeartbeats 4000000 in
theorem q14ownerB_c (u : Int) (u0 : 0 ≤ u) (u1 : u < 18446744073709551616) : Calls Tryz.prog 27 #[.agg #[.int .u64 T, .slice A n c], .int .u64 u] w fun e w' => e = .returned (.tuple #[.int .i64 (owV T ts u), .int .i64 (owE T ts u)]) ∧ Below w.heap.size w w' := by
  have hlen := hrd.len
  have hmx : n ≤ maxLen := by unfold maxLen; omega
  have HZ := Lib.hid (fun W h => q14sizeB_c T T0 T1 ts hts A n c hn W h)
  have HR := Lib.hid hrd
  have HS := Lib.hid (TbS.new w T A n c)
  have c00 := HS.out.c0
  have c01 := HS.out.c1
  cases hr : tabR T ts
  · have hz : tabZ T ts = 0 := by unfold tabZ; rw [if_neg (by rw [hr]; simp)]
    rw [hz] at HZ
    have HE := Lib.hid (ow_no (T := T) (u := u) hr)
    clear hrd hts hr hz
    go_enter Tryz.func27, Tryz.ntmps27
    go_wp2_with (first
      | (go_at_call 61; (with_reducible refine (HZ.out _ (HS.out.pr HR.out)).mono ?_); rintro e w1 ⟨rfl, hb1⟩; have HS1 := Lib.hid (HS.out.below hb1); clear hb1))
    go_ret2
    exact ⟨ret_iiT HE.out.2.symm HE.out.1.symm, HS1.out.bel⟩
  have hz : tabZ T ts = (ts.length : Int) * T := by unfold tabZ; rw [if_pos hr]
  rw [hz] at HZ
  have hzp : 0 < (ts.length : Int) * T := Int.mul_pos (by have := (tabR_iff.1 hr).1; omega) (tabR_iff.1 hr).2.1
  have tz : ((ts.length : Int) * T == 0) = false := by rw [beq_eq_false_iff_ne]; omega
  by_cases hu : u < (ts.length : Int) * T
  · obtain ⟨h1, h2, h3, q0, q1, r0, r1⟩ := ow_ok hr u0 hu
    have hT := (tabR_iff.1 hr).2.1
    obtain ⟨q, hq⟩ : ∃ q : Nat, u / T = (q : Int) := Int.eq_ofNat_of_zero_le q0
    obtain ⟨r, hr2⟩ : ∃ r, u % T = r := ⟨_, rfl⟩
    have e1 : u.tdiv T = (q : Int) := (Int.tdiv_eq_ediv_of_nonneg u0).trans hq
    have e2 : u.tmod T = r := (Int.tmod_eq_emod_of_nonneg u0).trans hr2
    rw [hq, hr2] at h2 h3
    rw [hq] at q0 q1
    rw [hr2] at r0 r1
    have hl : lkV T ts (q : Int) r = lkC ts q r := by unfold lkV; rw [if_pos h3]; rfl
    have HL := Lib.hid (fun W h => q14of_c T ts hts A n c hmx W h q (by omega) r r0 (by omega))
    have tN : T ≠ 0 := by omega
    have HV : Hid (lkC ts q r = owV T ts u ∧ (0 : Int) = owE T ts u) := Lib.hid ⟨hl.symm.trans h2.symm, h1.symm⟩
    obtain ⟨V, hV⟩ : ∃ V, lkC ts q r = V := ⟨_, rfl⟩
    rw [hV] at HL HV
    have e3 : IntKind.i64.wrap (q : Int) = (q : Int) := by rw [IntKind.wrap_i64]; omega
    have e4 : IntKind.u64.wrap (q : Int) = (q : Int) := by rw [IntKind.wrap_u64]; omega
    have e5 : IntKind.u64.wrap r = r := by rw [IntKind.wrap_u64]; omega
    obtain ⟨Z, hZ⟩ : ∃ Z, (ts.length : Int) * T = Z := ⟨_, rfl⟩
    rw [hZ] at hu HZ tz
    clear hrd hts hr h1 h2 h3 hq hr2 hz hZ hV hl hzp hn hmx
    go_enter Tryz.func27, Tryz.ntmps27
    go_wp2_with (first
      | (go_at_call 61; (with_reducible refine (HZ.out _ (HS.out.pr HR.out)).mono ?_); rintro e w1 ⟨rfl, hb1⟩; have HS1 := Lib.hid (HS.out.below hb1); clear hb1))
    have hD := HS1.out.drew
    refine wp_region_held_drew (S := (TbS w w.heap.size T A n c)) (by kernel_rfl) hD (fun hH => ?_)
    refine wpAnyH_letter #[false, false, false, false, false, false, false, false, false, false, false, false, false] (by kernel_rfl) (fun _ _ d _ _ h => by cases d <;> exact h) (fun QL HQ1 HQ2 => ?_)
    refine held_row 0 (some 14) rfl (by kernel_rfl) (by kernel_rfl) (by kernel_rfl) (by kernel_rfl) (fun c a v w h => HQ2.out c a _ v w h) (by kernel_rfl) 54 (.tmp 2) rfl w.heap.size (by kernel_rfl) 54 #[.int .u64 T, .slice A n c] (fun _ h => h.b) _ Tryz.underlying54 rfl size_tabE hD ?_
    try simp only [Act.put, List.setIfInBounds_toArray, List.set_cons_zero, List.set_cons_succ]
    refine held_v 1 (some 15) rfl (by kernel_rfl) (by kernel_rfl) (by kernel_rfl) (by kernel_rfl) (fun c a v w h => HQ2.out c a _ v w h) (by kernel_rfl) (.int .u64 u) (fun W h => by kernel_rfl) hD ?_
    try simp only [Act.put, List.setIfInBounds_toArray, List.set_cons_zero, List.set_cons_succ]
    refine held_v 2 (some 16) rfl (by kernel_rfl) (by kernel_rfl) (by kernel_rfl) (by kernel_rfl) (fun c a v w h => HQ2.out c a _ v w h) (by kernel_rfl) (.pointer (some ⟨w.heap.size, 0, none⟩)) (fun W h => by kernel_rfl) hD ?_
    try simp only [Act.put, List.setIfInBounds_toArray, List.set_cons_zero, List.set_cons_succ]
    refine held_v 3 (some 17) rfl (by kernel_rfl) (by kernel_rfl) (by kernel_rfl) (by kernel_rfl) (fun c a v w h => HQ2.out c a _ v w h) (by kernel_rfl) (.int .u64 T) (fun W h => by have p := h.c0; go_simp) hD ?_
    try simp only [Act.put, List.setIfInBounds_toArray, List.set_cons_zero, List.set_cons_succ]
    refine held_v 4 (some 18) rfl (by kernel_rfl) (by kernel_rfl) (by kernel_rfl) (by kernel_rfl) (fun c a v w h => HQ2.out c a _ v w h) (by kernel_rfl) (.int .u64 (q : Int)) (fun W h => by have p := e1; have p2 := tN; have p3 := e4; go_simp) hD ?_
    try simp only [Act.put, List.setIfInBounds_toArray, List.set_cons_zero, List.set_cons_succ]
    refine held_v 5 (some 19) rfl (by kernel_rfl) (by kernel_rfl) (by kernel_rfl) (by kernel_rfl) (fun c a v w h => HQ2.out c a _ v w h) (by kernel_rfl) (.int .i64 (q : Int)) (fun W h => by have p := e3; go_simp) hD ?_
    try simp only [Act.put, List.setIfInBounds_toArray, List.set_cons_zero, List.set_cons_succ]
    refine held_v 6 (some 20) rfl (by kernel_rfl) (by kernel_rfl) (by kernel_rfl) (by kernel_rfl) (fun c a v w h => HQ2.out c a _ v w h) (by kernel_rfl) (.int .u64 u) (fun W h => by kernel_rfl) hD ?_
    try simp only [Act.put, List.setIfInBounds_toArray, List.set_cons_zero, List.set_cons_succ]
    refine held_v 7 (some 21) rfl (by kernel_rfl) (by kernel_rfl) (by kernel_rfl) (by kernel_rfl) (fun c a v w h => HQ2.out c a _ v w h) (by kernel_rfl) (.pointer (some ⟨w.heap.size, 0, none⟩)) (fun W h => by kernel_rfl) hD ?_
    try simp only [Act.put, List.setIfInBounds_toArray, List.set_cons_zero, List.set_cons_succ]
    refine held_v 8 (some 22) rfl (by kernel_rfl) (by kernel_rfl) (by kernel_rfl) (by kernel_rfl) (fun c a v w h => HQ2.out c a _ v w h) (by kernel_rfl) (.int .u64 T) (fun W h => by have p := h.c0; go_simp) hD ?_
    try simp only [Act.put, List.setIfInBounds_toArray, List.set_cons_zero, List.set_cons_succ]
    refine held_v 9 (some 23) rfl (by kernel_rfl) (by kernel_rfl) (by kernel_rfl) (by kernel_rfl) (fun c a v w h => HQ2.out c a _ v w h) (by kernel_rfl) (.int .u64 r) (fun W h => by have p := e2; have p2 := tN; have p3 := e5; go_simp) hD ?_
    try simp only [Act.put, List.setIfInBounds_toArray, List.set_cons_zero, List.set_cons_succ]
    refine wpAnyH_ready (rs := [10]) (by kernel_rfl) (by decide) ?_
    refine AllReadyH.cons rfl (fun K hK => ?_) AllReadyH.nil
    refine step_call (some 24) (by kernel_rfl) (by kernel_rfl) _ _ (by kernel_rfl) _ (HL.out _ (hD.pr HR.out)) ?_
    rintro e w41 ⟨rfl, hbw41⟩
    refine ⟨_, rfl, ?_⟩
    refine hK.out _ _ (hD.below hbw41) (fun hw41 => ?_)
    clear hK K
    try simp only [Act.put, List.setIfInBounds_toArray, List.set_cons_zero, List.set_cons_succ]
    refine held_v 11 (some 4) rfl (by kernel_rfl) (by kernel_rfl) (by kernel_rfl) (by kernel_rfl) (fun c a v w h => HQ2.out c a _ v w h) (by kernel_rfl) (.int .i64 V) (fun W h => by kernel_rfl) hw41 ?_
    try simp only [Act.put, List.setIfInBounds_toArray, List.set_cons_zero, List.set_cons_succ]
    refine held_v 12 (some 5) rfl (by kernel_rfl) (by kernel_rfl) (by kernel_rfl) (by kernel_rfl) (fun c a v w h => HQ2.out c a _ v w h) (by kernel_rfl) (.int .i64 0) (fun W h => by kernel_rfl) hw41 ?_
    try simp only [Act.put, List.setIfInBounds_toArray, List.set_cons_zero, List.set_cons_succ]
    refine wpAnyH_done (by kernel_rfl) ?_ _
    refine HQ1.out _ _ ?_
    clear HQ1 HQ2
    go_wp2_with fail
    go_ret2
    exact ⟨ret_iiT HV.out.1 HV.out.2, hw41.bel⟩
  · have HE := Lib.hid (ow_big hr hu)
    obtain ⟨Z, hZ⟩ : ∃ Z, (ts.length : Int) * T = Z := ⟨_, rfl⟩
    rw [hZ] at hu HZ tz
    clear hrd hts hr hz hZ hzp
    go_enter Tryz.func27, Tryz.ntmps27
    go_wp2_with (first
      | (go_at_call 61; (with_reducible refine (HZ.out _ (HS.out.pr HR.out)).mono ?_); rintro e w1 ⟨rfl, hb1⟩; have HS1 := Lib.hid (HS.out.below hb1); clear hb1))
    go_ret2
    exact ⟨ret_iiT HE.out.2.symm HE.out.1.symm, HS1.out.bel⟩
end
end
section
open Go.ChangeShapes Go.WideShapes Go.ChangeAt Go.RowKit
theorem OwnI.cell1 {w : World} {base : Nat} {e : TypeId} {k : IntKind} {v : Value} {zs : List Int} (h : OwnI w base e k v zs) : v.cells = #[v] ∧ v.oneCell' = true := by
  obtain ⟨A, c, rfl, _, _⟩ := h.form
  exact ⟨rfl, rfl⟩
structure LayS (w0 : World) (g gH gC n : Nat) (T : Int) (hs : List Int) (ts : List (Int × Int)) (vS vL : Value) (sm lg : List Int) (w : World) : Prop where
  bY : Blk w g 105 #[.int .u64 T, .slice (some ⟨gC, 0, none⟩) n n, .slice (some ⟨gH, 0, none⟩) n n, vS, vL]
  bH : Blk w gH 24 (intsA .u64 hs)
  bC : Blk w gC 138 (cellsA ts)
  oS : OwnI w w0.heap.size 3 .i64 vS sm
  oL : OwnI w w0.heap.size 3 .i64 vL lg
  ap : ∀ g, vS.ownBlock = some g → vL.ownBlock ≠ some g
  bel : Below w0.heap.size w0 w
  leY : w0.heap.size ≤ g
  leH : w0.heap.size ≤ gH
  leC : w0.heap.size ≤ gC
section
variable {w0 w w' w'' : World} {g gH gC n c j k : Nat} {T : Int} {hs sm lg : List Int} {ts : List (Int × Int)} {vS vL v' : Value} {A : Option Addr} {x y : Int}
theorem LayS.below (h : LayS w0 g gH gC n T hs ts vS vL sm lg w) (hb : Below w.heap.size w w') : LayS w0 g gH gC n T hs ts vS vL sm lg w' :=
  ⟨h.bY.below hb h.bY.lt, h.bH.below hb h.bH.lt, h.bC.below hb h.bC.lt, h.oS.below hb, h.oL.below hb, h.ap, h.bel.trans (hb.mono h.bel.size), h.leY, h.leH, h.leC⟩
theorem LayS.alloc (h : LayS w0 g gH gC n T hs ts vS vL sm lg w) (o : Obj) : LayS w0 g gH gC n T hs ts vS vL sm lg (w.alloc o) := h.below ((Below.refl _ _).alloc (Nat.le_refl _) _)
theorem LayS.drew (h : LayS w0 g gH gC n T hs ts vS vL sm lg w) : LayS w0 g gH gC n T hs ts vS vL sm lg w.drew := h.below (Below.refl _ _).drew
theorem LayS.drewN (h : LayS w0 g gH gC n T hs ts vS vL sm lg w) (m : Nat) : LayS w0 g gH gC n T hs ts vS vL sm lg (w.drewN m) := h.below (below_drewN (Below.refl _ _) _)
theorem LayS.size (h : LayS w0 g gH gC n T hs ts vS vL sm lg w) : w0.heap.size ≤ w.heap.size := h.bel.size
theorem LayS.rd (h : LayS w0 g gH gC n T hs ts vS vL sm lg w) {l : List Int} {m : Nat} (hr : Rd .u64 w0 w0.heap.size A m l) : Rd .u64 w w.heap.size A m l := (hr.below h.bel).mono h.size
theorem LayS.c0 (h : LayS w0 g gH gC n T hs ts vS vL sm lg w) : w.cell? ⟨g, 0, none⟩ = some (.int .u64 T) := by rw [h.bY.cell]; rfl
theorem LayS.c1 (h : LayS w0 g gH gC n T hs ts vS vL sm lg w) : w.cell? ⟨g, 1, none⟩ = some (.slice (some ⟨gC, 0, none⟩) n n) := by rw [h.bY.cell]; rfl
theorem LayS.c2 (h : LayS w0 g gH gC n T hs ts vS vL sm lg w) : w.cell? ⟨g, 2, none⟩ = some (.slice (some ⟨gH, 0, none⟩) n n) := by rw [h.bY.cell]; rfl
theorem LayS.c3 (h : LayS w0 g gH gC n T hs ts vS vL sm lg w) : w.cell? ⟨g, 3, none⟩ = some vS := by rw [h.bY.cell]; rfl
theorem LayS.c4 (h : LayS w0 g gH gC n T hs ts vS vL sm lg w) : w.cell? ⟨g, 4, none⟩ = some vL := by rw [h.bY.cell]; rfl
theorem LayS.atH (h : LayS w0 g gH gC n T hs ts vS vL sm lg w) (hk : k < hs.length) : w.cell? ⟨gH, k, none⟩ = some (.int .u64 (hs.getD k 0)) := by
  rw [h.bH.cell]
  simp [intsA, hk]
theorem LayS.putH (h : LayS w0 g gH gC n T hs ts vS vL sm lg w) (hk : Blk w' gH 24 ((intsA .u64 hs).setIfInBounds k (.int .u64 x))) (ho : Only gH w w') : LayS w0 g gH gC n T (hs.set k x) ts vS vL sm lg w' := by
  have nY : g ≠ gH := h.bY.ne h.bH (by decide)
  have nC : gC ≠ gH := h.bC.ne h.bH (by decide)
  refine ⟨h.bY.only ho nY, ?_, h.bC.only ho nC, h.oS.only h.bH (by decide) ho, h.oL.only h.bH (by decide) ho, h.ap, h.bel.trans (ho.below h.leH h.size), h.leY, h.leH, h.leC⟩
  have e : (intsA .u64 hs).setIfInBounds k (.int .u64 x) = intsA .u64 (hs.set k x) := by
    apply Array.ext'
    simp [intsA, List.map_set]
  rw [← e]
  exact hk
theorem LayS.putC (h : LayS w0 g gH gC n T hs ts vS vL sm lg w) (hk : Blk w' gC 138 (putAll (cellsA ts) (k * 2) [.int .u64 x, .int .i64 y])) (ho : Only gC w w') : LayS w0 g gH gC n T hs (ts.set k (x, y)) vS vL sm lg w' := by
  have nY : g ≠ gC := h.bY.ne h.bC (by decide)
  have nH : gH ≠ gC := h.bH.ne h.bC (by decide)
  refine ⟨h.bY.only ho nY, h.bH.only ho nH, ?_, h.oS.only h.bC (by decide) ho, h.oL.only h.bC (by decide) ho, h.ap, h.bel.trans (ho.below h.leC h.size), h.leY, h.leH, h.leC⟩
  rw [← cellsA_put]
  exact hk
theorem LayS.growS (h : LayS w0 g gH gC n T hs ts vS vL sm lg w) (hg : w.grownBy w' vS.ownBlock) (ho : OwnI w' w0.heap.size 3 .i64 v' (sm ++ [x])) (hat : v'.ownBlock = vS.ownBlock ∨ v'.ownBlock = some w.heap.size)
    (hk : Blk w'' g 105 (#[.int .u64 T, .slice (some ⟨gC, 0, none⟩) n n, .slice (some ⟨gH, 0, none⟩) n n, vS, vL].setIfInBounds 3 v')) (h2 : Only g w' w'') : LayS w0 g gH gC n T hs ts v' vL (sm ++ [x]) lg w'' := by
  have bY := h.bY.grown h.oS (by decide) hg
  have bH := h.bH.grown h.oS (by decide) hg
  have bC := h.bC.grown h.oS (by decide) hg
  have oL := h.oL.other_row (fun g e1 e2 => h.ap g e2 e1) hg
  have be := h.oS.below_ h.bel h.size hg
  refine ⟨hk, bH.only h2 (bH.ne bY (by decide)), bC.only h2 (bC.ne bY (by decide)), ho.only bY (by decide) h2, oL.only bY (by decide) h2, fun g e => ?_, be.trans (h2.below h.leY be.size), h.leY, h.leH, h.leC⟩
  rcases hat with e2 | e2
  · exact h.ap g (by rw [← e2]; exact e)
  · intro e3
    have := h.oL.block_lt g e3
    rw [e] at e2
    injection e2 with e2
    omega
theorem LayS.growL (h : LayS w0 g gH gC n T hs ts vS vL sm lg w) (hg : w.grownBy w' vL.ownBlock) (ho : OwnI w' w0.heap.size 3 .i64 v' (lg ++ [x])) (hat : v'.ownBlock = vL.ownBlock ∨ v'.ownBlock = some w.heap.size)
    (hk : Blk w'' g 105 (#[.int .u64 T, .slice (some ⟨gC, 0, none⟩) n n, .slice (some ⟨gH, 0, none⟩) n n, vS, vL].setIfInBounds 4 v')) (h2 : Only g w' w'') : LayS w0 g gH gC n T hs ts vS v' sm (lg ++ [x]) w'' := by
  have bY := h.bY.grown h.oL (by decide) hg
  have bH := h.bH.grown h.oL (by decide) hg
  have bC := h.bC.grown h.oL (by decide) hg
  have oS := h.oS.other_row h.ap hg
  have be := h.oL.below_ h.bel h.size hg
  refine ⟨hk, bH.only h2 (bH.ne bY (by decide)), bC.only h2 (bC.ne bY (by decide)), oS.only bY (by decide) h2, ho.only bY (by decide) h2, fun g e1 e => ?_, be.trans (h2.below h.leY be.size), h.leY, h.leH, h.leC⟩
  rcases hat with e2 | e2
  · exact h.ap g e1 (by rw [← e2]; exact e)
  · have := h.oS.block_lt g e1
    rw [e] at e2
    injection e2 with e2
    omega
theorem LayS.cutS (h : LayS w0 g gH gC n T hs ts (.slice A k c) vL sm lg w) (hj : j ≤ sm.length)
    (hk : Blk w' g 105 (#[.int .u64 T, .slice (some ⟨gC, 0, none⟩) n n, .slice (some ⟨gH, 0, none⟩) n n, .slice A k c, vL].setIfInBounds 3 (.slice A j c))) (h2 : Only g w w') : LayS w0 g gH gC n T hs ts (.slice A j c) vL (sm.take j) lg w' :=
  ⟨hk, h.bH.only h2 (h.bH.ne h.bY (by decide)), h.bC.only h2 (h.bC.ne h.bY (by decide)), (h.oS.cut hj).only h.bY (by decide) h2, h.oL.only h.bY (by decide) h2, fun g e => h.ap g (by rw [own_slice A k j c c]; exact e), h.bel.trans (h2.below h.leY h.size), h.leY, h.leH, h.leC⟩
theorem LayS.cutL (h : LayS w0 g gH gC n T hs ts vS (.slice A k c) sm lg w) (hj : j ≤ lg.length)
    (hk : Blk w' g 105 (#[.int .u64 T, .slice (some ⟨gC, 0, none⟩) n n, .slice (some ⟨gH, 0, none⟩) n n, vS, .slice A k c].setIfInBounds 4 (.slice A j c))) (h2 : Only g w w') : LayS w0 g gH gC n T hs ts vS (.slice A j c) sm (lg.take j) w' :=
  ⟨hk, h.bH.only h2 (h.bH.ne h.bY (by decide)), h.bC.only h2 (h.bC.ne h.bY (by decide)), h.oS.only h.bY (by decide) h2, (h.oL.cut hj).only h.bY (by decide) h2, fun g e => by rw [own_slice A j k c c]; exact h.ap g e, h.bel.trans (h2.below h.leY h.size), h.leY, h.leH, h.leC⟩
end
theorem size_sli : (Tryz.prog.info? 64).map (·.size) = some 1 := by kernel_rfl
theorem info_intF : (Tryz.prog.info? 3).map (fun i => (i.zero, i.size, i.bytes)) = some (some (.int .i64 0), 1, 8) := by kernel_rfl
theorem q14last_c (g k gS p c : Nat) (hp : p < 1000000) (hpc : p + 1 ≤ c) (hcm : c ≤ maxLen) (x : Int) (t : TypeId) (cs : Array Value) (hk : k < cs.size) (w : World) (hb : Blk w g t cs) (hv : cs[k]? = some (.slice (some ⟨gS, 0, none⟩) (p + 1) c)) (hx : w.cell? ⟨gS, p, none⟩ = some (.int .i64 x)) :
    Calls Tryz.prog 92 #[.pointer (some ⟨g, k, none⟩)] w fun e w' => e = .returned (.int .i64 x) ∧ Blk w' g t (cs.setIfInBounds k (.slice (some ⟨gS, 0, none⟩) p c)) ∧ Only g w w' := by
  have HB := Lib.hid hb
  have HK := Lib.hid hk
  have c0 : w.cell? ⟨g, k, none⟩ = some (.slice (some ⟨gS, 0, none⟩) (p + 1) c) := by rw [hb.cell]; exact hv
  have i0 : (0 : Int) ≤ (p : Int) := by omega
  have i1 : (p : Int) < 1000000 := by omega
  have i2 : ((p + 1 : Nat) : Int) - 1 = (p : Int) := by omega
  have i3 : (c : Int) ≤ 9223372036854775807 := by unfold maxLen at hcm; omega
  have i4 : (p : Int) + 1 ≤ (c : Int) := by omega
  clear hb hk hv hcm hp hpc
  go_enter Tryz.func92, Tryz.ntmps92
  go_wp2_with (first
    | (with_reducible refine at_any ?_; refine at_store 22 rfl ?_; refine wpList_store_cell rfl 64 (.tmp 22) (.tmp 21) rfl g k rfl t cs HB.out (.slice (some ⟨gS, 0, none⟩) p c) rfl HK.out size_sli rfl rfl ?_; intro w1 hk1 ho1; have HK1 := Lib.hid hk1.out; have HO1 := Lib.hid ho1))
  go_ret
  exact ⟨rfl, HK1.out, HO1.out⟩
theorem lay3 (a b c d e : Value) : 3 < (#[a, b, c, d, e] : Array Value).size := by simp
theorem lay4 (a b c d e : Value) : 4 < (#[a, b, c, d, e] : Array Value).size := by simp
theorem q14sort_c {w0 : World} {g gH gC n : Nat} {T : Int} {hs sm lg : List Int} {ts : List (Int × Int)} {vS vL : Value} (k : Nat) (hk : k < n) (hn : n ≤ 1000) (hl : hs.length = n) (hx0 : 0 ≤ hs.getD k 0) (hx1 : hs.getD k 0 < 18446744073709551616) (T0 : 0 ≤ T) (T1 : T < 18446744073709551616) (hsm : sm.length ≤ 1000) (hlg : lg.length ≤ 1000) (w : World) (hY : LayS w0 g gH gC n T hs ts vS vL sm lg w) :
    Calls Tryz.prog 91 #[.pointer (some ⟨g, 0, none⟩), .int .i64 (k : Int)] w fun e w' => e = .returned (.tuple #[]) ∧ ∃ vS' vL', LayS w0 g gH gC n T hs ts vS' vL' (if hs.getD k 0 < T then sm ++ [(k : Int)] else sm) (if hs.getD k 0 < T then lg else lg ++ [(k : Int)]) w' := by
  obtain ⟨ti, hti, hz0, hz1, hzb⟩ := info_parts info_intF
  obtain ⟨AS, cS, rfl, hcS, hmS⟩ := hY.oS.form
  obtain ⟨AL, cL, rfl, hcL, hmL⟩ := hY.oL.form
  have HYN := Lib.hid (fun M => hY.drewN M)
  have c0 := hY.c0
  have c2 := hY.c2
  have cx := hY.atH (k := k) (by omega)
  have HC3 := Lib.hid (fun M => (hY.drewN M).c3)
  have HC4 := Lib.hid (fun M => (hY.drewN M).c4)
  have HSN := Lib.hid hsm
  have HLN := Lib.hid hlg
  obtain ⟨x, hx⟩ : ∃ x, hs.getD k 0 = x := ⟨_, rfl⟩
  rw [hx] at hx0 hx1 cx ⊢
  obtain ⟨p, hp⟩ : ∃ p, sm.length = p := ⟨_, rfl⟩
  obtain ⟨q, hq⟩ : ∃ q, lg.length = q := ⟨_, rfl⟩
  rw [hp] at HYN HC3 HSN hcS
  rw [hq] at HYN HC4 HLN hcL
  have HPL := Lib.hid hp
  have HQL := Lib.hid hq
  have i0 : (0 : Int) ≤ (k : Int) := by omega
  have i1 : (k : Int) < (n : Int) := by omega
  have i2 : (n : Int) ≤ 1000 := by omega
  clear hY hx hp hq hcS hmS hcL hmL hsm hlg hl hk hn
  by_cases hlt : x < T
  · simp only [if_pos hlt]
    go_enter Tryz.func91, Tryz.ntmps91
    go_wp2
    go_quiet (fail)
    have c3 := HC3.out nq
    have HQ := Lib.hid (HYN.out nq)
    go_wp2_with (first
      | (at_builtin; refine wpList_append_ints _ rfl (.tmp 21) (.tmp 23) 64 rfl w0.heap.size 3 ti _ 8 .i64 Tryz.underlying64 hti hz0 hz1 hzb rfl (.slice AS p cS) sm rfl (HQ.out.alloc _).oS _ _ 1 1 [(k : Int)] rfl (rd_one _ 3 .i64 (k : Int)) (by have := HSN.out; have := HPL.out; simp only [maxLen]; omega) (by have := HSN.out; have := HPL.out; omega) (HQ.out.alloc _).size ?_; intro v4 w4 ho4 hg4 hat4; have B4 := Lib.hid ((HQ.out.alloc _).bY.grown (HQ.out.alloc _).oS (by decide) hg4); have K4 := Lib.hid (fun W h1 h2 => LayS.growS (w'' := W) (HQ.out.alloc _) hg4 ho4 hat4 h1 h2); have C4 := Lib.hid ho4.cell1; clear hg4 ho4 hat4)
      | (with_reducible refine at_any ?_; refine at_store 26 rfl ?_; refine wpList_store_cell rfl 64 (.tmp 26) (.tmp 24) rfl g 3 rfl 105 _ B4.out v4 rfl (lay3 _ _ _ _ _) size_sli C4.out.1 C4.out.2 ?_; intro w5 hk5 ho5; have HY5 := Lib.hid (K4.out _ hk5.out ho5)))
    go_end0
    exact ⟨rfl, _, _, HY5.out⟩
  · simp only [if_neg hlt]
    go_enter Tryz.func91, Tryz.ntmps91
    go_wp2
    go_quiet (fail)
    have c3 := HC4.out nq
    have HQ := Lib.hid (HYN.out nq)
    go_wp2_with (first
      | (at_builtin; refine wpList_append_ints _ rfl (.tmp 31) (.tmp 33) 64 rfl w0.heap.size 3 ti _ 8 .i64 Tryz.underlying64 hti hz0 hz1 hzb rfl (.slice AL q cL) lg rfl (HQ.out.alloc _).oL _ _ 1 1 [(k : Int)] rfl (rd_one _ 3 .i64 (k : Int)) (by have := HLN.out; have := HQL.out; simp only [maxLen]; omega) (by have := HLN.out; have := HQL.out; omega) (HQ.out.alloc _).size ?_; intro v4 w4 ho4 hg4 hat4; have B4 := Lib.hid ((HQ.out.alloc _).bY.grown (HQ.out.alloc _).oL (by decide) hg4); have K4 := Lib.hid (fun W h1 h2 => LayS.growL (w'' := W) (HQ.out.alloc _) hg4 ho4 hat4 h1 h2); have C4 := Lib.hid ho4.cell1; clear hg4 ho4 hat4)
      | (with_reducible refine at_any ?_; refine at_store 36 rfl ?_; refine wpList_store_cell rfl 64 (.tmp 36) (.tmp 34) rfl g 4 rfl 105 _ B4.out v4 rfl (lay4 _ _ _ _ _) size_sli C4.out.1 C4.out.2 ?_; intro w5 hk5 ho5; have HY5 := Lib.hid (K4.out _ hk5.out ho5)))
    go_end0
    exact ⟨rfl, _, _, HY5.out⟩
structure LayR (g gH gC n : Nat) (T : Int) (hs : List Int) (vS vL : Value) (w : World) : Prop where
  bY : Blk w g 105 #[.int .u64 T, .slice (some ⟨gC, 0, none⟩) n n, .slice (some ⟨gH, 0, none⟩) n n, vS, vL]
  bH : Blk w gH 24 (intsA .u64 hs)
structure LayG (g gH gC n : Nat) (T : Int) (vS vL : Value) (w : World) : Prop where
  bY : Blk w g 105 #[.int .u64 T, .slice (some ⟨gC, 0, none⟩) n n, .slice (some ⟨gH, 0, none⟩) n n, vS, vL]
section
variable {w0 w : World} {g gH gC n k : Nat} {T : Int} {hs sm lg : List Int} {ts : List (Int × Int)} {vS vL : Value}
theorem LayS.toR (h : LayS w0 g gH gC n T hs ts vS vL sm lg w) : LayR g gH gC n T hs vS vL w := ⟨h.bY, h.bH⟩
theorem LayS.toG (h : LayS w0 g gH gC n T hs ts vS vL sm lg w) : LayG g gH gC n T vS vL w := ⟨h.bY⟩
theorem LayR.c0 (h : LayR g gH gC n T hs vS vL w) : w.cell? ⟨g, 0, none⟩ = some (.int .u64 T) := by rw [h.bY.cell]; rfl
theorem LayR.c1 (h : LayR g gH gC n T hs vS vL w) : w.cell? ⟨g, 1, none⟩ = some (.slice (some ⟨gC, 0, none⟩) n n) := by rw [h.bY.cell]; rfl
theorem LayR.c2 (h : LayR g gH gC n T hs vS vL w) : w.cell? ⟨g, 2, none⟩ = some (.slice (some ⟨gH, 0, none⟩) n n) := by rw [h.bY.cell]; rfl
theorem LayR.atH (h : LayR g gH gC n T hs vS vL w) (hk : k < hs.length) : w.cell? ⟨gH, k, none⟩ = some (.int .u64 (hs.getD k 0)) := by
  rw [h.bH.cell]
  simp [intsA, hk]
theorem LayG.c0 (h : LayG g gH gC n T vS vL w) : w.cell? ⟨g, 0, none⟩ = some (.int .u64 T) := by rw [h.bY.cell]; rfl
theorem LayG.c1 (h : LayG g gH gC n T vS vL w) : w.cell? ⟨g, 1, none⟩ = some (.slice (some ⟨gC, 0, none⟩) n n) := by rw [h.bY.cell]; rfl
theorem LayG.c2 (h : LayG g gH gC n T vS vL w) : w.cell? ⟨g, 2, none⟩ = some (.slice (some ⟨gH, 0, none⟩) n n) := by rw [h.bY.cell]; rfl
end
section
variable {P : Program} {w : World} {ops : Array Oper} {o : Oper} {a : Act} {Q : Exit → Act → World → Prop}
theorem step_store_mid {K : Act → World → Prop} {E : Prop} (d : Option Tmp) (hd : o.dst = d) (hw : Region.wanted o (yielded ops a.tmps) = true) (ty : TypeId) (x y : Operand) (ho : o.op = .store ty x y) (g off : Nat) (hx : a.eval x = .pointer (some ⟨g, off, none⟩)) (t : TypeId) (cs ys : Array Value) (hb : Blk w g t cs)
    (hy : a.eval y = .agg ys) (hl : off + ys.size ≤ cs.size) (hz : (P.info? ty).map (·.size) = some ys.size) (h1 : ys.all (·.oneCell') = true)
    (h : ∀ w', Hid (Blk w' g t (putAll cs off ys.toList)) → Only g w w' → K (a.put d undef) w') :
    if Region.wanted o (yielded ops a.tmps) = true then Oper.wp P o a w K Q else E := by
  subst hd
  rw [if_pos hw]
  exact wp_store_mid ty x y ho g off ys hx hy (hb.there off ys.size hl) hz h1 (h _ (Blk.setCells _ _ hb) (Only.setCells g _ _ _))
end
theorem size_cellF (u v : Value) : (Tryz.prog.info? 138).map (·.size) = some (#[u, v] : Array Value).size := by kernel_rfl
theorem cell_onesF (x y : Int) : (#[.int .u64 x, .int .i64 y] : Array Value).all (·.oneCell') = true := by simp [Value.oneCell']
theorem size_u64F : (Tryz.prog.info? 24).map (·.size) = some 1 := by kernel_rfl
section
variable {w0 w : World} {g gH gC gS n p c : Nat} {T : Int} {hs sm lg : List Int} {ts : List (Int × Int)} {vS vL : Value} {x : Int}
theorem LayS.lastS (hx : topL sm = x) (hp : sm.length = p + 1) (hp1 : p < 1000000) (h : LayS w0 g gH gC n T hs ts (.slice (some ⟨gS, 0, none⟩) (p + 1) c) vL sm lg w) :
    Calls Tryz.prog 92 #[.pointer (some ⟨g, 3, none⟩)] w fun e w' => e = .returned (.int .i64 x) ∧ LayS w0 g gH gC n T hs ts (.slice (some ⟨gS, 0, none⟩) p c) vL (sm.take p) lg w' := by
  obtain ⟨g', c', e, h1, h2, h3⟩ := h.oS.last (by omega)
  injection e with e1 e2 e3
  injection e1 with e1
  injection e1 with e1
  subst e1 e3
  rw [hp, hx, Nat.add_sub_cancel] at h3
  rw [hp] at h1
  refine (q14last_c g 3 gS p c hp1 h1 h2 x _ _ (lay3 _ _ _ _ _) w h.bY rfl h3).mono ?_
  rintro e w' ⟨rfl, hk, ho⟩
  exact ⟨rfl, h.cutS (by omega) hk ho⟩
theorem LayS.lastL (hx : topL lg = x) (hp : lg.length = p + 1) (hp1 : p < 1000000) (h : LayS w0 g gH gC n T hs ts vS (.slice (some ⟨gS, 0, none⟩) (p + 1) c) sm lg w) :
    Calls Tryz.prog 92 #[.pointer (some ⟨g, 4, none⟩)] w fun e w' => e = .returned (.int .i64 x) ∧ LayS w0 g gH gC n T hs ts vS (.slice (some ⟨gS, 0, none⟩) p c) sm (lg.take p) w' := by
  obtain ⟨g', c', e, h1, h2, h3⟩ := h.oL.last (by omega)
  injection e with e1 e2 e3
  injection e1 with e1
  injection e1 with e1
  subst e1 e3
  rw [hp, hx, Nat.add_sub_cancel] at h3
  rw [hp] at h1
  refine (q14last_c g 4 gS p c hp1 h1 h2 x _ _ (lay4 _ _ _ _ _) w h.bY rfl h3).mono ?_
  rintro e w' ⟨rfl, hk, ho⟩
  exact ⟨rfl, h.cutL (by omega) hk ho⟩
end
end
section
open Go.ChangeShapes Go.WideShapes Go.ChangeAt Go.RowKit
set_option maxHeartbeats 8000000 in
theorem q14pair_c {w0 : World} {g gH gC n : Nat} {T : Int} (l : List Int) (s : AB) (hI : ABI T l s) (hlen : l.length = n) (hn : n ≤ 1000) (T0 : 0 ≤ T) (T1 : T < 9223372036854775808) (hg1 : s.sm.length ≠ 0) (hg2 : s.lg.length ≠ 0) (vS vL : Value) (w : World) (hY : LayS w0 g gH gC n T s.has s.ts vS vL s.sm s.lg w) :
    Calls Tryz.prog 60 #[.pointer (some ⟨g, 0, none⟩)] w fun e w' => e = .returned (.tuple #[]) ∧ ∃ vS' vL', LayS w0 g gH gC n T (abStep T s).has (abStep T s).ts vS' vL' (abStep T s).sm (abStep T s).lg w' := by
  obtain ⟨ia, ib, ha, hb, a1, b1, x0, x1, y0, y1, q1, q2, q3, q4⟩ := hI.tops hg1 hg2
  have hnd := hI.nd_len
  obtain ⟨gS, cS, rfl, hcS, hmS, e1⟩ := hY.oS.last hg1
  obtain ⟨gL, cL, rfl, hcL, hmL, e2⟩ := hY.oL.last hg2
  obtain ⟨p, hp⟩ : ∃ p, s.sm.length = p + 1 := ⟨s.sm.length - 1, by omega⟩
  obtain ⟨q, hq⟩ : ∃ p, s.lg.length = p + 1 := ⟨s.lg.length - 1, by omega⟩
  have HHL : Hid (s.has.length = n) := Lib.hid (by rw [hI.hn, hlen])
  have HTL : Hid (s.ts.length = n) := Lib.hid (by rw [hI.tn, hlen])
  rw [hp] at q3 hY
  rw [hq] at q4 hY
  rw [Nat.add_sub_cancel] at q3 q4
  obtain ⟨H, hH⟩ : ∃ H, s.has = H := ⟨_, rfl⟩
  obtain ⟨C, hC⟩ : ∃ H, s.ts = H := ⟨_, rfl⟩
  obtain ⟨sm, hsm⟩ : ∃ H, s.sm = H := ⟨_, rfl⟩
  obtain ⟨lg, hlg⟩ : ∃ H, s.lg = H := ⟨_, rfl⟩
  obtain ⟨x, hx⟩ : ∃ x, H.getD ia 0 = x := ⟨_, rfl⟩
  obtain ⟨y, hy⟩ : ∃ x, H.getD ib 0 = x := ⟨_, rfl⟩
  rw [hH] at HHL x0 x1 y0 y1 q1 q2 q3 q4 hY
  rw [hC] at HTL q2 hY
  rw [hsm] at q3 hp ha hY hnd
  rw [hlg] at q4 hq hb hY hnd
  rw [hx] at x0 x1 q1 q2 q3 q4
  rw [hy] at y0 y1 q1 q3 q4
  obtain ⟨z, hz⟩ : ∃ z, y - (T - x) = z := ⟨_, rfl⟩
  rw [hz] at q1 q3 q4
  have z0 : 0 ≤ z := by omega
  have z1 : z < 9223372036854775808 := by omega
  have hgz : (H.set ib z).getD ib 0 = z := by rw [getD_setT (by rw [HHL.out]; omega), if_pos rfl]
  have HSO : Hid (∀ vS vL W, LayS w0 g gH gC n T (H.set ib z) (C.set ia (x, (ib : Int))) vS vL (sm.take p) (lg.take q) W → Calls Tryz.prog 91 #[.pointer (some ⟨g, 0, none⟩), .int .i64 (ib : Int)] W fun e w' => e = .returned (.tuple #[]) ∧ ∃ vS' vL', LayS w0 g gH gC n T (abStep T s).has (abStep T s).ts vS' vL' (abStep T s).sm (abStep T s).lg w') := Lib.hid (fun vS vL W h => by
    have h2 := q14sort_c ib (by omega) hn (by rw [List.length_set]; exact HHL.out) (by rw [hgz]; exact z0) (by rw [hgz]; omega) T0 (by omega) (by rw [List.length_take]; omega) (by rw [List.length_take]; omega) W h
    rw [hgz] at h2
    rw [q1, q2, q3, q4]
    exact h2)
  have HA := Lib.hid ha
  have HB := Lib.hid hb
  have HPP := Lib.hid hp
  have HQQ := Lib.hid hq
  have HP6 := Lib.hid (show p < 1000000 by omega)
  have HQ6 := Lib.hid (show q < 1000000 by omega)
  have HAN := Lib.hid (show ia < n by omega)
  have HBN := Lib.hid (show ib < n by omega)
  have i2 : (0 : Int) ≤ (ia : Int) := by omega
  have i3 : (0 : Int) ≤ (ib : Int) := by omega
  have i6 : (ia : Int) < (n : Int) := by omega
  have i7 : (ib : Int) < (n : Int) := by omega
  have i8 : (n : Int) ≤ 1000 := by omega
  have w1 : IntKind.u64.wrap (T - x) = T - x := by rw [IntKind.wrap_u64]; omega
  have w2 : IntKind.u64.wrap (y - (T - x)) = z := by rw [hz, IntKind.wrap_u64]; omega
  have W1 := Lib.hid w1
  have W2 := Lib.hid w2
  have HYH := Lib.hid hy
  have HXH := Lib.hid hx
  have HY0 := hY.drew
  clear hY hp hq hH hC hsm hlg hx hy hz ha hb hI q1 q2 q3 q4 hgz hg1 hg2 hcS hmS hcL hmL e1 e2 a1 b1 w1 w2 hnd hlen hn
  go_enter Tryz.func60, Tryz.ntmps60
  go_wp2
  refine wp_region_held_drew (S := (fun _ => True)) (by kernel_rfl) trivial (fun hH => ?_)
  refine wpAnyH_letter #[false, false, false, false, false, false, false, false, false, false] (by kernel_rfl) (fun _ _ d _ _ h => by cases d <;> exact h) (fun QL HQ1 HQ2 => ?_)
  refine held_v 0 (some 4) rfl (by kernel_rfl) (by kernel_rfl) (by kernel_rfl) (by kernel_rfl) (fun c a v w h => HQ2.out c a _ v w h) (by kernel_rfl) (.pointer (some ⟨g, 0, none⟩)) (fun W h => by kernel_rfl) trivial ?_
  try simp only [Act.put, List.setIfInBounds_toArray, List.set_cons_zero, List.set_cons_succ]
  refine held_v 1 (some 5) rfl (by kernel_rfl) (by kernel_rfl) (by kernel_rfl) (by kernel_rfl) (fun c a v w h => HQ2.out c a _ v w h) (by kernel_rfl) (.pointer (some ⟨g, 0, none⟩)) (fun W h => by go_simp) trivial ?_
  try simp only [Act.put, List.setIfInBounds_toArray, List.set_cons_zero, List.set_cons_succ]
  refine held_v 2 (some 6) rfl (by kernel_rfl) (by kernel_rfl) (by kernel_rfl) (by kernel_rfl) (fun c a v w h => HQ2.out c a _ v w h) (by kernel_rfl) (.pointer (some ⟨g, 3, none⟩)) (fun W h => by kernel_rfl) trivial ?_
  try simp only [Act.put, List.setIfInBounds_toArray, List.set_cons_zero, List.set_cons_succ]
  refine held_v 4 (some 8) rfl (by kernel_rfl) (by kernel_rfl) (by kernel_rfl) (by kernel_rfl) (fun c a v w h => HQ2.out c a _ v w h) (by kernel_rfl) (.pointer (some ⟨g, 0, none⟩)) (fun W h => by kernel_rfl) trivial ?_
  try simp only [Act.put, List.setIfInBounds_toArray, List.set_cons_zero, List.set_cons_succ]
  refine held_v 5 (some 9) rfl (by kernel_rfl) (by kernel_rfl) (by kernel_rfl) (by kernel_rfl) (fun c a v w h => HQ2.out c a _ v w h) (by kernel_rfl) (.pointer (some ⟨g, 0, none⟩)) (fun W h => by go_simp) trivial ?_
  try simp only [Act.put, List.setIfInBounds_toArray, List.set_cons_zero, List.set_cons_succ]
  refine held_v 6 (some 10) rfl (by kernel_rfl) (by kernel_rfl) (by kernel_rfl) (by kernel_rfl) (fun c a v w h => HQ2.out c a _ v w h) (by kernel_rfl) (.pointer (some ⟨g, 4, none⟩)) (fun W h => by kernel_rfl) trivial ?_
  try simp only [Act.put, List.setIfInBounds_toArray, List.set_cons_zero, List.set_cons_succ]
  refine wpAnyH_ready (rs := [3]) (by kernel_rfl) (by decide) ?_
  refine AllReadyH.cons rfl (fun K hK => ?_) AllReadyH.nil
  refine step_call (some 7) (by kernel_rfl) (by kernel_rfl) _ _ (by kernel_rfl) _ (LayS.lastS HA.out HPP.out HP6.out HY0) ?_
  rintro e w41 ⟨rfl, trw41⟩
  refine ⟨_, rfl, ?_⟩
  refine hK.out _ _ trivial (fun _ => ?_)
  clear hK K
  try simp only [Act.put, List.setIfInBounds_toArray, List.set_cons_zero, List.set_cons_succ]
  refine wpAnyH_ready (rs := [7]) (by kernel_rfl) (by decide) ?_
  refine AllReadyH.cons rfl (fun K hK => ?_) AllReadyH.nil
  refine step_call (some 11) (by kernel_rfl) (by kernel_rfl) _ _ (by kernel_rfl) _ (LayS.lastL HB.out HQQ.out HQ6.out trw41) ?_
  rintro e w42 ⟨rfl, trw42⟩
  refine ⟨_, rfl, ?_⟩
  refine hK.out _ _ trivial (fun _ => ?_)
  clear hK K
  try simp only [Act.put, List.setIfInBounds_toArray, List.set_cons_zero, List.set_cons_succ]
  refine held_v 8 (some 2) rfl (by kernel_rfl) (by kernel_rfl) (by kernel_rfl) (by kernel_rfl) (fun c a v w h => HQ2.out c a _ v w h) (by kernel_rfl) (.int .i64 (ia : Int)) (fun W h => by kernel_rfl) trivial ?_
  try simp only [Act.put, List.setIfInBounds_toArray, List.set_cons_zero, List.set_cons_succ]
  refine held_v 9 (some 3) rfl (by kernel_rfl) (by kernel_rfl) (by kernel_rfl) (by kernel_rfl) (fun c a v w h => HQ2.out c a _ v w h) (by kernel_rfl) (.int .i64 (ib : Int)) (fun W h => by kernel_rfl) trivial ?_
  try simp only [Act.put, List.setIfInBounds_toArray, List.set_cons_zero, List.set_cons_succ]
  refine wpAnyH_done (by kernel_rfl) ?_ _
  refine HQ1.out _ _ ?_
  clear HQ1 HQ2
  have HY1 := (trw42).drew
  go_wp2
  refine wp_region_held_drew (S := (LayR g gH gC n T H (.slice (some ⟨gS, 0, none⟩) p cS) (.slice (some ⟨gL, 0, none⟩) q cL))) (by kernel_rfl) HY1.toR (fun hH => ?_)
  refine wpAnyH_letter #[false, false, false, false, false, false, false, false, false, false, false, false, false, false, false, false, false] (by kernel_rfl) (fun _ _ d _ _ h => by cases d <;> exact h) (fun QL HQ1 HQ2 => ?_)
  refine held_v 0 (some 12) rfl (by kernel_rfl) (by kernel_rfl) (by kernel_rfl) (by kernel_rfl) (fun c a v w h => HQ2.out c a _ v w h) (by kernel_rfl) (.pointer (some ⟨g, 0, none⟩)) (fun W h => by kernel_rfl) HY1.toR ?_
  try simp only [Act.put, List.setIfInBounds_toArray, List.set_cons_zero, List.set_cons_succ]
  refine held_v 1 (some 13) rfl (by kernel_rfl) (by kernel_rfl) (by kernel_rfl) (by kernel_rfl) (fun c a v w h => HQ2.out c a _ v w h) (by kernel_rfl) (.pointer (some ⟨g, 0, none⟩)) (fun W h => by go_simp) HY1.toR ?_
  try simp only [Act.put, List.setIfInBounds_toArray, List.set_cons_zero, List.set_cons_succ]
  refine held_v 2 (some 14) rfl (by kernel_rfl) (by kernel_rfl) (by kernel_rfl) (by kernel_rfl) (fun c a v w h => HQ2.out c a _ v w h) (by kernel_rfl) (.pointer (some ⟨g, 0, none⟩)) (fun W h => by kernel_rfl) HY1.toR ?_
  try simp only [Act.put, List.setIfInBounds_toArray, List.set_cons_zero, List.set_cons_succ]
  refine held_v 3 (some 15) rfl (by kernel_rfl) (by kernel_rfl) (by kernel_rfl) (by kernel_rfl) (fun c a v w h => HQ2.out c a _ v w h) (by kernel_rfl) (.pointer (some ⟨g, 1, none⟩)) (fun W h => by kernel_rfl) HY1.toR ?_
  try simp only [Act.put, List.setIfInBounds_toArray, List.set_cons_zero, List.set_cons_succ]
  refine held_v 4 (some 16) rfl (by kernel_rfl) (by kernel_rfl) (by kernel_rfl) (by kernel_rfl) (fun c a v w h => HQ2.out c a _ v w h) (by kernel_rfl) (.slice (some ⟨gC, 0, none⟩) n n) (fun W h => by have p := h.c1; go_simp) HY1.toR ?_
  try simp only [Act.put, List.setIfInBounds_toArray, List.set_cons_zero, List.set_cons_succ]
  refine held_v 5 (some 17) rfl (by kernel_rfl) (by kernel_rfl) (by kernel_rfl) (by kernel_rfl) (fun c a v w h => HQ2.out c a _ v w h) (by kernel_rfl) (.int .i64 (ia : Int)) (fun W h => by kernel_rfl) HY1.toR ?_
  try simp only [Act.put, List.setIfInBounds_toArray, List.set_cons_zero, List.set_cons_succ]
  refine held_v 6 (some 18) rfl (by kernel_rfl) (by kernel_rfl) (by kernel_rfl) (by kernel_rfl) (fun c a v w h => HQ2.out c a _ v w h) (by kernel_rfl) (.pointer (some ⟨g, 0, none⟩)) (fun W h => by kernel_rfl) HY1.toR ?_
  try simp only [Act.put, List.setIfInBounds_toArray, List.set_cons_zero, List.set_cons_succ]
  refine held_v 7 (some 19) rfl (by kernel_rfl) (by kernel_rfl) (by kernel_rfl) (by kernel_rfl) (fun c a v w h => HQ2.out c a _ v w h) (by kernel_rfl) (.pointer (some ⟨g, 0, none⟩)) (fun W h => by go_simp) HY1.toR ?_
  try simp only [Act.put, List.setIfInBounds_toArray, List.set_cons_zero, List.set_cons_succ]
  refine held_v 8 (some 20) rfl (by kernel_rfl) (by kernel_rfl) (by kernel_rfl) (by kernel_rfl) (fun c a v w h => HQ2.out c a _ v w h) (by kernel_rfl) (.pointer (some ⟨g, 2, none⟩)) (fun W h => by kernel_rfl) HY1.toR ?_
  try simp only [Act.put, List.setIfInBounds_toArray, List.set_cons_zero, List.set_cons_succ]
  refine held_v 9 (some 21) rfl (by kernel_rfl) (by kernel_rfl) (by kernel_rfl) (by kernel_rfl) (fun c a v w h => HQ2.out c a _ v w h) (by kernel_rfl) (.slice (some ⟨gH, 0, none⟩) n n) (fun W h => by have p := h.c2; go_simp) HY1.toR ?_
  try simp only [Act.put, List.setIfInBounds_toArray, List.set_cons_zero, List.set_cons_succ]
  refine held_v 10 (some 22) rfl (by kernel_rfl) (by kernel_rfl) (by kernel_rfl) (by kernel_rfl) (fun c a v w h => HQ2.out c a _ v w h) (by kernel_rfl) (.int .i64 (ia : Int)) (fun W h => by kernel_rfl) HY1.toR ?_
  try simp only [Act.put, List.setIfInBounds_toArray, List.set_cons_zero, List.set_cons_succ]
  refine held_v 11 (some 23) rfl (by kernel_rfl) (by kernel_rfl) (by kernel_rfl) (by kernel_rfl) (fun c a v w h => HQ2.out c a _ v w h) (by kernel_rfl) (.pointer (some ⟨gH, ia, none⟩)) (fun W h => by go_simp) HY1.toR ?_
  try simp only [Act.put, List.setIfInBounds_toArray, List.set_cons_zero, List.set_cons_succ]
  refine held_v 12 (some 24) rfl (by kernel_rfl) (by kernel_rfl) (by kernel_rfl) (by kernel_rfl) (fun c a v w h => HQ2.out c a _ v w h) (by kernel_rfl) (.int .u64 x) (fun W h => by have p := h.atH (k := ia) (by rw [HHL.out]; exact HAN.out); rw [HXH.out] at p; go_simp) HY1.toR ?_
  try simp only [Act.put, List.setIfInBounds_toArray, List.set_cons_zero, List.set_cons_succ]
  refine held_v 13 (some 25) rfl (by kernel_rfl) (by kernel_rfl) (by kernel_rfl) (by kernel_rfl) (fun c a v w h => HQ2.out c a _ v w h) (by kernel_rfl) (.int .i64 (ib : Int)) (fun W h => by kernel_rfl) HY1.toR ?_
  try simp only [Act.put, List.setIfInBounds_toArray, List.set_cons_zero, List.set_cons_succ]
  refine held_v 14 (some 26) rfl (by kernel_rfl) (by kernel_rfl) (by kernel_rfl) (by kernel_rfl) (fun c a v w h => HQ2.out c a _ v w h) (by kernel_rfl) (.agg #[.int .u64 x, .int .i64 (ib : Int)]) (fun W h => by go_simp) HY1.toR ?_
  try simp only [Act.put, List.setIfInBounds_toArray, List.set_cons_zero, List.set_cons_succ]
  refine held_v 15 (some 27) rfl (by kernel_rfl) (by kernel_rfl) (by kernel_rfl) (by kernel_rfl) (fun c a v w h => HQ2.out c a _ v w h) (by kernel_rfl) (.pointer (some ⟨gC, ia * 2, none⟩)) (fun W h => by go_simp) HY1.toR ?_
  try simp only [Act.put, List.setIfInBounds_toArray, List.set_cons_zero, List.set_cons_succ]
  refine wpAnyH_ready (rs := [16]) (by kernel_rfl) (by decide) ?_
  refine AllReadyH.cons rfl (fun K hK => ?_) AllReadyH.nil
  refine step_store_mid none (by kernel_rfl) (by kernel_rfl) 138 (.tmp 27) (.tmp 26) rfl gC (ia * 2) (by kernel_rfl) 138 _ #[.int .u64 x, .int .i64 (ib : Int)] HY1.bC (by kernel_rfl) (by have := HTL.out; rw [cellsA_size, this]; have := HAN.out; simp; omega) (size_cellF _ _) (cell_onesF _ _) ?_
  intro w101 hkw101 how101
  have trw101 := HY1.putC hkw101.out how101
  refine hK.out _ _ trw101.toR (fun hw101 => ?_)
  clear hK K
  try simp only [Act.put, List.setIfInBounds_toArray, List.set_cons_zero, List.set_cons_succ]
  refine wpAnyH_done (by kernel_rfl) ?_ _
  refine HQ1.out _ _ ?_
  clear HQ1 HQ2
  have HY2 := (trw101).drew
  go_wp2
  refine wp_region_held_drew (S := (LayG g gH gC n T (.slice (some ⟨gS, 0, none⟩) p cS) (.slice (some ⟨gL, 0, none⟩) q cL))) (by kernel_rfl) HY2.toG (fun hH => ?_)
  refine wpAnyH_letter #[false, false, false, false, false, false, false, false, false, false, false, false, false, false, false, false, false, false, false, false, false, false, false] (by kernel_rfl) (fun _ _ d _ _ h => by cases d <;> exact h) (fun QL HQ1 HQ2 => ?_)
  refine held_v 0 (some 28) rfl (by kernel_rfl) (by kernel_rfl) (by kernel_rfl) (by kernel_rfl) (fun c a v w h => HQ2.out c a _ v w h) (by kernel_rfl) (.pointer (some ⟨g, 0, none⟩)) (fun W h => by kernel_rfl) HY2.toG ?_
  try simp only [Act.put, List.setIfInBounds_toArray, List.set_cons_zero, List.set_cons_succ]
  refine held_v 1 (some 29) rfl (by kernel_rfl) (by kernel_rfl) (by kernel_rfl) (by kernel_rfl) (fun c a v w h => HQ2.out c a _ v w h) (by kernel_rfl) (.pointer (some ⟨g, 0, none⟩)) (fun W h => by go_simp) HY2.toG ?_
  try simp only [Act.put, List.setIfInBounds_toArray, List.set_cons_zero, List.set_cons_succ]
  refine held_v 2 (some 30) rfl (by kernel_rfl) (by kernel_rfl) (by kernel_rfl) (by kernel_rfl) (fun c a v w h => HQ2.out c a _ v w h) (by kernel_rfl) (.pointer (some ⟨g, 2, none⟩)) (fun W h => by kernel_rfl) HY2.toG ?_
  try simp only [Act.put, List.setIfInBounds_toArray, List.set_cons_zero, List.set_cons_succ]
  refine held_v 3 (some 31) rfl (by kernel_rfl) (by kernel_rfl) (by kernel_rfl) (by kernel_rfl) (fun c a v w h => HQ2.out c a _ v w h) (by kernel_rfl) (.slice (some ⟨gH, 0, none⟩) n n) (fun W h => by have p := h.c2; go_simp) HY2.toG ?_
  try simp only [Act.put, List.setIfInBounds_toArray, List.set_cons_zero, List.set_cons_succ]
  refine held_v 4 (some 32) rfl (by kernel_rfl) (by kernel_rfl) (by kernel_rfl) (by kernel_rfl) (fun c a v w h => HQ2.out c a _ v w h) (by kernel_rfl) (.int .i64 (ib : Int)) (fun W h => by kernel_rfl) HY2.toG ?_
  try simp only [Act.put, List.setIfInBounds_toArray, List.set_cons_zero, List.set_cons_succ]
  refine held_v 5 (some 33) rfl (by kernel_rfl) (by kernel_rfl) (by kernel_rfl) (by kernel_rfl) (fun c a v w h => HQ2.out c a _ v w h) (by kernel_rfl) (.pointer (some ⟨gH, ib, none⟩)) (fun W h => by go_simp) HY2.toG ?_
  try simp only [Act.put, List.setIfInBounds_toArray, List.set_cons_zero, List.set_cons_succ]
  refine held_v 7 (some 35) rfl (by kernel_rfl) (by kernel_rfl) (by kernel_rfl) (by kernel_rfl) (fun c a v w h => HQ2.out c a _ v w h) (by kernel_rfl) (.pointer (some ⟨g, 0, none⟩)) (fun W h => by kernel_rfl) HY2.toG ?_
  try simp only [Act.put, List.setIfInBounds_toArray, List.set_cons_zero, List.set_cons_succ]
  refine held_v 8 (some 36) rfl (by kernel_rfl) (by kernel_rfl) (by kernel_rfl) (by kernel_rfl) (fun c a v w h => HQ2.out c a _ v w h) (by kernel_rfl) (.pointer (some ⟨g, 0, none⟩)) (fun W h => by go_simp) HY2.toG ?_
  try simp only [Act.put, List.setIfInBounds_toArray, List.set_cons_zero, List.set_cons_succ]
  refine held_v 9 (some 37) rfl (by kernel_rfl) (by kernel_rfl) (by kernel_rfl) (by kernel_rfl) (fun c a v w h => HQ2.out c a _ v w h) (by kernel_rfl) (.pointer (some ⟨g, 0, none⟩)) (fun W h => by kernel_rfl) HY2.toG ?_
  try simp only [Act.put, List.setIfInBounds_toArray, List.set_cons_zero, List.set_cons_succ]
  refine held_v 10 (some 38) rfl (by kernel_rfl) (by kernel_rfl) (by kernel_rfl) (by kernel_rfl) (fun c a v w h => HQ2.out c a _ v w h) (by kernel_rfl) (.pointer (some ⟨g, 0, none⟩)) (fun W h => by kernel_rfl) HY2.toG ?_
  try simp only [Act.put, List.setIfInBounds_toArray, List.set_cons_zero, List.set_cons_succ]
  refine held_v 11 (some 39) rfl (by kernel_rfl) (by kernel_rfl) (by kernel_rfl) (by kernel_rfl) (fun c a v w h => HQ2.out c a _ v w h) (by kernel_rfl) (.int .u64 T) (fun W h => by have p := h.c0; go_simp) HY2.toG ?_
  try simp only [Act.put, List.setIfInBounds_toArray, List.set_cons_zero, List.set_cons_succ]
  refine held_v 12 (some 40) rfl (by kernel_rfl) (by kernel_rfl) (by kernel_rfl) (by kernel_rfl) (fun c a v w h => HQ2.out c a _ v w h) (by kernel_rfl) (.pointer (some ⟨g, 0, none⟩)) (fun W h => by kernel_rfl) HY2.toG ?_
  try simp only [Act.put, List.setIfInBounds_toArray, List.set_cons_zero, List.set_cons_succ]
  refine held_v 13 (some 41) rfl (by kernel_rfl) (by kernel_rfl) (by kernel_rfl) (by kernel_rfl) (fun c a v w h => HQ2.out c a _ v w h) (by kernel_rfl) (.pointer (some ⟨g, 0, none⟩)) (fun W h => by go_simp) HY2.toG ?_
  try simp only [Act.put, List.setIfInBounds_toArray, List.set_cons_zero, List.set_cons_succ]
  refine held_v 14 (some 42) rfl (by kernel_rfl) (by kernel_rfl) (by kernel_rfl) (by kernel_rfl) (fun c a v w h => HQ2.out c a _ v w h) (by kernel_rfl) (.pointer (some ⟨g, 2, none⟩)) (fun W h => by kernel_rfl) HY2.toG ?_
  try simp only [Act.put, List.setIfInBounds_toArray, List.set_cons_zero, List.set_cons_succ]
  refine held_v 15 (some 43) rfl (by kernel_rfl) (by kernel_rfl) (by kernel_rfl) (by kernel_rfl) (fun c a v w h => HQ2.out c a _ v w h) (by kernel_rfl) (.slice (some ⟨gH, 0, none⟩) n n) (fun W h => by have p := h.c2; go_simp) HY2.toG ?_
  try simp only [Act.put, List.setIfInBounds_toArray, List.set_cons_zero, List.set_cons_succ]
  refine held_v 16 (some 44) rfl (by kernel_rfl) (by kernel_rfl) (by kernel_rfl) (by kernel_rfl) (fun c a v w h => HQ2.out c a _ v w h) (by kernel_rfl) (.int .i64 (ia : Int)) (fun W h => by kernel_rfl) HY2.toG ?_
  try simp only [Act.put, List.setIfInBounds_toArray, List.set_cons_zero, List.set_cons_succ]
  refine held_v 17 (some 45) rfl (by kernel_rfl) (by kernel_rfl) (by kernel_rfl) (by kernel_rfl) (fun c a v w h => HQ2.out c a _ v w h) (by kernel_rfl) (.pointer (some ⟨gH, ia, none⟩)) (fun W h => by go_simp) HY2.toG ?_
  try simp only [Act.put, List.setIfInBounds_toArray, List.set_cons_zero, List.set_cons_succ]
  refine wpAnyH_ready (rs := [6, 18]) (by kernel_rfl) (by decide) ?_
  refine AllReadyH.cons rfl (fun K hK => ?_) (AllReadyH.cons rfl (fun K hK => ?_) AllReadyH.nil)
  · refine step_v (some 34) (by kernel_rfl) (by kernel_rfl) (.int .u64 y) (by have p := (HY2).atH (k := ib) (by rw [HHL.out]; exact HBN.out); rw [HYH.out] at p; go_simp) ?_
    refine hK.out _ _ HY2.toG (fun _ => ?_)
    clear hK K
    try simp only [Act.put, List.setIfInBounds_toArray, List.set_cons_zero, List.set_cons_succ]
    refine wpAnyH_ready (rs := [18]) (by kernel_rfl) (by decide) ?_
    refine AllReadyH.cons rfl (fun K hK => ?_) AllReadyH.nil
    refine step_v (some 46) (by kernel_rfl) (by kernel_rfl) (.int .u64 x) (by have p := (HY2).atH (k := ia) (by rw [HHL.out]; exact HAN.out); rw [HXH.out] at p; go_simp) ?_
    refine hK.out _ _ HY2.toG (fun _ => ?_)
    clear hK K
    try simp only [Act.put, List.setIfInBounds_toArray, List.set_cons_zero, List.set_cons_succ]
    refine held_v 19 (some 47) rfl (by kernel_rfl) (by kernel_rfl) (by kernel_rfl) (by kernel_rfl) (fun c a v w h => HQ2.out c a _ v w h) (by kernel_rfl) (.int .u64 (T - x)) (fun W h => by have p := W1.out; go_simp) HY2.toG ?_
    try simp only [Act.put, List.setIfInBounds_toArray, List.set_cons_zero, List.set_cons_succ]
    refine held_v 20 (some 48) rfl (by kernel_rfl) (by kernel_rfl) (by kernel_rfl) (by kernel_rfl) (fun c a v w h => HQ2.out c a _ v w h) (by kernel_rfl) (.int .u64 z) (fun W h => by have p := W2.out; go_simp) HY2.toG ?_
    try simp only [Act.put, List.setIfInBounds_toArray, List.set_cons_zero, List.set_cons_succ]
    refine held_v 21 (some 49) rfl (by kernel_rfl) (by kernel_rfl) (by kernel_rfl) (by kernel_rfl) (fun c a v w h => HQ2.out c a _ v w h) (by kernel_rfl) (.pointer (some ⟨gH, ib, none⟩)) (fun W h => by go_simp) HY2.toG ?_
    try simp only [Act.put, List.setIfInBounds_toArray, List.set_cons_zero, List.set_cons_succ]
    refine wpAnyH_ready (rs := [22]) (by kernel_rfl) (by decide) ?_
    refine AllReadyH.cons rfl (fun K hK => ?_) AllReadyH.nil
    refine step_store_cell none (by kernel_rfl) (by kernel_rfl) 24 (.tmp 49) (.tmp 48) rfl gH ib (by kernel_rfl) 24 _ HY2.bH (.int .u64 z) (by kernel_rfl) (by have := HHL.out; rw [intsA_size, this]; exact HBN.out) size_u64F rfl rfl ?_
    intro w203 hkw203 how203
    have trw203 := HY2.putH hkw203.out how203
    refine hK.out _ _ trw203.toG (fun hw203 => ?_)
    clear hK K
    try simp only [Act.put, List.setIfInBounds_toArray, List.set_cons_zero, List.set_cons_succ]
    refine wpAnyH_done (by kernel_rfl) ?_ _
    refine HQ1.out _ _ ?_
    clear HQ1 HQ2
    have HY3 := Lib.hid trw203
    go_wp2_with (first
      | (go_at_call 91; (with_reducible refine (HSO.out _ _ _ HY3.out).mono ?_); rintro e w9 ⟨rfl, hfin⟩; have HF := Lib.hid hfin))
    go_end0
    exact ⟨rfl, HF.out⟩
  · refine step_v (some 46) (by kernel_rfl) (by kernel_rfl) (.int .u64 x) (by have p := (HY2).atH (k := ia) (by rw [HHL.out]; exact HAN.out); rw [HXH.out] at p; go_simp) ?_
    refine hK.out _ _ HY2.toG (fun _ => ?_)
    clear hK K
    try simp only [Act.put, List.setIfInBounds_toArray, List.set_cons_zero, List.set_cons_succ]
    refine held_v 19 (some 47) rfl (by kernel_rfl) (by kernel_rfl) (by kernel_rfl) (by kernel_rfl) (fun c a v w h => HQ2.out c a _ v w h) (by kernel_rfl) (.int .u64 (T - x)) (fun W h => by have p := W1.out; go_simp) HY2.toG ?_
    try simp only [Act.put, List.setIfInBounds_toArray, List.set_cons_zero, List.set_cons_succ]
    refine wpAnyH_ready (rs := [6]) (by kernel_rfl) (by decide) ?_
    refine AllReadyH.cons rfl (fun K hK => ?_) AllReadyH.nil
    refine step_v (some 34) (by kernel_rfl) (by kernel_rfl) (.int .u64 y) (by have p := (HY2).atH (k := ib) (by rw [HHL.out]; exact HBN.out); rw [HYH.out] at p; go_simp) ?_
    refine hK.out _ _ HY2.toG (fun _ => ?_)
    clear hK K
    try simp only [Act.put, List.setIfInBounds_toArray, List.set_cons_zero, List.set_cons_succ]
    refine held_v 20 (some 48) rfl (by kernel_rfl) (by kernel_rfl) (by kernel_rfl) (by kernel_rfl) (fun c a v w h => HQ2.out c a _ v w h) (by kernel_rfl) (.int .u64 z) (fun W h => by have p := W2.out; go_simp) HY2.toG ?_
    try simp only [Act.put, List.setIfInBounds_toArray, List.set_cons_zero, List.set_cons_succ]
    refine held_v 21 (some 49) rfl (by kernel_rfl) (by kernel_rfl) (by kernel_rfl) (by kernel_rfl) (fun c a v w h => HQ2.out c a _ v w h) (by kernel_rfl) (.pointer (some ⟨gH, ib, none⟩)) (fun W h => by go_simp) HY2.toG ?_
    try simp only [Act.put, List.setIfInBounds_toArray, List.set_cons_zero, List.set_cons_succ]
    refine wpAnyH_ready (rs := [22]) (by kernel_rfl) (by decide) ?_
    refine AllReadyH.cons rfl (fun K hK => ?_) AllReadyH.nil
    refine step_store_cell none (by kernel_rfl) (by kernel_rfl) 24 (.tmp 49) (.tmp 48) rfl gH ib (by kernel_rfl) 24 _ HY2.bH (.int .u64 z) (by kernel_rfl) (by have := HHL.out; rw [intsA_size, this]; exact HBN.out) size_u64F rfl rfl ?_
    intro w206 hkw206 how206
    have trw206 := HY2.putH hkw206.out how206
    refine hK.out _ _ trw206.toG (fun hw206 => ?_)
    clear hK K
    try simp only [Act.put, List.setIfInBounds_toArray, List.set_cons_zero, List.set_cons_succ]
    refine wpAnyH_done (by kernel_rfl) ?_ _
    refine HQ1.out _ _ ?_
    clear HQ1 HQ2
    have HY3 := Lib.hid trw206
    go_wp2_with (first
      | (go_at_call 91; (with_reducible refine (HSO.out _ _ _ HY3.out).mono ?_); rintro e w9 ⟨rfl, hfin⟩; have HF := Lib.hid hfin))
    go_end0
    exact ⟨rfl, HF.out⟩
end
section
open Go.ChangeShapes Go.WideShapes Go.ChangeAt Go.RowKit
theorem zero_tab : ∀ W, (zeroValue 54).run Tryz.prog W = .ok (.agg #[.int .u64 0, .slice none 0 0]) W := (zero_of_info (n := 2) (by kernel_rfl)).1
theorem size_tabB (u v : Value) : (Tryz.prog.info? 54).map (·.size) = some (#[u, v] : Array Value).size := by kernel_rfl
theorem tab_ones (T : Int) (A : Option Addr) (n c : Nat) : (#[.int .u64 T, .slice A n c] : Array Value).all (·.oneCell') = true := by simp [Value.oneCell']
theorem size2T (u v u' v' : Value) : (#[u, v] : Array Value).size = (#[u', v'] : Array Value).size := rfl
theorem info_u64t : (Tryz.prog.info? 24).map (fun i => (i.zero, i.size, i.bytes)) = some (some (.int .u64 0), 1, 8) := by kernel_rfl
theorem info_cell : (Tryz.prog.info? 138).map (fun i => (i.zero, i.size, i.bytes)) = some (some (.agg #[.int .u64 0, .int .i64 0]), 2, 16) := by kernel_rfl
theorem run_build_tab0 (w : World) : (Instr.build 54 #[]).run Tryz.prog w = .ok (.agg #[.int .u64 0, .slice none 0 0]) w := by go_simp
theorem build_tab0 {a : Act} {o : Oper} (w : World) (ho : o.op = .build 54 #[]) : (execOp a.eval o).run Tryz.prog w = .ok (.value (.agg #[.int .u64 0, .slice none 0 0])) w := by
  unfold execOp
  simp only [ho, List.map_toArray, List.map_nil]
  change ((Instr.build 54 #[]) >>= fun v => pure (Next.value v)).run Tryz.prog w = _
  simp only [Sem.run_bind, run_build_tab0, Result.andThen_ok, Sem.run_pure]
theorem run_make_u64 (n : Nat) (hn : n ≤ 100000) (w : World) : (Instr.makeSlice 22 (.int .i64 (n : Int)) (.int .i64 (n : Int))).run Tryz.prog w = .ok (.slice (some ⟨w.heap.size, 0, none⟩) n n) (w.alloc (.cells (intsA .u64 (List.replicate n 0)) 24)) := by
  obtain ⟨i, hi, hz, hs, hb⟩ := info_parts info_u64t
  have hr := run_make (P := Tryz.prog) w 22 24 i _ Tryz.underlying22 hi hz .i64 .i64 n n (by omega) (by omega) (by rw [hb]; omega) (by omega)
  simp only [Int.toNat_natCast, hs, Nat.mul_one] at hr
  rw [hr, show madeCells (Value.int .u64 0).cells n = intsA .u64 (List.replicate n 0) from ?_]
  have h1 := madeCells_same (.int .u64 0) 1 n (by omega)
  simpa [intsA, Value.cells] using h1
theorem made_cells (n : Nat) : madeCells #[Value.int .u64 0, Value.int .i64 0] (n * 2) = cellsA (List.replicate n (0, 0)) := by
  apply Array.ext_getElem?
  intro j
  by_cases hj : j < n * 2
  · have h0 : cellL (List.replicate n ((0 : Int), (0 : Int))) (j / 2) = (0, 0) := by have h7 : j / 2 < n := (by omega); simp [cellL, h7]
    have h := prC_get (List.replicate n ((0 : Int), (0 : Int))) (j / 2) (by rw [List.length_replicate]; omega)
    rw [h0] at h
    have hl : (madeCells #[Value.int .u64 0, Value.int .i64 0] (n * 2))[j]? = some (#[Value.int .u64 0, Value.int .i64 0][j % 2]!) := by
      unfold madeCells
      rw [Array.getElem?_map, Array.getElem?_range, if_pos hj]
      rfl
    rw [hl]
    rcases Nat.mod_two_eq_zero_or_one j with h2 | h2
    · rw [h2]
      have e : j / 2 * 2 = j := by omega
      rw [e] at h
      simpa [cellsA] using h.1.symm
    · rw [h2]
      have e : j / 2 * 2 + 1 = j := by omega
      rw [e] at h
      simpa [cellsA] using h.2.symm
  · rw [Array.getElem?_eq_none (by rw [size_madeCells]; omega), Array.getElem?_eq_none (by rw [cellsA_size, List.length_replicate]; omega)]
theorem run_make_cells (n : Nat) (hn : n ≤ 100000) (w : World) : (Instr.makeSlice 52 (.int .i64 (n : Int)) (.int .i64 (n : Int))).run Tryz.prog w = .ok (.slice (some ⟨w.heap.size, 0, none⟩) n n) (w.alloc (.cells (cellsA (List.replicate n (0, 0))) 138)) := by
  obtain ⟨i, hi, hz, hs, hb⟩ := info_parts info_cell
  have hr := run_make (P := Tryz.prog) w 52 138 i _ Tryz.underlying52 hi hz .i64 .i64 n n (by omega) (by omega) (by rw [hb]; omega) (by omega)
  simp only [Int.toNat_natCast, hs, Value.cells] at hr
  rw [hr, made_cells]
end
section
open Go.ChangeShapes Go.WideShapes Go.ChangeAt Go.RowKit
section
variable {P : Program} {w : World} {ops : Array Oper} {o : Oper} {a : Act} {Q : Exit → Act → World → Prop}
theorem step_makeH {K : Act → World → Prop} {E : Prop} (d : Option Tmp) (hd : o.dst = d) (hw : Region.wanted o (yielded ops a.tmps) = true) (n : Nat) (t : TypeId) (cs : Array Value)
    (hv : (execOp a.eval o).run P w = .ok (.value (.slice (some ⟨w.heap.size, 0, none⟩) n n)) (w.alloc (.cells cs t)))
    (h : ∀ g w', Blk w' g t cs → Below w.heap.size w w' → w.heap.size ≤ g → K (a.put d (.slice (some ⟨g, 0, none⟩) n n)) w') :
    if Region.wanted o (yielded ops a.tmps) = true then Oper.wp P o a w K Q else E := by
  subst hd
  rw [if_pos hw]
  unfold Oper.wp
  simp only [hv]
  exact h _ _ (Blk.new w t cs) ((Below.refl _ _).alloc (Nat.le_refl _) _) (Nat.le_refl _)
theorem step_boxH {K : Act → World → Prop} {E : Prop} (d : Option Tmp) (hd : o.dst = d) (hw : Region.wanted o (yielded ops a.tmps) = true) (ty : TypeId) (x : Operand) (ho : o.op = .box ty x) (cs : Array Value) (hx : a.eval x = .agg cs)
    (h : ∀ g w', Blk w' g ty cs → Below w.heap.size w w' → w.heap.size ≤ g → K (a.put d (.pointer (some ⟨g, 0, none⟩))) w') :
    if Region.wanted o (yielded ops a.tmps) = true then Oper.wp P o a w K Q else E := by
  subst hd
  rw [if_pos hw]
  unfold Oper.wp execOp
  simp only [ho, hx, Instr.box, newVar, newRow, Value.cells]
  exact h _ _ (Blk.new w ty cs) ((Below.refl _ _).alloc (Nat.le_refl _) _) (Nat.le_refl _)
end
theorem exec_cells {a : Act} {o : Oper} (n : Nat) (hn : n ≤ 100000) (w : World) (x : Operand) (ho : o.op = .makeSlice 52 x x) (hx : a.eval x = .int .i64 (n : Int)) : (execOp a.eval o).run Tryz.prog w = .ok (.value (.slice (some ⟨w.heap.size, 0, none⟩) n n)) (w.alloc (.cells (cellsA (List.replicate n (0, 0))) 138)) := by
  unfold execOp
  simp only [ho, hx]
  change ((Instr.makeSlice 52 (.int .i64 (n : Int)) (.int .i64 (n : Int))) >>= fun v => pure (Next.value v)).run Tryz.prog w = _
  simp only [Sem.run_bind, run_make_cells n hn, Result.andThen_ok, Sem.run_pure]
theorem exec_u64 {a : Act} {o : Oper} (n : Nat) (hn : n ≤ 100000) (w : World) (x : Operand) (ho : o.op = .makeSlice 22 x x) (hx : a.eval x = .int .i64 (n : Int)) : (execOp a.eval o).run Tryz.prog w = .ok (.value (.slice (some ⟨w.heap.size, 0, none⟩) n n)) (w.alloc (.cells (intsA .u64 (List.replicate n 0)) 24)) := by
  unfold execOp
  simp only [ho, hx]
  change ((Instr.makeSlice 22 (.int .i64 (n : Int)) (.int .i64 (n : Int))) >>= fun v => pure (Next.value v)).run Tryz.prog w = _
  simp only [Sem.run_bind, run_make_u64 n hn, Result.andThen_ok, Sem.run_pure]
theorem LayS.start {w0 w1 w2 w3 : World} {g gH gC n : Nat} {T : Int} {vs : List Int} {ts : List (Int × Int)} (kH : Blk w3 gH 24 (intsA .u64 vs)) (kC : Blk w3 gC 138 (cellsA ts)) (kY : Blk w3 g 105 #[.int .u64 T, .slice (some ⟨gC, 0, none⟩) n n, .slice (some ⟨gH, 0, none⟩) n n, .slice none 0 0, .slice none 0 0]) (hb : Below w0.heap.size w0 w3) (lY : w0.heap.size ≤ g) (lH : w0.heap.size ≤ gH) (lC : w0.heap.size ≤ gC) : LayS w0 g gH gC n T vs ts (.slice none 0 0) (.slice none 0 0) [] [] w3 :=
  ⟨kY, kH, kC, own_nil _ _ _, own_nil _ _ _, fun g e => (by simp [Value.ownBlock] at e), hb, lY, lH, lC⟩
def layM (g : Nat) (w : World) : Nat := lenV ((w.cell? ⟨g, 3, none⟩).getD undef) + lenV ((w.cell? ⟨g, 4, none⟩).getD undef)
theorem LayS.meas {w0 w : World} {g gH gC n : Nat} {T : Int} {hs sm lg : List Int} {ts : List (Int × Int)} {vS vL : Value} (h : LayS w0 g gH gC n T hs ts vS vL sm lg w) : layM g w = sm.length + lg.length := by
  unfold layM
  rw [h.c3, h.c4]
  show lenV vS + lenV vL = _
  rw [h.oS.lenV, h.oL.lenV]
set_option maxHeartbeats 8000000 in
theorem q14lay_c (l : List Int) (T : Int) (T0 : 0 ≤ T) (T1 : T < 9223372036854775808) (A : Option Addr) (n c : Nat) (hn : n ≤ 1000) (hz : ∀ k, k < n → 0 ≤ l.getD k 0 ∧ l.getD k 0 < 18446744073709551616 ∧ 0 ≤ (n : Int) * l.getD k 0 ∧ (n : Int) * l.getD k 0 < 9223372036854775808) (w : World) (hrd : Rd .u64 w w.heap.size A n l) :
    Calls Tryz.prog 59 #[.int .u64 T, .slice A n c] w fun e w' => ∃ (g gH gC : Nat) (vS vL : Value), e = .returned (.pointer (some ⟨g, 0, none⟩)) ∧ LayS w g gH gC n T (abInit T l).has (abInit T l).ts vS vL (abInit T l).sm (abInit T l).lg w' := by
  have HR := Lib.hid hrd
  have hlen := hrd.len
  have HZ := Lib.hid hz
  have HNEXT : Hid (∀ g gH gC k, k < n → ∀ vS vL W, LayS w g gH gC n T ((fillT (hasL l) 0 k).set k ((n : Int) * l.getD k 0)) ((fillT (cellsL T n) (0, 0) k).set k (T, (k : Int))) vS vL (smL T (hasL l) k) (lgL T (hasL l) k) W → Calls Tryz.prog 91 #[.pointer (some ⟨g, 0, none⟩), .int .i64 (k : Int)] W fun e w' => e = .returned (.tuple #[]) ∧ ∃ vS' vL', LayS w g gH gC n T (fillT (hasL l) 0 (k + 1)) (fillT (cellsL T n) (0, 0) (k + 1)) vS' vL' (smL T (hasL l) (k + 1)) (lgL T (hasL l) (k + 1)) w') := Lib.hid (fun g gH gC k hk vS vL W h => by
    have q1 : (fillT (hasL l) 0 k).set k ((n : Int) * l.getD k 0) = fillT (hasL l) 0 (k + 1) := by
      have := fill_next (hasL l) 0 k (by rw [hasL_len]; omega)
      rw [← this]
      congr 1
      have h9 := hasL_at (l := l) (i := k) (by omega)
      rw [hlen] at h9
      rw [← h9, List.getD_eq_getElem?_getD, List.getElem?_eq_getElem (by rw [hasL_len]; omega)]
      rfl
    have q2 : (fillT (cellsL T n) (0, 0) k).set k (T, (k : Int)) = fillT (cellsL T n) (0, 0) (k + 1) := by
      have := fill_next (cellsL T n) (0, 0) k (by rw [cells_len]; omega)
      rw [← this]
      congr 1
      simp [cellsL]
    have h9 := hasL_at (l := l) (i := k) (by omega)
    rw [hlen] at h9
    have hll : (fillT (hasL l) 0 k).length = n := by rw [fill_len _ _ _ (by rw [hasL_len]; omega), hasL_len, hlen]
    have hg : ((fillT (hasL l) 0 k).set k ((n : Int) * l.getD k 0)).getD k 0 = (n : Int) * l.getD k 0 := by rw [getD_setT (by omega), if_pos rfl]
    have hx := hz k hk
    have hsl := sl_len T (hasL l) k
    have h2 := q14sort_c k hk hn (by rw [List.length_set]; exact hll) (by rw [hg]; exact hx.2.2.1) (by rw [hg]; have := hx.2.2.2; omega) T0 (by omega) (by omega) (by omega) W h
    rw [hg, q1, q2] at h2
    rw [smL_succ, lgL_succ, h9]
    exact h2)
  have HFIN : Hid (∀ g gH gC vS vL W, LayS w g gH gC n T (fillT (hasL l) 0 n) (fillT (cellsL T n) (0, 0) n) vS vL (smL T (hasL l) n) (lgL T (hasL l) n) W → ∃ (g' gH' gC' : Nat) (vS' vL' : Value), Ending.returned (.pointer (some ⟨g, 0, none⟩)) = .returned (.pointer (some ⟨g', 0, none⟩)) ∧ LayS w g' gH' gC' n T (abInit T l).has (abInit T l).ts vS' vL' (abInit T l).sm (abInit T l).lg W) := Lib.hid (fun g gH gC vS vL W h => by
    have h1 := fill_all (hasL l) 0
    have h2 := fill_all (cellsL T n) (0, 0)
    rw [hasL_len, hlen] at h1
    rw [cells_len] at h2
    rw [h1, h2] at h
    refine ⟨g, gH, gC, vS, vL, rfl, ?_⟩
    unfold abInit
    rw [hlen]
    exact h)
  have HN5 := Lib.hid (show n ≤ 100000 by omega)
  have HB0 : Below w.heap.size w w.drew := (Below.refl _ _).drew
  have i2 : (n : Int) ≤ 1000 := by omega
  have i3 : (0 : Int) ≤ (n : Int) := by omega
  clear hz hrd
  go_enter Tryz.func59, Tryz.ntmps59
  go_wp2
  refine wp_region_held_drew (S := (fun _ => True)) (by kernel_rfl) trivial (fun hH => ?_)
  refine wpAnyH_letter #[false, false, false, false, false, false, false, false, false] (by kernel_rfl) (fun _ _ d _ _ h => by cases d <;> exact h) (fun QL HQ1 HQ2 => ?_)
  refine held_v 0 (some 11) rfl (by kernel_rfl) (by kernel_rfl) (by kernel_rfl) (by kernel_rfl) (fun c a v w h => HQ2.out c a _ v w h) (by kernel_rfl) (.int .u64 T) (fun W h => by kernel_rfl) trivial ?_
  try simp only [Act.put, List.setIfInBounds_toArray, List.set_cons_zero, List.set_cons_succ]
  refine held_v 1 (some 12) rfl (by kernel_rfl) (by kernel_rfl) (by kernel_rfl) (by kernel_rfl) (fun c a v w h => HQ2.out c a _ v w h) (by kernel_rfl) (.int .i64 (n : Int)) (fun W h => by kernel_rfl) trivial ?_
  try simp only [Act.put, List.setIfInBounds_toArray, List.set_cons_zero, List.set_cons_succ]
  refine held_v 4 (some 15) rfl (by kernel_rfl) (by kernel_rfl) (by kernel_rfl) (by kernel_rfl) (fun c a v w h => HQ2.out c a _ v w h) (by kernel_rfl) (.int .i64 (n : Int)) (fun W h => by kernel_rfl) trivial ?_
  try simp only [Act.put, List.setIfInBounds_toArray, List.set_cons_zero, List.set_cons_succ]
  refine wpAnyH_ready (rs := [2, 5]) (by kernel_rfl) (by decide) ?_
  refine AllReadyH.cons rfl (fun K hK => ?_) (AllReadyH.cons rfl (fun K hK => ?_) AllReadyH.nil)
  · refine step_makeH (some 13) (by kernel_rfl) (by kernel_rfl) n 138 (cellsA (List.replicate n (0, 0))) (exec_cells n HN5.out _ (.tmp 12) (by kernel_rfl) (by kernel_rfl)) ?_
    intro gw41 w41 kw41 bw41 lw41
    have e42 := (HB0).trans (bw41.mono (HB0).size)
    have llw41 := Nat.le_trans (HB0).size lw41
    refine hK.out _ _ trivial (fun _ => ?_)
    clear hK K
    try simp only [Act.put, List.setIfInBounds_toArray, List.set_cons_zero, List.set_cons_succ]
    refine held_v 3 (some 14) rfl (by kernel_rfl) (by kernel_rfl) (by kernel_rfl) (by kernel_rfl) (fun c a v w h => HQ2.out c a _ v w h) (by kernel_rfl) (.agg #[.int .u64 T, .slice (some ⟨gw41, 0, none⟩) n n]) (fun W h => by go_simp) trivial ?_
    try simp only [Act.put, List.setIfInBounds_toArray, List.set_cons_zero, List.set_cons_succ]
    refine wpAnyH_ready (rs := [5]) (by kernel_rfl) (by decide) ?_
    refine AllReadyH.cons rfl (fun K hK => ?_) AllReadyH.nil
    refine step_makeH (some 16) (by kernel_rfl) (by kernel_rfl) n 24 (intsA .u64 (List.replicate n 0)) (exec_u64 n HN5.out _ (.tmp 15) (by kernel_rfl) (by kernel_rfl)) ?_
    intro gw43 w43 kw43 bw43 lw43
    have e44 := (e42).trans (bw43.mono (e42).size)
    have e45 := (kw41).below bw43 (kw41).lt
    have e46 := llw41
    have llw43 := Nat.le_trans (e42).size lw43
    refine hK.out _ _ trivial (fun _ => ?_)
    clear hK K
    try simp only [Act.put, List.setIfInBounds_toArray, List.set_cons_zero, List.set_cons_succ]
    refine held_v 6 (some 17) rfl (by kernel_rfl) (by kernel_rfl) (by kernel_rfl) (by kernel_rfl) (fun c a v w h => HQ2.out c a _ v w h) (by kernel_rfl) (.agg #[.int .u64 T, .slice (some ⟨gw41, 0, none⟩) n n, .slice (some ⟨gw43, 0, none⟩) n n, .slice none 0 0, .slice none 0 0]) (fun W h => by go_simp) trivial ?_
    try simp only [Act.put, List.setIfInBounds_toArray, List.set_cons_zero, List.set_cons_succ]
    refine wpAnyH_ready (rs := [7]) (by kernel_rfl) (by decide) ?_
    refine AllReadyH.cons rfl (fun K hK => ?_) AllReadyH.nil
    refine step_boxH (some 18) (by kernel_rfl) (by kernel_rfl) 105 (.tmp 17) (by kernel_rfl) #[.int .u64 T, .slice (some ⟨gw41, 0, none⟩) n n, .slice (some ⟨gw43, 0, none⟩) n n, .slice none 0 0, .slice none 0 0] (by kernel_rfl) ?_
    intro gw47 w47 kw47 bw47 lw47
    have e48 := (e44).trans (bw47.mono (e44).size)
    have e49 := (e45).below bw47 (e45).lt
    have e50 := e46
    have e51 := (kw43).below bw47 (kw43).lt
    have e52 := llw43
    have llw47 := Nat.le_trans (e44).size lw47
    refine hK.out _ _ trivial (fun _ => ?_)
    clear hK K
    try simp only [Act.put, List.setIfInBounds_toArray, List.set_cons_zero, List.set_cons_succ]
    refine held_v 8 (some 6) rfl (by kernel_rfl) (by kernel_rfl) (by kernel_rfl) (by kernel_rfl) (fun c a v w h => HQ2.out c a _ v w h) (by kernel_rfl) (.pointer (some ⟨gw47, 0, none⟩)) (fun W h => by kernel_rfl) trivial ?_
    try simp only [Act.put, List.setIfInBounds_toArray, List.set_cons_zero, List.set_cons_succ]
    refine wpAnyH_done (by kernel_rfl) ?_ _
    refine HQ1.out _ _ ?_
    clear HQ1 HQ2
    have HST : Hid (LayS w gw47 gw43 gw41 n T (fillT (hasL l) 0 0) (fillT (cellsL T n) (0, 0) 0) (.slice none 0 0) (.slice none 0 0) (smL T (hasL l) 0) (lgL T (hasL l) 0) _) := Lib.hid (by
      rw [fill_zero, fill_zero, hasL_len, cells_len, hlen]
      exact LayS.start (w1 := w) (w2 := w) e51 e49 kw47 e48 llw47 e52 e50)
    have HNX0 := Lib.hid (fun k hk => HNEXT.out gw47 gw43 gw41 k hk)
    have HEND := Lib.hid (fun vS vL W h => HFIN.out gw47 gw43 gw41 vS vL W h)
    clear HNEXT HFIN
    clear e48 e49 e51 kw47
    go_wp2
    go_loopw [21] (fun iv wr => ∃ (k : Nat) (vS vL : Value), k ≤ n ∧ iv = .int .i64 (k : Int) ∧ LayS w gw47 gw43 gw41 n T (fillT (hasL l) 0 k) (fillT (cellsL T n) (0, 0) k) vS vL (smL T (hasL l) k) (lgL T (hasL l) k) wr) (fun iv _ => n - (intOf iv).toNat)
    case atStart => exact ⟨0, _, _, by omega, rfl, HST.out⟩
    case round =>
      obtain ⟨k, vS, vL, hk, rfl, hB⟩ := hrel
      have B1 := Lib.hid hB
      by_cases hlt : k < n
      · obtain ⟨b, off, rfl, _, hcc⟩ := (hB.rd HR.out).at_ (by omega)
        have hck := hcc k hlt
        have hx := HZ.out k hlt
        have HTL : Hid ((fillT (cellsL T n) (0, 0) k).length = n) := Lib.hid (by rw [fill_len _ _ _ (by rw [cells_len]; omega), cells_len])
        have HHL : Hid ((fillT (hasL l) 0 k).length = n) := Lib.hid (by rw [fill_len _ _ _ (by rw [hasL_len]; omega), hasL_len, hlen])
        have HNX := Lib.hid (HNX0.out k hlt)
        obtain ⟨x, hxx⟩ : ∃ x, l.getD k 0 = x := ⟨_, rfl⟩
        rw [hxx] at hck hx HNX
        obtain ⟨p, hp⟩ : ∃ p, (n : Int) * x = p := ⟨_, rfl⟩
        rw [hp] at hx HNX
        obtain ⟨x0, x1, p0, p1⟩ := hx
        obtain ⟨H, hH⟩ : ∃ p, fillT (hasL l) 0 k = p := ⟨_, rfl⟩
        obtain ⟨C, hC⟩ : ∃ p, fillT (cellsL T n) (0, 0) k = p := ⟨_, rfl⟩
        rw [hH] at B1 HHL HNX
        rw [hC] at B1 HTL HNX
        have i0 : (0 : Int) ≤ (k : Int) := by omega
        have i1 : (k : Int) < (n : Int) := by omega
        have hw : IntKind.u64.wrap ((n : Int) * x) = p := by rw [hp, IntKind.wrap_u64]; omega
        have d1 := B1.out.c1
        clear hcc hB hxx hp hH hC HST HEND HNX0
        go_wp2_with (first
          | (with_reducible refine at_any ?_; refine at_store 35 rfl ?_; refine wpList_store_mid rfl 138 (.tmp 35) (.tmp 34) rfl gw41 (k * 2) rfl 138 (cellsA C) #[.int .u64 T, .int .i64 (k : Int)] B1.out.bC rfl (by have := HTL.out; rw [cellsA_size, this]; simp; omega) (size_cellF _ _) (cell_onesF _ _) ?_; intro w2 hk2 ho2; have B2 := Lib.hid (B1.out.putC hk2.out ho2); have d2 := B2.out.c2; clear hk2 ho2)
          | (with_reducible refine at_any ?_; refine at_store 45 rfl ?_; refine wpList_store_cell rfl 24 (.tmp 45) (.tmp 44) rfl gw43 k rfl 24 (intsA .u64 H) B2.out.bH (.int .u64 p) rfl (by have := HHL.out; rw [intsA_size, this]; exact hlt) size_u64F rfl rfl ?_; intro w3 hk3 ho3; have B3 := Lib.hid (B2.out.putH hk3.out ho3); clear hk3 ho3)
          | (go_at_call 91; (with_reducible refine (HNX.out _ _ _ B3.out).mono ?_); rintro e w4 ⟨rfl, hfin⟩; have HF := Lib.hid hfin; clear hfin))
        go_roundw
        case rel =>
          obtain ⟨v1, v2, hF⟩ := HF.out
          exact ⟨k + 1, v1, v2, by omega, by go_num, hF⟩
        case measure => simp [intOf]; omega
      · obtain rfl : k = n := by omega
        go_wp2
        go_ret
        exact HEND.out _ _ _ B1.out
  · refine step_makeH (some 16) (by kernel_rfl) (by kernel_rfl) n 24 (intsA .u64 (List.replicate n 0)) (exec_u64 n HN5.out _ (.tmp 15) (by kernel_rfl) (by kernel_rfl)) ?_
    intro gw53 w53 kw53 bw53 lw53
    have e54 := (HB0).trans (bw53.mono (HB0).size)
    have llw53 := Nat.le_trans (HB0).size lw53
    refine hK.out _ _ trivial (fun _ => ?_)
    clear hK K
    try simp only [Act.put, List.setIfInBounds_toArray, List.set_cons_zero, List.set_cons_succ]
    refine wpAnyH_ready (rs := [2]) (by kernel_rfl) (by decide) ?_
    refine AllReadyH.cons rfl (fun K hK => ?_) AllReadyH.nil
    refine step_makeH (some 13) (by kernel_rfl) (by kernel_rfl) n 138 (cellsA (List.replicate n (0, 0))) (exec_cells n HN5.out _ (.tmp 12) (by kernel_rfl) (by kernel_rfl)) ?_
    intro gw55 w55 kw55 bw55 lw55
    have e56 := (e54).trans (bw55.mono (e54).size)
    have e57 := (kw53).below bw55 (kw53).lt
    have e58 := llw53
    have llw55 := Nat.le_trans (e54).size lw55
    refine hK.out _ _ trivial (fun _ => ?_)
    clear hK K
    try simp only [Act.put, List.setIfInBounds_toArray, List.set_cons_zero, List.set_cons_succ]
    refine held_v 3 (some 14) rfl (by kernel_rfl) (by kernel_rfl) (by kernel_rfl) (by kernel_rfl) (fun c a v w h => HQ2.out c a _ v w h) (by kernel_rfl) (.agg #[.int .u64 T, .slice (some ⟨gw55, 0, none⟩) n n]) (fun W h => by go_simp) trivial ?_
    try simp only [Act.put, List.setIfInBounds_toArray, List.set_cons_zero, List.set_cons_succ]
    refine held_v 6 (some 17) rfl (by kernel_rfl) (by kernel_rfl) (by kernel_rfl) (by kernel_rfl) (fun c a v w h => HQ2.out c a _ v w h) (by kernel_rfl) (.agg #[.int .u64 T, .slice (some ⟨gw55, 0, none⟩) n n, .slice (some ⟨gw53, 0, none⟩) n n, .slice none 0 0, .slice none 0 0]) (fun W h => by go_simp) trivial ?_
    try simp only [Act.put, List.setIfInBounds_toArray, List.set_cons_zero, List.set_cons_succ]
    refine wpAnyH_ready (rs := [7]) (by kernel_rfl) (by decide) ?_
    refine AllReadyH.cons rfl (fun K hK => ?_) AllReadyH.nil
    refine step_boxH (some 18) (by kernel_rfl) (by kernel_rfl) 105 (.tmp 17) (by kernel_rfl) #[.int .u64 T, .slice (some ⟨gw55, 0, none⟩) n n, .slice (some ⟨gw53, 0, none⟩) n n, .slice none 0 0, .slice none 0 0] (by kernel_rfl) ?_
    intro gw59 w59 kw59 bw59 lw59
    have e60 := (e56).trans (bw59.mono (e56).size)
    have e61 := (e57).below bw59 (e57).lt
    have e62 := e58
    have e63 := (kw55).below bw59 (kw55).lt
    have e64 := llw55
    have llw59 := Nat.le_trans (e56).size lw59
    refine hK.out _ _ trivial (fun _ => ?_)
    clear hK K
    try simp only [Act.put, List.setIfInBounds_toArray, List.set_cons_zero, List.set_cons_succ]
    refine held_v 8 (some 6) rfl (by kernel_rfl) (by kernel_rfl) (by kernel_rfl) (by kernel_rfl) (fun c a v w h => HQ2.out c a _ v w h) (by kernel_rfl) (.pointer (some ⟨gw59, 0, none⟩)) (fun W h => by kernel_rfl) trivial ?_
    try simp only [Act.put, List.setIfInBounds_toArray, List.set_cons_zero, List.set_cons_succ]
    refine wpAnyH_done (by kernel_rfl) ?_ _
    refine HQ1.out _ _ ?_
    clear HQ1 HQ2
    have HST : Hid (LayS w gw59 gw53 gw55 n T (fillT (hasL l) 0 0) (fillT (cellsL T n) (0, 0) 0) (.slice none 0 0) (.slice none 0 0) (smL T (hasL l) 0) (lgL T (hasL l) 0) _) := Lib.hid (by
      rw [fill_zero, fill_zero, hasL_len, cells_len, hlen]
      exact LayS.start (w1 := w) (w2 := w) e61 e63 kw59 e60 llw59 e62 e64)
    have HNX0 := Lib.hid (fun k hk => HNEXT.out gw59 gw53 gw55 k hk)
    have HEND := Lib.hid (fun vS vL W h => HFIN.out gw59 gw53 gw55 vS vL W h)
    clear HNEXT HFIN
    clear e60 e61 e63 kw59
    go_wp2
    go_loopw [21] (fun iv wr => ∃ (k : Nat) (vS vL : Value), k ≤ n ∧ iv = .int .i64 (k : Int) ∧ LayS w gw59 gw53 gw55 n T (fillT (hasL l) 0 k) (fillT (cellsL T n) (0, 0) k) vS vL (smL T (hasL l) k) (lgL T (hasL l) k) wr) (fun iv _ => n - (intOf iv).toNat)
    case atStart => exact ⟨0, _, _, by omega, rfl, HST.out⟩
    case round =>
      obtain ⟨k, vS, vL, hk, rfl, hB⟩ := hrel
      have B1 := Lib.hid hB
      by_cases hlt : k < n
      · obtain ⟨b, off, rfl, _, hcc⟩ := (hB.rd HR.out).at_ (by omega)
        have hck := hcc k hlt
        have hx := HZ.out k hlt
        have HTL : Hid ((fillT (cellsL T n) (0, 0) k).length = n) := Lib.hid (by rw [fill_len _ _ _ (by rw [cells_len]; omega), cells_len])
        have HHL : Hid ((fillT (hasL l) 0 k).length = n) := Lib.hid (by rw [fill_len _ _ _ (by rw [hasL_len]; omega), hasL_len, hlen])
        have HNX := Lib.hid (HNX0.out k hlt)
        obtain ⟨x, hxx⟩ : ∃ x, l.getD k 0 = x := ⟨_, rfl⟩
        rw [hxx] at hck hx HNX
        obtain ⟨p, hp⟩ : ∃ p, (n : Int) * x = p := ⟨_, rfl⟩
        rw [hp] at hx HNX
        obtain ⟨x0, x1, p0, p1⟩ := hx
        obtain ⟨H, hH⟩ : ∃ p, fillT (hasL l) 0 k = p := ⟨_, rfl⟩
        obtain ⟨C, hC⟩ : ∃ p, fillT (cellsL T n) (0, 0) k = p := ⟨_, rfl⟩
        rw [hH] at B1 HHL HNX
        rw [hC] at B1 HTL HNX
        have i0 : (0 : Int) ≤ (k : Int) := by omega
        have i1 : (k : Int) < (n : Int) := by omega
        have hw : IntKind.u64.wrap ((n : Int) * x) = p := by rw [hp, IntKind.wrap_u64]; omega
        have d1 := B1.out.c1
        clear hcc hB hxx hp hH hC HST HEND HNX0
        go_wp2_with (first
          | (with_reducible refine at_any ?_; refine at_store 35 rfl ?_; refine wpList_store_mid rfl 138 (.tmp 35) (.tmp 34) rfl gw55 (k * 2) rfl 138 (cellsA C) #[.int .u64 T, .int .i64 (k : Int)] B1.out.bC rfl (by have := HTL.out; rw [cellsA_size, this]; simp; omega) (size_cellF _ _) (cell_onesF _ _) ?_; intro w2 hk2 ho2; have B2 := Lib.hid (B1.out.putC hk2.out ho2); have d2 := B2.out.c2; clear hk2 ho2)
          | (with_reducible refine at_any ?_; refine at_store 45 rfl ?_; refine wpList_store_cell rfl 24 (.tmp 45) (.tmp 44) rfl gw53 k rfl 24 (intsA .u64 H) B2.out.bH (.int .u64 p) rfl (by have := HHL.out; rw [intsA_size, this]; exact hlt) size_u64F rfl rfl ?_; intro w3 hk3 ho3; have B3 := Lib.hid (B2.out.putH hk3.out ho3); clear hk3 ho3)
          | (go_at_call 91; (with_reducible refine (HNX.out _ _ _ B3.out).mono ?_); rintro e w4 ⟨rfl, hfin⟩; have HF := Lib.hid hfin; clear hfin))
        go_roundw
        case rel =>
          obtain ⟨v1, v2, hF⟩ := HF.out
          exact ⟨k + 1, v1, v2, by omega, by go_num, hF⟩
        case measure => simp [intOf]; omega
      · obtain rfl : k = n := by omega
        go_wp2
        go_ret
        exact HEND.out _ _ _ B1.out
end
section
open Go.ChangeShapes Go.WideShapes Go.ChangeAt Go.RowKit
theorem range_two {w : World} {b : Nat} {u v : Value} (h : w.cell? ⟨b, 0, none⟩ = some u) (h2 : w.cell? ⟨b, 1, none⟩ = some v) : w.rangeAt b 0 [u, v] := by
  intro j z hz
  match j, hz with
  | 0, hz => injection hz with hz; subst hz; exact h
  | 1, hz => injection hz with hz; subst hz; exact h2
  | j + 2, hz => simp at hz
theorem size_tabH (u v : Value) : (Tryz.prog.info? 54).map (·.size) = some [u, v].length := by kernel_rfl
set_option maxHeartbeats 8000000 in
theorem q14build_c (l : List Int) (hz : ∀ z ∈ l, 0 ≤ z ∧ z < 18446744073709551616) (A : Option Addr) (n c : Nat) (hn : n ≤ 1000) (w : World) (hrd : Rd .u64 w w.heap.size A n l) : Calls Tryz.prog 21 #[.slice A n c] w (RetTab w (tbT l) (tbC l).length (tbC l) (tbE l)) := by
  have HR := Lib.hid hrd
  have hlen := hrd.len
  have HTO := Lib.hid (fun W h => q9total_c l hz A n c (by simp only [maxLen]; omega) W h)
  have HEMP : Hid (∀ er w', tbE l = er → er ≠ 0 → Below w.heap.size w w' → RetTab w (tbT l) (tbC l).length (tbC l) (tbE l) (.returned (.tuple #[.agg #[.int .u64 0, .slice none 0 0], .int .i64 er])) w') := Lib.hid (fun er w' h h0 hb => by
    obtain ⟨e1, e2⟩ := tb_no (l := l) (by rw [h]; exact h0)
    rw [e1, e2, h]
    exact ⟨none, 0, rfl, RdPr.nil _ _ _ _ _, Nat.le_refl _, by simp [maxLen], hb⟩)
  have hz' : ∀ z ∈ l, 0 ≤ z := fun z h => (hz z h).1
  have hs0 := sumL_nn hz'
  by_cases h1 : sumL l < 9223372036854775808
  case neg =>
    obtain ⟨e1, e2⟩ := sumV_no h1
    have n0 : l.length ≠ 0 := fun h => h1 (by rw [List.eq_nil_of_length_eq_zero h]; decide)
    have HE := Lib.hid (tbE_big n0 h1)
    rw [e1, e2] at HTO
    clear hrd hz hlen hz' hs0 h1 e1 e2 n0
    go_enter Tryz.func21, Tryz.ntmps21
    go_wp2_with (first
      | (with_reducible refine at_any ?_; refine at_dst 2 rfl ?_; refine wpList_alloc_any rfl 54 rfl #[.int .u64 0, .slice none 0 0] zero_tab ?_; intro w1 hk1 hs1 hb1; have HB1 := Lib.hid hb1; have HK1 := Lib.hid hk1.out)
      | (go_at_call 48; (with_reducible refine (HTO.out _ ((HR.out.below HB1.out).mono HB1.out.size)).mono ?_); rintro e _ ⟨rfl, rfl⟩)
      | (with_reducible refine at_any ?_; refine at_dst 16 rfl ?_; refine wpList_val rfl (.agg #[.int .u64 0, .slice none 0 0]) (build_tab0 _ rfl) ?_)
      | (with_reducible refine at_any ?_; refine at_store 2 rfl ?_; refine wpList_store_any rfl 54 (.tmp 2) (.tmp 16) rfl w.heap.size rfl 54 #[.int .u64 0, .slice none 0 0] #[.int .u64 0, .slice none 0 0] hk1.out rfl (size2T _ _ _ _) (size_tabB _ _) (tab_ones _ _ _ _) ?_; intro w9 hk9 hs9 hb9 ho9; have HB9 := Lib.hid (HB1.out.trans (hb9 _ (Nat.le_refl _))))
      | (refine bodyPost_any2 2 3 54 rfl w.heap.size rfl (.int .i64 11) rfl 54 #[.int .u64 0, .slice none 0 0] hk9.out _ Tryz.underlying54 rfl (size_tabB _ _) rfl ?_))
    exact HEMP.out 11 _ HE.out (by decide) HB9.out
  obtain ⟨e1, e2⟩ := sumV_ok h1
  rw [e1, e2] at HTO
  by_cases h2 : sumL l = 0
  · have HE : Hid (tbE l = 10) := Lib.hid (by
      by_cases h : l.length = 0
      · rw [List.eq_nil_of_length_eq_zero h]; rfl
      · exact tbE_zero h h1 h2)
    rw [h2] at HTO
    clear hrd hz hlen hz' hs0 h1 e1 e2 h2
    go_enter Tryz.func21, Tryz.ntmps21
    go_wp2_with (first
      | (with_reducible refine at_any ?_; refine at_dst 2 rfl ?_; refine wpList_alloc_any rfl 54 rfl #[.int .u64 0, .slice none 0 0] zero_tab ?_; intro w1 hk1 hs1 hb1; have HB1 := Lib.hid hb1; have HK1 := Lib.hid hk1.out)
      | (go_at_call 48; (with_reducible refine (HTO.out _ ((HR.out.below HB1.out).mono HB1.out.size)).mono ?_); rintro e _ ⟨rfl, rfl⟩)
      | (with_reducible refine at_any ?_; refine at_dst 19 rfl ?_; refine wpList_val rfl (.agg #[.int .u64 0, .slice none 0 0]) (build_tab0 _ rfl) ?_)
      | (with_reducible refine at_any ?_; refine at_store 2 rfl ?_; refine wpList_store_any rfl 54 (.tmp 2) (.tmp 19) rfl w.heap.size rfl 54 #[.int .u64 0, .slice none 0 0] #[.int .u64 0, .slice none 0 0] hk1.out rfl (size2T _ _ _ _) (size_tabB _ _) (tab_ones _ _ _ _) ?_; intro w9 hk9 hs9 hb9 ho9; have HB9 := Lib.hid (HB1.out.trans (hb9 _ (Nat.le_refl _))))
      | (refine bodyPost_any2 2 3 54 rfl w.heap.size rfl (.int .i64 10) rfl 54 #[.int .u64 0, .slice none 0 0] hk9.out _ Tryz.underlying54 rfl (size_tabB _ _) rfl ?_))
    exact HEMP.out 10 _ HE.out (by decide) HB9.out
  have n0 : 0 < n := by
    rcases Nat.eq_zero_or_pos n with h | h
    · exact absurd (by rw [List.eq_nil_of_length_eq_zero (hlen.trans h)]; rfl) h2
    · exact h
  have HM := Lib.hid (fun W => q9mul_c (n : Int) (sumL l) (by omega) (by omega) hs0 (by omega) W)
  have tT : (sumL l == 0) = false := by rw [beq_eq_false_iff_ne]; exact h2
  have i2 : (n : Int) ≤ 1000 := by omega
  by_cases h3 : (n : Int) * sumL l < 9223372036854775808
  case neg =>
    obtain ⟨e3, e4⟩ := mulV_no h3
    rw [e3, e4] at HM
    have HE := Lib.hid (tbE_mul (by omega) h1 h2 (by rw [hlen]; exact h3))
    obtain ⟨T, hT⟩ : ∃ T, sumL l = T := ⟨_, rfl⟩
    rw [hT] at HTO HM hs0 h1 tT
    clear hrd hz hlen hz' e1 e2 e3 e4 h2 h3 hT
    go_enter Tryz.func21, Tryz.ntmps21
    go_wp2_with (first
      | (with_reducible refine at_any ?_; refine at_dst 2 rfl ?_; refine wpList_alloc_any rfl 54 rfl #[.int .u64 0, .slice none 0 0] zero_tab ?_; intro w1 hk1 hs1 hb1; have HB1 := Lib.hid hb1; have HK1 := Lib.hid hk1.out)
      | (go_at_call 48; (with_reducible refine (HTO.out _ ((HR.out.below HB1.out).mono HB1.out.size)).mono ?_); rintro e _ ⟨rfl, rfl⟩)
      | (go_at_call 58; (with_reducible refine (HM.out _).mono ?_); rintro e _ ⟨rfl, rfl⟩)
      | (with_reducible refine at_any ?_; refine at_dst 30 rfl ?_; refine wpList_val rfl (.agg #[.int .u64 0, .slice none 0 0]) (build_tab0 _ rfl) ?_)
      | (with_reducible refine at_any ?_; refine at_store 2 rfl ?_; refine wpList_store_any rfl 54 (.tmp 2) (.tmp 30) rfl w.heap.size rfl 54 #[.int .u64 0, .slice none 0 0] #[.int .u64 0, .slice none 0 0] hk1.out rfl (size2T _ _ _ _) (size_tabB _ _) (tab_ones _ _ _ _) ?_; intro w9 hk9 hs9 hb9 ho9; have HB9 := Lib.hid (HB1.out.trans (hb9 _ (Nat.le_refl _))))
      | (refine bodyPost_any2 2 3 54 rfl w.heap.size rfl (.int .i64 11) rfl 54 #[.int .u64 0, .slice none 0 0] hk9.out _ Tryz.underlying54 rfl (size_tabB _ _) rfl ?_))
    exact HEMP.out 11 _ HE.out (by decide) HB9.out
  · obtain ⟨e3, e4⟩ := mulV_ok h3
    rw [e3, e4] at HM
    have HOK := tbE_ok (l := l) (by omega) h1 h2 (by rw [hlen]; exact h3)
    obtain ⟨E1, EI, E2, EF⟩ := tb_abi hz' HOK
    have hI := ABI.init hz' (by omega) (by rw [hlen]; exact h3)
    have hZZ : ∀ k, k < n → 0 ≤ l.getD k 0 ∧ l.getD k 0 < 18446744073709551616 ∧ 0 ≤ (n : Int) * l.getD k 0 ∧ (n : Int) * l.getD k 0 < 9223372036854775808 := fun k hk => by
      have g1 := getD_le hz' (i := k) (by omega)
      have g2 := mul_le_of (n := (n : Int)) (by omega) g1.2
      have g3 := Int.mul_nonneg (show (0 : Int) ≤ (n : Int) by omega) g1.1
      exact ⟨g1.1, by omega, g3, by omega⟩
    obtain ⟨T, hT⟩ : ∃ T, sumL l = T := ⟨_, rfl⟩
    rw [hT] at HTO HM hs0 h1 tT h2 EI E1 E2 EF h3 hI
    have HLY := Lib.hid (fun W h => q14lay_c l T hs0 h1 A n c hn hZZ W h)
    have HPA := Lib.hid (fun (w0 : World) (g gH gC : Nat) (s : AB) hI h1' h2' vS vL W h => q14pair_c (w0 := w0) (g := g) (gH := gH) (gC := gC) l s hI hlen hn hs0 h1 h1' h2' vS vL W h)
    have HE2 := Lib.hid E2
    have HE1 := Lib.hid E1
    have HII := Lib.hid hI
    have HOK2 := Lib.hid HOK
    have i3 : (0 : Int) < (n : Int) := by omega
    obtain ⟨m, hm⟩ : ∃ m, (n : Int) * T = m := ⟨_, rfl⟩
    rw [hm] at HM h3
    clear hrd hz hz' e1 e2 e3 e4 hT EI E1 E2 EF hI HOK HEMP hZZ hm
    go_enter Tryz.func21, Tryz.ntmps21
    go_wp2_with (first
      | (with_reducible refine at_any ?_; refine at_dst 2 rfl ?_; refine wpList_alloc_any rfl 54 rfl #[.int .u64 0, .slice none 0 0] zero_tab ?_; intro w1 hk1 hs1 hb1; have HB1 := Lib.hid hb1; have HK1 := Lib.hid hk1.out)
      | (go_at_call 48; (with_reducible refine (HTO.out _ ((HR.out.below HB1.out).mono HB1.out.size)).mono ?_); rintro e _ ⟨rfl, rfl⟩)
      | (go_at_call 58; (with_reducible refine (HM.out _).mono ?_); rintro e _ ⟨rfl, rfl⟩)
      | (go_at_call 59; (with_reducible refine (HLY.out _ ((HR.out.below HB1.out).mono HB1.out.size)).mono ?_); rintro e w2 ⟨g, gH, gC, vS, vL, rfl, hB⟩; have HB2 := Lib.hid hB; clear hB))
    obtain ⟨g2, hg2⟩ : ∃ g, w.heap.size = g := ⟨_, rfl⟩
    have hg2le : w.heap.size ≤ g2 := Nat.le_of_eq hg2
    rw [hg2] at HK1 ⊢
    clear hk1 hs1 hb1 hg2
    go_loopw [] (fun wr => ∃ (f : Nat) (s : AB) (vS vL : Value), abRun T f s = abRun T l.length (abInit T l) ∧ s.sm.length + s.lg.length ≤ f ∧ ABI T l s ∧ LayS w1 g gH gC n T s.has s.ts vS vL s.sm s.lg wr) (fun wr => layM g wr)
    case atStart => exact ⟨l.length, abInit T l, _, _, rfl, Nat.le_of_eq (sl_len T (hasL l) l.length), HII.out, HB2.out⟩
    case round =>
      obtain ⟨f, s, vS, vL, hrun, hf, hI, hB⟩ := hrel
      have hme := hB.meas
      by_cases hgo : s.sm.length ≠ 0 ∧ s.lg.length ≠ 0
      · have hIN := hI.step hgo.1 hgo.2
        have hln := abStep_len (T := T) hgo.1 hgo.2
        obtain ⟨f', rfl⟩ : ∃ f', f = f' + 1 := ⟨f - 1, by omega⟩
        rw [abRun_go hgo.1 hgo.2] at hrun
        have HRUN := Lib.hid hrun
        have HIN := Lib.hid hIN
        have HLN2 : Hid ((abStep T s).sm.length + (abStep T s).lg.length ≤ f') := Lib.hid (by omega)
        have HME : Hid (∀ W vS vL, LayS w1 g gH gC n T (abStep T s).has (abStep T s).ts vS vL (abStep T s).sm (abStep T s).lg W → layM g W < layM g wr) := Lib.hid (fun W vS vL h => by rw [h.meas, hme]; omega)
        have HPR := Lib.hid (HPA.out w1 g gH gC s hI hgo.1 hgo.2 vS vL _ hB)
        obtain ⟨A1, d1, rfl, -, -⟩ := hB.oS.form
        obtain ⟨A2, d2, rfl, -, -⟩ := hB.oL.form
        have c3 := hB.c3
        have c4 := hB.c4
        have hnd := hI.nd_len
        obtain ⟨p, hp⟩ : ∃ p, s.sm.length = p := ⟨_, rfl⟩
        obtain ⟨q, hq⟩ : ∃ p, s.lg.length = p := ⟨_, rfl⟩
        rw [hp] at c3 hgo hnd
        rw [hq] at c4 hgo hnd
        have j0 : (0 : Int) < (p : Int) := by omega
        have j1 : (0 : Int) < (q : Int) := by omega
        have j2 : (p : Int) ≤ 1000 := by omega
        have j3 : (q : Int) ≤ 1000 := by omega
        clear hrun hIN hf hI hB hgo hln hme hp hq hnd
        go_wp2_with (first
          | (go_at_call 60; (with_reducible refine HPR.out.mono ?_); rintro e w4 ⟨rfl, hfin⟩; have HF := Lib.hid hfin; clear hfin))
        go_roundw
        case rel =>
          obtain ⟨v1, v2, hF⟩ := HF.out
          exact ⟨f', abStep T s, v1, v2, HRUN.out, HLN2.out, HIN.out, hF⟩
        case measure =>
          obtain ⟨v1, v2, hF⟩ := HF.out
          exact HME.out _ v1 v2 hF
      · have hfin : s = abRun T l.length (abInit T l) := by rw [← hrun, abRun_stop (by omega)]
        have hts : tbC l = s.ts := by rw [HE2.out, ← hfin]
        have hTL : s.ts.length = n := by rw [hI.tn, hlen]
        obtain ⟨A1, d1, rfl, -, -⟩ := hB.oS.form
        obtain ⟨A2, d2, rfl, -, -⟩ := hB.oL.form
        have B7 := Lib.hid hB
        have c3 := hB.c3
        have c4 := hB.c4
        have HEND : Hid (∀ w', Blk w' gC 138 (cellsA s.ts) → Below w.heap.size w w' → RetTab w (tbT l) (tbC l).length (tbC l) (tbE l) (.returned (.tuple #[.agg #[.int .u64 T, .slice (some ⟨gC, 0, none⟩) n n], .int .i64 0])) w') := Lib.hid (fun w' h1 h2 => by
          rw [HE1.out, hts, HOK2.out, hTL]
          have h3 := RdPr.of_blk h1
          rw [hTL] at h3
          exact ⟨some ⟨gC, 0, none⟩, n, rfl, h3, Nat.le_refl _, by simp only [maxLen]; omega, h2⟩)
        have HG2 := Lib.hid (HK1.out.below hB.bel HK1.out.lt)
        have HG2L := Lib.hid hg2le
        have HBW := Lib.hid (HB1.out.trans (hB.bel.mono HB1.out.size))
        have HRG := Lib.hid (range_two hB.c0 hB.c1)
        obtain ⟨P, hP⟩ : ∃ P, s.sm.length = P := ⟨_, rfl⟩
        obtain ⟨Q, hQ⟩ : ∃ P, s.lg.length = P := ⟨_, rfl⟩
        rw [hP] at c3 hgo
        rw [hQ] at c4 hgo
        have hPQ : P = 0 ∨ Q = 0 := by omega
        have hPQ2 := hI.nd_len
        rw [hP, hQ] at hPQ2
        have j0 : (P : Int) ≤ 1000 := by omega
        have j1 : (Q : Int) ≤ 1000 := by omega
        clear hfin hts hTL hrun hf hI hB hP hQ hgo hPQ2 hme
        by_cases hP0 : P = 0
        · subst hP0
          clear hPQ
          go_wp2_with (first
            | (with_reducible refine at_any ?_; refine at_dst 53 rfl ?_; refine wpList_load_any rfl 54 (.tmp 52) rfl g 0 rfl [.int .u64 T, .slice (some ⟨gC, 0, none⟩) n n] HRG.out _ Tryz.underlying54 rfl (size_tabH _ _) ?_)
            | (with_reducible refine at_any ?_; refine at_store 2 rfl ?_; refine wpList_store_any rfl 54 (.tmp 2) (.tmp 53) rfl g2 rfl 54 #[.int .u64 0, .slice none 0 0] #[.int .u64 T, .slice (some ⟨gC, 0, none⟩) n n] HG2.out rfl (size2T _ _ _ _) (size_tabB _ _) (tab_ones _ _ _ _) ?_; intro w9 hk9 hs9 hb9 ho9; have HB9 := Lib.hid (HBW.out.trans (hb9 _ HG2L.out)); have HC9 := Lib.hid (B7.out.bC.other ho9 (B7.out.bC.ne HG2.out (by decide))))
            | (refine bodyPost_any2 2 3 54 rfl g2 rfl (.int .i64 0) rfl 54 #[.int .u64 T, .slice (some ⟨gC, 0, none⟩) n n] hk9.out _ Tryz.underlying54 rfl (size_tabB _ _) rfl ?_))
          exact HEND.out _ HC9.out HB9.out
        · have hQ0 : Q = 0 := by omega
          subst hQ0
          have j2 : (0 : Int) < (P : Int) := by omega
          clear hPQ hP0
          go_wp2_with (first
            | (with_reducible refine at_any ?_; refine at_dst 53 rfl ?_; refine wpList_load_any rfl 54 (.tmp 52) rfl g 0 rfl [.int .u64 T, .slice (some ⟨gC, 0, none⟩) n n] HRG.out _ Tryz.underlying54 rfl (size_tabH _ _) ?_)
            | (with_reducible refine at_any ?_; refine at_store 2 rfl ?_; refine wpList_store_any rfl 54 (.tmp 2) (.tmp 53) rfl g2 rfl 54 #[.int .u64 0, .slice none 0 0] #[.int .u64 T, .slice (some ⟨gC, 0, none⟩) n n] HG2.out rfl (size2T _ _ _ _) (size_tabB _ _) (tab_ones _ _ _ _) ?_; intro w9 hk9 hs9 hb9 ho9; have HB9 := Lib.hid (HBW.out.trans (hb9 _ HG2L.out)); have HC9 := Lib.hid (B7.out.bC.other ho9 (B7.out.bC.ne HG2.out (by decide))))
            | (refine bodyPost_any2 2 3 54 rfl g2 rfl (.int .i64 0) rfl 54 #[.int .u64 T, .slice (some ⟨gC, 0, none⟩) n n] hk9.out _ Tryz.underlying54 rfl (size_tabB _ _) rfl ?_))
          exact HEND.out _ HC9.out HB9.out
end
section
open Go.ChangeShapes Go.WideShapes Go.ChangeAt Go.RowKit
section
variable (T : Int) (T0 : 0 ≤ T) (T1 : T < 18446744073709551616) (ts : List (Int × Int)) (hts : PrOk ts) (A : Option Addr) (n c : Nat) (hn : n ≤ 1000) (hc : n ≤ c) (hcm : c ≤ maxLen) (w : World) (hrd : RdPr .u64 .i64 w w.heap.size A n ts)
include T0 T1 hts hn hc hcm hrd
theorem q14size_c : Calls Tryz.prog 61 #[.agg #[.int .u64 T, .slice A n c]] w fun e w' => e = .returned (.int .u64 (tabZ T ts)) ∧ Below w.heap.size w w' := q14sizeB_c T T0 T1 ts hts A n c hn w hrd
theorem q14owner_c (u : Int) (u0 : 0 ≤ u) (u1 : u < 18446744073709551616) : Calls Tryz.prog 27 #[.agg #[.int .u64 T, .slice A n c], .int .u64 u] w fun e w' => e = .returned (.tuple #[.int .i64 (owV T ts u), .int .i64 (owE T ts u)]) ∧ Below w.heap.size w w' := q14ownerB_c T T0 T1 ts hts A n c hn w hrd u u0 u1
end
end
end Go.Proofs.YtkhlkggdibaefaaGreatDoor
