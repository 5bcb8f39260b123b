/-
  A bit is that of the byte in which it stands, from the highest one on; of up to 2000.
  Conditions: the program's table of constants reads, when the call begins, as its text lays it (the card ties that).
-/
import Derived.Test.YtdnjnbeoioicfaaDoorLawI
import Derived.ShutString
import Derived.Test.YtdnjnbeoioicfaaDoorCompK
import Derived.Test.YtdnjnbeoioicfaaDoorTie
import Derived.Test.YtdnjnbeoioicfaaDoorCards
import Derived.SevenTiedAt
import Derived.ChangeOld
namespace Go.Proofs.YtdnjnbeoioicfaaDoor.streamBits
open Go.ChangeShapes Go.WideShapes Go.ChangeAt Go.RowKit
set_option linter.unusedVariables false
set_option linter.unusedSimpArgs false

theorem own : ownKnob Tryd.prog.godebug = none := by kernel_rfl
theorem laidOut : laidOutB Tryd.prog = true := by kernel_rfl

theorem right_div (x : Int) (q : Nat) (h : q ≤ 7) : Wd.right x (q : Int) = x / 2 ^ q := by
  unfold Wd.right
  rcases Nat.eq_zero_or_pos q with h0 | h0
  · subst h0
    simp
  · rw [if_neg (by omega), if_neg (by omega), Int.toNat_natCast]
set_option maxHeartbeats 4000000 in
theorem of_walk (s : List Int) (d n : Int) (hl : s.length = 32) (hs : ∀ z ∈ s, 0 ≤ z ∧ z < 256) (d0 : 0 ≤ d) (d1 : d < 18446744073709551616) (n0 : 0 ≤ n) (n1 : n < 65536) (w : World) (hkst : Kst w) :
    Calls Tryd.prog 6 #[.agg (intsA .u8 s), .int .u64 d, .int .u16 n] w fun e w' => e = .returned (.bool true) ∧ Below w.heap.size w w' := by
  obtain ⟨K, hK⟩ : ∃ K : Nat, n % 2000 = (K : Int) := ⟨(n % 2000).toNat, by omega⟩
  have hK2 : K < 2000 := by omega
  obtain ⟨J, hJ⟩ : ∃ J : Nat, K / 8 = J := ⟨_, rfl⟩
  have hJ2 : (K : Int) / 8 = (J : Int) := by omega
  obtain ⟨r, hr⟩ : ∃ r : Nat, K % 8 = r := ⟨_, rfl⟩
  obtain ⟨q, hq⟩ : ∃ q : Nat, 7 - r = q := ⟨_, rfl⟩
  have hq7 : q ≤ 7 := by omega
  obtain ⟨M, hM⟩ : ∃ M : Nat, J + 1 = M := ⟨_, rfl⟩
  have hM2 : (J : Int) + 1 = (M : Int) := by omega
  have hMs : M ≤ 4096 := by omega
  have hMn : ((M : Int) != (M : Int)) = false := by simp
  have q0 : (0 : Int) ≤ (J : Int) ∧ (J : Int) < (M : Int) := by omega
  have HBY := Lib.hid (fun W k => qbytes_c s d M hl hs d0 d1 (by omega) W k)
  have hbt := fun W k => qbit_c s d (K : Int) hl hs d0 d1 (by omega) (by omega) W k
  have hxx := bytL_at s d M J (by omega)
  have hin := bytN_in s d ((J / 32 : Nat) : Int) (J % 32)
  have hb : bitN s d (K : Int) = bytN s d ((J / 32 : Nat) : Int) (J % 32) / 2 ^ q % 2 := by
    unfold bitN
    rw [show (K : Int) / 256 = ((J / 32 : Nat) : Int) by omega, show ((K : Int) % 256 / 8).toNat = J % 32 by omega, show (7 - (K : Int) % 8).toNat = q by omega]
  have hbi := bitN_in s d (K : Int)
  obtain ⟨x, hx⟩ : ∃ x, bytN s d ((J / 32 : Nat) : Int) (J % 32) = x := ⟨_, rfl⟩
  obtain ⟨z, hz⟩ : ∃ z, bitN s d (K : Int) = z := ⟨_, rfl⟩
  obtain ⟨B, hB⟩ : ∃ B, bytL s d M = B := ⟨_, rfl⟩
  rw [hx] at hxx hin hb
  rw [hz] at hbt hb hbi
  rw [hB] at HBY hxx
  have hrt := fun W => (rright_c x (q : Int) (by omega) (by omega) (by omega) (by omega) W).mono fun e w' (h : _ ∧ _) => And.intro h.1 h.2.symm
  rw [right_div x q hq7] at hrt
  have p0 := Wd.pow_pos2 q
  have y0 : 0 ≤ x / 2 ^ q := Int.ediv_nonneg hin.1 (by omega)
  have y1 : x / 2 ^ q < 256 := by have := Int.ediv_le_self (2 ^ q) hin.1; omega
  obtain ⟨y, hy⟩ : ∃ y, x / 2 ^ q = y := ⟨_, rfl⟩
  rw [hy] at hrt y0 y1 hb
  have HRT := Lib.hid hrt
  have HBT := Lib.hid hbt
  have HXX := Lib.hid hxx
  have HR1 := Lib.hid (show (K : Int).tmod 8 = (r : Int) by rw [Int.tmod_eq_emod_of_nonneg (by omega)]; omega)
  have HR2 := Lib.hid (show (K : Int) % 8 = (r : Int) by omega)
  have HR3 := Lib.hid (show IntKind.u64.wrap (r : Int) = r by rw [IntKind.wrap_u64]; omega)
  have HR4 := Lib.hid (show IntKind.i64.wrap (r : Int) = r by rw [IntKind.wrap_i64]; omega)
  have HV1 := Lib.hid (show (7 : Int) - (r : Int) = (q : Int) by omega)
  have HV2 := Lib.hid (show IntKind.i64.wrap (q : Int) = q by rw [IntKind.wrap_i64]; omega)
  have HZ1 := Lib.hid (show y.tmod 2 = z by rw [Int.tmod_eq_emod_of_nonneg y0]; omega)
  have HZ2 := Lib.hid (show y % 2 = z by omega)
  have HZ3 := Lib.hid (show IntKind.u32.wrap z = z by rw [IntKind.wrap_u32]; omega)
  have HZ4 := Lib.hid (show IntKind.u64.wrap z = z by rw [IntKind.wrap_u64]; omega)
  obtain ⟨x0, x1⟩ := hin
  have SSA := Lib.hid (show (Tryd.prog.info? 23).map (·.size) = some (intsA .u8 s).size by rw [intsA_size, hl]; exact size_hash)
  have SS := Lib.hid (show (Tryd.prog.info? 23).map (·.size) = some s.length by rw [hl]; exact size_hash)
  have HKS := Lib.hid hkst
  clear hbt hxx hb hbi hx hz hB hrt p0 y0 y1 hy hl hs hkst hJ hr hq hM hq7
  go_enter Tryd.func6, Tryd.ntmps6
  go_wp2_with (first
    | (with_reducible refine at_any ?_; refine at_dst 3 rfl ?_; refine wpList_box_ints rfl 23 (.tmp 0) rfl .u8 s rfl ?_; intro w1 hk1 hs1 hb1; have F1 := Lib.hid (Fx.box hk1.out hb1); clear hk1 hs1 hb1)
    | (go_at_call 7; (with_reducible refine (alive6_c _ (HKS.out.below (Fx.bel2 F1.out))).mono ?_); rintro e w2 ⟨rfl, hb2⟩; have F2 := Lib.hid (F1.out.below hb2); clear F1 hb2)
    | (with_reducible refine at_any ?_; refine at_dst 15 rfl ?_; refine wpList_load_ints rfl 23 (.tmp 3) rfl w.heap.size rfl 23 .u8 s (Fx.fst F2.out) _ Tryd.underlying23 rfl SS.out ?_)
    | (go_at_call 12; (with_reducible refine (HBY.out _ (HKS.out.below (Fx.bel2 F2.out))).mono ?_); rintro e w3 ⟨A3, c3, rfl, hc3, hm3, hrd3, hb3⟩; have F3 := Lib.hid (F2.out.below hb3); clear F2 hb3; obtain ⟨b0, off, rfl, hb0, hcell⟩ := hrd3.2 (by omega); have cj := hcell J (by omega); rw [HXX.out] at cj; clear hcell hrd3))
  obtain ⟨g3, hg3⟩ : ∃ g, w.heap.size = g := ⟨_, rfl⟩
  rw [hg3] at F3
  rw [hg3]
  clear hg3
  refine wp_region_held_drew (S := (Fx [.blk g3 23 (intsA .u8 s), .bel w])) (by kernel_rfl) (F3.out.drew) (fun hH => ?_)
  refine wpAnyH_letter #[false, false, false, false, false, false, false, false, false, false, false, false, false, false] (by kernel_rfl) (fun _ _ d _ _ h => by cases d <;> exact h) (fun QL HQ1 HQ2 => ?_)
  refine held_v 0 (some 35) rfl (by kernel_rfl) (by kernel_rfl) (by kernel_rfl) (by kernel_rfl) (fun c a v w h => HQ2.out c a _ v w h) (by kernel_rfl) (.int .u32 x) (fun W h => by kernel_rfl) hH ?_
  try simp only [Act.put, List.setIfInBounds_toArray, List.set_cons_zero, List.set_cons_succ]
  refine held_v 1 (some 36) rfl (by kernel_rfl) (by kernel_rfl) (by kernel_rfl) (by kernel_rfl) (fun c a v w h => HQ2.out c a _ v w h) (by kernel_rfl) (.int .u64 (K : Int)) (fun W h => by kernel_rfl) hH ?_
  try simp only [Act.put, List.setIfInBounds_toArray, List.set_cons_zero, List.set_cons_succ]
  refine held_v 2 (some 37) rfl (by kernel_rfl) (by kernel_rfl) (by kernel_rfl) (by kernel_rfl) (fun c a v w h => HQ2.out c a _ v w h) (by kernel_rfl) (.int .u64 (r : Int)) (fun W h => by have p := HR1.out; have p2 := HR2.out; have p3 := HR3.out; go_simp) hH ?_
  try simp only [Act.put, List.setIfInBounds_toArray, List.set_cons_zero, List.set_cons_succ]
  refine held_v 3 (some 38) rfl (by kernel_rfl) (by kernel_rfl) (by kernel_rfl) (by kernel_rfl) (fun c a v w h => HQ2.out c a _ v w h) (by kernel_rfl) (.int .i64 (r : Int)) (fun W h => by have p := HR4.out; go_simp) hH ?_
  try simp only [Act.put, List.setIfInBounds_toArray, List.set_cons_zero, List.set_cons_succ]
  refine held_v 4 (some 39) rfl (by kernel_rfl) (by kernel_rfl) (by kernel_rfl) (by kernel_rfl) (fun c a v w h => HQ2.out c a _ v w h) (by kernel_rfl) (.int .i64 (q : Int)) (fun W h => by have p := HV1.out; have p2 := HV2.out; go_simp) hH ?_
  try simp only [Act.put, List.setIfInBounds_toArray, List.set_cons_zero, List.set_cons_succ]
  refine held_row 8 (some 43) rfl (by kernel_rfl) (by kernel_rfl) (by kernel_rfl) (by kernel_rfl) (fun c a v w h => HQ2.out c a _ v w h) (by kernel_rfl) 23 (.tmp 3) rfl g3 (by kernel_rfl) 23 (intsA .u8 s) (fun _ h => h.1) _ Tryd.underlying23 rfl SSA.out hH ?_
  try simp only [Act.put, List.setIfInBounds_toArray, List.set_cons_zero, List.set_cons_succ]
  refine held_v 9 (some 44) rfl (by kernel_rfl) (by kernel_rfl) (by kernel_rfl) (by kernel_rfl) (fun c a v w h => HQ2.out c a _ v w h) (by kernel_rfl) (.int .u64 d) (fun W h => by kernel_rfl) hH ?_
  try simp only [Act.put, List.setIfInBounds_toArray, List.set_cons_zero, List.set_cons_succ]
  refine held_v 10 (some 45) rfl (by kernel_rfl) (by kernel_rfl) (by kernel_rfl) (by kernel_rfl) (fun c a v w h => HQ2.out c a _ v w h) (by kernel_rfl) (.int .u64 (K : Int)) (fun W h => by kernel_rfl) hH ?_
  try simp only [Act.put, List.setIfInBounds_toArray, List.set_cons_zero, List.set_cons_succ]
  refine wpAnyH_ready (rs := [5]) (by kernel_rfl) (by decide) ?_
  refine AllReadyH.cons rfl (fun K hK => ?_) AllReadyH.nil
  refine step_call (some 40) (by kernel_rfl) (by kernel_rfl) _ _ (by kernel_rfl) _ (HRT.out _) ?_
  rintro e _ ⟨rfl, rfl⟩
  refine ⟨_, rfl, ?_⟩
  refine hK.out _ _ hH (fun _ => ?_)
  clear hK K
  try simp only [Act.put, List.setIfInBounds_toArray, List.set_cons_zero, List.set_cons_succ]
  refine held_v 6 (some 41) rfl (by kernel_rfl) (by kernel_rfl) (by kernel_rfl) (by kernel_rfl) (fun c a v w h => HQ2.out c a _ v w h) (by kernel_rfl) (.int .u32 z) (fun W h => by have p := HZ1.out; have p2 := HZ2.out; have p3 := HZ3.out; go_simp) hH ?_
  try simp only [Act.put, List.setIfInBounds_toArray, List.set_cons_zero, List.set_cons_succ]
  refine held_v 7 (some 42) rfl (by kernel_rfl) (by kernel_rfl) (by kernel_rfl) (by kernel_rfl) (fun c a v w h => HQ2.out c a _ v w h) (by kernel_rfl) (.int .u64 z) (fun W h => by have p := HZ4.out; go_simp) hH ?_
  try simp only [Act.put, List.setIfInBounds_toArray, List.set_cons_zero, List.set_cons_succ]
  refine wpAnyH_ready (rs := [11]) (by kernel_rfl) (by decide) ?_
  refine AllReadyH.cons rfl (fun K hK => ?_) AllReadyH.nil
  refine step_call (some 46) (by kernel_rfl) (by kernel_rfl) _ _ (by kernel_rfl) _ (HBT.out _ (HKS.out.below hH.2.1)) ?_
  rintro e w42 ⟨rfl, hbw42⟩
  refine ⟨_, rfl, ?_⟩
  refine hK.out _ _ (hH.below hbw42) (fun hw42 => ?_)
  clear hK K
  try simp only [Act.put, List.setIfInBounds_toArray, List.set_cons_zero, List.set_cons_succ]
  refine held_v 12 (some 47) rfl (by kernel_rfl) (by kernel_rfl) (by kernel_rfl) (by kernel_rfl) (fun c a v w h => HQ2.out c a _ v w h) (by kernel_rfl) (.bool true) (fun W h => by go_simp) hw42 ?_
  try simp only [Act.put, List.setIfInBounds_toArray, List.set_cons_zero, List.set_cons_succ]
  refine held_v 13 (some 6) rfl (by kernel_rfl) (by kernel_rfl) (by kernel_rfl) (by kernel_rfl) (fun c a v w h => HQ2.out c a _ v w h) (by kernel_rfl) (.bool true) (fun W h => by kernel_rfl) hw42 ?_
  try simp only [Act.put, List.setIfInBounds_toArray, List.set_cons_zero, List.set_cons_succ]
  refine wpAnyH_done (by kernel_rfl) ?_ _
  refine HQ1.out _ _ ?_
  clear HQ1 HQ2
  go_wp2
  go_ret
  exact ⟨rfl, hw42.2.1⟩
theorem walk (a0 : List Int) (a1 a2 : Int) (w : World) (l0 : a0.length = 32) (w0 : ∀ z ∈ a0, (Lit.int .u8 z).wf = true) (w1 : (Lit.int .u64 a1).wf = true) (w2 : (Lit.int .u16 a2).wf = true) (hkst : Kst w) :
    Calls Tryd.prog 6 #[.agg (intsA .u8 a0), .int .u64 a1, .int .u16 a2] w fun e w' => e = .returned (.bool true) ∧ Below w.heap.size w w' := by
  have h1 := bounds_u64 w1
  have h2 := bounds_u16 w2
  exact of_walk a0 a1 a2 l0 (u8b w0) (by omega) (by omega) (by omega) (by omega) w hkst


set_option maxRecDepth 100000 in
theorem lifted (os : Os) (started : os.Started) (H : Type) (enc : TypeId × Value → H) :
    ReturnsInHanded {} Tryd.checked os 6 .any (fun w args => (Rows.streamBitsSpec.pre enc Tryd.prog Tryd.f6 [] false w args ∧ laidMetH Tryd.prog laidK w) ∧ sizedMet enc Tryd.prog Tryd.f6 (OpenSpec.ofChange Rows.streamBitsSpec) false w args) (Rows.streamBitsSpec.post enc Tryd.prog Tryd.f6 false true false false) := by
  refine returnsInHanded_of_change_and (C := Tryd.checked) (X := fun w _ => laidMetH Tryd.prog laidK w) (fun _ _ _ hh h => h.of_heap hh) own started (by kernel_rfl) Tryd.func6
    (ChangeSpec.witness_shaped (enc := enc) (C := Tryd.checked) (os := os) (X := fun w _ => laidMetH Tryd.prog laidK w) false (World.doorLaid Tryd.prog 400 os) #[.agg #[.int .u8 0, .int .u8 0, .int .u8 0, .int .u8 0, .int .u8 0, .int .u8 0, .int .u8 0, .int .u8 0, .int .u8 0, .int .u8 0, .int .u8 0, .int .u8 0, .int .u8 0, .int .u8 0, .int .u8 0, .int .u8 0, .int .u8 0, .int .u8 0, .int .u8 0, .int .u8 0, .int .u8 0, .int .u8 0, .int .u8 0, .int .u8 0, .int .u8 0, .int .u8 0, .int .u8 0, .int .u8 0, .int .u8 0, .int .u8 0, .int .u8 0, .int .u8 0], .int .u64 0, .int .u16 0] 8 rfl (World.shaped_of_RefB (by kernel_rfl) (by kernel_rfl)) (by kernel_rfl) (by kernel_rfl) (by kernel_rfl) (door_met os _)) ?_
  intro W base args ds gs before hval0 hW _ _ hL _
  have hval : ∀ (j : Nat) t v, Tryd.f6.params[j]? = some t → args[j]? = some v → Value.okWide Tryd.prog W .any base t v := hval0
  have hW' := hW
  obtain ⟨p, q, hA0, hV, rfl, hfz, hnd⟩ := hW
  have hA : DataW.TrodAll enc Tryd.prog W 0 (fun _ => true) true Tryd.f6.params.toList args.toList ds p := hA0
  rw [Tryd.params6] at hA hval
  obtain ⟨v0, vs0, d0, ds0, p0, q0, hargs, rfl, rfl, h0, r0⟩ := trodAll_cons hA
  obtain ⟨v1, vs1, d1, ds1, p1, q1, rfl, rfl, rfl, h1, r1⟩ := trodAll_cons r0
  obtain ⟨v2, vs2, d2, ds2, p2, q2, rfl, rfl, rfl, h2, r2⟩ := trodAll_cons r1
  obtain ⟨rfl, rfl, rfl⟩ := trodAll_nil r2
  obtain rfl : args = #[v0, v1, v2] := by cases args; simp_all
  obtain ⟨rfl, rfl⟩ := trodVars_none hV
  obtain ⟨a0, l0, rfl, rfl, rfl, w0⟩ := open_arr_ints Tryd.underlying23 Tryd.underlying5 (by kernel_rfl) (by kernel_rfl) (hval 0 23 v0 rfl rfl) h0
  obtain ⟨a1, rfl, rfl, rfl, w1⟩ := open_int Tryd.underlying24 (hval 1 24 v1 rfl rfl) h1
  obtain ⟨a2, rfl, rfl, rfl, w2⟩ := open_int Tryd.underlying38 (hval 2 38 v2 rfl rfl) h2
  clear hA0 hval0
  refine (walk a0 a1 a2 W l0 w0 w1 w2 (kst_of_laid hL)).mono fun e W' ⟨he, bel⟩ => ?_
  subst he
  exact ⟨_, rfl, _, _, _, [], _, [], hW', trodAll_mk1 (shut_bool Tryd.underlying4 _), (trodAll_cons_mk (shut_arr_ints Tryd.underlying23 Tryd.underlying5 (by kernel_rfl) (by kernel_rfl) l0 w0) (trodAll_cons_mk (shut_int Tryd.underlying24 w1) (trodAll_cons_mk (shut_int Tryd.underlying38 w2) trodAll_mk0))), rfl, bel.frame _, fun h => by cases h⟩

theorem over : Rows.streamBitsRow.holds Tryd.pinned (OpenSpec.ofChange Rows.streamBitsSpec) :=
  OpenClaim.holds_of_wide 6 Tryd.f6 rfl rfl rfl rfl rfl rfl rfl ⟨rfl, rfl, rfl, rfl, rfl⟩ rfl rfl rfl rfl rfl (by kernel_rfl) Tryd.func6 (by kernel_rfl)
    (of_decide_eq_true (by kernel_rfl)) (by unfold Func.isWrapper; first | (rw [if_pos (by decide +kernel)]; kernel_rfl) | (rw [if_neg (by decide +kernel)]; exact ⟨rfl, rfl⟩))
    (fun os started H enc _ => lifted os started H enc)

end Go.Proofs.YtdnjnbeoioicfaaDoor.streamBits
namespace Go.Proofs.YtdnjnbeoioicfaaDoor
theorem streamBits_holds : Rows.StreamBitsCardSaid :=
  Claim7.holds_tied_plain_at .later [] [.data] true _ false
    streamBits.over (fun _ h => by cases h) (by kernel_rfl) (fun _ h => by cases h) streamBits_row_tie rfl ⟨rfl, rfl⟩ (by kernel_rfl) rfl
    (fun f fn hf hfn => by
      obtain rfl : f = 6 := Option.some.inj ((show Tryd.prog.funcNamed "drawlot/drawlotlaw06.StreamBits" = some 6 by kernel_rfl).symm.trans hf) |>.symm
      obtain rfl : fn = Tryd.f6 := (Option.some.inj (Tryd.func6.symm.trans hfn)).symm
      exact ⟨by kernel_rfl, fun j t ht => by
        rw [Tryd.params6] at ht
        have hm : t ∈ [23, 24, 38] := by simpa using Array.mem_of_getElem? ht
        have hall : ([23, 24, 38].all fun u => !Tryd.prog.wantsStandIn u) = true := by kernel_rfl
        exact (show Tryd.prog.wantsStandIn t = false by simpa using List.all_eq_true.1 hall t hm)⟩)
    (by kernel_rfl)
#print axioms streamBits_holds
end Go.Proofs.YtdnjnbeoioicfaaDoor
