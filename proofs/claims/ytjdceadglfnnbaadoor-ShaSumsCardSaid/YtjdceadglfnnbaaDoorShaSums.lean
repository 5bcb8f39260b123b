/-
  The hash of any bytes is the document's; of up to 20 pieces of 500 bytes.
  Conditions: the program's table of constants reads, when the call begins, as its text lays it (the card ties that).
-/
import Derived.Test.YtjdceadglfnnbaaDoorLawH
import Derived.Test.YtjdceadglfnnbaaDoorLawG
import Derived.ShutString
import Derived.Test.YtjdceadglfnnbaaDoorCompK
import Derived.Test.YtjdceadglfnnbaaDoorTie
import Derived.Test.YtjdceadglfnnbaaDoorCards
import Derived.SevenTiedAt
import Derived.ChangeOld
set_option linter.unusedSimpArgs false
namespace Go.Proofs.YtjdceadglfnnbaaDoor.shaSums
open Go.ChangeShapes Go.WideShapes Go.ChangeAt Go.RowKit
set_option linter.unusedVariables false

theorem own : ownKnob Tryd.prog.godebug = none := by kernel_rfl
theorem laidOut : laidOutB Tryd.prog = true := by kernel_rfl

set_option maxHeartbeats 1000000 in
theorem of_walk (A : Option Addr) (n c : Nat) (rs : List Row) (w : World) (hr : RdRows w w.heap.size A n rs) (hc : n ≤ c) (hm : c ≤ maxLen) (hw : ∀ r ∈ rs, r.n ≤ maxLen ∧ r.zs.length = r.n ∧ ∀ z ∈ r.zs, (Lit.int .u8 z).wf = true) (hkst : Kst w) :
    Calls Tryd.prog 3 #[.slice A n c] w fun e w' => e = .returned (.bool true) ∧ Below w.heap.size w w' := by
  have HR := Lib.hid hr
  have HKST := Lib.hid hkst
  clear hkst
  have hn : n ≤ 9223372036854775807 := by unfold maxLen at hm; omega
  have HGR := Lib.hid (fun W h => rgreat_c A n c rs W h hn (fun r hr => by have := (hw r hr).1; unfold maxLen at this; omega))
  by_cases hg : greatB rs = true
  · rw [hg] at HGR
    clear hr hg
    go_enter Tryd.func3, Tryd.ntmps3
    go_wp2_with (first
      | (go_at_call 7; (with_reducible refine (alive5_c _ HKST.out).mono ?_); rintro e w1 ⟨rfl, hb1⟩)
      | (go_at_call 8; (with_reducible refine (HGR.out w1 (HR.out.to hb1)).mono ?_); rintro e _ ⟨rfl, rfl⟩))
    go_ret
    exact ⟨rfl, hb1⟩
  · have hg' : greatB rs = false := by simpa using hg
    obtain ⟨hk, h5⟩ := rows_ok hg' hw
    rw [hg'] at HGR
    have hjl := join_len hk h5
    have hji := join_in hk
    have hn20 : n ≤ 1000 := by have := hk.1; have := hr.1; omega
    have HQ := Lib.hid (fun W h (h2 : Kst W) => qsum_c A n c rs W h hc hk h2)
    have HJ := Lib.hid (fun W h => rjoin_c A n c 500 rs W h hn20 (by omega) h5)
    have HS := Lib.hid (fun A c W h h' => rsum_c A c (joinL rs).length (joinL rs) W h h' (by omega) hji)
    have E := fun W => same_hash (shaL (joinL rs)) (shaL_len _) W
    obtain ⟨X, hX⟩ : ∃ X, shaL (joinL rs) = X := ⟨_, rfl⟩
    rw [hX] at HQ HS E
    obtain ⟨J, hJ⟩ : ∃ J, joinL rs = J := ⟨_, rfl⟩
    rw [hJ] at HJ HS
    clear hr hg hg' hX hJ hjl hji
    go_enter Tryd.func3, Tryd.ntmps3
    go_wp2_with (first
      | (go_at_call 7; (with_reducible refine (alive5_c _ HKST.out).mono ?_); rintro e w1 ⟨rfl, hb1⟩)
      | (go_at_call 8; (with_reducible refine (HGR.out w1 (HR.out.to hb1)).mono ?_); rintro e _ ⟨rfl, rfl⟩)
      | (go_at_call 9; (with_reducible refine (HQ.out w1 (HR.out.to hb1) (HKST.out.below hb1)).mono ?_); rintro e w2 ⟨rfl, hb2⟩; have bl2 := Lib.hid (hb1.trans (hb2.mono hb1.size)))
      | (go_at_call 11; (with_reducible refine (HJ.out w2 (HR.out.to bl2.out)).mono ?_); rintro e w3 ⟨A3, c3, rfl, how3, hb3⟩; have bl3 := Lib.hid (bl2.out.trans (hb3.mono bl2.out.size)); have HO3 := Lib.hid how3; clear how3)
      | (go_at_call 10; (with_reducible refine (HS.out A3 c3 w3 (HO3.out.rd rfl) HO3.out.cap.1).mono ?_); rintro e w4 ⟨rfl, hb4⟩; have bl4 := Lib.hid (bl3.out.trans (hb4.mono bl3.out.size))))
    go_ret
    exact ⟨rfl, bl4.out⟩
theorem walk (a0 : Option Addr) (n0 c0 : Nat) (z0 : List Row) (w : World) (rd0 : RdRows w w.heap.size a0 n0 z0) (lc0 : n0 ≤ c0) (cm0 : c0 ≤ maxLen) (w0 : ∀ r ∈ z0, r.n ≤ maxLen ∧ r.zs.length = r.n ∧ ∀ z ∈ r.zs, (Lit.int .u8 z).wf = true) (hkst : Kst w) :
    Calls Tryd.prog 3 #[.slice a0 n0 c0] w fun e w' => e = .returned (.bool true) ∧ Below w.heap.size w w' := of_walk a0 n0 c0 z0 w rd0 lc0 cm0 w0 hkst


set_option maxRecDepth 100000 in
theorem lifted (os : Os) (started : os.Started) (H : Type) (enc : TypeId × Value → H) :
    ReturnsInHanded {} Tryd.checked os 3 .any (fun w args => (Rows.shaSumsSpec.pre enc Tryd.prog Tryd.f3 [] false w args ∧ laidMetH Tryd.prog laidK w) ∧ sizedMet enc Tryd.prog Tryd.f3 (OpenSpec.ofChange Rows.shaSumsSpec) false w args) (Rows.shaSumsSpec.post enc Tryd.prog Tryd.f3 false true false false) := by
  refine returnsInHanded_of_change_and (C := Tryd.checked) (X := fun w _ => laidMetH Tryd.prog laidK w) (fun _ _ _ hh h => h.of_heap hh) own started (by kernel_rfl) Tryd.func3
    (ChangeSpec.witness_shaped (enc := enc) (C := Tryd.checked) (os := os) (X := fun w _ => laidMetH Tryd.prog laidK w) false (World.doorLaid Tryd.prog 400 os) #[.slice none 0 0] 8 rfl (World.shaped_of_RefB (by kernel_rfl) (by kernel_rfl)) (by kernel_rfl) (by kernel_rfl) (by kernel_rfl) (door_met os _)) ?_
  intro W base args ds gs before hval0 hW _ _ hL _
  have hval : ∀ (j : Nat) t v, Tryd.f3.params[j]? = some t → args[j]? = some v → Value.okWide Tryd.prog W .any base t v := hval0
  have hW' := hW
  obtain ⟨p, q, hA0, hV, rfl, hfz, hnd⟩ := hW
  have hA : DataW.TrodAll enc Tryd.prog W 0 (fun _ => true) true Tryd.f3.params.toList args.toList ds p := hA0
  rw [Tryd.params3] at hA hval
  obtain ⟨v0, vs0, d0, ds0, p0, q0, hargs, rfl, rfl, h0, r0⟩ := trodAll_cons hA
  obtain ⟨rfl, rfl, rfl⟩ := trodAll_nil r0
  obtain rfl : args = #[v0] := by cases args; simp_all
  obtain ⟨rfl, rfl⟩ := trodVars_none hV
  obtain ⟨a0, n0, c0, rfl⟩ := okWide_slice Tryd.underlying22 (hval 0 22 v0 rfl rfl)
  have k0 := h0
  have lt0 : ∀ x ∈ p0, x.block < W.heap.size := by obtain ⟨m, hm⟩ := k0; exact DataW.trod_lt m _ _ _ hm
  obtain ⟨z0, rd0, lc0, cm0, w0⟩ := open_rows Tryd.underlying22 Tryd.underlying29 Tryd.underlying5 (by kernel_rfl) (by kernel_rfl) h0
  clear hA0 hval0
  refine (walk a0 n0 c0 z0 W rd0 lc0 cm0 w0 (kst_of_laid hL)).mono fun e W' ⟨he, bel⟩ => ?_
  subst he
  exact ⟨_, rfl, _, _, _, [], _, [], hW', trodAll_mk1 (shut_bool Tryd.underlying4 _), (trodAll_cons_mk (Below.trod laidOut (by kernel_rfl) (of_decide_eq_true (by kernel_rfl)) k0 bel lt0) trodAll_mk0), rfl, bel.frame _, fun h => by cases h⟩

theorem over : Rows.shaSumsRow.holds Tryd.pinned (OpenSpec.ofChange Rows.shaSumsSpec) :=
  OpenClaim.holds_of_wide 3 Tryd.f3 rfl rfl rfl rfl rfl rfl rfl ⟨rfl, rfl, rfl, rfl, rfl⟩ rfl rfl rfl rfl rfl (by kernel_rfl) Tryd.func3 (by kernel_rfl)
    (of_decide_eq_true (by kernel_rfl)) (by unfold Func.isWrapper; first | (rw [if_pos (by decide +kernel)]; kernel_rfl) | (rw [if_neg (by decide +kernel)]; exact ⟨rfl, rfl⟩))
    (fun os started H enc _ => lifted os started H enc)

end Go.Proofs.YtjdceadglfnnbaaDoor.shaSums
namespace Go.Proofs.YtjdceadglfnnbaaDoor
theorem shaSums_holds : Rows.ShaSumsCardSaid :=
  Claim7.holds_tied_plain_at .later [] [.data] true _ false
    shaSums.over (fun _ h => by cases h) (by kernel_rfl) (fun _ h => by cases h) shaSums_row_tie rfl ⟨rfl, rfl⟩ (by kernel_rfl) rfl
    (fun f fn hf hfn => by
      obtain rfl : f = 3 := Option.some.inj ((show Tryd.prog.funcNamed "drawlot/drawlotlaw05.ShaSums" = some 3 by kernel_rfl).symm.trans hf) |>.symm
      obtain rfl : fn = Tryd.f3 := (Option.some.inj (Tryd.func3.symm.trans hfn)).symm
      exact ⟨by kernel_rfl, fun j t ht => by
        rw [Tryd.params3] at ht
        have hm : t ∈ [22] := by simpa using Array.mem_of_getElem? ht
        have hall : ([22].all fun u => !Tryd.prog.wantsStandIn u) = true := by kernel_rfl
        exact (show Tryd.prog.wantsStandIn t = false by simpa using List.all_eq_true.1 hall t hm)⟩)
    (by kernel_rfl)
#print axioms shaSums_holds
end Go.Proofs.YtjdceadglfnnbaaDoor
