/-
  In the table of stakes each place owns just as often its stake as there are places; of up to 300.
  Conditions: none.
-/
import Derived.Test.YtkgajcifanobnaaLawS
import Derived.Test.YtkgajcifanobnaaOpenA
import Derived.ShutString
import Derived.ChangeOld
namespace Go.Proofs.Ytkgajcifanobnaa.aliasOwns
open Go.ChangeShapes Go.WideShapes Go.ChangeAt Go.RowKit
set_option linter.unusedVariables false
set_option linter.unusedSimpArgs false
set_option maxRecDepth 100000

theorem own : ownKnob Try.prog.godebug = none := by kernel_rfl
theorem laidOut : laidOutB Try.prog = true := by kernel_rfl

set_option maxHeartbeats 8000000 in
theorem walk (a0 : Option Addr) (n c : Nat) (zs : List Int) (w : World) (hrd : Rd .u64 w w.heap.size a0 n zs) (lc : n ≤ c) (cm : c ≤ maxLen) (hw : ∀ z ∈ zs, (Lit.int .u64 z).wf = true) :
    Calls Try.prog 6 #[.slice a0 n c] w fun e w' => e = .returned (.bool true) ∧ Below w.heap.size w w' := by
  have G0 : Hid (Fx [.rdb .u64 w.heap.size a0 n zs, .bel w] w) := Lib.hid ⟨⟨hrd, Nat.le_refl _⟩, Below.refl _ _, trivial⟩
  have hlen := hrd.len
  have hz : ∀ z ∈ zs, 0 ≤ z ∧ z < 18446744073709551616 := fun z h => by
    obtain ⟨h1, h2⟩ := bounds_u64 (hw z h)
    omega
  by_cases hg : 300 < n
  · have hg2 : (300 : Int) < (n : Int) := by omega
    clear hrd hw hz hg
    go_enter Try.func6, Try.ntmps6
    go_wp2_with (first
      | (go_at_call 8; (with_reducible refine (alive14_c _).mono ?_); rintro e w1 ⟨rfl, hbw1⟩; have G2 := Lib.hid (Fx.below G0.out hbw1); clear G0; clear hbw1))
    go_ret
    exact ⟨rfl, (Fx.e1 G2.out)⟩
  have hg2 : (n : Int) ≤ 300 := by omega
  have hnm : n ≤ maxLen := by simp only [maxLen]; omega
  have hz0 : ∀ z ∈ zs, 0 ≤ z := fun z h => (hz z h).1
  by_cases he : tbE zs = 0
  · have h1 := fun A c W h => q14build_c zs hz A n c (by omega) W h
    obtain ⟨i0, i1, -, i3⟩ := tb_in hz0
    have hok := i3 (by omega)
    obtain ⟨l1, hr, -, ho⟩ := tb_right hz0 he
    rw [hlen] at l1 ho
    have h2 := fun A c W h => calls_val (v' := .bool true) (r14right_c (tbT zs) i0 (by omega) (tbC zs) hok A n c hnm W h) (congrArg Value.bool hr)
    have hos := fun (k : Nat) (hk : k < n) A c (hc : n ≤ c) (hm : c ≤ maxLen) W h => calls_val (v' := .tuple #[.int .u64 ((n : Int) * zs.getD k 0), .int .i64 0]) (q14owns_c (tbT zs) i0 (by omega) (tbC zs) hok A n c (by omega) hc hm W h (k : Int) (by omega) (by omega)) (tup_ui (by rw [(os_ok (i := (k : Int)) hr ⟨by omega, by omega⟩).2, l1, ho k hk]) (os_ok (i := (k : Int)) hr ⟨by omega, by omega⟩).1)
    have hb : ∀ k, k < n → 0 ≤ (n : Int) * zs.getD k 0 ∧ (n : Int) * zs.getD k 0 < 9223372036854775808 := fun k hk => by
      obtain ⟨e1, e2, e3, e4⟩ := tbE_iff.1 he
      have q1 := getD_le hz0 (i := k) (by omega)
      have q2 := mul_le_of (n := (n : Int)) (by omega) q1.2
      have q3 := Int.mul_nonneg (show (0 : Int) ≤ (n : Int) by omega) q1.1
      rw [hlen] at e4
      exact ⟨q3, by omega⟩
    have n0 : 0 < n := by have := (tbE_iff.1 he).1; omega
    obtain ⟨b, off, rfl, -, -⟩ := hrd.at_ n0
    have HRC := Lib.hid (fun (k : Nat) (hk : k < n) W (h : Rd .u64 W W.heap.size (some ⟨b, off, none⟩) n zs) => rd_at h hk)
    obtain ⟨T, hT⟩ : ∃ x, tbT zs = x := ⟨_, rfl⟩
    obtain ⟨ts, hts⟩ : ∃ x, tbC zs = x := ⟨_, rfl⟩
    have h1 := fun A c W h => calls_tab (h1 A c W h) hT hts he ((congrArg List.length hts).trans (hts ▸ l1))
    rw [hT, hts] at h2 hos
    have H1 := Lib.hid h1
    have H2 := Lib.hid h2
    have HO := Lib.hid hos
    have HB := Lib.hid hb
    clear h1 h2 hos hb hT hts l1 hr ho hok i0 i1 i3 he hz0 hrd hw hz hg hnm lc cm hlen
    go_enter Try.func6, Try.ntmps6
    go_wp2_with (first
      | (go_at_call 8; (with_reducible refine (alive14_c _).mono ?_); rintro e w1 ⟨rfl, hbw1⟩; have G2 := Lib.hid (Fx.below G0.out hbw1); clear G0; clear hbw1)
      | (go_at_call 9; (with_reducible refine (H1.out _ _ _ (Fx.r0 G2.out)).mono ?_); rintro e w3 ⟨A4, c5, rfl, hrw3, hlw3, hmw3, hbw3⟩; have lc5 := Lib.hid hlw3; have mc5 := Lib.hid hmw3; have G6 := Lib.hid (Fx.addP G2.out hbw3 hrw3); clear G2; clear hrw3 hbw3 hlw3 hmw3)
      | (with_reducible refine at_any ?_; refine at_dst 3 rfl ?_; refine wpList_alloc_any rfl 27 rfl #[.int .u64 0, .slice none 0 0] zero_tabL ?_; intro w7 hkw7 hsw7 hbw7; have U8 := Lib.hid (Fx.under_new G6.out rfl); have G9 := Lib.hid (Fx.newB G6.out hkw7.out hbw7); clear G6; clear hkw7 hsw7 hbw7)
      | (with_reducible refine at_any ?_; refine at_store 3 rfl ?_; refine wpList_store_any rfl 27 (.tmp 3) (.tmp 16) rfl w3.heap.size rfl 27 #[.int .u64 0, .slice none 0 0] (#[.int .u64 T, .slice A4 n c5]) (Fx.b0 G9.out) rfl (sameT2 _ _ _ _) (sizedT _ _) (onesT _ _ _ _) ?_; intro w10 hkw10 hsw10 hbw10 how10; have G11 := Lib.hid (Fx.put1B G9.out U8.out hkw10.out hsw10.out hbw10 how10); clear G9; clear hkw10 hsw10 hbw10 how10)
      | (with_reducible refine at_any ?_; refine at_dst 24 rfl ?_; refine wpList_load_tab (by kernel_rfl) (.tmp 3) rfl w3.heap.size rfl 27 (.int .u64 T) (.slice A4 n c5) (Fx.b0 G11.out) ?_)
      | (go_at_call 20; (with_reducible refine (H2.out _ _ _ (Fx.k1 G11.out)).mono ?_); rintro e w12 ⟨rfl, hbw12⟩; have G13 := Lib.hid (Fx.below G11.out hbw12); clear G11; clear hbw12; have cz14a := tab_c0 (Fx.b0 G13.out); have cz14b := tab_c1 (Fx.b0 G13.out)))
    go_loopw [5] (fun jj wr => ∃ k : Nat, k ≤ n ∧ jj = .int .i64 (k : Int) ∧ Fx [.blk w3.heap.size 27 (#[.int .u64 T, .slice A4 n c5]), .kept w3.heap.size (fun W => RdPr .u64 .i64 W W.heap.size A4 n ts), .rdb .u64 w.heap.size (some ⟨b, off, none⟩) n zs, .bel w] wr) (fun jj _ => n - (intOf jj).toNat)
    case atStart => exact ⟨0, by omega, rfl, G13.out⟩
    case round =>
      clear G13
      obtain ⟨k, hk, rfl, hG⟩ := hrel
      have G9 := Lib.hid hG
      clear hG
      by_cases hlt : k < n
      · have HOK := Lib.hid (HO.out k hlt)
        have HCK := Lib.hid (HRC.out k hlt)
        have hbk := HB.out k hlt
        obtain ⟨x, hx⟩ : ∃ x, zs.getD k 0 = x := ⟨_, rfl⟩
        obtain ⟨p, hp⟩ : ∃ p, (n : Int) * x = p := ⟨_, rfl⟩
        rw [hx, hp] at HOK hbk
        rw [hx] at HCK
        obtain ⟨p0, p1⟩ := hbk
        have hwr : IntKind.u64.wrap ((n : Int) * x) = p := by rw [hp, IntKind.wrap_u64]; omega
        have i0 : (0 : Int) ≤ (k : Int) := by omega
        have i1 : (k : Int) < (n : Int) := by omega
        have t1 : (p != p) = false := by simp
        clear hx hp
        go_wp2_with (first
          | (with_reducible refine at_any ?_; refine at_dst 42 rfl ?_; refine wpList_load_tab (by kernel_rfl) (.tmp 3) rfl w3.heap.size rfl 27 (.int .u64 T) (.slice A4 n c5) (Fx.b0 G9.out) ?_)
          | (go_at_call 17; (with_reducible refine (HOK.out _ _ lc5.out mc5.out _ (Fx.k1 G9.out)).mono ?_); rintro e w601 ⟨rfl, hbw601⟩; have G602 := Lib.hid (Fx.below G9.out hbw601); clear G9; clear hbw601; have ck := HCK.out _ (Fx.r2 G602.out)))
        go_roundw
        case rel => exact ⟨k + 1, by omega, by go_num, G602.out⟩
        case measure => simp [intOf]; omega
      · obtain rfl : k = n := by omega
        go_wp2
        go_ret
        exact ⟨rfl, (Fx.e3 G9.out)⟩
  · obtain ⟨e1, e2⟩ := tb_no he
    have h1 := fun A c W h => calls_tab (q14build_c zs hz A n c (by omega) W h) e1 e2 rfl (congrArg List.length e2)
    obtain ⟨er, her⟩ : ∃ x, tbE zs = x := ⟨_, rfl⟩
    rw [her] at h1 he
    have t1 : (er != 0) = true := by simp [bne, he]
    have H1 := Lib.hid h1
    clear h1 e1 e2 her he hz0 hrd hw hz hg hnm lc cm hlen
    go_enter Try.func6, Try.ntmps6
    go_wp2_with (first
      | (go_at_call 8; (with_reducible refine (alive14_c _).mono ?_); rintro e w1 ⟨rfl, hbw1⟩; have G2 := Lib.hid (Fx.below G0.out hbw1); clear G0; clear hbw1)
      | (go_at_call 9; (with_reducible refine (H1.out _ _ _ (Fx.r0 G2.out)).mono ?_); rintro e w3 ⟨A4, c5, rfl, hrw3, hlw3, hmw3, hbw3⟩; have lc5 := Lib.hid hlw3; have mc5 := Lib.hid hmw3; have G6 := Lib.hid (Fx.addP G2.out hbw3 hrw3); clear G2; clear hrw3 hbw3 hlw3 hmw3)
      | (with_reducible refine at_any ?_; refine at_dst 3 rfl ?_; refine wpList_alloc_any rfl 27 rfl #[.int .u64 0, .slice none 0 0] zero_tabL ?_; intro w7 hkw7 hsw7 hbw7; have U8 := Lib.hid (Fx.under_new G6.out rfl); have G9 := Lib.hid (Fx.newB G6.out hkw7.out hbw7); clear G6; clear hkw7 hsw7 hbw7)
      | (with_reducible refine at_any ?_; refine at_store 3 rfl ?_; refine wpList_store_any rfl 27 (.tmp 3) (.tmp 16) rfl w3.heap.size rfl 27 #[.int .u64 0, .slice none 0 0] (#[.int .u64 0, .slice A4 0 c5]) (Fx.b0 G9.out) rfl (sameT2 _ _ _ _) (sizedT _ _) (onesT _ _ _ _) ?_; intro w10 hkw10 hsw10 hbw10 how10; have G11 := Lib.hid (Fx.put1B G9.out U8.out hkw10.out hsw10.out hbw10 how10); clear G9; clear hkw10 hsw10 hbw10 how10; have cz12a := tab_c0 (Fx.b0 G11.out); have cz12b := tab_c1 (Fx.b0 G11.out)))
    go_ret
    exact ⟨rfl, (Fx.e3 G11.out)⟩


set_option maxRecDepth 100000 in
theorem lifted (os : Os) (started : os.Started) (H : Type) (enc : TypeId × Value → H) :
    ReturnsInHanded {} Try.checked os 6 .any (Rows.aliasOwnsSpec.pre6 enc Try.prog Try.f6 Rows.aliasOwnsRow.domain false) (Rows.aliasOwnsSpec.post enc Try.prog Try.f6 false true false false) := by
  refine returnsInHanded_of_change (C := Try.checked) own started (by kernel_rfl) Try.func6
    (ChangeSpec.witness6 (enc := enc) (C := Try.checked) false ⟨#[], #[.slice none 0 0], []⟩ 8 (by kernel_rfl) (by kernel_rfl) (by kernel_rfl) (by kernel_rfl)) ?_
  intro W base args ds gs before hval0 hW hcnd _
  have hval : ∀ (j : Nat) t v, Try.f6.params[j]? = some t → args[j]? = some v → Value.okWide Try.prog W .any base t v := hval0
  have hW' := hW
  obtain ⟨p, q, hA0, hV, rfl, hfz, hnd⟩ := hW
  have hA : DataW.TrodAll enc Try.prog W 0 (fun _ => true) true Try.f6.params.toList args.toList ds p := hA0
  rw [Try.params6] at hA hval
  obtain ⟨v0, vs0, d0, ds0, p0, q0, hargs, rfl, rfl, h0, r0⟩ := trodAll_cons hA
  obtain ⟨rfl, rfl, rfl⟩ := trodAll_nil r0
  obtain rfl : args = #[v0] := by cases args; simp_all
  obtain ⟨rfl, rfl⟩ := trodVars_none hV
  obtain ⟨a0, n0, c0, rfl⟩ := okWide_slice Try.underlying22 (hval 0 22 v0 rfl rfl)
  have k0 := h0
  have lt0 : ∀ x ∈ p0, x.block < W.heap.size := by obtain ⟨m, hm⟩ := k0; exact DataW.trod_lt m _ _ _ hm
  obtain ⟨z0, rd0, lc0, cm0, w0⟩ := open_rd Try.underlying22 Try.underlying24 (by kernel_rfl) h0
  clear hA0 hval0
  refine (walk a0 n0 c0 z0 W rd0 lc0 cm0 w0).mono fun e W' ⟨he, bel⟩ => ?_
  subst he
  exact ⟨_, rfl, _, _, _, [], _, [], hW', trodAll_mk1 (shut_bool Try.underlying4 _), (trodAll_cons_mk (Below.trod laidOut (by kernel_rfl) (of_decide_eq_true (by kernel_rfl)) k0 bel lt0) trodAll_mk0), rfl, bel.frame _, fun h => by cases h⟩

theorem over : Rows.aliasOwnsRow.holds Try.pinned (OpenSpec.ofChange Rows.aliasOwnsSpec) :=
  OpenClaim.holds_of_wide 6 Try.f6 rfl rfl rfl rfl rfl rfl rfl ⟨rfl, rfl, rfl, rfl, rfl⟩ rfl rfl rfl rfl rfl (by kernel_rfl) Try.func6 (by kernel_rfl)
    (of_decide_eq_true (by kernel_rfl)) (by unfold Func.isWrapper; first | (rw [if_pos (by decide +kernel)]; kernel_rfl) | (rw [if_neg (by decide +kernel)]; exact ⟨rfl, rfl⟩))
    (fun os started H enc _ => lifted os started H enc)

end Go.Proofs.Ytkgajcifanobnaa.aliasOwns
namespace Go.Proofs.Ytkgajcifanobnaa
theorem aliasOwns_holds : Rows.AliasOwnsSaid := aliasOwns.over
#print axioms aliasOwns_holds
end Go.Proofs.Ytkgajcifanobnaa
