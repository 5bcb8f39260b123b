/-
  Texts of this claim, joined (what the claim does not need is left out): TapO, TapN, TapA, UniA, ShlB, FenK, FenC, FenD, FenE, FenT, FenG, SafA, FenH, FenI, FenF, FenJ, FenA, LedA.
-/
import Derived.Test.YtkhlkggdibaefaaGreatDoorLGb
import Derived.Deep.QuietTactic
import Derived.BigQuiet
import Derived.Test.YtkhlkggdibaefaaGreatDoorRows
import Derived.Shelf.Strconv.Itoa0
import Derived.Shelf.Small.Bits
import Derived.Shelf.Spec.TrailingZeros
import Derived.Shelf.Spec.SlicesGrow
import Derived.Lib.SliceRun
import Derived.Laws.Externs
import Derived.Lib.Mul64
set_option maxRecDepth 100000
set_option linter.unusedVariables false
set_option linter.unusedSimpArgs false
set_option linter.unusedSectionVars false
namespace Go.Proofs.YtkhlkggdibaefaaGreatDoor
section
open Go.ChangeShapes Go.WideShapes Go.ChangeAt Go.RowKit
theorem size_bool : (Tryz.prog.info? 4).map (·.size) = some 1 := by kernel_rfl
theorem only_drewN (g : Nat) (w : World) (n : Nat) : Only g w (w.drewN n) := Only.of_below (below_drewN (Below.refl _ _) n)
theorem blk_drewN {w : World} {g : Nat} {t : TypeId} {cs : Array Value} (h : Blk w g t cs) (n : Nat) : Blk (w.drewN n) g t cs := h.below (below_drewN (Below.refl _ _) n) h.lt
set_option maxHeartbeats 4000000 in
theorem qoct1_c (g : Nat) (s : Src) (A : Option Addr) (c : Nat) (b : List Int) (h : Bool) (ok : s.Ok) (hk : s.kind = 1) (hlt : s.at_ < 8 * (s.tape.length : Int)) (hbk : BkA s b h) (w : World) (hg : Blk w g 145 (rdV s A c b h)) (hrd : Rd .u8 w w.heap.size A s.tape.length s.tape) :
    Calls Tryz.prog 128 #[.pointer (some ⟨g, 0, none⟩)] w (RetOct w g s A c) := by
  have hS : RdS g s A c w := ⟨b, h, hg, hbk.1⟩
  have c0 := hS.kind
  have c1 := hS.tape
  have c36 := hS.at_ ok.sl
  have tl := ok.tl
  obtain ⟨j, hj⟩ : ∃ j : Nat, (s.at_ / 8).toNat = j := ⟨_, rfl⟩
  have a0 := ok.a0
  have a1 := ok.a1
  have e1 : s.at_ / 8 = (j : Int) := by omega
  have hjl : j < s.tape.length := by omega
  obtain ⟨b0, off, hA, hb0, hcell⟩ := hrd.2 (by omega)
  have cj := hcell j hjl
  have hoc : octS s = s.tape.getD j 0 := by unfold octS; rw [if_neg (by omega), hj]
  obtain ⟨x, hx⟩ : ∃ x, s.tape.getD j 0 = x := ⟨_, rfl⟩
  rw [hx] at cj hoc
  rw [hk] at c0
  have HEND : Hid (∀ n, RetOct w g s A c (.returned (.int .u8 x)) (w.drewN n)) := Lib.hid fun n => ⟨b, h, by rw [hoc], blk_drewN hg n, ⟨hbk.1, hbk.2.1, fun hk2 => by rw [hk] at hk2; cases hk2⟩, only_drewN g w n⟩
  obtain ⟨L, hL⟩ : ∃ L, s.tape.length = L := ⟨_, rfl⟩
  obtain ⟨at_, hat⟩ : ∃ a, s.at_ = a := ⟨_, rfl⟩
  rw [hL] at c1 hjl tl
  rw [hat] at c36 e1 a0 a1
  have q0 : (0 : Int) ≤ (j : Int) ∧ (j : Int) < (L : Int) := by omega
  have e2 : IntKind.u64.wrap (at_.tdiv 8) = (j : Int) := by rw [Int.tdiv_eq_ediv_of_nonneg a0, e1, IntKind.wrap_u64]; omega
  subst hA
  clear hS hj hx hoc hcell hrd hg hbk hk hlt hL hat hb0 e1 ok
  go_enter Tryz.func128, Tryz.ntmps128
  go_wp2
  go_quiet (fail)
  go_wp2
  go_ret
  exact HEND.out _
set_option maxHeartbeats 4000000 in
/-- Of a stream: no block is hashed. -/
theorem qoct3_c (g : Nat) (s : Src) (A : Option Addr) (c : Nat) (b : List Int) (ok : s.Ok) (hk : s.kind = 2) (hn : s.at_ % 256 ≠ 0) (hbk : BkA s b true) (w : World) (hg : Blk w g 145 (rdV s A c b true)) :
    Calls Tryz.prog 128 #[.pointer (some ⟨g, 0, none⟩)] w (RetOct w g s A c) := by
  obtain ⟨h, hh⟩ : ∃ h, h = true := ⟨_, rfl⟩
  rw [← hh] at hg hbk
  have hS : RdS g s A c w := ⟨b, h, hg, hbk.1⟩
  have c0 := hS.kind
  have a0 := ok.a0
  have a1 := ok.a1
  rw [hk] at c0
  have hRl := blkL_len s.seed s.dom (s.at_ / 256)
  have hRi := blkL_in s.seed s.dom (s.at_ / 256)
  obtain ⟨j, hj⟩ : ∃ j : Nat, (s.at_ % 256 / 8).toNat = j := ⟨_, rfl⟩
  have e1 : s.at_ % 256 / 8 = (j : Int) := by omega
  have hj32 : j < 32 := by omega
  have hoc : octS s = (blkL s.seed s.dom (s.at_ / 256)).getD j 0 := by unfold octS; rw [if_pos hk, hj]
  have HBLK := Lib.hid (fun W k => qblock_c s.seed s.dom (s.at_ / 256) ok.sl ok.si ok.d0 ok.d1 (by omega) (by omega) W k)
  have hbR := hbk.2.2 hk hh hn
  have c69 := (hg.cell 69).trans (rdV_hashed s ok.sl A c b hbk.1 h)
  rw [hh] at c69 hg
  obtain ⟨R, hR⟩ : ∃ R, blkL s.seed s.dom (s.at_ / 256) = R := ⟨_, rfl⟩
  rw [hR] at hRl hRi hoc HBLK
  obtain ⟨x, hx⟩ : ∃ x, R.getD j 0 = x := ⟨_, rfl⟩
  rw [hx] at hoc
  have HEND : Hid (∀ hh W, Blk W g 145 (rdV s A c R hh) → Only g w W → ∀ n, RetOct w g s A c (.returned (.int .u8 x)) (W.drewN n)) := Lib.hid fun hh W hB hO n => ⟨R, hh, by rw [hoc], blk_drewN hB n, ⟨hRl, hRi, fun _ => hR.symm⟩, hO.trans (only_drewN g W n)⟩
  have C36 := Lib.hid (fun (hh : Bool) (W : World) (hB : Blk W g 145 (rdV s A c R hh)) => (hB.cell 36).trans (rdV_at s ok.sl A c R hh))
  have CJ := Lib.hid (fun (hh : Bool) (W : World) (hB : Blk W g 145 (rdV s A c R hh)) => (show W.cell? ⟨g, 37 + j, none⟩ = some (.int .u8 x) by rw [hB.cell, rdV_blk s ok.sl A c R hh j (by omega), hx]))
  have E1 := Lib.hid e1
  rw [hbR, hR] at hg
  have KV := Lib.hid hg
  have KO : Hid (Only g w w) := Lib.hid (Only.refl g w)
  have c36a := C36.out _ _ hg
  have t1 : (s.at_ % 256 == 0) = false := by rw [beq_eq_false_iff_ne]; exact hn
  obtain ⟨at_, hat⟩ : ∃ a, s.at_ = a := ⟨_, rfl⟩
  rw [hat] at a0 a1 C36 E1 c36a t1
  clear hS hj hx hoc hg hbk hk hn hat e1 hRl hRi HBLK ok hbR hR hh
  go_enter Tryz.func128, Tryz.ntmps128
  go_wp2
  clear c36a
  have c36 := C36.out _ _ KV.out
  have cj := CJ.out _ _ KV.out
  have q0 : ((j : Nat) : Int) < 32 := by omega
  have e2 : IntKind.u64.wrap ((at_.tmod 256).tdiv 8) = (j : Int) := by rw [Int.tmod_eq_emod_of_nonneg a0, Int.tdiv_eq_ediv_of_nonneg (by omega), E1.out, IntKind.wrap_u64]; omega
  go_quiet (fail)
  go_wp2
  go_ret
  exact HEND.out _ _ KV.out KO.out _
set_option maxHeartbeats 8000000 in
/-- Of a stream: a block is hashed. -/
theorem qoct2_c (g : Nat) (s : Src) (A : Option Addr) (c : Nat) (b : List Int) (h : Bool) (ok : s.Ok) (hk : s.kind = 2) (hn : h = false ∨ s.at_ % 256 = 0) (hbk : BkA s b h) (w : World) (hg : Blk w g 145 (rdV s A c b h)) (hkst : Kst w) :
    Calls Tryz.prog 128 #[.pointer (some ⟨g, 0, none⟩)] w (RetOct w g s A c) := by
  have hS : RdS g s A c w := ⟨b, h, hg, hbk.1⟩
  have c0 := hS.kind
  have a0 := ok.a0
  have a1 := ok.a1
  rw [hk] at c0
  have hRl := blkL_len s.seed s.dom (s.at_ / 256)
  have hRi := blkL_in s.seed s.dom (s.at_ / 256)
  obtain ⟨j, hj⟩ : ∃ j : Nat, (s.at_ % 256 / 8).toNat = j := ⟨_, rfl⟩
  have e1 : s.at_ % 256 / 8 = (j : Int) := by omega
  have hj32 : j < 32 := by omega
  have hoc : octS s = (blkL s.seed s.dom (s.at_ / 256)).getD j 0 := by unfold octS; rw [if_pos hk, hj]
  have HBLK := Lib.hid (fun W k => qblock_c s.seed s.dom (s.at_ / 256) ok.sl ok.si ok.d0 ok.d1 (by omega) (by omega) W k)
  have OKA1 := ok.a1
  have c69 := (hg.cell 69).trans (rdV_hashed s ok.sl A c b hbk.1 h)
  have c36a := hS.at_ ok.sl
  obtain ⟨R, hR⟩ : ∃ R, blkL s.seed s.dom (s.at_ / 256) = R := ⟨_, rfl⟩
  rw [hR] at hRl hRi hoc HBLK
  obtain ⟨x, hx⟩ : ∃ x, R.getD j 0 = x := ⟨_, rfl⟩
  rw [hx] at hoc
  have HEND : Hid (∀ hh W, Blk W g 145 (rdV s A c R hh) → Only g w W → ∀ n, RetOct w g s A c (.returned (.int .u8 x)) (W.drewN n)) := Lib.hid fun hh W hB hO n => ⟨R, hh, by rw [hoc], blk_drewN hB n, ⟨hRl, hRi, fun _ => hR.symm⟩, hO.trans (only_drewN g W n)⟩
  have C36 := Lib.hid (fun (hh : Bool) (W : World) (hB : Blk W g 145 (rdV s A c R hh)) => (hB.cell 36).trans (rdV_at s ok.sl A c R hh))
  have CJ := Lib.hid (fun (hh : Bool) (W : World) (hB : Blk W g 145 (rdV s A c R hh)) => (show W.cell? ⟨g, 37 + j, none⟩ = some (.int .u8 x) by rw [hB.cell, rdV_blk s ok.sl A c R hh j (by omega), hx]))
  have E1 := Lib.hid e1
  have HPUT := Lib.hid (rdV_put s ok.sl A c b R hbk.1 hRl h)
  have HSET := Lib.hid (rdV_set69 s ok.sl A c R hRl h true)
  have LR := Lib.hid (show 37 + (intsA .u8 R).size ≤ (rdV s A c b h).size by rw [intsA_size, hRl, rdV_size s ok.sl A c b hbk.1]; omega)
  have L69 := Lib.hid (show 69 < (rdV s A c R h).size by rw [rdV_size s ok.sl A c R hRl]; omega)
  have SR := Lib.hid (show (Tryz.prog.info? 38).map (·.size) = some (intsA .u8 R).size by rw [intsA_size, hRl]; exact size_hash)
  have OR := Lib.hid (all_oneCell_toArray (ints_one .u8 R))
  have HRL := Lib.hid hRl
  have HSL := Lib.hid ok.sl
  have SSD := Lib.hid (show (Tryz.prog.info? 38).map (·.size) = some (s.seed.map (Value.int .u8)).length by rw [List.length_map, ok.sl]; exact size_hash)
  have HKS := Lib.hid hkst
  have HQ := Lib.hid (show IntKind.u64.wrap (s.at_ / 256) = s.at_ / 256 by rw [IntKind.wrap_u64]; omega)
  have HQD := Lib.hid (show s.at_.tdiv 256 = s.at_ / 256 from Int.tdiv_eq_ediv_of_nonneg a0)
  have HSS := Lib.hid hS
  have F0 : Fx [.blk g 145 (rdV s A c b h)] w := ⟨hg, trivial⟩
  obtain ⟨V, hV⟩ : ∃ V, rdV s A c b h = V := ⟨_, rfl⟩
  rw [hV] at F0 HPUT LR
  have HF0 := Lib.hid F0
  obtain ⟨at_, hat⟩ : ∃ a, s.at_ = a := ⟨_, rfl⟩
  have HAT := Lib.hid hat
  have a2 := a0
  rw [hat] at a2 c36a E1
  have AA := Lib.hid a0
  clear hS hj hx hoc hg hbk hk hat e1 hRl hRi ok hR hV F0 hkst a0 a1
  have hn2 : h = false ∨ (h = true ∧ (at_ % 256 == 0) = true) := by
    rcases hn with h1 | h1
    · exact .inl h1
    · cases h
      · exact .inl rfl
      · exact .inr ⟨rfl, by rw [beq_iff_eq, ← HAT.out]; exact h1⟩
  clear hn
  have a3 : at_ < 18446744073709551616 := by rw [← HAT.out]; exact OKA1
  rcases hn2 with hh | ⟨hh, t1⟩
  all_goals
    rw [hh] at c69
    go_enter Tryz.func128, Tryz.ntmps128
    go_wp2
    have F0 := HF0.out.drew
    refine wp_region_held_drew (S := RdS g s A c) (by kernel_rfl) (HSS.out.drew) (fun hH => ?_)
    refine wpAnyH_letter #[false, false, false, false, false, false, false, false, false, false, false, false, false, false, false, false, false, false, false, false, false] (by kernel_rfl) (fun _ _ d _ _ h => by cases d <;> exact h) (fun QL HQ1 HQ2 => ?_)
    refine held_v 0 (some 36) rfl (by kernel_rfl) (by kernel_rfl) (by kernel_rfl) (by kernel_rfl) (fun c a v w h => HQ2.out c a _ v w h) (by kernel_rfl) (.pointer (some ⟨g, 0, none⟩)) (fun W h => by kernel_rfl) hH ?_
    try simp only [Act.put, List.setIfInBounds_toArray, List.set_cons_zero, List.set_cons_succ]
    refine held_v 1 (some 37) rfl (by kernel_rfl) (by kernel_rfl) (by kernel_rfl) (by kernel_rfl) (fun c a v w h => HQ2.out c a _ v w h) (by kernel_rfl) (.pointer (some ⟨g, 0, none⟩)) (fun W h => by kernel_rfl) hH ?_
    try simp only [Act.put, List.setIfInBounds_toArray, List.set_cons_zero, List.set_cons_succ]
    refine held_v 2 (some 38) rfl (by kernel_rfl) (by kernel_rfl) (by kernel_rfl) (by kernel_rfl) (fun c a v w h => HQ2.out c a _ v w h) (by kernel_rfl) (.pointer (some ⟨g, 0, none⟩)) (fun W h => by go_simp) hH ?_
    try simp only [Act.put, List.setIfInBounds_toArray, List.set_cons_zero, List.set_cons_succ]
    refine held_v 3 (some 39) rfl (by kernel_rfl) (by kernel_rfl) (by kernel_rfl) (by kernel_rfl) (fun c a v w h => HQ2.out c a _ v w h) (by kernel_rfl) (.pointer (some ⟨g, 0, none⟩)) (fun W h => by kernel_rfl) hH ?_
    try simp only [Act.put, List.setIfInBounds_toArray, List.set_cons_zero, List.set_cons_succ]
    refine held_v 4 (some 40) rfl (by kernel_rfl) (by kernel_rfl) (by kernel_rfl) (by kernel_rfl) (fun c a v w h => HQ2.out c a _ v w h) (by kernel_rfl) (.pointer (some ⟨g, 3, none⟩)) (fun W h => by kernel_rfl) hH ?_
    try simp only [Act.put, List.setIfInBounds_toArray, List.set_cons_zero, List.set_cons_succ]
    refine held_load_at 5 (some 41) rfl (by kernel_rfl) (by kernel_rfl) (by kernel_rfl) (by kernel_rfl) (fun c a v w h => HQ2.out c a _ v w h) (by kernel_rfl) 38 (.tmp 40) rfl g 3 (by kernel_rfl) (s.seed.map (Value.int .u8)) (fun W h => h.seed) _ Tryz.underlying38 rfl SSD.out hH ?_
    try simp only [Act.put, List.setIfInBounds_toArray, List.set_cons_zero, List.set_cons_succ]
    refine held_v 6 (some 42) rfl (by kernel_rfl) (by kernel_rfl) (by kernel_rfl) (by kernel_rfl) (fun c a v w h => HQ2.out c a _ v w h) (by kernel_rfl) (.pointer (some ⟨g, 0, none⟩)) (fun W h => by kernel_rfl) hH ?_
    try simp only [Act.put, List.setIfInBounds_toArray, List.set_cons_zero, List.set_cons_succ]
    refine held_v 7 (some 43) rfl (by kernel_rfl) (by kernel_rfl) (by kernel_rfl) (by kernel_rfl) (fun c a v w h => HQ2.out c a _ v w h) (by kernel_rfl) (.pointer (some ⟨g, 0, none⟩)) (fun W h => by go_simp) hH ?_
    try simp only [Act.put, List.setIfInBounds_toArray, List.set_cons_zero, List.set_cons_succ]
    refine held_v 8 (some 44) rfl (by kernel_rfl) (by kernel_rfl) (by kernel_rfl) (by kernel_rfl) (fun c a v w h => HQ2.out c a _ v w h) (by kernel_rfl) (.pointer (some ⟨g, 0, none⟩)) (fun W h => by kernel_rfl) hH ?_
    try simp only [Act.put, List.setIfInBounds_toArray, List.set_cons_zero, List.set_cons_succ]
    refine held_v 9 (some 45) rfl (by kernel_rfl) (by kernel_rfl) (by kernel_rfl) (by kernel_rfl) (fun c a v w h => HQ2.out c a _ v w h) (by kernel_rfl) (.pointer (some ⟨g, 35, none⟩)) (fun W h => by kernel_rfl) hH ?_
    try simp only [Act.put, List.setIfInBounds_toArray, List.set_cons_zero, List.set_cons_succ]
    refine held_v 10 (some 46) rfl (by kernel_rfl) (by kernel_rfl) (by kernel_rfl) (by kernel_rfl) (fun c a v w h => HQ2.out c a _ v w h) (by kernel_rfl) (.int .u64 s.dom) (fun W h => by have p := h.dom HSL.out; go_simp) hH ?_
    try simp only [Act.put, List.setIfInBounds_toArray, List.set_cons_zero, List.set_cons_succ]
    refine held_v 11 (some 47) rfl (by kernel_rfl) (by kernel_rfl) (by kernel_rfl) (by kernel_rfl) (fun c a v w h => HQ2.out c a _ v w h) (by kernel_rfl) (.pointer (some ⟨g, 0, none⟩)) (fun W h => by kernel_rfl) hH ?_
    try simp only [Act.put, List.setIfInBounds_toArray, List.set_cons_zero, List.set_cons_succ]
    refine held_v 12 (some 48) rfl (by kernel_rfl) (by kernel_rfl) (by kernel_rfl) (by kernel_rfl) (fun c a v w h => HQ2.out c a _ v w h) (by kernel_rfl) (.pointer (some ⟨g, 0, none⟩)) (fun W h => by go_simp) hH ?_
    try simp only [Act.put, List.setIfInBounds_toArray, List.set_cons_zero, List.set_cons_succ]
    refine held_v 13 (some 49) rfl (by kernel_rfl) (by kernel_rfl) (by kernel_rfl) (by kernel_rfl) (fun c a v w h => HQ2.out c a _ v w h) (by kernel_rfl) (.pointer (some ⟨g, 0, none⟩)) (fun W h => by kernel_rfl) hH ?_
    try simp only [Act.put, List.setIfInBounds_toArray, List.set_cons_zero, List.set_cons_succ]
    refine held_v 14 (some 50) rfl (by kernel_rfl) (by kernel_rfl) (by kernel_rfl) (by kernel_rfl) (fun c a v w h => HQ2.out c a _ v w h) (by kernel_rfl) (.pointer (some ⟨g, 36, none⟩)) (fun W h => by kernel_rfl) hH ?_
    try simp only [Act.put, List.setIfInBounds_toArray, List.set_cons_zero, List.set_cons_succ]
    refine held_v 15 (some 51) rfl (by kernel_rfl) (by kernel_rfl) (by kernel_rfl) (by kernel_rfl) (fun c a v w h => HQ2.out c a _ v w h) (by kernel_rfl) (.int .u64 s.at_) (fun W h => by have p := h.at_ HSL.out; go_simp) hH ?_
    try simp only [Act.put, List.setIfInBounds_toArray, List.set_cons_zero, List.set_cons_succ]
    refine held_v 16 (some 52) rfl (by kernel_rfl) (by kernel_rfl) (by kernel_rfl) (by kernel_rfl) (fun c a v w h => HQ2.out c a _ v w h) (by kernel_rfl) (.int .u64 (s.at_ / 256)) (fun W h => by have p := HQ.out; have p2 := HQD.out; go_simp) hH ?_
    try simp only [Act.put, List.setIfInBounds_toArray, List.set_cons_zero, List.set_cons_succ]
    refine wpAnyH_ready (rs := [17]) (by kernel_rfl) (by decide) ?_
    refine AllReadyH.cons rfl (fun K hK => ?_) AllReadyH.nil
    refine step_call (some 53) (by kernel_rfl) (by kernel_rfl) _ _ (by kernel_rfl) _ (HBLK.out _ (HKS.out.below (Below.refl _ _).drew)) ?_
    rintro e w41 ⟨rfl, hbw41⟩
    have ex42 := F0.below hbw41
    refine ⟨_, rfl, ?_⟩
    refine hK.out _ _ (hH.below hbw41) (fun hw41 => ?_)
    clear hK K
    try simp only [Act.put, List.setIfInBounds_toArray, List.set_cons_zero, List.set_cons_succ]
    refine held_v 18 (some 54) rfl (by kernel_rfl) (by kernel_rfl) (by kernel_rfl) (by kernel_rfl) (fun c a v w h => HQ2.out c a _ v w h) (by kernel_rfl) (.pointer (some ⟨g, 0, none⟩)) (fun W h => by go_simp) hw41 ?_
    try simp only [Act.put, List.setIfInBounds_toArray, List.set_cons_zero, List.set_cons_succ]
    refine held_v 19 (some 55) rfl (by kernel_rfl) (by kernel_rfl) (by kernel_rfl) (by kernel_rfl) (fun c a v w h => HQ2.out c a _ v w h) (by kernel_rfl) (.pointer (some ⟨g, 37, none⟩)) (fun W h => by kernel_rfl) hw41 ?_
    try simp only [Act.put, List.setIfInBounds_toArray, List.set_cons_zero, List.set_cons_succ]
    refine wpAnyH_ready (rs := [20]) (by kernel_rfl) (by decide) ?_
    refine AllReadyH.cons rfl (fun K hK => ?_) AllReadyH.nil
    refine step_store_off none (by kernel_rfl) (by kernel_rfl) 38 (.tmp 55) (.tmp 53) rfl g 37 (by kernel_rfl) 145 V (intsA .u8 R) ex42.1 (by kernel_rfl) LR.out SR.out OR.out ?_
    intro w43 hkw43 how43
    have HKN : Hid (Blk w43 g 145 (rdV s A c R h)) := Lib.hid (by have hh := hkw43.out; rw [HPUT.out] at hh; exact hh)
    have HON : Hid (Only g w w43) := Lib.hid ((Only.of_below (w := w.drew) hbw41).of_drew.trans how43)
    refine hK.out _ _ (⟨R, h, HKN.out, HRL.out⟩) (fun hw43 => ?_)
    clear hK K
    try simp only [Act.put, List.setIfInBounds_toArray, List.set_cons_zero, List.set_cons_succ]
    refine wpAnyH_done (by kernel_rfl) ?_ _
    refine HQ1.out _ _ ?_
    clear HQ1 HQ2
    clear c69 c36a
    go_wp2_with (with_reducible refine at_any ?_; refine at_store 58 rfl ?_; refine wpList_store_cell rfl 4 (.tmp 58) (.const (.bool true)) rfl g 69 rfl 145 (rdV s A c R h) HKN.out (.bool true) rfl L69.out size_bool rfl rfl ?_; intro w9 hk9 ho9)
    have KV := Lib.hid (show Blk w9 g 145 (rdV s A c R true) by have hh := hk9.out; rw [HSET.out] at hh; exact hh)
    have KO := Lib.hid (HON.out.trans ho9)
    have a0 := a2
    have c36 := (C36.out _ _ KV.out).trans (by rw [HAT.out])
    have cj := CJ.out _ _ KV.out
    have q0 : ((j : Nat) : Int) < 32 := by omega
    have e2 : IntKind.u64.wrap ((at_.tmod 256).tdiv 8) = (j : Int) := by rw [Int.tmod_eq_emod_of_nonneg a0, Int.tdiv_eq_ediv_of_nonneg (by omega), E1.out, IntKind.wrap_u64]; omega
    go_quiet (fail)
    go_wp2
    go_ret
    exact HEND.out _ _ KV.out KO.out _
end
section
open Go.ChangeShapes Go.WideShapes Go.ChangeAt Go.RowKit
theorem Only.of_drew_l {g : Nat} {w w' : World} (h : Only g w.drew w') : Only g w w' := h.of_drew
theorem qoctet_c (g : Nat) (s : Src) (A : Option Addr) (c : Nat) (b : List Int) (h : Bool) (ok : s.Ok) (hk : s.kind = 2 ∨ s.kind = 1 ∧ s.at_ < 8 * (s.tape.length : Int)) (hbk : BkA s b h) (w : World) (hg : Blk w g 145 (rdV s A c b h)) (hrd : Rd .u8 w w.heap.size A s.tape.length s.tape) (hkst : Kst w) :
    Calls Tryz.prog 128 #[.pointer (some ⟨g, 0, none⟩)] w (RetOct w g s A c) := by
  rcases hk with hk | ⟨hk, hlt⟩
  · by_cases hn : h = false ∨ s.at_ % 256 = 0
    · exact qoct2_c g s A c b h ok hk hn hbk w hg hkst
    · have h1 : h = true := by
        cases h
        · exact absurd (.inl rfl) hn
        · rfl
      subst h1
      exact qoct3_c g s A c b ok hk (fun h => hn (.inr h)) hbk w hg
  · exact qoct1_c g s A c b h ok hk hlt hbk w hg hrd
theorem octS_in (s : Src) (ok : s.Ok) : 0 ≤ octS s ∧ octS s < 256 := by
  unfold octS
  split
  · exact bytN_in s.seed s.dom (s.at_ / 256) _
  · rw [List.getD_eq_getElem?_getD]
    rcases h : s.tape[(s.at_ / 8).toNat]? with _ | z
    · simp
    · exact ok.ti z (List.mem_of_getElem? h)
set_option maxHeartbeats 4000000 in
theorem qbitr_c (g : Nat) (s : Src) (A : Option Addr) (c : Nat) (b : List Int) (h : Bool) (ok : s.Ok) (hk : s.kind = 2 ∨ s.kind = 1 ∧ s.at_ < 8 * (s.tape.length : Int)) (hnx : s.at_ + 1 < 18446744073709551616) (hbk : BkA s b h) (w : World) (hg : Blk w g 145 (rdV s A c b h)) (hrd : Rd .u8 w w.heap.size A s.tape.length s.tape) (hkst : Kst w) :
    Calls Tryz.prog 115 #[.pointer (some ⟨g, 0, none⟩)] w (RetNum w g (bitS s s.at_) (s.to (s.at_ + 1)) A c) := by
  have HOC := Lib.hid (fun W g1 g2 g3 => qoctet_c g s A c b h ok hk hbk W g1 g2 g3)
  have hx := octS_in s ok
  have hbit := bitS_oct s
  have a0 := ok.a0
  have a1 := ok.a1
  have HG0 := Lib.hid (blk_drewN hg 1)
  have HRD0 := Lib.hid (hrd.below (w' := w.drew) (Below.refl _ _).drew)
  have HKS0 := Lib.hid (hkst.below (Below.refl _ _).drew)
  have HSS : Hid (RdS g s A c w) := Lib.hid ⟨b, h, hg, hbk.1⟩
  obtain ⟨q, hq⟩ : ∃ q, (7 - s.at_ % 8).toNat = q := ⟨_, rfl⟩
  have e2 : 7 - s.at_ % 8 = (q : Int) := by omega
  have hq7 : q ≤ 7 := by omega
  rw [hq] at hbit
  obtain ⟨x, hxe⟩ : ∃ x, octS s = x := ⟨_, rfl⟩
  rw [hxe] at hx hbit
  have p0 := Wd.pow_pos2 q
  have y0 : 0 ≤ x / 2 ^ q := Int.ediv_nonneg hx.1 (by omega)
  have y1 : x / 2 ^ q < 256 := by have := Int.ediv_le_self (2 ^ q) hx.1; omega
  have HQM := Lib.hid (show min q 8 = q by omega)
  have HOX : Hid (octS s = x) := Lib.hid hxe
  have hYE : ∃ y, x / 2 ^ q = y := ⟨_, rfl⟩
  obtain ⟨y, hy⟩ := hYE
  rw [hy] at y0 y1 hbit
  have HM3 := Lib.hid (show octS s / 2 ^ q = y by rw [HOX.out, hy])
  have HM5 := Lib.hid (and_one y y0 y1)
  have HM4 := Lib.hid (show IntKind.u64.wrap y = y by rw [IntKind.wrap_u64]; omega)
  have HSL := Lib.hid ok.sl
  have HXE : Hid (∀ e W, RetOct w g s A c e W → RetOct w g s A c e W) := Lib.hid fun _ _ h => h
  obtain ⟨at_, hat⟩ : ∃ a, s.at_ = a := ⟨_, rfl⟩
  have HAT := Lib.hid hat
  rw [hat] at a0 a1 e2 hnx
  have HM1 := Lib.hid (show at_.tmod 8 = at_ % 8 from Int.tmod_eq_emod_of_nonneg a0)
  have HM2 := Lib.hid (show IntKind.u64.wrap (q : Int) = (q : Int) by rw [IntKind.wrap_u64]; omega)
  have HEND : Hid (∀ b2 h2 W, BkB s b2 → Blk W g 145 (rdV (s.to (at_ + 1)) A c b2 h2) → Only g w W → RetNum w g (bitS s s.at_) (s.to (s.at_ + 1)) A c (.returned (.int .u64 (y % 2))) W) := Lib.hid fun b2 h2 W hB hK hO => ⟨b2, h2, by rw [hbit], by rw [hat]; exact hK, hB.next, hO⟩
  have HST := Lib.hid (fun b2 h2 => rdV_set36 s ok.sl A c b2 h2 (at_ + 1))
  have HSZ := Lib.hid (fun b2 (hb : b2.length = 32) h2 => rdV_size s ok.sl A c b2 hb h2)
  have HC36 := Lib.hid (fun b2 h2 => rdV_at s ok.sl A c b2 h2)
  rw [hat] at HC36
  have HNX := Lib.hid (show IntKind.u64.wrap (at_ + 1) = at_ + 1 by rw [IntKind.wrap_u64]; omega)
  clear hq hxe hy hat hg hrd hkst hbk hbit ok hk p0
  go_enter Tryz.func115, Tryz.ntmps115
  go_wp2
  refine wp_region_held_drew (S := RdS g s A c) (by kernel_rfl) (HSS.out.drew) (fun hH => ?_)
  refine wpAnyH_letter #[false, false, false, false, false, false, false, false, false, false, false, false, false] (by kernel_rfl) (fun _ _ d _ _ h => by cases d <;> exact h) (fun QL HQ1 HQ2 => ?_)
  refine held_v 0 (some 4) rfl (by kernel_rfl) (by kernel_rfl) (by kernel_rfl) (by kernel_rfl) (fun c a v w h => HQ2.out c a _ v w h) (by kernel_rfl) (.pointer (some ⟨g, 0, none⟩)) (fun W h => by kernel_rfl) hH ?_
  try simp only [Act.put, List.setIfInBounds_toArray, List.set_cons_zero, List.set_cons_succ]
  refine held_v 2 (some 6) rfl (by kernel_rfl) (by kernel_rfl) (by kernel_rfl) (by kernel_rfl) (fun c a v w h => HQ2.out c a _ v w h) (by kernel_rfl) (.pointer (some ⟨g, 0, none⟩)) (fun W h => by kernel_rfl) hH ?_
  try simp only [Act.put, List.setIfInBounds_toArray, List.set_cons_zero, List.set_cons_succ]
  refine held_v 3 (some 7) rfl (by kernel_rfl) (by kernel_rfl) (by kernel_rfl) (by kernel_rfl) (fun c a v w h => HQ2.out c a _ v w h) (by kernel_rfl) (.pointer (some ⟨g, 0, none⟩)) (fun W h => by go_simp) hH ?_
  try simp only [Act.put, List.setIfInBounds_toArray, List.set_cons_zero, List.set_cons_succ]
  refine held_v 4 (some 8) rfl (by kernel_rfl) (by kernel_rfl) (by kernel_rfl) (by kernel_rfl) (fun c a v w h => HQ2.out c a _ v w h) (by kernel_rfl) (.pointer (some ⟨g, 0, none⟩)) (fun W h => by kernel_rfl) hH ?_
  try simp only [Act.put, List.setIfInBounds_toArray, List.set_cons_zero, List.set_cons_succ]
  refine held_v 5 (some 9) rfl (by kernel_rfl) (by kernel_rfl) (by kernel_rfl) (by kernel_rfl) (fun c a v w h => HQ2.out c a _ v w h) (by kernel_rfl) (.pointer (some ⟨g, 36, none⟩)) (fun W h => by kernel_rfl) hH ?_
  try simp only [Act.put, List.setIfInBounds_toArray, List.set_cons_zero, List.set_cons_succ]
  refine held_v 6 (some 10) rfl (by kernel_rfl) (by kernel_rfl) (by kernel_rfl) (by kernel_rfl) (fun c a v w h => HQ2.out c a _ v w h) (by kernel_rfl) (.int .u64 at_) (fun W h => by have p := h.at_ HSL.out; rw [HAT.out] at p; go_simp) hH ?_
  try simp only [Act.put, List.setIfInBounds_toArray, List.set_cons_zero, List.set_cons_succ]
  refine held_v 7 (some 11) rfl (by kernel_rfl) (by kernel_rfl) (by kernel_rfl) (by kernel_rfl) (fun c a v w h => HQ2.out c a _ v w h) (by kernel_rfl) (.int .u64 (at_ % 8)) (fun W h => by have p := HM1.out; go_simp) hH ?_
  try simp only [Act.put, List.setIfInBounds_toArray, List.set_cons_zero, List.set_cons_succ]
  refine held_v 8 (some 12) rfl (by kernel_rfl) (by kernel_rfl) (by kernel_rfl) (by kernel_rfl) (fun c a v w h => HQ2.out c a _ v w h) (by kernel_rfl) (.int .u64 q) (fun W h => by have p := HM2.out; go_simp) hH ?_
  try simp only [Act.put, List.setIfInBounds_toArray, List.set_cons_zero, List.set_cons_succ]
  refine wpAnyH_ready (rs := [1]) (by kernel_rfl) (by decide) ?_
  refine AllReadyH.cons rfl (fun K hK => ?_) AllReadyH.nil
  refine step_call (some 5) (by kernel_rfl) (by kernel_rfl) _ _ (by kernel_rfl) _ (HOC.out w.drew HG0.out HRD0.out HKS0.out) ?_
  rintro e w41 ⟨b2, h2, rfl, hk2, hbk2, ho2⟩
  have HK2 := Lib.hid hk2
  have HB2 := Lib.hid hbk2
  have HO2 : Hid (Only g w w41) := Lib.hid ho2.of_drew_l
  clear hk2 hbk2 ho2
  refine ⟨_, rfl, ?_⟩
  refine hK.out _ _ (⟨b2, h2, HK2.out, HB2.out.1⟩) (fun hw41 => ?_)
  clear hK K
  try simp only [Act.put, List.setIfInBounds_toArray, List.set_cons_zero, List.set_cons_succ]
  refine held_v 9 (some 13) rfl (by kernel_rfl) (by kernel_rfl) (by kernel_rfl) (by kernel_rfl) (fun c a v w h => HQ2.out c a _ v w h) (by kernel_rfl) (.int .u8 y) (fun W h => by have p := HM3.out; go_simp) hw41 ?_
  try simp only [Act.put, List.setIfInBounds_toArray, List.set_cons_zero, List.set_cons_succ]
  refine held_v 10 (some 14) rfl (by kernel_rfl) (by kernel_rfl) (by kernel_rfl) (by kernel_rfl) (fun c a v w h => HQ2.out c a _ v w h) (by kernel_rfl) (.int .u64 y) (fun W h => by have p := HM4.out; go_simp) hw41 ?_
  try simp only [Act.put, List.setIfInBounds_toArray, List.set_cons_zero, List.set_cons_succ]
  refine held_v 11 (some 15) rfl (by kernel_rfl) (by kernel_rfl) (by kernel_rfl) (by kernel_rfl) (fun c a v w h => HQ2.out c a _ v w h) (by kernel_rfl) (.int .u64 (y % 2)) (fun W h => by have p := HM5.out; go_simp) hw41 ?_
  try simp only [Act.put, List.setIfInBounds_toArray, List.set_cons_zero, List.set_cons_succ]
  refine held_v 12 (some 3) rfl (by kernel_rfl) (by kernel_rfl) (by kernel_rfl) (by kernel_rfl) (fun c a v w h => HQ2.out c a _ v w h) (by kernel_rfl) (.int .u64 (y % 2)) (fun W h => by kernel_rfl) hw41 ?_
  try simp only [Act.put, List.setIfInBounds_toArray, List.set_cons_zero, List.set_cons_succ]
  refine wpAnyH_done (by kernel_rfl) ?_ _
  refine HQ1.out _ _ ?_
  clear HQ1 HQ2
  have KV := Lib.hid HK2.out
  have L36 := Lib.hid (show 36 < (rdV s A c b2 h2).size by rw [HSZ.out _ HB2.out.1]; omega)
  have c36 := (HK2.out.cell 36).trans (HC36.out b2 h2)
  go_wp2_with (with_reducible refine at_any ?_; refine at_store 24 rfl ?_; refine wpList_store_cell rfl 24 (.tmp 24) (.tmp 21) rfl g 36 rfl 145 _ KV.out (.int .u64 (at_ + 1)) rfl L36.out size_u64s rfl rfl ?_; intro w9 hk9 ho9; have K9 := Lib.hid hk9.out; rw [HST.out] at K9; have O9 := Lib.hid (HO2.out.trans ho9); clear hk9 ho9)
  go_ret
  exact HEND.out _ _ _ HB2.out K9.out O9.out
def NumI (w : World) (g : Nat) (s : Src) (A : Option Addr) (c : Nat) (w' : World) : Prop := ∃ b h, Blk w' g 145 (rdV s A c b h) ∧ BkA s b h ∧ Only g w w'
theorem or_one (x b : Int) (x0 : 0 ≤ x) (x1 : x < 9223372036854775808) (b0 : 0 ≤ b) (b1 : b < 2) : bits .or .u64 (x * 2) b = 2 * x + b := by
  have h := Wd.u64_or_add x b 1 x0 b0 (by omega) (by omega)
  rw [show (2 : Int) ^ 1 = 2 from rfl] at h
  rw [h]
  omega
set_option maxHeartbeats 4000000 in
theorem qnumr_c (w0 : World) (g : Nat) (s : Src) (A : Option Addr) (c : Nat) (b : List Int) (h : Bool) (ok : s.Ok) (K : Nat) (hK : K ≤ 64) (hk : s.kind = 2 ∨ s.kind = 1 ∧ s.at_ + (K : Int) ≤ 8 * (s.tape.length : Int)) (hnx : s.at_ + (K : Int) < 18446744073709551616) (hbk : BkA s b h) (w : World) (hg : Blk w g 145 (rdV s A c b h)) (hrd : Rd .u8 w0 w0.heap.size A s.tape.length s.tape) (hkst : Kst w0) (hbl : Below w0.heap.size w0 w) (hg0 : w0.heap.size ≤ g) :
    Calls Tryz.prog 96 #[.pointer (some ⟨g, 0, none⟩), .int .i64 K] w (RetNum w g (numS s s.at_ K) (s.to (s.at_ + K)) A c) := by
  have a0 := ok.a0
  have HBT : Hid (∀ (i : Nat), i < K → ∀ W, NumI w g (s.to (s.at_ + i)) A c W → Calls Tryz.prog 115 #[.pointer (some ⟨g, 0, none⟩)] W fun e w' => e = .returned (.int .u64 (bitS s (s.at_ + i))) ∧ NumI w g (s.to (s.at_ + ((i + 1 : Nat) : Int))) A c w') := Lib.hid fun i hi W hI => by
    obtain ⟨b2, h2, hK2, hB2, hO2⟩ := hI
    have hbl2 : Below w0.heap.size w0 W := hbl.trans (hO2.below hg0 hbl.size)
    have hc := qbitr_c g (s.to (s.at_ + i)) A c b2 h2 (ok.to_ _ (by omega) (by omega)) (by
      rcases hk with h3 | ⟨h3, h4⟩
      · exact .inl h3
      · exact .inr ⟨h3, show s.at_ + (i : Int) < 8 * (s.tape.length : Int) by omega⟩) (show s.at_ + (i : Int) + 1 < 18446744073709551616 by omega) hB2 W hK2 ((hrd.below hbl2).mono hbl2.size) (hkst.below hbl2)
    refine hc.mono ?_
    rintro e w' ⟨b3, h3, he, hk3, hb3, ho3⟩
    refine ⟨he, b3, h3, ?_, ?_, hO2.trans ho3⟩
    · rw [show s.at_ + ((i + 1 : Nat) : Int) = (s.to (s.at_ + i)).at_ + 1 from (show s.at_ + ((i + 1 : Nat) : Int) = s.at_ + (i : Int) + 1 by omega)]
      exact hk3
    · rw [show s.at_ + ((i + 1 : Nat) : Int) = (s.to (s.at_ + i)).at_ + 1 from (show s.at_ + ((i + 1 : Nat) : Int) = s.at_ + (i : Int) + 1 by omega)]
      exact hb3
  have HI0 : NumI w g (s.to (s.at_ + ((0 : Nat) : Int))) A c w := by
    rw [Int.natCast_zero, Int.add_zero]
    exact ⟨b, h, hg, hbk, Only.refl g w⟩
  have HI := Lib.hid HI0
  have HEND : Hid (∀ W, NumI w g (s.to (s.at_ + K)) A c W → RetNum w g (numS s s.at_ K) (s.to (s.at_ + K)) A c (.returned (.int .u64 (numS s s.at_ K))) W) := Lib.hid fun W ⟨b2, h2, h3, h4, h5⟩ => ⟨b2, h2, rfl, h3, h4, h5⟩
  have HIN := Lib.hid (fun i => numS_in s s.at_ i)
  have HNX := Lib.hid (fun i => numS_succ s s.at_ i)
  have HPW := Lib.hid (fun (i : Nat) (h : i ≤ 63) => pow2_le i h)
  clear HI0 hg hrd hkst hbl hg0 hbk hk hnx ok a0
  go_enter Tryz.func96, Tryz.ntmps96
  go_wp2
  go_loopw [5, 7] (fun v cc wr => ∃ i : Nat, i ≤ K ∧ v = .int .u64 (numS s s.at_ i) ∧ cc = .int .i64 i ∧ NumI w g (s.to (s.at_ + i)) A c wr) (fun _ cc _ => K - (intOf cc).toNat)
  case atStart => exact ⟨0, by omega, rfl, rfl, HI.out⟩
  case round =>
    clear HI
    obtain ⟨i, hi, rfl, rfl, hF⟩ := hrel
    by_cases hlt : i < K
    · obtain ⟨x0, x1⟩ := HIN.out i
      have hnx := HNX.out i
      have hpw := HPW.out i (by omega)
      obtain ⟨b0, b1⟩ := bitS_in s (s.at_ + i)
      have HB := Lib.hid (fun W => HBT.out i hlt W)
      have HF := Lib.hid hF
      obtain ⟨X, hX⟩ : ∃ x, numS s s.at_ i = x := ⟨_, rfl⟩
      obtain ⟨b, hb⟩ : ∃ x, bitS s (s.at_ + i) = x := ⟨_, rfl⟩
      rw [hX, hb] at hnx
      rw [hX] at x0 x1
      rw [hb] at b0 b1 HB
      rw [hX]
      have HNXi := Lib.hid hnx
      have hxb : X < 9223372036854775808 := by omega
      have HOR := Lib.hid (or_one X b x0 hxb b0 b1)
      have e4 : IntKind.u64.wrap (2 * X) = 2 * X := by rw [IntKind.wrap_u64]; omega
      clear hnx hX hb hF hpw HBT
      go_wp2_with (go_at_call 115; (with_reducible refine (HB.out _ HF.out).mono ?_); rintro e w5 ⟨rfl, hI5⟩; have HI5 := Lib.hid hI5; clear hI5)
      go_roundw
      case rel => exact ⟨i + 1, by omega, by rw [HNXi.out, HOR.out], by go_num, HI5.out⟩
      case measure => simp [intOf]; omega
    · obtain rfl : i = K := by omega
      have HF := Lib.hid hF
      clear hF HIN HNX HPW HBT
      go_wp2
      go_ret
      exact HEND.out _ HF.out
end
section
open Go.ChangeShapes Go.WideShapes Go.ChangeAt Go.RowKit
theorem qhas_c (L : Nat) (b : Int) (tl : L ≤ 140737488355328) (A : Option Addr) (c : Nat) (w : World) : Calls Tryz.prog 75 #[.slice A L c, .int .u64 b] w fun e w' => e = .returned (.bool (decide (b ≤ 8 * (L : Int)))) ∧ w = w' := by
  have e1 : IntKind.u64.wrap ((L : Int) * 8) = L * 8 := by rw [IntKind.wrap_u64]; omega
  rw [Int.mul_comm 8]
  by_cases h1 : b ≤ (L : Int) * 8
  all_goals
    first | rw [decide_eq_true h1] | rw [decide_eq_false h1]
    go_enter Tryz.func75, Tryz.ntmps75
    go_wp2
    go_ret
    exact ⟨rfl, rfl⟩
set_option maxHeartbeats 4000000 in
theorem qsright_c (s : Src) (ok : s.Ok) (A : Option Addr) (c : Nat) (w : World) : Calls Tryz.prog 67 #[.agg (srcV s A c)] w fun e w' => e = .returned (.bool (rightS s)) ∧ Below w.heap.size w w' := by
  have HC := Lib.hid (fun (W : World) (g : Nat) (h : Blk W g 40 (srcV s A c)) => And.intro ((h.cell 0).trans (srcV_kind s A c)) (And.intro ((h.cell 1).trans (srcV_tape s A c)) (And.intro ((h.cell 2).trans (srcV_bits s A c)) ((h.cell 36).trans (srcV_at s ok.sl A c)))))
  have k0 := ok.k0
  have k1 := ok.k1
  have tl := ok.tl
  have b0 := ok.b0
  have b1 := ok.b1
  have a0 := ok.a0
  have a1 := ok.a1
  have hR : rightS s = if s.kind = 1 then decide (s.bits ≤ 8 * (s.tape.length : Int)) && decide (s.at_ ≤ s.bits) else decide (s.kind = 2) && decide (s.at_ ≤ 4611686018427387904) := rfl
  obtain ⟨V, hV⟩ : ∃ V, srcV s A c = V := ⟨_, rfl⟩
  obtain ⟨kd, hkd⟩ : ∃ x, s.kind = x := ⟨_, rfl⟩
  obtain ⟨L, hL⟩ : ∃ x, s.tape.length = x := ⟨_, rfl⟩
  obtain ⟨bt, hbt⟩ : ∃ x, s.bits = x := ⟨_, rfl⟩
  obtain ⟨at_, hat⟩ : ∃ x, s.at_ = x := ⟨_, rfl⟩
  rw [hV, hkd, hL, hbt, hat] at HC
  rw [hkd, hL, hbt, hat] at hR
  rw [hkd] at k0 k1
  rw [hL] at tl
  rw [hbt] at b0 b1
  rw [hat] at a0 a1
  rw [hV, hR]
  clear hV hkd hL hbt hat hR ok
  have HH := Lib.hid (fun W => qhas_c L bt tl A c W)
  by_cases hk : kd = 1
  · rw [if_pos hk]
    subst hk
    by_cases h1 : bt ≤ 8 * (L : Int)
    all_goals
      first | rw [decide_eq_true h1] at HH ⊢ | rw [decide_eq_false h1] at HH ⊢
      first | rw [Bool.true_and] | rw [Bool.false_and]
      go_enter Tryz.func67, Tryz.ntmps67
      go_wp2_with (first
        | (with_reducible refine at_any ?_; refine at_dst 1 rfl ?_; refine wpList_box_any rfl 40 (.tmp 0) rfl V rfl ?_; intro w1 hk1 hs1 hb1; have c0 := (HC.out _ _ hk1.out).1; have c1 := (HC.out _ _ hk1.out).2.1; have c2 := (HC.out _ _ hk1.out).2.2.1; have c3 := (HC.out _ _ hk1.out).2.2.2)
        | (go_at_call 75; (with_reducible refine (HH.out _).mono ?_); rintro e _ ⟨rfl, rfl⟩))
      go_ret
      exact ⟨rfl, hb1⟩
  · rw [if_neg hk]
    have t1 : (kd == 1) = false := by rw [beq_eq_false_iff_ne]; exact hk
    by_cases h1 : kd = 2
    all_goals
      first | rw [decide_eq_true h1] | rw [decide_eq_false h1]
      first | rw [Bool.true_and] | rw [Bool.false_and]
      first | subst h1 | (have t2 : (kd == 2) = false := by rw [beq_eq_false_iff_ne]; exact h1)
      go_enter Tryz.func67, Tryz.ntmps67
      go_wp2_with (with_reducible refine at_any ?_; refine at_dst 1 rfl ?_; refine wpList_box_any rfl 40 (.tmp 0) rfl V rfl ?_; intro w1 hk1 hs1 hb1; have c0 := (HC.out _ _ hk1.out).1; have c1 := (HC.out _ _ hk1.out).2.1; have c2 := (HC.out _ _ hk1.out).2.2.1; have c3 := (HC.out _ _ hk1.out).2.2.2)
      go_ret
      exact ⟨rfl, hb1⟩
set_option maxHeartbeats 4000000 in
theorem qsleft_c (s : Src) (ok : s.Ok) (A : Option Addr) (c : Nat) (w : World) : Calls Tryz.prog 95 #[.agg (srcV s A c)] w fun e w' => e = .returned (.int .u64 (leftS s)) ∧ Below w.heap.size w w' := by
  have HC := Lib.hid (fun (W : World) (g : Nat) (h : Blk W g 40 (srcV s A c)) => And.intro ((h.cell 0).trans (srcV_kind s A c)) (And.intro ((h.cell 2).trans (srcV_bits s A c)) ((h.cell 36).trans (srcV_at s ok.sl A c))))
  have HRT := Lib.hid (fun W => qsright_c s ok A c W)
  have SV := Lib.hid (sizedS s ok.sl A c)
  have k0 := ok.k0
  have k1 := ok.k1
  have b0 := ok.b0
  have b1 := ok.b1
  have a0 := ok.a0
  have a1 := ok.a1
  have hl := left_le ok
  have hL : leftS s = if rightS s = true then (if s.kind = 1 then s.bits - s.at_ else 4611686018427387904 - s.at_) else 0 := rfl
  obtain ⟨V, hV⟩ : ∃ V, srcV s A c = V := ⟨_, rfl⟩
  obtain ⟨kd, hkd⟩ : ∃ x, s.kind = x := ⟨_, rfl⟩
  obtain ⟨bt, hbt⟩ : ∃ x, s.bits = x := ⟨_, rfl⟩
  obtain ⟨at_, hat⟩ : ∃ x, s.at_ = x := ⟨_, rfl⟩
  obtain ⟨r, hr⟩ : ∃ x, rightS s = x := ⟨_, rfl⟩
  rw [hV, hkd, hbt, hat] at HC
  rw [hV, hr] at HRT
  rw [hV] at SV
  rw [hkd, hbt, hat, hr] at hL
  rw [hkd] at k0 k1
  rw [hbt] at b0 b1
  rw [hat] at a0 a1
  rw [hV]
  rw [hL] at hl
  rw [hL]
  clear hV hkd hbt hat hr hL ok
  cases r
  · rw [if_neg (by decide)]
    go_enter Tryz.func95, Tryz.ntmps95
    go_wp2_with (first
      | (with_reducible refine at_any ?_; refine at_dst 1 rfl ?_; refine wpList_box_any rfl 40 (.tmp 0) rfl V rfl ?_; intro w1 hk1 hs1 hb1)
      | (with_reducible refine at_any ?_; refine at_dst 3 rfl ?_; refine wpList_load_blk rfl 40 (.tmp 1) rfl w.heap.size rfl 40 V hk1.out _ Tryz.underlying40 rfl SV.out ?_)
      | (go_at_call 67; (with_reducible refine (HRT.out _).mono ?_); rintro e w2 ⟨rfl, hb2⟩))
    go_ret
    exact ⟨rfl, hb1.trans (hb2.mono hb1.size)⟩
  · rw [if_pos rfl] at hl ⊢
    by_cases hk : kd = 1
    all_goals
      first | rw [if_pos hk] at hl ⊢ | rw [if_neg hk] at hl ⊢
      first | subst hk | (have t1 : (kd == 1) = false := by rw [beq_eq_false_iff_ne]; exact hk)
      first | (have e1 : IntKind.u64.wrap (bt - at_) = bt - at_ := by rw [IntKind.wrap_u64]; omega) | (have e2 : IntKind.u64.wrap (4611686018427387904 - at_) = 4611686018427387904 - at_ := by rw [IntKind.wrap_u64]; omega)
      go_enter Tryz.func95, Tryz.ntmps95
      go_wp2_with (first
        | (with_reducible refine at_any ?_; refine at_dst 1 rfl ?_; refine wpList_box_any rfl 40 (.tmp 0) rfl V rfl ?_; intro w1 hk1 hs1 hb1)
        | (with_reducible refine at_any ?_; refine at_dst 3 rfl ?_; refine wpList_load_blk rfl 40 (.tmp 1) rfl w.heap.size rfl 40 V hk1.out _ Tryz.underlying40 rfl SV.out ?_)
        | (go_at_call 67; (with_reducible refine (HRT.out _).mono ?_); rintro e w2 ⟨rfl, hb2⟩; have k2 := hk1.out.below hb2 hk1.out.lt; have c0 := (HC.out _ _ k2).1; have c2 := (HC.out _ _ k2).2.1; have c3 := (HC.out _ _ k2).2.2))
      go_ret
      exact ⟨rfl, hb1.trans (hb2.mono hb1.size)⟩
set_option maxHeartbeats 4000000 in
theorem qstake_c (s : Src) (ok : s.Ok) (k : Int) (k0 : -9223372036854775808 ≤ k) (k1 : k < 9223372036854775808) (A : Option Addr) (c : Nat) (hc : s.tape.length ≤ c) (hcm : c ≤ maxLen) (w : World) (hrd : Rd .u8 w w.heap.size A s.tape.length s.tape) (hkst : Kst w) : Calls Tryz.prog 69 #[.agg (srcV s A c), .int .i64 k] w (RetTake w s k A) := by
  have HRT := Lib.hid (fun W => qsright_c s ok A c W)
  have HLT := Lib.hid (fun W => qsleft_c s ok A c W)
  have hll := left_le ok
  have SV := Lib.hid (sizedS s ok.sl A c)
  have OV := Lib.hid (srcV_ones s A c)
  have ZV := Lib.hid (srcV_same Src.zero s rfl ok.sl none A 0 c)
  have HZ0 := Lib.hid zero_src
  obtain ⟨Z, hZ⟩ : ∃ Z, srcV Src.zero none 0 = Z := ⟨_, rfl⟩
  rw [hZ] at ZV HZ0
  have hRd := Lib.hid hrd
  have HKS := Lib.hid hkst
  by_cases hbad : ¬ (rightS s = true ∧ 0 ≤ k ∧ k ≤ 64)
  · have hE : takeE s k = 1 := by unfold takeE; rw [if_neg hbad]
    have HEND : Hid (∀ w', Below w.heap.size w w' → RetTake w s k A (.returned (.tuple #[.int .u64 0, .agg (srcV s A c), .int .i64 1])) w') := Lib.hid (fun w' hb => ⟨A, c, by unfold takeV takeS; rw [hE]; rfl, (hRd.out.below hb).mono hb.size, hc, hcm, .inl rfl, hb⟩)
    obtain ⟨V, hV⟩ : ∃ V, srcV s A c = V := ⟨_, rfl⟩
    rw [hV] at HRT HLT SV OV ZV HEND
    rw [hV]
    have hcase : (rightS s = false) ∨ (rightS s = true ∧ k < 0) ∨ (rightS s = true ∧ ¬ k < 0 ∧ 64 < k) := by
      cases h : rightS s
      · exact .inl rfl
      · refine .inr ?_
        by_cases h0 : k < 0
        · exact .inl ⟨rfl, h0⟩
        · exact .inr ⟨rfl, h0, Decidable.byContradiction fun h7 => hbad ⟨h, by omega, by omega⟩⟩
    clear hZ hV hE hbad hll hrd hkst
    rcases hcase with hr | ⟨hr, h0⟩ | ⟨hr, h0, h6⟩
    all_goals
      rw [hr] at HRT
      go_enter Tryz.func69, Tryz.ntmps69
      go_wp2_with (first
        | (with_reducible refine at_any ?_; refine at_dst 2 rfl ?_; refine wpList_box_any rfl 40 (.tmp 0) rfl V rfl ?_; intro w1 hk1 hs1 hb1)
        | (with_reducible refine at_any ?_; refine at_dst 5 rfl ?_; refine wpList_alloc_any rfl 40 rfl Z HZ0.out ?_; intro w2 hk2 hs2 hb2; have k2 := Lib.hid (hk1.out.below hb2 hk1.out.lt); have bl2 := Lib.hid (hb1.trans (hb2.mono hb1.size)))
        | (with_reducible refine at_any ?_; refine at_dst 9 rfl ?_; refine wpList_load_blk rfl 40 (.tmp 2) rfl w.heap.size rfl 40 V k2.out _ Tryz.underlying40 rfl SV.out ?_)
        | (go_at_call 67; (with_reducible refine (HRT.out _).mono ?_); rintro e wz ⟨rfl, hbz⟩))
      have HB2 : Src2 w w.heap.size w1.heap.size V Z wz := ⟨hk2.out.below hbz hk2.out.lt, k2.out.below hbz k2.out.lt, bl2.out.trans (hbz.mono bl2.out.size), trivial⟩
      have h25 : w.heap.size < w1.heap.size := by rw [hs1.out]; omega
      obtain ⟨g2, hg2⟩ : ∃ g, w.heap.size = g := ⟨_, rfl⟩
      obtain ⟨g5, hg5⟩ : ∃ g, w1.heap.size = g := ⟨_, rfl⟩
      have h02 : w.heap.size ≤ g2 := by omega
      rw [hg2, hg5] at HB2 h25
      rw [hg2, hg5]
      clear hg2 hg5 hk1 hs1 hb1 hk2 hs2 hb2 k2 bl2 hbz
      have hS := HB2.keep.drew
      have HZ5 := HB2.old.drew
      refine wp_region_held_drew (S := (Fx [.blk g2 40 V, .bel w])) (by kernel_rfl) hS (fun hH => ?_)
      refine wpAnyH_letter #[false, false, false, false] (by kernel_rfl) (fun _ _ d _ _ h => by cases d <;> exact h) (fun QL HQ1 HQ2 => ?_)
      refine held_row 0 (some 20) rfl (by kernel_rfl) (by kernel_rfl) (by kernel_rfl) (by kernel_rfl) (fun c a v w h => HQ2.out c a _ v w h) (by kernel_rfl) 40 (.tmp 2) rfl g2 (by kernel_rfl) 40 V (fun _ h => h.1) _ Tryz.underlying40 rfl SV.out hH ?_
      try simp only [Act.put, List.setIfInBounds_toArray, List.set_cons_zero, List.set_cons_succ]
      refine held_v 1 (some 4) rfl (by kernel_rfl) (by kernel_rfl) (by kernel_rfl) (by kernel_rfl) (fun c a v w h => HQ2.out c a _ v w h) (by kernel_rfl) (.int .u64 0) (fun W h => by kernel_rfl) hH ?_
      try simp only [Act.put, List.setIfInBounds_toArray, List.set_cons_zero, List.set_cons_succ]
      refine wpAnyH_ready (rs := [2]) (by kernel_rfl) (by decide) ?_
      refine AllReadyH.cons rfl (fun K hK => ?_) AllReadyH.nil
      refine step_store none (by kernel_rfl) (by kernel_rfl) 40 (.tmp 5) (.tmp 20) rfl g5 (by kernel_rfl) 40 Z V HZ5.1 (by kernel_rfl) ZV.out SV.out OV.out ?_
      intro w41 hkw41 hsw41 hbw41 how41
      have ex42 : Fx [.blk g5 40 V] w41 := ⟨hkw41.out, trivial⟩
      refine hK.out _ _ (hH.store HZ5.1 ⟨Nat.ne_of_lt h25, Nat.le_trans h02 (Nat.le_of_lt h25), trivial⟩ hsw41.out hbw41 how41) (fun hw41 => ?_)
      clear hK K
      try simp only [Act.put, List.setIfInBounds_toArray, List.set_cons_zero, List.set_cons_succ]
      refine held_v 3 (some 6) rfl (by kernel_rfl) (by kernel_rfl) (by kernel_rfl) (by kernel_rfl) (fun c a v w h => HQ2.out c a _ v w h) (by kernel_rfl) (.int .i64 1) (fun W h => by kernel_rfl) hw41 ?_
      try simp only [Act.put, List.setIfInBounds_toArray, List.set_cons_zero, List.set_cons_succ]
      refine wpAnyH_done (by kernel_rfl) ?_ _
      refine HQ1.out _ _ ?_
      clear HQ1 HQ2
      go_wp2_with (refine bodyPost_mid 4 5 6 40 rfl g5 rfl (.int .u64 0) (.int .i64 1) rfl rfl 40 V ex42.1 _ Tryz.underlying40 rfl SV.out rfl ?_)
      exact HEND.out _ hw41.2.1
  · have hgood : rightS s = true ∧ 0 ≤ k ∧ k ≤ 64 := Decidable.of_not_not hbad
    obtain ⟨hr, kk0, kk1⟩ := hgood
    have ng0 : ¬ k < 0 := by omega
    have ng1 : ¬ 64 < k := by omega
    rw [hr] at HRT
    obtain ⟨K, rfl⟩ := Int.eq_ofNat_of_zero_le kk0
    have e3 : IntKind.u64.wrap (K : Int) = K := by rw [IntKind.wrap_u64]; omega
    clear k0 k1
    obtain ⟨lf, hlf⟩ : ∃ x, leftS s = x := ⟨_, rfl⟩
    rw [hlf] at HLT hll
    by_cases hmore : lf < (K : Int)
    · have hE : takeE s (K : Int) = 8 := by unfold takeE; rw [if_pos ⟨hr, kk0, kk1⟩, hlf, if_neg (by omega)]
      have HEND : Hid (∀ w', Below w.heap.size w w' → RetTake w s (K : Int) A (.returned (.tuple #[.int .u64 0, .agg (srcV s A c), .int .i64 8])) w') := Lib.hid (fun w' hb => ⟨A, c, by unfold takeV takeS; rw [hE]; rfl, (hRd.out.below hb).mono hb.size, hc, hcm, .inl rfl, hb⟩)
      obtain ⟨V, hV⟩ : ∃ V, srcV s A c = V := ⟨_, rfl⟩
      rw [hV] at HRT HLT SV OV ZV HEND
      rw [hV]
      clear hZ hV hE hbad hrd hlf hkst
      go_enter Tryz.func69, Tryz.ntmps69
      go_wp2_with (first
        | (with_reducible refine at_any ?_; refine at_dst 2 rfl ?_; refine wpList_box_any rfl 40 (.tmp 0) rfl V rfl ?_; intro w1 hk1 hs1 hb1)
        | (with_reducible refine at_any ?_; refine at_dst 5 rfl ?_; refine wpList_alloc_any rfl 40 rfl Z HZ0.out ?_; intro w2 hk2 hs2 hb2; have k2 := Lib.hid (hk1.out.below hb2 hk1.out.lt); have bl2 := Lib.hid (hb1.trans (hb2.mono hb1.size)))
        | (with_reducible refine at_any ?_; refine at_dst 9 rfl ?_; refine wpList_load_blk rfl 40 (.tmp 2) rfl w.heap.size rfl 40 V k2.out _ Tryz.underlying40 rfl SV.out ?_)
        | (go_at_call 67; (with_reducible refine (HRT.out _).mono ?_); rintro e wy ⟨rfl, hby⟩; have k2y := Lib.hid (k2.out.below hby k2.out.lt); have bly := Lib.hid (bl2.out.trans (hby.mono bl2.out.size)))
        | (with_reducible refine at_any ?_; refine at_dst 23 rfl ?_; refine wpList_load_blk rfl 40 (.tmp 2) rfl w.heap.size rfl 40 V k2y.out _ Tryz.underlying40 rfl SV.out ?_)
        | (go_at_call 95; (with_reducible refine (HLT.out _).mono ?_); rintro e wz ⟨rfl, hbz⟩))
      have HB2 : Src2 w w.heap.size w1.heap.size V Z wz := ⟨(hk2.out.below hby hk2.out.lt).below hbz (hk2.out.below hby hk2.out.lt).lt, k2y.out.below hbz k2y.out.lt, bly.out.trans (hbz.mono bly.out.size), trivial⟩
      have h25 : w.heap.size < w1.heap.size := by rw [hs1.out]; omega
      obtain ⟨g2, hg2⟩ : ∃ g, w.heap.size = g := ⟨_, rfl⟩
      obtain ⟨g5, hg5⟩ : ∃ g, w1.heap.size = g := ⟨_, rfl⟩
      have h02 : w.heap.size ≤ g2 := by omega
      rw [hg2, hg5] at HB2 h25
      rw [hg2, hg5]
      clear hg2 hg5 hk1 hs1 hb1 hk2 hs2 hb2 k2 bl2 hbz hby k2y bly
      have hS := HB2.keep.drew
      have HZ5 := HB2.old.drew
      refine wp_region_held_drew (S := (Fx [.blk g2 40 V, .bel w])) (by kernel_rfl) hS (fun hH => ?_)
      refine wpAnyH_letter #[false, false, false, false] (by kernel_rfl) (fun _ _ d _ _ h => by cases d <;> exact h) (fun QL HQ1 HQ2 => ?_)
      refine held_row 0 (some 26) rfl (by kernel_rfl) (by kernel_rfl) (by kernel_rfl) (by kernel_rfl) (fun c a v w h => HQ2.out c a _ v w h) (by kernel_rfl) 40 (.tmp 2) rfl g2 (by kernel_rfl) 40 V (fun _ h => h.1) _ Tryz.underlying40 rfl SV.out hH ?_
      try simp only [Act.put, List.setIfInBounds_toArray, List.set_cons_zero, List.set_cons_succ]
      refine held_v 1 (some 4) rfl (by kernel_rfl) (by kernel_rfl) (by kernel_rfl) (by kernel_rfl) (fun c a v w h => HQ2.out c a _ v w h) (by kernel_rfl) (.int .u64 0) (fun W h => by kernel_rfl) hH ?_
      try simp only [Act.put, List.setIfInBounds_toArray, List.set_cons_zero, List.set_cons_succ]
      refine wpAnyH_ready (rs := [2]) (by kernel_rfl) (by decide) ?_
      refine AllReadyH.cons rfl (fun K hK => ?_) AllReadyH.nil
      refine step_store none (by kernel_rfl) (by kernel_rfl) 40 (.tmp 5) (.tmp 26) rfl g5 (by kernel_rfl) 40 Z V HZ5.1 (by kernel_rfl) ZV.out SV.out OV.out ?_
      intro w41 hkw41 hsw41 hbw41 how41
      have ex42 : Fx [.blk g5 40 V] w41 := ⟨hkw41.out, trivial⟩
      refine hK.out _ _ (hH.store HZ5.1 ⟨Nat.ne_of_lt h25, Nat.le_trans h02 (Nat.le_of_lt h25), trivial⟩ hsw41.out hbw41 how41) (fun hw41 => ?_)
      clear hK K
      try simp only [Act.put, List.setIfInBounds_toArray, List.set_cons_zero, List.set_cons_succ]
      refine held_v 3 (some 6) rfl (by kernel_rfl) (by kernel_rfl) (by kernel_rfl) (by kernel_rfl) (fun c a v w h => HQ2.out c a _ v w h) (by kernel_rfl) (.int .i64 8) (fun W h => by kernel_rfl) hw41 ?_
      try simp only [Act.put, List.setIfInBounds_toArray, List.set_cons_zero, List.set_cons_succ]
      refine wpAnyH_done (by kernel_rfl) ?_ _
      refine HQ1.out _ _ ?_
      clear HQ1 HQ2
      go_wp2_with (refine bodyPost_mid 4 5 6 40 rfl g5 rfl (.int .u64 0) (.int .i64 8) rfl rfl 40 V ex42.1 _ Tryz.underlying40 rfl SV.out rfl ?_)
      exact HEND.out _ hw41.2.1
    · have hle : (K : Int) ≤ lf := by omega
      have hE : takeE s (K : Int) = 0 := by unfold takeE; rw [if_pos ⟨hr, kk0, kk1⟩, hlf, if_pos hle]
      have hat : s.at_ + lf < 18446744073709551616 := by
        rcases rightS_end hr with h | h
        · rw [hlf] at h; exact h.1
        · exact absurd ok h
      have a0 := ok.a0
      have hnum : takeV s (K : Int) = numS s s.at_ K := by unfold takeV; rw [if_pos hE, Int.toNat_natCast]
      have hsrc : takeS s (K : Int) = s.to (s.at_ + K) := by unfold takeS; rw [if_pos hE]
      have hkd : s.kind = 2 ∨ s.kind = 1 ∧ s.at_ + (K : Int) ≤ 8 * (s.tape.length : Int) := by
        unfold leftS at hlf
        rw [if_pos hr] at hlf
        unfold rightS at hr
        split at hr
        · rename_i h1
          rw [if_pos h1] at hlf
          simp at hr
          exact .inr ⟨h1, by omega⟩
        · simp at hr
          exact .inl hr.1
      have HNUM := Lib.hid (fun (g : Nat) (W : World) hg (hbl : Below w.heap.size w W) (hg0 : w.heap.size ≤ g) => qnumr_c w g s A c (List.replicate 32 0) false ok K (by omega) hkd (by omega) (BkA.zero s) W hg hrd hkst hbl hg0)
      have BR := Lib.hid (fun (a : Act) (o : Oper) (x : Operand) (W : World) h1 h2 => build_rd (a := a) (o := o) (x := x) W s ok.sl A c h1 h2)
      have SRV := Lib.hid (sizedR s ok.sl A c (List.replicate 32 0) (by simp) false)
      have ORV := Lib.hid (rdV_ones s A c (List.replicate 32 0) false)
      have ZRV := Lib.hid (show (rdV Src.zero none 0 (List.replicate 32 0) false).size = (rdV s A c (List.replicate 32 0) false).size by rw [rdV_size _ rfl _ _ _ (by simp), rdV_size _ ok.sl _ _ _ (by simp)])
      have HZR := Lib.hid zero_rdg
      have SV2 := Lib.hid (sizedS (s.to (s.at_ + K)) ok.sl A c)
      have OV2 := Lib.hid (srcV_ones (s.to (s.at_ + K)) A c)
      have ZV2 := Lib.hid (srcV_same Src.zero (s.to (s.at_ + K)) rfl ok.sl none A 0 c)
      have HSR := Lib.hid (fun (W : World) (g : Nat) (b : List Int) (h : Bool) (hk : Blk W g 145 (rdV (s.to (s.at_ + K)) A c b h)) => rdV_src hk)
      have HEND : Hid (∀ w', Below w.heap.size w w' → RetTake w s (K : Int) A (.returned (.tuple #[.int .u64 (numS s s.at_ K), .agg (srcV (s.to (s.at_ + K)) A c), .int .i64 0])) w') := Lib.hid (fun w' hb => ⟨A, c, by rw [hnum, hsrc, hE], (hRd.out.below hb).mono hb.size, hc, hcm, .inl rfl, hb⟩)
      rw [hZ] at ZV2
      obtain ⟨V, hV⟩ : ∃ V, srcV s A c = V := ⟨_, rfl⟩
      rw [hV] at HRT HLT SV OV ZV BR
      rw [hV]
      obtain ⟨X0, hX0⟩ : ∃ X, rdV s A c (List.replicate 32 0) false = X := ⟨_, rfl⟩
      rw [hX0] at BR SRV ORV ZRV HNUM
      obtain ⟨Y0, hY0⟩ : ∃ X, rdV Src.zero none 0 (List.replicate 32 0) false = X := ⟨_, rfl⟩
      rw [hY0] at ZRV HZR
      obtain ⟨V2, hV2⟩ : ∃ V, srcV (s.to (s.at_ + K)) A c = V := ⟨_, rfl⟩
      rw [hV2] at SV2 OV2 ZV2 HEND
      have HV2 := Lib.hid hV2
      obtain ⟨N, hN⟩ : ∃ x, numS s s.at_ K = x := ⟨_, rfl⟩
      rw [hN] at HEND HNUM
      clear hZ hV hE hbad hrd hlf hnum hsrc hkd hr hkst hX0 hY0 hV2 hN
      go_enter Tryz.func69, Tryz.ntmps69
      go_wp2_with (first
        | (with_reducible refine at_any ?_; refine at_dst 2 rfl ?_; refine wpList_box_any rfl 40 (.tmp 0) rfl V rfl ?_; intro w1 hk1 hs1 hb1)
        | (with_reducible refine at_any ?_; refine at_dst 5 rfl ?_; refine wpList_alloc_any rfl 40 rfl Z HZ0.out ?_; intro w2 hk2 hs2 hb2; have k2 := Lib.hid (hk1.out.below hb2 hk1.out.lt); have bl2 := Lib.hid (hb1.trans (hb2.mono hb1.size)))
        | (with_reducible refine at_any ?_; refine at_dst 9 rfl ?_; refine wpList_load_blk rfl 40 (.tmp 2) rfl w.heap.size rfl 40 V k2.out _ Tryz.underlying40 rfl SV.out ?_)
        | (go_at_call 67; (with_reducible refine (HRT.out _).mono ?_); rintro e wy ⟨rfl, hby⟩; have k2y := Lib.hid (k2.out.below hby k2.out.lt); have k5y := Lib.hid (hk2.out.below hby hk2.out.lt); have bly := Lib.hid (bl2.out.trans (hby.mono bl2.out.size)))
        | (with_reducible refine at_any ?_; refine at_dst 23 rfl ?_; refine wpList_load_blk rfl 40 (.tmp 2) rfl w.heap.size rfl 40 V k2y.out _ Tryz.underlying40 rfl SV.out ?_)
        | (go_at_call 95; (with_reducible refine (HLT.out _).mono ?_); rintro e wz ⟨rfl, hbz⟩; have k2z := Lib.hid (k2y.out.below hbz k2y.out.lt); have k5z := Lib.hid (k5y.out.below hbz k5y.out.lt); have blz := Lib.hid (bly.out.trans (hbz.mono bly.out.size)))
        | (with_reducible refine at_any ?_; refine at_dst 27 rfl ?_; refine wpList_load_blk rfl 40 (.tmp 2) rfl w.heap.size rfl 40 V k2z.out _ Tryz.underlying40 rfl SV.out ?_)
        | (with_reducible refine at_any ?_; refine at_dst 28 rfl ?_; refine wpList_val rfl (.agg X0) (BR.out _ _ _ _ rfl rfl) ?_)
        | (with_reducible refine at_any ?_; refine at_dst 7 rfl ?_; refine wpList_alloc_any rfl 145 rfl Y0 HZR.out ?_; intro w7 hk7 hs7 hb7; have k57 := Lib.hid (k5z.out.below hb7 k5z.out.lt); have bl7 := Lib.hid (blz.out.trans (hb7.mono blz.out.size)))
        | (with_reducible refine at_any ?_; refine at_store 7 rfl ?_; refine wpList_store_any rfl 145 (.tmp 7) (.tmp 28) rfl wz.heap.size rfl 145 Y0 X0 hk7.out rfl ZRV.out SRV.out ORV.out ?_; intro w8 hk8 hs8 hb8 ho8; have bl8 := Lib.hid (bl7.out.trans (hb8 _ blz.out.size)))
        | (go_at_call 96; (with_reducible refine (HNUM.out wz.heap.size w8 hk8.out bl8.out blz.out.size).mono ?_); rintro e w9 ⟨b9, h9, rfl, hk9, hb9, ho9⟩; have HK9 := Lib.hid hk9; have HO9 := Lib.hid ho9; clear hk9 hb9 ho9))
      have h57 : w1.heap.size < wz.heap.size := by
        have h1 := hs2.out
        have h2 := hby.size
        have h3 := hbz.size
        omega
      have h05 : w.heap.size ≤ w1.heap.size := hb1.size
      have HSRC := Lib.hid (fun (W : World) (hk : Blk W wz.heap.size 145 (rdV (s.to (s.at_ + K)) A c b9 h9)) => HSR.out W _ b9 h9 hk)
      rw [HV2.out] at HSRC
      have K9 := HK9.out
      have B9 : Below w.heap.size w w9 := bl8.out.trans (HO9.out.below blz.out.size bl8.out.size)
      have K5 : Blk w9 w1.heap.size 40 Z := Blk.only (Blk.other k57.out ho8 (Nat.ne_of_lt h57)) HO9.out (Nat.ne_of_lt h57)
      obtain ⟨X9, hX9⟩ : ∃ X, rdV (s.to (s.at_ + K)) A c b9 h9 = X := ⟨_, rfl⟩
      rw [hX9] at HSRC K9
      obtain ⟨g7, hg7⟩ : ∃ g, wz.heap.size = g := ⟨_, rfl⟩
      obtain ⟨g5, hg5⟩ : ∃ g, w1.heap.size = g := ⟨_, rfl⟩
      rw [hg7] at K9 HSRC
      rw [hg5] at K5 h05
      rw [hg7, hg5] at h57
      rw [hg7, hg5]
      have hS : Fx [.blk g7 145 X9, .bel w] w9.drew := Fx.drew ⟨K9, B9, trivial⟩
      have HZ5 : Fx [.blk g5 40 Z] w9.drew := Fx.drew ⟨K5, trivial⟩
      clear hg7 hg5 hX9 K9 K5 B9 HK9 HO9 hk1 hs1 hb1 hk2 hs2 hb2 k2 bl2 hby k2y k5y bly hbz k2z k5z blz hk7 hs7 hb7 k57 bl7 hk8 hs8 hb8 ho8 bl8
      refine wp_region_held_drew (S := (Fx [.blk g7 145 X9, .bel w])) (by kernel_rfl) hS (fun hH => ?_)
      refine wpAnyH_letter #[false, false, false, false, false, false] (by kernel_rfl) (fun _ _ d _ _ h => by cases d <;> exact h) (fun QL HQ1 HQ2 => ?_)
      refine held_v 0 (some 31) rfl (by kernel_rfl) (by kernel_rfl) (by kernel_rfl) (by kernel_rfl) (fun c a v w h => HQ2.out c a _ v w h) (by kernel_rfl) (.int .u64 N) (fun W h => by kernel_rfl) hH ?_
      try simp only [Act.put, List.setIfInBounds_toArray, List.set_cons_zero, List.set_cons_succ]
      refine held_v 1 (some 32) rfl (by kernel_rfl) (by kernel_rfl) (by kernel_rfl) (by kernel_rfl) (fun c a v w h => HQ2.out c a _ v w h) (by kernel_rfl) (.pointer (some ⟨g7, 0, none⟩)) (fun W h => by kernel_rfl) hH ?_
      try simp only [Act.put, List.setIfInBounds_toArray, List.set_cons_zero, List.set_cons_succ]
      refine held_load_arr 2 (some 33) rfl (by kernel_rfl) (by kernel_rfl) (by kernel_rfl) (by kernel_rfl) (fun c a v w h => HQ2.out c a _ v w h) (by kernel_rfl) 40 (.tmp 32) rfl g7 0 (by kernel_rfl) V2 (fun W h => HSRC.out W h.1) _ Tryz.underlying40 rfl SV2.out hH ?_
      try simp only [Act.put, List.setIfInBounds_toArray, List.set_cons_zero, List.set_cons_succ]
      refine held_v 3 (some 4) rfl (by kernel_rfl) (by kernel_rfl) (by kernel_rfl) (by kernel_rfl) (fun c a v w h => HQ2.out c a _ v w h) (by kernel_rfl) (.int .u64 N) (fun W h => by kernel_rfl) hH ?_
      try simp only [Act.put, List.setIfInBounds_toArray, List.set_cons_zero, List.set_cons_succ]
      refine wpAnyH_ready (rs := [4]) (by kernel_rfl) (by decide) ?_
      refine AllReadyH.cons rfl (fun K hK => ?_) AllReadyH.nil
      refine step_store none (by kernel_rfl) (by kernel_rfl) 40 (.tmp 5) (.tmp 33) rfl g5 (by kernel_rfl) 40 Z V2 HZ5.1 (by kernel_rfl) ZV2.out SV2.out OV2.out ?_
      intro w41 hkw41 hsw41 hbw41 how41
      have ex42 : Fx [.blk g5 40 V2] w41 := ⟨hkw41.out, trivial⟩
      refine hK.out _ _ (hH.store HZ5.1 ⟨Nat.ne_of_gt h57, h05, trivial⟩ hsw41.out hbw41 how41) (fun hw41 => ?_)
      clear hK K
      try simp only [Act.put, List.setIfInBounds_toArray, List.set_cons_zero, List.set_cons_succ]
      refine held_v 5 (some 6) rfl (by kernel_rfl) (by kernel_rfl) (by kernel_rfl) (by kernel_rfl) (fun c a v w h => HQ2.out c a _ v w h) (by kernel_rfl) (.int .i64 0) (fun W h => by kernel_rfl) hw41 ?_
      try simp only [Act.put, List.setIfInBounds_toArray, List.set_cons_zero, List.set_cons_succ]
      refine wpAnyH_done (by kernel_rfl) ?_ _
      refine HQ1.out _ _ ?_
      clear HQ1 HQ2
      go_wp2_with (refine bodyPost_mid 4 5 6 40 rfl g5 rfl (.int .u64 N) (.int .i64 0) rfl rfl 40 V2 ex42.1 _ Tryz.underlying40 rfl SV2.out rfl ?_)
      exact HEND.out _ hw41.2.1
def RetCl (w : World) (zs : List Int) (e : Ending) (w' : World) : Prop := ∃ A c, e = .returned (.slice A zs.length c) ∧ zs.length ≤ c ∧ c ≤ maxLen ∧ Rd .u8 w' w'.heap.size A zs.length zs ∧ (∀ b off, A = some ⟨b, off, none⟩ → w.heap.size ≤ b) ∧ Below w.heap.size w w'
theorem run_eql_slice_nil {P : Program} (w : World) (t e : TypeId) (a : Option Addr) (l c : Nat) (h : P.underlying t = some (.slice e)) : (binOp .eql t (.slice a l c) (.slice none 0 0)).run P w = .ok (.bool a.isNone) w := by
  simp [binOp, Op.maxDepth, run_equal_slice_nil w t e a l c h]
set_option maxHeartbeats 1000000 in
theorem bclone_c (A : Option Addr) (n c : Nat) (zs : List Int) (w : World) (hrd : Rd .u8 w w.heap.size A n zs) (hzl : zs.length ≤ 140737488355328) : Calls Tryz.prog 76 #[.slice A n c] w (RetCl w zs) := by
  obtain ⟨i0, hi, hz0, hz1, hzb⟩ := info_parts info_u8'
  have hl := hrd.len
  have hn : n ≤ 140737488355328 := by omega
  have HRD := Lib.hid hrd
  have HLZ := Lib.hid hl
  by_cases hA : A = none
  · have h0 : n = 0 := by
      rcases Nat.eq_zero_or_pos n with h | h
      · exact h
      · obtain ⟨b, off, e, _⟩ := hrd.2 h
        rw [hA] at e
        cases e
    subst hA h0
    clear hrd hl hzl
    have t1 : ∀ W, (binOp .eql 36 (.slice none 0 c) (.slice none 0 0)).run Tryz.prog W = .ok (.bool true) W := fun W => run_eql_slice_nil W _ _ none 0 c Tryz.underlying36
    go_enter Tryz.func76, Tryz.ntmps76
    go_wp2
    go_ret
    exact ⟨none, 0, by rw [HLZ.out]; rfl, by rw [HLZ.out]; exact Nat.le_refl _, Nat.zero_le _, by rw [HLZ.out]; exact HRD.out, (fun _ _ h => by cases h), Below.refl _ _⟩
  · obtain ⟨a, rfl⟩ := Option.ne_none_iff_exists'.1 hA
    clear hrd hl hzl hA
    have t1 : ∀ W, (binOp .eql 36 (.slice (some a) n c) (.slice none 0 0)).run Tryz.prog W = .ok (.bool false) W := fun W => run_eql_slice_nil W _ _ (some a) n c Tryz.underlying36
    go_enter Tryz.func76, Tryz.ntmps76
    go_wp2_with (at_builtin; refine wpList_append_ints _ rfl (.tmp 5) (.tmp 6) 36 rfl w.heap.size 5 i0 _ 1 .u8 Tryz.underlying36 hi hz0 hz1 hzb rfl _ [] rfl (own_empty w 5 .u8 (Nat.le_refl _)) w.heap.size (some a) n c zs rfl (HRD.out.alloc (Nat.le_refl _) _) (by simp [maxLen]; omega) (by simp; omega) (by simp) ?_; intro v2 w2 hown2 hg2 hat2; rw [List.nil_append] at hown2; have hb2 : Below w.heap.size w w2 := (own_empty w 5 .u8 (Nat.le_refl _)).below_ ((Below.refl _ _).alloc (Nat.le_refl _) _) (by simp) hg2; obtain ⟨A2, c2, rfl, hc2, hm2⟩ := hown2.form; have H2 := Lib.hid hown2; clear hown2)
    go_ret
    refine ⟨A2, c2, rfl, hc2, hm2, H2.out.rd rfl, fun b off hA => ?_, hb2⟩
    rcases H2.out.2 with ⟨h1, h2⟩ | ⟨g', cap, cur, h1, h2, h3⟩
    · injection h1 with e1 e2 e3
      rw [hA] at e1
      cases e1
    · injection h1 with e1 e2 e3
      rw [hA] at e1
      injection e1 with e1
      injection e1 with e1 e4
      omega
set_option maxHeartbeats 4000000 in
theorem qstape_c (zs : List Int) (hzl : zs.length ≤ 1000000) (b : Int) (b0 : 0 ≤ b) (b1 : b < 18446744073709551616) (A : Option Addr) (n c : Nat) (w : World) (hrd : Rd .u8 w w.heap.size A n zs) (hnc : n ≤ c) : Calls Tryz.prog 41 #[.slice A n c, .int .u64 b] w (RetTape w zs b) := by
  have hl := hrd.len
  have HZ0 := Lib.hid zero_src
  have SZ := Lib.hid (sizedS Src.zero rfl none 0)
  have OZ := Lib.hid (srcV_ones Src.zero none 0)
  have HB0 := Lib.hid (fun (a : Act) (o : Oper) W h => build_src0 (a := a) (o := o) W h)
  have HH := Lib.hid (fun W => qhas_c n b (by omega) A c W)
  have HCL := Lib.hid (fun W h => bclone_c A n c zs W h (by omega))
  have hR : RetTape w zs b = if b ≤ 8 * (zs.length : Int) then (fun e w' => ∃ A' c', e = .returned (.tuple #[.agg (srcV (Src.tapeOf zs b) A' c'), .int .i64 0]) ∧ Rd .u8 w' w'.heap.size A' zs.length zs ∧ zs.length ≤ c' ∧ c' ≤ maxLen ∧ Below w.heap.size w w') else (fun e w' => e = .returned (.tuple #[.agg (srcV Src.zero none 0), .int .i64 1]) ∧ Below w.heap.size w w') := by
    funext e w'
    unfold RetTape
    split <;> rfl
  rw [hR]
  obtain ⟨Z, hZ⟩ : ∃ Z, srcV Src.zero none 0 = Z := ⟨_, rfl⟩
  rw [hZ] at HZ0 SZ OZ HB0
  rw [hZ]
  by_cases hbig : b ≤ 8 * (zs.length : Int)
  · rw [if_pos hbig]
    have hT := Lib.hid (fun (A' : Option Addr) (c' : Nat) => sizedS (Src.tapeOf zs b) (by rfl) A' c')
    have OT := Lib.hid (fun (A' : Option Addr) (c' : Nat) => srcV_ones (Src.tapeOf zs b) A' c')
    have ZT := Lib.hid (fun (A' : Option Addr) (c' : Nat) => srcV_same Src.zero (Src.tapeOf zs b) rfl (by rfl) none A' 0 c')
    have BT := Lib.hid (fun (a : Act) (o : Oper) (x y z : Operand) (W : World) (A' : Option Addr) (c' : Nat) h1 h2 (h3 : a.eval y = .slice A' zs.length c') h4 => build_src1 (a := a) (o := o) (x := x) (y := y) (z := z) W A' c' zs b h1 h2 h3 h4)
    rw [hZ] at ZT
    rw [decide_eq_true (by omega)] at HH
    have HRD := Lib.hid hrd
    clear hZ hR hrd hl hzl hbig
    obtain ⟨F, hF⟩ : ∃ F : Ending → World → Prop, (fun e w' => ∃ A' c', e = .returned (.tuple #[.agg (srcV (Src.tapeOf zs b) A' c'), .int .i64 0]) ∧ Rd .u8 w' w'.heap.size A' zs.length zs ∧ zs.length ≤ c' ∧ c' ≤ maxLen ∧ Below w.heap.size w w') = F := ⟨_, rfl⟩
    have HF : Hid (∀ A' c' w', Rd .u8 w' w'.heap.size A' zs.length zs → zs.length ≤ c' → c' ≤ maxLen → Below w.heap.size w w' → F (.returned (.tuple #[.agg (srcV (Src.tapeOf zs b) A' c'), .int .i64 0])) w') := Lib.hid (fun A' c' w' h1 h2 h3 h4 => by rw [← hF]; exact ⟨A', c', rfl, h1, h2, h3, h4⟩)
    rw [hF]
    clear hF
    go_enter Tryz.func41, Tryz.ntmps41
    go_wp2_with (first
      | (with_reducible refine at_any ?_; refine at_dst 4 rfl ?_; refine wpList_alloc_any rfl 40 rfl Z HZ0.out ?_; intro w1 hk1 hs1 hb1)
      | (go_at_call 75; (with_reducible refine (HH.out _).mono ?_); rintro e _ ⟨rfl, rfl⟩)
      | (go_at_call 76; (with_reducible refine (HCL.out w1 ((HRD.out.below hb1).mono hb1.size)).mono ?_); rintro e w2 ⟨A2, c2, rfl, hc2, hm2, hrd2, hfr2, hb2⟩; have HFR := Lib.hid hfr2; clear hfr2; have k2 := Lib.hid (hk1.out.below hb2 hk1.out.lt); have R2 := Lib.hid hrd2; have B2 := Lib.hid (hb1.trans (hb2.mono hb1.size)); clear hrd2 hb2)
      | (with_reducible refine at_any ?_; refine at_dst 14 rfl ?_; refine wpList_val rfl (.agg (srcV (Src.tapeOf zs b) A2 c2)) (BT.out _ _ _ _ _ _ A2 c2 rfl rfl rfl rfl) ?_)
      | (with_reducible refine at_any ?_; refine at_store 4 rfl ?_; refine wpList_store_any rfl 40 (.tmp 4) (.tmp 14) rfl w.heap.size rfl 40 Z (srcV (Src.tapeOf zs b) A2 c2) k2.out rfl (ZT.out _ _) (hT.out _ _) (OT.out _ _) ?_; intro w3 hk3 hs3 hb3 ho3)
      | (refine bodyPost_any2 4 5 40 rfl w.heap.size rfl (.int .i64 0) rfl 40 (srcV (Src.tapeOf zs b) A2 c2) hk3.out _ Tryz.underlying40 rfl (hT.out _ _) rfl ?_))
    have hrd3 : Rd .u8 w3 w3.heap.size A2 zs.length zs := by
      refine ⟨R2.out.1, fun hn => ?_⟩
      obtain ⟨b0, off, e, hlt, hc⟩ := R2.out.2 hn
      have hne : b0 ≠ w.heap.size := by
        have h1 := HFR.out b0 off e
        have h2 := hs1.out
        omega
      refine ⟨b0, off, e, by rw [hs3.out]; exact hlt, fun j hj => ?_⟩
      rw [World.cell?_of_block (w := w2) (w' := w3) (a := ⟨b0, off + j, none⟩) (ho3 b0 hne)]
      exact hc j hj
    exact HF.out _ _ _ hrd3 hc2 hm2 (B2.out.trans (hb3 _ (Nat.le_refl _)))
  · rw [if_neg hbig]
    rw [decide_eq_false (by omega)] at HH
    clear hZ hR hrd hl hbig
    go_enter Tryz.func41, Tryz.ntmps41
    go_wp2_with (first
      | (with_reducible refine at_any ?_; refine at_dst 4 rfl ?_; refine wpList_alloc_any rfl 40 rfl Z HZ0.out ?_; intro w1 hk1 hs1 hb1)
      | (go_at_call 75; (with_reducible refine (HH.out _).mono ?_); rintro e _ ⟨rfl, rfl⟩)
      | (with_reducible refine at_any ?_; refine at_dst 10 rfl ?_; refine wpList_val rfl (.agg Z) (HB0.out _ _ _ rfl) ?_)
      | (with_reducible refine at_any ?_; refine at_store 4 rfl ?_; refine wpList_store_any rfl 40 (.tmp 4) (.tmp 10) rfl w.heap.size rfl 40 Z Z hk1.out rfl rfl SZ.out OZ.out ?_; intro w3 hk3 hs3 hb3 ho3)
      | (refine bodyPost_any2 4 5 40 rfl w.heap.size rfl (.int .i64 1) rfl 40 Z hk3.out _ Tryz.underlying40 rfl SZ.out rfl ?_))
    exact hb1.trans (hb3 _ (Nat.le_refl _))
end
section
open Go.ChangeShapes Go.WideShapes Go.ChangeAt Go.RowKit
theorem q8bound_c (n : Int) (n0 : 0 ≤ n) (n1 : n < 18446744073709551616) (w : World) : Calls Tryz.prog 68 #[.int .u64 n] w fun e w' => e = .returned (.bool (decide (1 ≤ n ∧ n < 9223372036854775808))) ∧ w = w' := by
  by_cases h1 : 1 ≤ n
  · by_cases h2 : n < 9223372036854775808
    · rw [decide_eq_true ⟨h1, h2⟩]
      go_enter Tryz.func68, Tryz.ntmps68
      go_wp2
      go_ret
      exact ⟨rfl, rfl⟩
    · rw [decide_eq_false (fun h => h2 h.2)]
      go_enter Tryz.func68, Tryz.ntmps68
      go_wp2
      go_ret
      exact ⟨rfl, rfl⟩
  · rw [decide_eq_false (fun h => h1 h.1)]
    go_enter Tryz.func68, Tryz.ntmps68
    go_wp2
    go_ret
    exact ⟨rfl, rfl⟩
set_option maxHeartbeats 8000000 in
theorem q8draw_c (s : Src) (ok : s.Ok) (n : Int) (n0 : 0 ≤ n) (n1 : n < 18446744073709551616) (a : Int) (a0 : -9223372036854775808 ≤ a) (a1 : a < 9223372036854775808) (A0 : Option Addr) (c0 : Nat) (hc : s.tape.length ≤ c0) (hcm : c0 ≤ maxLen) (w : World) (hrd : Rd .u8 w w.heap.size A0 s.tape.length s.tape) (hkst : Kst w) : Calls Tryz.prog 33 #[.agg (srcV s A0 c0), .int .u64 n, .int .i64 a] w (RetDraw w s A0 (drawR s n a)) := by
  have HRT := Lib.hid (fun W => qsright_c s ok A0 c0 W)
  have HBD := Lib.hid (fun W => q8bound_c n n0 n1 W)
  have HZ0 := Lib.hid zero_src
  have hRd := Lib.hid hrd
  have HKS := Lib.hid hkst
  have HZSS := Lib.hid (fun (t : Src) (h : t.seed.length = 32) A c => srcV_same Src.zero t rfl h none A 0 c)
  obtain ⟨Z, hZ⟩ : ∃ Z, srcV Src.zero none 0 = Z := ⟨_, rfl⟩
  rw [hZ] at HZ0 HZSS
  by_cases hbad : ¬ drawB s n a = true
  · have hE : drawR s n a = (0, s, 1) := by unfold drawR; rw [if_neg hbad]
    have HEND : Hid (∀ w', RdP A0 s.tape.length s.tape w' → Below w.heap.size w w' → RetDraw w s A0 (drawR s n a) (.returned (.tuple #[.int .u64 0, .agg (srcV s A0 c0), .int .i64 1])) w') := Lib.hid (fun w' hr hb => ⟨A0, c0, by rw [hE], hr, hc, hcm, .inl rfl, hb⟩)
    have hcase : (rightS s = false) ∨ (rightS s = true ∧ decide (1 ≤ n ∧ n < 9223372036854775808) = false) ∨ (rightS s = true ∧ decide (1 ≤ n ∧ n < 9223372036854775808) = true ∧ a < 1) ∨ (rightS s = true ∧ decide (1 ≤ n ∧ n < 9223372036854775808) = true ∧ ¬ a < 1 ∧ 64 < a) := by
      cases h : rightS s
      · exact .inl rfl
      · refine .inr ?_
        by_cases h1 : 1 ≤ n ∧ n < 9223372036854775808
        · refine .inr ?_
          by_cases h3 : a < 1
          · exact .inl ⟨rfl, decide_eq_true h1, h3⟩
          · refine .inr ⟨rfl, decide_eq_true h1, h3, Decidable.byContradiction fun h4 => hbad ?_⟩
            unfold drawB
            rw [h, Bool.true_and]
            exact decide_eq_true ⟨h1.1, h1.2, by omega, by omega⟩
        · exact .inl ⟨rfl, decide_eq_false h1⟩
    have SV := Lib.hid (sizedS s ok.sl A0 c0)
    have OV := Lib.hid (srcV_ones s A0 c0)
    have ZV := Lib.hid (HZSS.out s ok.sl A0 c0)
    obtain ⟨V, hV⟩ : ∃ V, srcV s A0 c0 = V := ⟨_, rfl⟩
    rw [hV] at HRT HEND SV OV ZV
    rw [hV]
    obtain ⟨rr, hrr⟩ : ∃ r, drawR s n a = r := ⟨_, rfl⟩
    rw [hrr] at HEND ⊢
    obtain ⟨bd, hbd⟩ : ∃ b, decide (1 ≤ n ∧ n < 9223372036854775808) = b := ⟨_, rfl⟩
    rw [hbd] at HBD hcase
    clear hZ hV hE hbad hrd hkst hrr hbd
    rcases hcase with hr | ⟨hr, rfl⟩ | ⟨hr, rfl, h3⟩ | ⟨hr, rfl, h3, h4⟩
    all_goals
      rw [hr] at HRT
      go_enter Tryz.func33, Tryz.ntmps33
      go_wp2_with (first
        | (with_reducible refine at_any ?_; refine at_dst 3 rfl ?_; refine wpList_box_any rfl 40 (.tmp 0) rfl V rfl ?_; intro w1 hk1 hs1 hb1)
        | (with_reducible refine at_any ?_; refine at_dst 7 rfl ?_; refine wpList_alloc_any rfl 40 rfl Z HZ0.out ?_; intro w2 hk2 hs2 hb2; have k2 := Lib.hid (hk1.out.below hb2 hk1.out.lt))
        | (with_reducible refine at_any ?_; refine at_dst 13 rfl ?_; refine wpList_load_blk rfl 40 (.tmp 3) rfl w.heap.size rfl 40 V k2.out _ Tryz.underlying40 rfl SV.out ?_)
        | (go_at_call 67; (with_reducible refine (HRT.out _).mono ?_); rintro e wz ⟨rfl, hbz⟩)
        | (go_at_call 68; (with_reducible refine (HBD.out _).mono ?_); rintro e _ ⟨rfl, rfl⟩))
      have HS := DrS.mk2 hRd.out hk1.out hb1 hk2.out hb2 hbz
      have HZ : Fx [.blk w1.heap.size 40 Z] wz := ⟨hk2.out.below hbz hk2.out.lt, trivial⟩
      obtain ⟨g3, hg3⟩ : ∃ g, w.heap.size = g := ⟨_, rfl⟩
      obtain ⟨g7, hg7⟩ : ∃ g, w1.heap.size = g := ⟨_, rfl⟩
      obtain ⟨zs, hzs⟩ : ∃ zs, s.tape = zs := ⟨_, rfl⟩
      obtain ⟨L, hL⟩ : ∃ L, zs.length = L := ⟨_, rfl⟩
      rw [hzs, hL] at HEND
      rw [hg3, hg7, hzs, hL] at HS
      rw [hg7] at HZ
      rw [hg3, hg7]
      clear hg3 hg7 hzs hL hk1 hs1 hb1 hk2 hs2 hb2 k2 hbz
      have HZ7 := HZ.drew
      refine wp_region_held_drew (S := (DrS w g3 g7 V A0 L zs)) (by kernel_rfl) HS.drew (fun hH => ?_)
      refine wpAnyH_letter #[false, false, false, false] (by kernel_rfl) (fun _ _ d _ _ h => by cases d <;> exact h) (fun QL HQ1 HQ2 => ?_)
      refine held_row 0 (some 29) rfl (by kernel_rfl) (by kernel_rfl) (by kernel_rfl) (by kernel_rfl) (fun c a v w h => HQ2.out c a _ v w h) (by kernel_rfl) 40 (.tmp 3) rfl g3 (by kernel_rfl) 40 V (fun _ h => h.blk) _ Tryz.underlying40 rfl SV.out hH ?_
      try simp only [Act.put, List.setIfInBounds_toArray, List.set_cons_zero, List.set_cons_succ]
      refine held_v 1 (some 6) rfl (by kernel_rfl) (by kernel_rfl) (by kernel_rfl) (by kernel_rfl) (fun c a v w h => HQ2.out c a _ v w h) (by kernel_rfl) (.int .u64 0) (fun W h => by kernel_rfl) hH ?_
      try simp only [Act.put, List.setIfInBounds_toArray, List.set_cons_zero, List.set_cons_succ]
      refine wpAnyH_ready (rs := [2]) (by kernel_rfl) (by decide) ?_
      refine AllReadyH.cons rfl (fun K hK => ?_) AllReadyH.nil
      refine step_store none (by kernel_rfl) (by kernel_rfl) 40 (.tmp 7) (.tmp 29) rfl g7 (by kernel_rfl) 40 Z V HZ7.1 (by kernel_rfl) ZV.out SV.out OV.out ?_
      intro w41 hkw41 hsw41 hbw41 how41
      have ex42 : Fx [.blk g7 40 V] w41 := ⟨hkw41.out, trivial⟩
      refine hK.out _ _ (hH.store HZ7.1 hH.store7 hsw41.out hbw41 how41) (fun hw41 => ?_)
      clear hK K
      try simp only [Act.put, List.setIfInBounds_toArray, List.set_cons_zero, List.set_cons_succ]
      refine held_v 3 (some 8) rfl (by kernel_rfl) (by kernel_rfl) (by kernel_rfl) (by kernel_rfl) (fun c a v w h => HQ2.out c a _ v w h) (by kernel_rfl) (.int .i64 1) (fun W h => by kernel_rfl) hw41 ?_
      try simp only [Act.put, List.setIfInBounds_toArray, List.set_cons_zero, List.set_cons_succ]
      refine wpAnyH_done (by kernel_rfl) ?_ _
      refine HQ1.out _ _ ?_
      clear HQ1 HQ2
      go_wp2_with (refine bodyPost_mid 6 7 8 40 rfl g7 rfl (.int .u64 0) (.int .i64 1) rfl rfl 40 V ex42.1 _ Tryz.underlying40 rfl SV.out rfl ?_)
      exact HEND.out _ hw41.rd hw41.bel
  · have hgood : drawB s n a = true := Decidable.of_not_not hbad
    have hE : drawR s n a = drawGo (needN n) n a.toNat s := by unfold drawR; rw [if_pos hgood]
    obtain ⟨hr, hd⟩ : rightS s = true ∧ decide (1 ≤ n ∧ n < 9223372036854775808 ∧ 1 ≤ a ∧ a ≤ 64) = true := by unfold drawB at hgood; rwa [Bool.and_eq_true] at hgood
    obtain ⟨nn0, nn1, aa0, aa1⟩ := of_decide_eq_true hd
    rw [decide_eq_true ⟨nn0, nn1⟩] at HBD
    have h3 : ¬ a < 1 := by omega
    have h4 : ¬ 64 < a := by omega
    have hk64 := needN_le n n0 n1
    have HND := Lib.hid (fun W => q8need_c n n0 n1 W)
    obtain ⟨k, hk⟩ : ∃ k, needN n = k := ⟨_, rfl⟩
    rw [hk] at hE hk64 HND
    rw [hE]
    obtain ⟨a, rfl⟩ := Int.eq_ofNat_of_zero_le (show 0 ≤ a by omega)
    rw [Int.toNat_natCast]
    rw [hr] at HRT
    have HTAKE := Lib.hid (fun (t : Src) (okt : t.Ok) (A : Option Addr) (c : Nat) (h1 : t.tape.length ≤ c) (h2 : c ≤ maxLen) (W : World) (h3 : Rd .u8 W W.heap.size A t.tape.length t.tape) (kk : Kst W) => qstake_c t okt (k : Int) (by omega) (by omega) A c h1 h2 W h3 kk)
    have SV := Lib.hid (sizedS s ok.sl A0 c0)
    have HL0 : Hid (∀ g3 g7 W, DrS w g3 g7 (srcV s A0 c0) A0 s.tape.length s.tape W → Fx [.blk g7 40 Z] W → DrL w g3 g7 s k n a A0 Z 0 W) := Lib.hid (fun g3 g7 W h1 h2 => ⟨s, A0, c0, rfl, ok, rfl, h1, h2, .inl rfl, hc, hcm⟩)
    obtain ⟨V, hV⟩ : ∃ V, srcV s A0 c0 = V := ⟨_, rfl⟩
    rw [hV] at HRT SV HL0
    rw [hV]
    obtain ⟨rr, hrr⟩ : ∃ r, drawGo k n a s = r := ⟨_, rfl⟩
    rw [hrr]
    have HRR := Lib.hid hrr
    clear hZ hV hE hbad hrd hkst hrr hgood hd hr hk a0 a1 aa0 hc hcm
    have aa2 : a ≤ 64 := by omega
    clear aa1
    go_enter Tryz.func33, Tryz.ntmps33
    go_wp2_with (first
      | (with_reducible refine at_any ?_; refine at_dst 3 rfl ?_; refine wpList_box_any rfl 40 (.tmp 0) rfl V rfl ?_; intro w1 hk1 hs1 hb1)
      | (with_reducible refine at_any ?_; refine at_dst 7 rfl ?_; refine wpList_alloc_any rfl 40 rfl Z HZ0.out ?_; intro w2 hk2 hs2 hb2; have k2 := Lib.hid (hk1.out.below hb2 hk1.out.lt))
      | (with_reducible refine at_any ?_; refine at_dst 13 rfl ?_; refine wpList_load_blk rfl 40 (.tmp 3) rfl w.heap.size rfl 40 V k2.out _ Tryz.underlying40 rfl SV.out ?_)
      | (go_at_call 67; (with_reducible refine (HRT.out _).mono ?_); rintro e wz ⟨rfl, hbz⟩)
      | (go_at_call 68; (with_reducible refine (HBD.out _).mono ?_); rintro e _ ⟨rfl, rfl⟩)
      | (go_at_call 47; (with_reducible refine (HND.out _).mono ?_); rintro e _ ⟨rfl, rfl⟩))
    have HS := DrS.mk2 hRd.out hk1.out hb1 hk2.out hb2 hbz
    have HZ : Fx [.blk w1.heap.size 40 Z] wz := ⟨hk2.out.below hbz hk2.out.lt, trivial⟩
    have HL := Lib.hid (HL0.out _ _ _ HS HZ)
    obtain ⟨g3, hg3⟩ : ∃ g, w.heap.size = g := ⟨_, rfl⟩
    obtain ⟨g7, hg7⟩ : ∃ g, w1.heap.size = g := ⟨_, rfl⟩
    rw [hg3, hg7] at HL
    rw [hg3, hg7]
    clear hg3 hg7 hk1 hs1 hb1 hk2 hs2 hb2 k2 hbz HS HZ HL0 HRT SV HBD h3 h4
    go_loopw [33] (fun cc wr => ∃ i : Nat, i ≤ a ∧ cc = .int .i64 i ∧ DrL w g3 g7 s k n a A0 Z i wr) (fun cc _ => a - (intOf cc).toNat)
    case atStart => exact ⟨0, by omega, rfl, HL.out⟩
    case round =>
      clear HL
      obtain ⟨i, hi, rfl, si, A, c, hgo, oki, htp, HS, HZ, hsp, hcl, hcm⟩ := hrel
      have SV := Lib.hid (sizedS si oki.sl A c)
      have OV := Lib.hid (srcV_ones si A c)
      have ZV := Lib.hid (HZSS.out si oki.sl A c)
      have HSP := Lib.hid hsp
      rw [HRR.out] at hgo
      by_cases hlt : i < a
      · have HTK := Lib.hid (fun (W : World) (h3 : RdP A s.tape.length s.tape W) (kk : Kst W) => HTAKE.out si oki A c (by rw [htp]; exact hcl) hcm W (by rw [htp]; exact h3) kk)
        have hst : a - i = a - i - 1 + 1 := by omega
        rw [hst] at hgo
        have hti := takeE_in si k
        have hvi := takeV_in si k
        have htok := takeS_ok oki k
        have http := takeS_tape si k
        rw [htp] at http
        have hgz : takeE si k ≠ 0 → rr = (0, si, takeE si k) := fun h => by rw [hgo, drawGo_err h]
        have hgh : takeE si k = 0 → takeV si k < n → rr = (takeV si k, takeS si k, 0) := fun h h2 => by rw [hgo, drawGo_hit h h2]
        have hgm : takeE si k = 0 → ¬ takeV si k < n → rr = drawGo k n (a - (i + 1)) (takeS si k) := fun h h2 => by rw [hgo, drawGo_miss h h2, show a - i - 1 = a - (i + 1) by omega]
        have hsi : takeE si k ≠ 0 → takeS si k = si := fun h => by unfold takeS; rw [if_neg h]
        unfold RetTake at HTK
        rw [htp] at HTK
        obtain ⟨X, hX⟩ : ∃ X, takeV si k = X := ⟨_, rfl⟩
        obtain ⟨E, hE⟩ : ∃ E, takeE si k = E := ⟨_, rfl⟩
        obtain ⟨t, ht⟩ : ∃ t, takeS si k = t := ⟨_, rfl⟩
        rw [hX, hE, ht] at HTK
        rw [hX] at hvi hgh hgm
        rw [hE] at hti hgz hgh hgm hsi
        rw [ht] at htok http hgh hgm hsi
        have ST := Lib.hid (fun A c => sizedS t htok.sl A c)
        have OT := Lib.hid (fun A c => srcV_ones t A c)
        have ZT := Lib.hid (fun A c => HZSS.out t htok.sl A c)
        obtain ⟨zs, hzs⟩ : ∃ zs, s.tape = zs := ⟨_, rfl⟩
        obtain ⟨L, hL⟩ : ∃ L, zs.length = L := ⟨_, rfl⟩
        have HG1 : Hid (∀ A2 c2 g11 W, DrS w g3 g7 (srcV si A c) A L zs W → Blk W g7 40 Z → Blk W g11 40 (srcV t A2 c2) → RdP A2 L zs W → Apt L A2 g3 → Apt L A2 g7 → Sep w A0 A2 → L ≤ c2 → c2 ≤ maxLen → g3 ≠ g11 → g7 ≠ g11 → True) := Lib.hid (fun _ _ _ _ _ _ _ _ _ _ _ _ _ _ _ => trivial)
        have HEZ : Hid (E ≠ 0 → ∀ w', RdP A L zs w' → Below w.heap.size w w' → RetDraw w s A0 rr (.returned (.tuple #[.int .u64 0, .agg (srcV si A c), .int .i64 E])) w') := Lib.hid (fun h w' hr hb => ⟨A, c, by rw [hgz h], by rw [hzs, hL]; exact hr, hcl, hcm, hsp, hb⟩)
        have HEH : Hid (E = 0 → X < n → ∀ A2 c2 w', Sep w A0 A2 → L ≤ c2 → c2 ≤ maxLen → RdP A2 L zs w' → Below w.heap.size w w' → RetDraw w s A0 rr (.returned (.tuple #[.int .u64 X, .agg (srcV t A2 c2), .int .i64 0])) w') := Lib.hid (fun h h2 A2 c2 w' h3 h4 h5 hr hb => ⟨A2, c2, by rw [hgh h h2], by rw [hzs, hL]; exact hr, by rw [hzs, hL]; exact h4, h5, h3, hb⟩)
        have HEM : Hid (E = 0 → ¬ X < n → ∀ A2 c2 W, DrS w g3 g7 (srcV t A2 c2) A2 L zs W → Fx [.blk g7 40 Z] W → Sep w A0 A2 → L ≤ c2 → c2 ≤ maxLen → DrL w g3 g7 s k n a A0 Z (i + 1) W) := Lib.hid (fun h h2 A2 c2 W h3 h4 h5 h6 h7 => ⟨t, A2, c2, by rw [HRR.out]; exact hgm h h2, htok, by rw [http, hzs], by rw [hzs, hL]; exact h3, h4, h5, by rw [hzs, hL]; exact h6, h7⟩)
        rw [hzs, hL] at HTK
        rw [hzs, hL] at HS hcl
        clear hgo oki htp hsp hst htok http hgz hgh hgm hsi hX hE ht hzs hL HG1
        obtain ⟨V, hV⟩ : ∃ V, srcV si A c = V := ⟨_, rfl⟩
        rw [hV] at SV OV ZV HS HTK HEZ
        clear hV HTAKE HZSS
        by_cases hE0 : E = 0
        · have t1 : (E == 0) = true := by rw [beq_iff_eq]; exact hE0
          have t2 : (E != 0) = false := by rw [bne, t1]; rfl
          by_cases hx : X < n
          · have t0 : True := trivial
            go_wp2_with (first
              | (with_reducible refine at_any ?_; refine at_dst 36 rfl ?_; refine wpList_load_blk rfl 40 (.tmp 3) rfl g3 rfl 40 V HS.blk _ Tryz.underlying40 rfl SV.out ?_)
              | (go_at_call 69; (with_reducible refine (HTK.out _ HS.rd (HKS.out.below HS.bel)).mono ?_); rintro e w5 ⟨A2, c2, rfl, hrd2, hc2, hm2, hsp2, hb5⟩; obtain ⟨V2, hV2⟩ : ∃ V2, srcV t A2 c2 = V2 := ⟨_, rfl⟩; have SV2 := Lib.hid (ST.out A2 c2); have OV2 := Lib.hid (OT.out A2 c2); have ZV2 := Lib.hid (ZT.out A2 c2); have HM2 := Lib.hid (fun h h2 W h3 h4 => HEM.out h h2 A2 c2 W h3 h4 (Sep.trans HSP.out hsp2 HS.bel.size) hc2 hm2); have HH2 := Lib.hid (fun h h2 w' h3 h4 => HEH.out h h2 A2 c2 w' (Sep.trans HSP.out hsp2 HS.bel.size) hc2 hm2 h3 h4); rw [hV2] at SV2 OV2 ZV2 HM2 HH2 ⊢; clear hV2 hc2 hm2)
              | (with_reducible refine at_any ?_; refine at_dst 11 rfl ?_; refine wpList_alloc_any rfl 40 rfl Z HZ0.out ?_; intro w6 hk6 hs6 hb6)
              | (with_reducible refine at_any ?_; refine at_store 11 rfl ?_; refine wpList_store_any rfl 40 (.tmp 11) (.tmp 40) rfl w5.heap.size rfl 40 Z V2 hk6.out rfl ZV2.out SV2.out OV2.out ?_; intro w7 hk7 hs7 hb7 ho7; have T := Lib.hid (HS.took HZ hrd2 hsp2 hb5 hb6 hk6.out hk7.out hs7.out hb7 ho7)))
            obtain ⟨-, HZ, -, -, -, HD⟩ := T.out
            obtain ⟨g11, hg11⟩ : ∃ g, w5.heap.size = g := ⟨_, rfl⟩
            rw [hg11] at HD
            try rw [hg11]
            have HZ7 := HZ.drew
            refine wp_region_held_drew (S := (DrH w g7 g11 V2 A2 L zs)) (by kernel_rfl) HD.drew (fun hH => ?_)
            refine wpAnyH_letter #[false, false, false, false, false] (by kernel_rfl) (fun _ _ d _ _ h => by cases d <;> exact h) (fun QL HQ1 HQ2 => ?_)
            refine held_v 0 (some 49) rfl (by kernel_rfl) (by kernel_rfl) (by kernel_rfl) (by kernel_rfl) (fun c a v w h => HQ2.out c a _ v w h) (by kernel_rfl) (.int .u64 X) (fun W h => by kernel_rfl) hH ?_
            try simp only [Act.put, List.setIfInBounds_toArray, List.set_cons_zero, List.set_cons_succ]
            refine held_row 1 (some 50) rfl (by kernel_rfl) (by kernel_rfl) (by kernel_rfl) (by kernel_rfl) (fun c a v w h => HQ2.out c a _ v w h) (by kernel_rfl) 40 (.tmp 11) rfl g11 (by kernel_rfl) 40 V2 (fun _ h => h.blk) _ Tryz.underlying40 rfl SV2.out hH ?_
            try simp only [Act.put, List.setIfInBounds_toArray, List.set_cons_zero, List.set_cons_succ]
            refine held_v 2 (some 6) rfl (by kernel_rfl) (by kernel_rfl) (by kernel_rfl) (by kernel_rfl) (fun c a v w h => HQ2.out c a _ v w h) (by kernel_rfl) (.int .u64 X) (fun W h => by kernel_rfl) hH ?_
            try simp only [Act.put, List.setIfInBounds_toArray, List.set_cons_zero, List.set_cons_succ]
            refine wpAnyH_ready (rs := [3]) (by kernel_rfl) (by decide) ?_
            refine AllReadyH.cons rfl (fun K hK => ?_) AllReadyH.nil
            refine step_store none (by kernel_rfl) (by kernel_rfl) 40 (.tmp 7) (.tmp 50) rfl g7 (by kernel_rfl) 40 Z V2 HZ7.1 (by kernel_rfl) ZV2.out SV2.out OV2.out ?_
            intro w141 hkw141 hsw141 hbw141 how141
            have ex142 : Fx [.blk g7 40 V2] w141 := ⟨hkw141.out, trivial⟩
            refine hK.out _ _ (hH.store HZ7.1 hH.store7 hsw141.out hbw141 how141) (fun hw141 => ?_)
            clear hK K
            try simp only [Act.put, List.setIfInBounds_toArray, List.set_cons_zero, List.set_cons_succ]
            refine held_v 4 (some 8) rfl (by kernel_rfl) (by kernel_rfl) (by kernel_rfl) (by kernel_rfl) (fun c a v w h => HQ2.out c a _ v w h) (by kernel_rfl) (.int .i64 0) (fun W h => by kernel_rfl) hw141 ?_
            try simp only [Act.put, List.setIfInBounds_toArray, List.set_cons_zero, List.set_cons_succ]
            refine wpAnyH_done (by kernel_rfl) ?_ _
            refine HQ1.out _ _ ?_
            clear HQ1 HQ2
            go_wp2_with (refine bodyPost_mid 6 7 8 40 rfl g7 rfl (.int .u64 X) (.int .i64 0) rfl rfl 40 V2 ex142.1 _ Tryz.underlying40 rfl SV2.out rfl ?_)
            exact HH2.out hE0 hx _ hw141.rd.rd hw141.bel
          · have hx2 : n ≤ X := by omega
            go_wp2_with (first
              | (with_reducible refine at_any ?_; refine at_dst 36 rfl ?_; refine wpList_load_blk rfl 40 (.tmp 3) rfl g3 rfl 40 V HS.blk _ Tryz.underlying40 rfl SV.out ?_)
              | (go_at_call 69; (with_reducible refine (HTK.out _ HS.rd (HKS.out.below HS.bel)).mono ?_); rintro e w5 ⟨A2, c2, rfl, hrd2, hc2, hm2, hsp2, hb5⟩; obtain ⟨V2, hV2⟩ : ∃ V2, srcV t A2 c2 = V2 := ⟨_, rfl⟩; have SV2 := Lib.hid (ST.out A2 c2); have OV2 := Lib.hid (OT.out A2 c2); have ZV2 := Lib.hid (ZT.out A2 c2); have HM2 := Lib.hid (fun h h2 W h3 h4 => HEM.out h h2 A2 c2 W h3 h4 (Sep.trans HSP.out hsp2 HS.bel.size) hc2 hm2); have HH2 := Lib.hid (fun h h2 w' h3 h4 => HEH.out h h2 A2 c2 w' (Sep.trans HSP.out hsp2 HS.bel.size) hc2 hm2 h3 h4); rw [hV2] at SV2 OV2 ZV2 HM2 HH2 ⊢; clear hV2 hc2 hm2)
              | (with_reducible refine at_any ?_; refine at_dst 11 rfl ?_; refine wpList_alloc_any rfl 40 rfl Z HZ0.out ?_; intro w6 hk6 hs6 hb6)
              | (with_reducible refine at_any ?_; refine at_store 11 rfl ?_; refine wpList_store_any rfl 40 (.tmp 11) (.tmp 40) rfl w5.heap.size rfl 40 Z V2 hk6.out rfl ZV2.out SV2.out OV2.out ?_; intro w7 hk7 hs7 hb7 ho7; have T := Lib.hid (HS.took HZ hrd2 hsp2 hb5 hb6 hk6.out hk7.out hs7.out hb7 ho7))
              | (with_reducible refine at_any ?_; refine at_dst 51 rfl ?_; refine wpList_load_blk rfl 40 (.tmp 11) rfl w5.heap.size rfl 40 V2 hk7.out _ Tryz.underlying40 rfl SV2.out ?_)
              | (with_reducible refine at_any ?_; refine at_store 3 rfl ?_; refine wpList_store_any rfl 40 (.tmp 3) (.tmp 51) rfl g3 rfl 40 V V2 T.out.1.blk rfl (ZV.out.symm.trans ZV2.out) SV2.out OV2.out ?_; intro w9 hk9 hs9 hb9 ho9; have HS9 := Lib.hid (T.out.1.put3 T.out.2.2.1 T.out.2.2.2.1 T.out.2.2.2.2.1 hk9.out hs9.out hb9 ho9); have HZ9 := Lib.hid (T.out.2.1.store T.out.1.blk (T.out.1.hof Z) hs9.out hb9 ho9)))
            have HF := Lib.hid (HM2.out hE0 (by first | exact hx2 | exact Int.not_lt.2 hx2) _ HS9.out HZ9.out)
            clear HS9 HZ9 T
            go_roundw
            case rel => exact ⟨i + 1, by omega, by go_num, HF.out⟩
            case measure => simp [intOf]; omega
        · have t1 : (E == 0) = false := by rw [beq_eq_false_iff_ne]; exact hE0
          have t2 : (E != 0) = true := by rw [bne, t1]; rfl
          go_wp2_with (first
            | (with_reducible refine at_any ?_; refine at_dst 36 rfl ?_; refine wpList_load_blk rfl 40 (.tmp 3) rfl g3 rfl 40 V HS.blk _ Tryz.underlying40 rfl SV.out ?_)
            | (go_at_call 69; (with_reducible refine (HTK.out _ HS.rd (HKS.out.below HS.bel)).mono ?_); rintro e w5 ⟨A2, c2, rfl, hrd2, hc2, hm2, hsp2, hb5⟩; obtain ⟨V2, hV2⟩ : ∃ V2, srcV t A2 c2 = V2 := ⟨_, rfl⟩; have SV2 := Lib.hid (ST.out A2 c2); have OV2 := Lib.hid (OT.out A2 c2); have ZV2 := Lib.hid (ZT.out A2 c2); have HM2 := Lib.hid (fun h h2 W h3 h4 => HEM.out h h2 A2 c2 W h3 h4 (Sep.trans HSP.out hsp2 HS.bel.size) hc2 hm2); have HH2 := Lib.hid (fun h h2 w' h3 h4 => HEH.out h h2 A2 c2 w' (Sep.trans HSP.out hsp2 HS.bel.size) hc2 hm2 h3 h4); rw [hV2] at SV2 OV2 ZV2 HM2 HH2 ⊢; clear hV2 hc2 hm2)
            | (with_reducible refine at_any ?_; refine at_dst 11 rfl ?_; refine wpList_alloc_any rfl 40 rfl Z HZ0.out ?_; intro w6 hk6 hs6 hb6)
            | (with_reducible refine at_any ?_; refine at_store 11 rfl ?_; refine wpList_store_any rfl 40 (.tmp 11) (.tmp 40) rfl w5.heap.size rfl 40 Z V2 hk6.out rfl ZV2.out SV2.out OV2.out ?_; intro w7 hk7 hs7 hb7 ho7; have T := Lib.hid (HS.took HZ hrd2 hsp2 hb5 hb6 hk6.out hk7.out hs7.out hb7 ho7)))
          obtain ⟨HS7, HZ, -⟩ := T.out
          have HZ7 := HZ.drew
          refine wp_region_held_drew (S := (DrS w g3 g7 V A L zs)) (by kernel_rfl) HS7.drew (fun hH => ?_)
          refine wpAnyH_letter #[false, false, false, false, false] (by kernel_rfl) (fun _ _ d _ _ h => by cases d <;> exact h) (fun QL HQ1 HQ2 => ?_)
          refine held_row 0 (some 44) rfl (by kernel_rfl) (by kernel_rfl) (by kernel_rfl) (by kernel_rfl) (fun c a v w h => HQ2.out c a _ v w h) (by kernel_rfl) 40 (.tmp 3) rfl g3 (by kernel_rfl) 40 V (fun _ h => h.blk) _ Tryz.underlying40 rfl SV.out hH ?_
          try simp only [Act.put, List.setIfInBounds_toArray, List.set_cons_zero, List.set_cons_succ]
          refine held_v 1 (some 45) rfl (by kernel_rfl) (by kernel_rfl) (by kernel_rfl) (by kernel_rfl) (fun c a v w h => HQ2.out c a _ v w h) (by kernel_rfl) (.int .i64 E) (fun W h => by kernel_rfl) hH ?_
          try simp only [Act.put, List.setIfInBounds_toArray, List.set_cons_zero, List.set_cons_succ]
          refine held_v 2 (some 6) rfl (by kernel_rfl) (by kernel_rfl) (by kernel_rfl) (by kernel_rfl) (fun c a v w h => HQ2.out c a _ v w h) (by kernel_rfl) (.int .u64 0) (fun W h => by kernel_rfl) hH ?_
          try simp only [Act.put, List.setIfInBounds_toArray, List.set_cons_zero, List.set_cons_succ]
          refine wpAnyH_ready (rs := [3]) (by kernel_rfl) (by decide) ?_
          refine AllReadyH.cons rfl (fun K hK => ?_) AllReadyH.nil
          refine step_store none (by kernel_rfl) (by kernel_rfl) 40 (.tmp 7) (.tmp 44) rfl g7 (by kernel_rfl) 40 Z V HZ7.1 (by kernel_rfl) ZV.out SV.out OV.out ?_
          intro w141 hkw141 hsw141 hbw141 how141
          have ex142 : Fx [.blk g7 40 V] w141 := ⟨hkw141.out, trivial⟩
          refine hK.out _ _ (hH.store HZ7.1 hH.store7 hsw141.out hbw141 how141) (fun hw141 => ?_)
          clear hK K
          try simp only [Act.put, List.setIfInBounds_toArray, List.set_cons_zero, List.set_cons_succ]
          refine held_v 4 (some 8) rfl (by kernel_rfl) (by kernel_rfl) (by kernel_rfl) (by kernel_rfl) (fun c a v w h => HQ2.out c a _ v w h) (by kernel_rfl) (.int .i64 E) (fun W h => by kernel_rfl) hw141 ?_
          try simp only [Act.put, List.setIfInBounds_toArray, List.set_cons_zero, List.set_cons_succ]
          refine wpAnyH_done (by kernel_rfl) ?_ _
          refine HQ1.out _ _ ?_
          clear HQ1 HQ2
          go_wp2_with (refine bodyPost_mid 6 7 8 40 rfl g7 rfl (.int .u64 0) (.int .i64 E) rfl rfl 40 V ex142.1 _ Tryz.underlying40 rfl SV.out rfl ?_)
          exact HEZ.out hE0 _ hw141.rd.rd hw141.bel
      · obtain rfl : i = a := by omega
        rw [Nat.sub_self, drawGo_zero] at hgo
        have HEND : Hid (∀ w', RdP A s.tape.length s.tape w' → Below w.heap.size w w' → RetDraw w s A0 rr (.returned (.tuple #[.int .u64 0, .agg (srcV si A c), .int .i64 9])) w') := Lib.hid (fun w' hr hb => ⟨A, c, by rw [hgo], hr, hcl, hcm, hsp, hb⟩)
        obtain ⟨zs, hzs⟩ : ∃ zs, s.tape = zs := ⟨_, rfl⟩
        obtain ⟨L, hL⟩ : ∃ L, zs.length = L := ⟨_, rfl⟩
        rw [hzs, hL] at HEND HS
        obtain ⟨V, hV⟩ : ∃ V, srcV si A c = V := ⟨_, rfl⟩
        rw [hV] at SV OV ZV HEND HS
        clear hgo oki htp hsp hcl hcm hzs hL hV HTAKE HND HZSS
        go_wp2_with fail
        have HZ7 := HZ.drew
        refine wp_region_held_drew (S := (DrS w g3 g7 V A L zs)) (by kernel_rfl) HS.drew (fun hH => ?_)
        refine wpAnyH_letter #[false, false, false, false] (by kernel_rfl) (fun _ _ d _ _ h => by cases d <;> exact h) (fun QL HQ1 HQ2 => ?_)
        refine held_row 0 (some 53) rfl (by kernel_rfl) (by kernel_rfl) (by kernel_rfl) (by kernel_rfl) (fun c a v w h => HQ2.out c a _ v w h) (by kernel_rfl) 40 (.tmp 3) rfl g3 (by kernel_rfl) 40 V (fun _ h => h.blk) _ Tryz.underlying40 rfl SV.out hH ?_
        try simp only [Act.put, List.setIfInBounds_toArray, List.set_cons_zero, List.set_cons_succ]
        refine held_v 1 (some 6) rfl (by kernel_rfl) (by kernel_rfl) (by kernel_rfl) (by kernel_rfl) (fun c a v w h => HQ2.out c a _ v w h) (by kernel_rfl) (.int .u64 0) (fun W h => by kernel_rfl) hH ?_
        try simp only [Act.put, List.setIfInBounds_toArray, List.set_cons_zero, List.set_cons_succ]
        refine wpAnyH_ready (rs := [2]) (by kernel_rfl) (by decide) ?_
        refine AllReadyH.cons rfl (fun K hK => ?_) AllReadyH.nil
        refine step_store none (by kernel_rfl) (by kernel_rfl) 40 (.tmp 7) (.tmp 53) rfl g7 (by kernel_rfl) 40 Z V HZ7.1 (by kernel_rfl) ZV.out SV.out OV.out ?_
        intro w41 hkw41 hsw41 hbw41 how41
        have ex42 : Fx [.blk g7 40 V] w41 := ⟨hkw41.out, trivial⟩
        refine hK.out _ _ (hH.store HZ7.1 hH.store7 hsw41.out hbw41 how41) (fun hw41 => ?_)
        clear hK K
        try simp only [Act.put, List.setIfInBounds_toArray, List.set_cons_zero, List.set_cons_succ]
        refine held_v 3 (some 8) rfl (by kernel_rfl) (by kernel_rfl) (by kernel_rfl) (by kernel_rfl) (fun c a v w h => HQ2.out c a _ v w h) (by kernel_rfl) (.int .i64 9) (fun W h => by kernel_rfl) hw41 ?_
        try simp only [Act.put, List.setIfInBounds_toArray, List.set_cons_zero, List.set_cons_succ]
        refine wpAnyH_done (by kernel_rfl) ?_ _
        refine HQ1.out _ _ ?_
        clear HQ1 HQ2
        go_wp2_with (refine bodyPost_mid 6 7 8 40 rfl g7 rfl (.int .u64 0) (.int .i64 9) rfl rfl 40 V ex42.1 _ Tryz.underlying40 rfl SV.out rfl ?_)
        exact HEND.out _ hw41.rd hw41.bel
end
section
def renT : Go.Shelf.Ren := ⟨fun | 27 => 80 | 28 => 104 | 29 => 105 | n => n, fun | 0 => 0 | 3 => 3 | 4 => 4 | 5 => 5 | 22 => 24 | 25 => 109 | 27 => 89 | 53 => 37 | 54 => 178 | n => n, fun | 0 => 0 | 1 => 1 | n => n⟩
theorem laysT27 : Go.Proofs.Lays7.n27 Tryz.prog renT where
  mixed := by kernel_rfl
  f27 := Tryz.func80.trans (congrArg some (by kernel_rfl))
  f28 := Tryz.func104.trans (congrArg some (by kernel_rfl))
  f29 := Tryz.func105.trans (congrArg some (by kernel_rfl))
  t0 := Tryz.underlying0
  a0 := Tryz.isAgg0
  z0 := Tryz.sizeOf0
  v0 := Tryz.zeroValue0
  i0 := by kernel_rfl
  t3 := Tryz.underlying3
  a3 := Tryz.isAgg3
  z3 := Tryz.sizeOf3
  v3 := Tryz.zeroValue3
  i3 := by kernel_rfl
  t4 := Tryz.underlying4
  a4 := Tryz.isAgg4
  z4 := Tryz.sizeOf4
  v4 := Tryz.zeroValue4
  i4 := by kernel_rfl
  t5 := Tryz.underlying5
  a5 := Tryz.isAgg5
  z5 := Tryz.sizeOf5
  v5 := Tryz.zeroValue5
  i5 := by kernel_rfl
  t22 := Tryz.underlying24
  a22 := Tryz.isAgg24
  z22 := Tryz.sizeOf24
  v22 := Tryz.zeroValue24
  i22 := by kernel_rfl
  t25 := Tryz.underlying109
  a25 := Tryz.isAgg109
  z25 := Tryz.sizeOf109
  v25 := Tryz.zeroValue109
  i25 := by kernel_rfl
  t27 := Tryz.underlying89
  a27 := Tryz.isAgg89
  z27 := Tryz.sizeOf89
  v27 := Tryz.zeroValue89
  i27 := by kernel_rfl
  t53 := Tryz.underlying37
  a53 := Tryz.isAgg37
  z53 := Tryz.sizeOf37
  v53 := Tryz.zeroValue37
  i53 := by kernel_rfl
  t54 := Tryz.underlying178
  a54 := Tryz.isAgg178
  z54 := Tryz.sizeOf178
  g0 := by kernel_rfl
  g1 := by kernel_rfl
def renL : Go.Shelf.Ren := ⟨fun | 125 => 94 | 128 => 113 | 129 => 114 | n => n, fun | 3 => 3 | 4 => 4 | 5 => 5 | 9 => 9 | 46 => 109 | 51 => 89 | 53 => 24 | n => n, fun n => n⟩
theorem laysL125 : Go.Proofs.Lays.n125 Tryz.prog renL where
  mixed := by kernel_rfl
  f125 := Tryz.func94.trans (congrArg some (by kernel_rfl))
  f128 := Tryz.func113.trans (congrArg some (by kernel_rfl))
  f129 := Tryz.func114.trans (congrArg some (by kernel_rfl))
  t3 := Tryz.underlying3
  a3 := Tryz.isAgg3
  z3 := Tryz.sizeOf3
  v3 := Tryz.zeroValue3
  t4 := Tryz.underlying4
  a4 := Tryz.isAgg4
  z4 := Tryz.sizeOf4
  v4 := Tryz.zeroValue4
  t5 := Tryz.underlying5
  a5 := Tryz.isAgg5
  z5 := Tryz.sizeOf5
  v5 := Tryz.zeroValue5
  t9 := Tryz.underlying9
  a9 := Tryz.isAgg9
  z9 := Tryz.sizeOf9
  v9 := Tryz.zeroValue9
  t46 := Tryz.underlying109
  a46 := Tryz.isAgg109
  z46 := Tryz.sizeOf109
  v46 := Tryz.zeroValue109
  t51 := Tryz.underlying89
  a51 := Tryz.isAgg89
  z51 := Tryz.sizeOf89
  v51 := Tryz.zeroValue89
  t53 := Tryz.underlying24
  a53 := Tryz.isAgg24
  z53 := Tryz.sizeOf24
  v53 := Tryz.zeroValue24
end
section
open Go.ChangeShapes Go.WideShapes Go.ChangeAt Go.RowKit
theorem TzT.at_ {w : World} (h : TzT w) : TabAt 1 Lib.deBruijn64tab w := by
  intro j hj
  have h1 := Lib.TabIs.cell h gTz j (by unfold tzTab; rw [List.length_map]; exact hj)
  rw [h1]
  congr 2
  unfold tzTab
  simp [List.getD, hj]
theorem tz_c (n : Nat) (h0 : n ≠ 0) (hn : n < 18446744073709551616) (w : World) (hT : TzT w) : Calls Tryz.prog 80 #[.int .u64 (n : Int)] w fun e w' => e = .returned (.int .i64 ((Lib.ctz 64 n : Nat) : Int)) ∧ w = w' :=
  (Any7.bits_TrailingZeros laysT27 n hn w (fun _ => hT.at_)).mono fun e w' h => ⟨h.1, h.2.symm⟩
theorem ctz_low (n : Nat) (h0 : n ≠ 0) (hn : n < 18446744073709551616) : 2 ^ Lib.ctz 64 n = lowN n ∧ Lib.ctz 64 n < 64 := by
  obtain ⟨h1, h2⟩ := Lib.lowest_bit 64 n h0 (by omega)
  exact ⟨by rw [← h1]; exact land_low 64 n h0 (by omega), h2⟩
theorem len_c (n : Nat) (hn : n < 18446744073709551616) (w : World) : Calls Tryz.prog 94 #[.int .u64 (n : Int)] w fun e w' => e = .returned (.int .i64 ((Lib.bitLen n : Nat) : Int)) ∧ w = w' :=
  (Any.bits_Len laysL125 (n : Int) w (by omega) (by omega)).mono fun e w' h => ⟨by rw [h.1, Int.toNat_natCast], h.2.symm⟩
theorem bitLen_is (n : Nat) (h0 : n ≠ 0) (hn : n < 18446744073709551616) : ∃ k, Lib.bitLen n = k + 1 ∧ 2 ^ k ≤ n ∧ n < 2 ^ (k + 1) := by
  induction n using Nat.strongRecOn with
  | ind n ih =>
    have h1 := Lib.bitLen_half n h0 (by omega)
    by_cases h2 : n / 2 = 0
    · refine ⟨0, ?_, by omega, by omega⟩
      rw [h1, h2]
      rfl
    · obtain ⟨k, e1, e2, e3⟩ := ih (n / 2) (by omega) h2 (by omega)
      have e4 : 2 ^ (k + 1) = 2 * 2 ^ k := by rw [Nat.pow_succ, Nat.mul_comm]
      have e5 : 2 ^ (k + 1 + 1) = 2 * 2 ^ (k + 1) := by rw [Nat.pow_succ, Nat.mul_comm]
      exact ⟨k + 1, by rw [h1, e1, Nat.add_comm], by omega, by omega⟩
end
section
open Go.ChangeShapes Go.WideShapes Go.ChangeAt Go.RowKit
theorem q11low_c (n : Nat) (h0 : n ≠ 0) (hn : n < 9223372036854775808) (w : World) (hT : TzT w) : Calls Tryz.prog 50 #[.int .i64 (n : Int)] w fun e w' => e = .returned (.int .i64 ((lowN n : Nat) : Int)) ∧ w = w' := by
  obtain ⟨h1, h2⟩ := ctz_low n h0 (by omega)
  have hle := lowN_le n
  have HTZ := Lib.hid (tz_c n h0 (by omega) w hT)
  obtain ⟨L, hL⟩ : ∃ x : Nat, lowN n = x := ⟨_, rfl⟩
  rw [hL] at h1 hle ⊢
  obtain ⟨N, hN⟩ : ∃ x : Int, (n : Int) = x := ⟨_, rfl⟩
  rw [hN] at HTZ ⊢
  obtain ⟨k, hk⟩ : ∃ x : Nat, Lib.ctz 64 n = x := ⟨_, rfl⟩
  rw [hk] at HTZ h1 h2
  have hw : Go.IntKind.u64.wrap N = N := by rw [Go.IntKind.wrap_u64]; omega
  have hs : wrap64 ((2 : Int) ^ k) = ((L : Nat) : Int) := by
    have e : ((2 : Int) ^ k) = ((2 ^ k : Nat) : Int) := by simp
    rw [e, h1]
    simp only [wrap64]
    omega
  have k0 : (0 : Int) ≤ (k : Int) := by omega
  have k1 : (k : Int) < 64 := by omega
  clear hL h0 hn hN hk hT h1 h2 hle
  go_enter Tryz.func50, Tryz.ntmps50
  go_wp2_with (first
    | (go_at_call 80; (with_reducible refine HTZ.out.mono ?_); rintro e _ ⟨rfl, rfl⟩))
  go_ret
  exact ⟨by first | rfl | (rw [hs]; rfl), rfl⟩
theorem q11high_c (n k : Nat) (h1 : 2 ^ k ≤ n) (h2 : n < 2 ^ (k + 1)) (hn : n ≤ 1048576) (w : World) : Calls Tryz.prog 63 #[.int .i64 (n : Int)] w fun e w' => e = .returned (.int .i64 ((2 ^ k : Nat) : Int)) ∧ w = w' := by
  have hp : 1 ≤ 2 ^ k := Nat.one_le_two_pow
  obtain ⟨k', e1, e2, e3⟩ := bitLen_is n (by omega) (by omega)
  obtain rfl : k = k' := by
    rcases Nat.lt_trichotomy k k' with h | h | h
    · have := Nat.pow_le_pow_right (n := 2) (by omega) (show k + 1 ≤ k' by omega)
      omega
    · exact h
    · have := Nat.pow_le_pow_right (n := 2) (by omega) (show k' + 1 ≤ k by omega)
      omega
  have HTZ := Lib.hid (len_c n (by omega) w)
  rw [e1] at HTZ
  have hk20 : k < 21 := by
    rcases Nat.lt_or_ge k 21 with h | h
    · exact h
    · have := Nat.pow_le_pow_right (n := 2) (by omega) h
      omega
  have hpk : 2 ^ (k + 1) = 2 * 2 ^ k := by rw [Nat.pow_succ, Nat.mul_comm]
  obtain ⟨P, hP⟩ : ∃ x : Nat, 2 ^ k = x := ⟨_, rfl⟩
  rw [hP] at h1 hp hpk e2 ⊢
  obtain ⟨K, hK⟩ : ∃ x : Nat, k + 1 = x := ⟨_, rfl⟩
  rw [hK] at HTZ hpk e3 h2
  obtain ⟨N, hN⟩ : ∃ x : Int, (n : Int) = x := ⟨_, rfl⟩
  rw [hN] at HTZ ⊢
  have hw : Go.IntKind.u64.wrap N = N := by rw [Go.IntKind.wrap_u64]; omega
  have hs : wrap64 ((2 : Int) ^ K) = 2 * ((P : Nat) : Int) := by
    have e : ((2 : Int) ^ K) = ((2 ^ K : Nat) : Int) := by simp
    rw [e, hpk]
    simp only [wrap64]
    omega
  have hd : (2 * (P : Int)) / 2 = (P : Int) := by omega
  have k0 : (0 : Int) ≤ (K : Int) := by omega
  have k1 : (K : Int) < 64 := by omega
  clear hN hn h1 h2 e1 e2 e3 hk20 hpk hp hP hK
  go_enter Tryz.func63, Tryz.ntmps63
  go_wp2_with (first
    | (go_at_call 94; (with_reducible refine HTZ.out.mono ?_); rintro e _ ⟨rfl, rfl⟩))
  go_ret
  exact ⟨by first | rfl | (rw [hs]; rfl), rfl⟩
set_option maxHeartbeats 4000000 in
theorem q11first_c (l : List Int) (hz : ∀ z ∈ l, 0 ≤ z) (hs : sumL l < 9223372036854775808) (A : Option Addr) (m c : Nat) (hm : l.length = m) (hl : m ≤ 1048576) (n : Nat) (hn : n ≤ m) (w : World) (hT : TzT w) (hrd : Rd .u64 w w.heap.size A m (treeL l)) : Calls Tryz.prog 81 #[.agg #[.slice A m c], .int .i64 (n : Int)] w fun e w' => e = .returned (.int .u64 (preL l n)) ∧ Below w.heap.size w w' := by
  have HR := Lib.hid hrd
  have HLOW := Lib.hid (fun j (h : j ≠ 0) (h2 : j ≤ n) => preL_low (l := l) (n := j) h (by omega))
  have HMO := Lib.hid (fun a b (h : a ≤ b) => preL_mono hz (l := l) h)
  have HNN := Lib.hid (fun a => preL_nn hz (l := l) a)
  have HLE := Lib.hid (fun a => Int.lt_of_le_of_lt (preL_le hz (l := l) a) hs)
  have HLC := Lib.hid (fun j (h : j ≠ 0) (h2 : j ≤ n) W hW => q11low_c j h (by omega) W hW)
  have hmI : (m : Int) ≤ 1048576 := by omega
  have HTT := Lib.hid hT
  clear hrd hz hs hm hT
  go_enter Tryz.func81, Tryz.ntmps81
  go_wp2_with (with_reducible refine at_any ?_; refine at_dst 2 rfl ?_; refine wpList_box_any rfl 32 (.tmp 0) rfl #[.slice A m c] rfl ?_; intro w1 hk1 hs1 hb1; have HK1 := Lib.hid hk1.out; have HB1 := Lib.hid hb1; clear hk1 hs1 hb1)
  obtain ⟨g2, hg2⟩ : ∃ g, w.heap.size = g := ⟨_, rfl⟩
  have HC : Hid (w1.cell? ⟨g2, 0, none⟩ = some (.slice A m c)) := Lib.hid (by rw [← hg2]; exact Blk.cell0 HK1.out)
  have HR1A := Lib.hid (HR1 HR.out HB1.out)
  have HT1 := Lib.hid (HTT.out.below HB1.out)
  rw [hg2]
  clear hg2 HK1 HR
  go_loopw [1, 5] (fun nn ss wr => ∃ j : Nat, j ≤ n ∧ nn = .int .i64 (j : Int) ∧ ss = .int .u64 (preL l n - preL l j) ∧ w1 = wr) (fun nn _ _ => (intOf nn).toNat)
  case atStart => exact ⟨n, Nat.le_refl _, rfl, by rw [Int.sub_self], by first | rfl | trivial⟩
  case round =>
    obtain ⟨j, hj, rfl, rfl, rfl⟩ := hrel
    by_cases hlt : 0 < j
    · obtain ⟨g, off, rfl, -, hc⟩ := HR1A.out.at_ (by omega)
      have hck := hc (j - 1) (by omega)
      have hpl := HLOW.out j (by omega) hj
      have hlow := lowN_le j
      have hlp := lowN_pos (n := j) (by omega)
      have hlc := HLC.out j (by omega) hj
      obtain ⟨q, hq⟩ : ∃ q, j - 1 = q := ⟨_, rfl⟩
      obtain ⟨lo, hlo⟩ : ∃ x, lowN j = x := ⟨_, rfl⟩
      rw [hq] at hck hpl
      rw [hlo] at hpl hlow hlp hlc
      obtain ⟨r, hr⟩ : ∃ r : Nat, j - lo = r := ⟨_, rfl⟩
      rw [hr] at hpl
      have h1 := HMO.out j n hj
      have h2 := HNN.out r
      have h3 := HLE.out n
      have h4 := HMO.out r j (by omega)
      obtain ⟨z, hzz⟩ : ∃ z, (treeL l).getD q 0 = z := ⟨_, rfl⟩
      obtain ⟨pn, hpn⟩ : ∃ z, preL l n = z := ⟨_, rfl⟩
      obtain ⟨pj, hpj⟩ : ∃ z, preL l j = z := ⟨_, rfl⟩
      obtain ⟨pr, hpr⟩ : ∃ z, preL l r = z := ⟨_, rfl⟩
      rw [hzz] at hck hpl
      rw [hpn] at h1 h3 ⊢
      rw [hpj] at hpl h1 h4 ⊢
      rw [hpr] at hpl h2 h4
      obtain ⟨s, hs⟩ : ∃ s, pn - pj = s := ⟨_, rfl⟩
      rw [hs]
      have HNP : Hid (s + z = pn - preL l r) := Lib.hid (by rw [hpr]; omega)
      have s0 : 0 ≤ s := by omega
      have z0 : 0 ≤ z := by omega
      have sz : s + z < 9223372036854775808 := by omega
      have hjI : (0 : Int) < (j : Int) := by omega
      have hqI : (j : Int) - 1 = (q : Int) := by omega
      have hqm : (q : Int) < (m : Int) := by omega
      have hq0 : (0 : Int) ≤ (q : Int) := by omega
      have hjm : (j : Int) ≤ 1048576 := by omega
      have hrI : (j : Int) - (lo : Int) = (r : Int) := by omega
      have hrm : (r : Int) ≤ 1048576 := by omega
      have hr0 : (0 : Int) ≤ (r : Int) := by omega
      have cz := HC.out
      have HLCJ := Lib.hid hlc
      have HPN := Lib.hid hpn
      have hrj : r < j := by omega
      clear hc hpl hlow hlp hlc hq hlo hr h1 h2 h3 h4 hzz hpn hpj hpr hs
      go_wp2_with (go_at_call 50; (with_reducible refine (HLCJ.out _ HT1.out).mono ?_); rintro e _ ⟨rfl, rfl⟩)
      go_roundw
      case rel => exact ⟨r, by omega, by go_num, by rw [HNP.out], by first | rfl | trivial⟩
      case measure => simp [intOf]; omega
    · obtain rfl : j = 0 := by omega
      rw [show preL l 0 = 0 from rfl, Int.sub_zero]
      rw [show ((0 : Nat) : Int) = 0 from rfl]
      go_wp2
      go_ret
      exact ⟨rfl, HB1.out⟩
theorem q11len_c (A : Option Addr) (n c : Nat) (w : World) : Calls Tryz.prog 64 #[.agg #[.slice A n c]] w fun e w' => e = .returned (.int .i64 (n : Int)) ∧ Below w.heap.size w w' := by
  go_enter Tryz.func64, Tryz.ntmps64
  go_wp2_with (first
    | (with_reducible refine at_any ?_; refine at_dst 1 rfl ?_; refine wpList_box_any rfl 32 (.tmp 0) rfl #[.slice A n c] rfl ?_; intro w1 hk1 hs1 hb1; have HK1 := Lib.hid hk1.out; have HB1 := Lib.hid hb1; have cz := Blk.cell0 HK1.out; clear hk1 hs1 hb1))
  go_ret
  exact ⟨rfl, HB1.out⟩
end
section
open Go.ChangeShapes Go.WideShapes Go.ChangeAt Go.RowKit
theorem q11has_c (A : Option Addr) (n c : Nat) (i : Int) (b : Bool) (hb : b = decide (0 ≤ i ∧ i < (n : Int))) (w : World) : Calls Tryz.prog 116 #[.agg #[.slice A n c], .int .i64 i] w fun e w' => e = .returned (.bool b) ∧ Below w.heap.size w w' := by
  by_cases h0 : 0 ≤ i
  · have hbv : decide (i < (n : Int)) = b := by rw [hb]; simp [h0]
    clear hb
    go_enter Tryz.func116, Tryz.ntmps116
    go_wp2_with (first
      | (with_reducible refine at_any ?_; refine at_dst 2 rfl ?_; refine wpList_box_any rfl 32 (.tmp 0) rfl #[.slice A n c] rfl ?_; intro w1 hk1 hs1 hb1; have HK1 := Lib.hid hk1.out; have HB1 := Lib.hid hb1; have cz := Blk.cell0 HK1.out; clear hk1 hs1 hb1)
      | (with_reducible refine at_any ?_; refine at_dst 9 rfl ?_; refine wpList_load_fen (by kernel_rfl) (.tmp 2) rfl w.heap.size rfl 32 (.slice A n c) HK1.out ?_)
      | (go_at_call 64; (with_reducible refine (q11len_c _ _ _ _).mono ?_); rintro e w2 ⟨rfl, hb2⟩; have HB2 := Lib.hid (HB1.out.trans (hb2.mono HB1.out.size)); have HK2 := Lib.hid (HK1.out.below hb2 HK1.out.lt); have cz2 := Blk.cell0 HK2.out; clear hb2))
    go_ret
    exact ⟨by first | (rw [hbv]; rfl) | rfl | (subst hbv; rfl), by first | exact HB2.out | exact HB1.out⟩
  · obtain rfl : b = false := by rw [hb]; simp [h0]
    clear hb
    go_enter Tryz.func116, Tryz.ntmps116
    go_wp2_with (first
      | (with_reducible refine at_any ?_; refine at_dst 2 rfl ?_; refine wpList_box_any rfl 32 (.tmp 0) rfl #[.slice A n c] rfl ?_; intro w1 hk1 hs1 hb1; have HK1 := Lib.hid hk1.out; have HB1 := Lib.hid hb1; have cz := Blk.cell0 HK1.out; clear hk1 hs1 hb1)
      | (with_reducible refine at_any ?_; refine at_dst 9 rfl ?_; refine wpList_load_fen (by kernel_rfl) (.tmp 2) rfl w.heap.size rfl 32 (.slice A n c) HK1.out ?_)
      | (go_at_call 64; (with_reducible refine (q11len_c _ _ _ _).mono ?_); rintro e w2 ⟨rfl, hb2⟩; have HB2 := Lib.hid (HB1.out.trans (hb2.mono HB1.out.size)); have HK2 := Lib.hid (HK1.out.below hb2 HK1.out.lt); have cz2 := Blk.cell0 HK2.out; clear hb2))
    go_ret
    exact ⟨rfl, by first | exact HB2.out | exact HB1.out⟩
section
variable (l : List Int) (hz : ∀ z ∈ l, 0 ≤ z) (hs : sumL l < 9223372036854775808) (hl : l.length ≤ 1048576) (A : Option Addr) (n c : Nat) (hn : l.length = n) (hc : n ≤ c) (hcm : c ≤ maxLen)
include hz hs hl hn hc hcm
set_option maxHeartbeats 2000000 in
theorem q11total_c (w : World) (hT : TzT w) (hrd : Rd .u64 w w.heap.size A n (treeL l)) : Calls Tryz.prog 51 #[.agg #[.slice A n c]] w fun e w' => e = .returned (.int .u64 (sumL l)) ∧ Below w.heap.size w w' := by
  have HR := Lib.hid hrd
  have HTT := Lib.hid hT
  have hf := fun W hW h => q11first_c l hz hs A n c hn (by omega) n (Nat.le_refl _) W hW h
  rw [← hn, preL_all, hn] at hf
  obtain ⟨x, hx⟩ : ∃ x, sumL l = x := ⟨_, rfl⟩
  obtain ⟨ts, hts⟩ : ∃ x, treeL l = x := ⟨_, rfl⟩
  rw [hts] at hf HR
  rw [hx] at hf ⊢
  have HF := Lib.hid hf
  have hnI : (n : Int) ≤ 1048576 := by omega
  clear hrd hz hs hl hn hc hcm hf hx hT hts
  go_enter Tryz.func51, Tryz.ntmps51
  go_wp2_with (first
    | (with_reducible refine at_any ?_; refine at_dst 1 rfl ?_; refine wpList_box_any rfl 32 (.tmp 0) rfl #[.slice A n c] rfl ?_; intro w1 hk1 hs1 hb1; have HK1 := Lib.hid hk1.out; have HB1 := Lib.hid hb1; clear hk1 hs1 hb1))
  obtain ⟨gB, hgB⟩ : ∃ g, w.heap.size = g := ⟨_, rfl⟩
  have G1 : Hid (Fx [.blk gB 32 #[.slice A n c], .rdb .u64 w.heap.size A n ts, .bel w] w1) := Lib.hid ⟨by rw [← hgB]; exact HK1.out, ⟨HR.out.below HB1.out, HB1.out.size⟩, HB1.out, trivial⟩
  have cG := Blk.cell0 (Fx.b0 G1.out)
  rw [hgB]
  clear hgB HK1
  refine wp_region_held_drew (S := (Fx [.blk gB 32 #[.slice A n c], .rdb .u64 w.heap.size A n ts, .bel w])) (by kernel_rfl) (Fx.drew G1.out) (fun hH => ?_)
  refine wpAnyH_letter #[false, false, false, false, false] (by kernel_rfl) (fun _ _ d _ _ h => by cases d <;> exact h) (fun QL HQ1 HQ2 => ?_)
  refine held_row 0 (some 3) rfl (by kernel_rfl) (by kernel_rfl) (by kernel_rfl) (by kernel_rfl) (fun c a v w h => HQ2.out c a _ v w h) (by kernel_rfl) 32 (.tmp 1) rfl gB (by kernel_rfl) 32 #[.slice A n c] (fun _ h => (Fx.b0 h)) _ Tryz.underlying32 rfl (sizedF _) hH ?_
  try simp only [Act.put, List.setIfInBounds_toArray, List.set_cons_zero, List.set_cons_succ]
  refine held_row 1 (some 4) rfl (by kernel_rfl) (by kernel_rfl) (by kernel_rfl) (by kernel_rfl) (fun c a v w h => HQ2.out c a _ v w h) (by kernel_rfl) 32 (.tmp 1) rfl gB (by kernel_rfl) 32 #[.slice A n c] (fun _ h => (Fx.b0 h)) _ Tryz.underlying32 rfl (sizedF _) hH ?_
  try simp only [Act.put, List.setIfInBounds_toArray, List.set_cons_zero, List.set_cons_succ]
  refine wpAnyH_ready (rs := [2]) (by kernel_rfl) (by decide) ?_
  refine AllReadyH.cons rfl (fun K hK => ?_) AllReadyH.nil
  refine step_call (some 5) (by kernel_rfl) (by kernel_rfl) _ _ (by kernel_rfl) _ (q11len_c A n c _) ?_
  rintro e w41 ⟨rfl, hbw41⟩
  refine ⟨_, rfl, ?_⟩
  refine hK.out _ _ (hH.below hbw41) (fun hw41 => ?_)
  clear hK K
  try simp only [Act.put, List.setIfInBounds_toArray, List.set_cons_zero, List.set_cons_succ]
  refine wpAnyH_ready (rs := [3]) (by kernel_rfl) (by decide) ?_
  refine AllReadyH.cons rfl (fun K hK => ?_) AllReadyH.nil
  refine step_call (some 6) (by kernel_rfl) (by kernel_rfl) _ _ (by kernel_rfl) _ (HF.out _ (HTT.out.below (Fx.e2 hw41)) (Fx.r1 hw41)) ?_
  rintro e w42 ⟨rfl, hbw42⟩
  refine ⟨_, rfl, ?_⟩
  refine hK.out _ _ (hw41.below hbw42) (fun hw42 => ?_)
  clear hK K
  try simp only [Act.put, List.setIfInBounds_toArray, List.set_cons_zero, List.set_cons_succ]
  refine held_v 4 (some 2) rfl (by kernel_rfl) (by kernel_rfl) (by kernel_rfl) (by kernel_rfl) (fun c a v w h => HQ2.out c a _ v w h) (by kernel_rfl) (.int .u64 x) (fun W h => by kernel_rfl) hw42 ?_
  try simp only [Act.put, List.setIfInBounds_toArray, List.set_cons_zero, List.set_cons_succ]
  refine wpAnyH_done (by kernel_rfl) ?_ _
  refine HQ1.out _ _ ?_
  clear HQ1 HQ2
  go_wp2
  go_ret
  exact ⟨rfl, Fx.e2 hw42⟩
set_option maxHeartbeats 2000000 in
theorem q11at_c (i : Int) (i0 : -9223372036854775808 ≤ i) (i1 : i < 9223372036854775808) (w : World) (hT : TzT w) (hrd : Rd .u64 w w.heap.size A n (treeL l)) : Calls Tryz.prog 97 #[.agg #[.slice A n c], .int .i64 i] w fun e w' => e = .returned (.tuple #[.int .u64 (atV l i), .int .i64 (atE l i)]) ∧ Below w.heap.size w w' := by
  have HR := Lib.hid hrd
  have HTT := Lib.hid hT
  have hnI : (n : Int) ≤ 1048576 := by omega
  by_cases hin : 0 ≤ i ∧ i < (l.length : Int)
  · obtain ⟨e1, e2⟩ := at_ok hin
    rw [e1, e2]
    obtain ⟨k, rfl⟩ := Int.eq_ofNat_of_zero_le hin.1
    rw [Int.toNat_natCast]
    have hkn : k < n := by omega
    have hf1 := fun W hW h => q11first_c l hz hs A n c hn (by omega) (k + 1) hkn W hW h
    have hf0 := fun W hW h => q11first_c l hz hs A n c hn (by omega) k (by omega) W hW h
    have hnx := preL_next (l := l) (n := k) (by omega)
    have hp0 := preL_nn hz k
    have hpm := preL_mono hz (show k ≤ k + 1 by omega)
    have hple := Int.lt_of_le_of_lt (preL_le hz (k + 1)) hs
    obtain ⟨x, hx⟩ : ∃ x, l.getD k 0 = x := ⟨_, rfl⟩
    obtain ⟨p0, hp0e⟩ : ∃ x, preL l k = x := ⟨_, rfl⟩
    obtain ⟨p1, hp1e⟩ : ∃ x, preL l (k + 1) = x := ⟨_, rfl⟩
    obtain ⟨ts, hts⟩ : ∃ x, treeL l = x := ⟨_, rfl⟩
    rw [hts] at hf1 hf0 HR
    rw [hp1e] at hf1 hnx hpm hple
    rw [hp0e] at hf0 hnx hpm hp0
    rw [hx] at hnx ⊢
    have hk1 : ((k + 1 : Nat) : Int) = (k : Int) + 1 := by omega
    rw [hk1] at hf1
    have HF1 := Lib.hid hf1
    have HF0 := Lib.hid hf0
    have HXX : Hid (IntKind.u64.wrap (p1 - p0) = x) := Lib.hid (by rw [IntKind.wrap_u64]; omega)
    have HKW : Hid (IntKind.i64.wrap ((k : Int) + 1) = (k : Int) + 1) := Lib.hid (by rw [IntKind.wrap_i64]; omega)
    have HAS := Lib.hid (fun W => q11has_c A n c (k : Int) true (by rw [decide_eq_true ⟨by omega, by omega⟩]) W)
    clear hz hs hl hn hc hcm i0 i1 hrd hT e1 e2 hx hin hkn hf0 hf1 hnx hpm hp0 hple hp0e hp1e hts hk1
    go_enter Tryz.func97, Tryz.ntmps97
    go_wp2_with (first
      | (with_reducible refine at_any ?_; refine at_dst 2 rfl ?_; refine wpList_box_any rfl 32 (.tmp 0) rfl #[.slice A n c] rfl ?_; intro w1 hk1 hs1 hb1; have HK1 := Lib.hid hk1.out; have HB1 := Lib.hid hb1; clear hk1 hs1 hb1)
      | (with_reducible refine at_any ?_; refine at_dst 6 rfl ?_; refine wpList_load_fen (by kernel_rfl) (.tmp 2) rfl w.heap.size rfl 32 (.slice A n c) HK1.out ?_)
      | (go_at_call 116; (with_reducible refine (HAS.out _).mono ?_); rintro e w2 ⟨rfl, hb2⟩; have HB2 := Lib.hid (HB1.out.trans (hb2.mono HB1.out.size)); have HK2 := Lib.hid (HK1.out.below hb2 HK1.out.lt); clear hb2))
    obtain ⟨gB, hgB⟩ : ∃ g, w.heap.size = g := ⟨_, rfl⟩
    have G1 : Hid (Fx [.blk gB 32 #[.slice A n c], .rdb .u64 w.heap.size A n ts, .bel w] w2) := Lib.hid ⟨by rw [← hgB]; exact HK2.out, ⟨HR.out.below HB2.out, HB2.out.size⟩, HB2.out, trivial⟩
    have cG := Blk.cell0 (Fx.b0 G1.out)
    rw [hgB]
    clear hgB HK1
    refine wp_region_held_drew (S := (Fx [.blk gB 32 #[.slice A n c], .rdb .u64 w.heap.size A n ts, .bel w])) (by kernel_rfl) (Fx.drew G1.out) (fun hH => ?_)
    refine wpAnyH_letter #[false, false, false, false, false, false, false, false, false, false] (by kernel_rfl) (fun _ _ d _ _ h => by cases d <;> exact h) (fun QL HQ1 HQ2 => ?_)
    refine held_row 0 (some 10) rfl (by kernel_rfl) (by kernel_rfl) (by kernel_rfl) (by kernel_rfl) (fun c a v w h => HQ2.out c a _ v w h) (by kernel_rfl) 32 (.tmp 2) rfl gB (by kernel_rfl) 32 #[.slice A n c] (fun _ h => (Fx.b0 h)) _ Tryz.underlying32 rfl (sizedF _) hH ?_
    try simp only [Act.put, List.setIfInBounds_toArray, List.set_cons_zero, List.set_cons_succ]
    refine held_v 1 (some 11) rfl (by kernel_rfl) (by kernel_rfl) (by kernel_rfl) (by kernel_rfl) (fun c a v w h => HQ2.out c a _ v w h) (by kernel_rfl) (.int .i64 (k : Int)) (fun W h => by kernel_rfl) hH ?_
    try simp only [Act.put, List.setIfInBounds_toArray, List.set_cons_zero, List.set_cons_succ]
    refine held_v 2 (some 12) rfl (by kernel_rfl) (by kernel_rfl) (by kernel_rfl) (by kernel_rfl) (fun c a v w h => HQ2.out c a _ v w h) (by kernel_rfl) (.int .i64 ((k : Int) + 1)) (fun W h => by have p := HKW.out; go_simp) hH ?_
    try simp only [Act.put, List.setIfInBounds_toArray, List.set_cons_zero, List.set_cons_succ]
    refine held_row 4 (some 14) rfl (by kernel_rfl) (by kernel_rfl) (by kernel_rfl) (by kernel_rfl) (fun c a v w h => HQ2.out c a _ v w h) (by kernel_rfl) 32 (.tmp 2) rfl gB (by kernel_rfl) 32 #[.slice A n c] (fun _ h => (Fx.b0 h)) _ Tryz.underlying32 rfl (sizedF _) hH ?_
    try simp only [Act.put, List.setIfInBounds_toArray, List.set_cons_zero, List.set_cons_succ]
    refine held_v 5 (some 15) rfl (by kernel_rfl) (by kernel_rfl) (by kernel_rfl) (by kernel_rfl) (fun c a v w h => HQ2.out c a _ v w h) (by kernel_rfl) (.int .i64 (k : Int)) (fun W h => by kernel_rfl) hH ?_
    try simp only [Act.put, List.setIfInBounds_toArray, List.set_cons_zero, List.set_cons_succ]
    refine wpAnyH_ready (rs := [3]) (by kernel_rfl) (by decide) ?_
    refine AllReadyH.cons rfl (fun K hK => ?_) AllReadyH.nil
    refine step_call (some 13) (by kernel_rfl) (by kernel_rfl) _ _ (by kernel_rfl) _ (HF1.out _ (HTT.out.below (Fx.e2 hH)) (Fx.r1 hH)) ?_
    rintro e w41 ⟨rfl, hbw41⟩
    refine ⟨_, rfl, ?_⟩
    refine hK.out _ _ (hH.below hbw41) (fun hw41 => ?_)
    clear hK K
    try simp only [Act.put, List.setIfInBounds_toArray, List.set_cons_zero, List.set_cons_succ]
    refine wpAnyH_ready (rs := [6]) (by kernel_rfl) (by decide) ?_
    refine AllReadyH.cons rfl (fun K hK => ?_) AllReadyH.nil
    refine step_call (some 16) (by kernel_rfl) (by kernel_rfl) _ _ (by kernel_rfl) _ (HF0.out _ (HTT.out.below (Fx.e2 hw41)) (Fx.r1 hw41)) ?_
    rintro e w42 ⟨rfl, hbw42⟩
    refine ⟨_, rfl, ?_⟩
    refine hK.out _ _ (hw41.below hbw42) (fun hw42 => ?_)
    clear hK K
    try simp only [Act.put, List.setIfInBounds_toArray, List.set_cons_zero, List.set_cons_succ]
    refine held_v 7 (some 17) rfl (by kernel_rfl) (by kernel_rfl) (by kernel_rfl) (by kernel_rfl) (fun c a v w h => HQ2.out c a _ v w h) (by kernel_rfl) (.int .u64 x) (fun W h => by have p := HXX.out; go_simp) hw42 ?_
    try simp only [Act.put, List.setIfInBounds_toArray, List.set_cons_zero, List.set_cons_succ]
    refine held_v 8 (some 4) rfl (by kernel_rfl) (by kernel_rfl) (by kernel_rfl) (by kernel_rfl) (fun c a v w h => HQ2.out c a _ v w h) (by kernel_rfl) (.int .u64 x) (fun W h => by kernel_rfl) hw42 ?_
    try simp only [Act.put, List.setIfInBounds_toArray, List.set_cons_zero, List.set_cons_succ]
    refine held_v 9 (some 5) rfl (by kernel_rfl) (by kernel_rfl) (by kernel_rfl) (by kernel_rfl) (fun c a v w h => HQ2.out c a _ v w h) (by kernel_rfl) (.int .i64 0) (fun W h => by kernel_rfl) hw42 ?_
    try simp only [Act.put, List.setIfInBounds_toArray, List.set_cons_zero, List.set_cons_succ]
    refine wpAnyH_done (by kernel_rfl) ?_ _
    refine HQ1.out _ _ ?_
    clear HQ1 HQ2
    go_wp2
    go_ret2
    exact ⟨rfl, Fx.e2 hw42⟩
  · obtain ⟨e1, e2⟩ := at_no hin
    rw [e1, e2]
    rw [hn] at hin
    have HAS := Lib.hid (fun W => q11has_c A n c i false (by rw [decide_eq_false hin]) W)
    clear hz hs hl hn hc hcm hrd hT e1 e2 hin
    go_enter Tryz.func97, Tryz.ntmps97
    go_wp2_with (first
      | (with_reducible refine at_any ?_; refine at_dst 2 rfl ?_; refine wpList_box_any rfl 32 (.tmp 0) rfl #[.slice A n c] rfl ?_; intro w1 hk1 hs1 hb1; have HK1 := Lib.hid hk1.out; have HB1 := Lib.hid hb1; clear hk1 hs1 hb1)
      | (with_reducible refine at_any ?_; refine at_dst 6 rfl ?_; refine wpList_load_fen (by kernel_rfl) (.tmp 2) rfl w.heap.size rfl 32 (.slice A n c) HK1.out ?_)
      | (go_at_call 116; (with_reducible refine (HAS.out _).mono ?_); rintro e w2 ⟨rfl, hb2⟩; have HB2 := Lib.hid (HB1.out.trans (hb2.mono HB1.out.size)); have HK2 := Lib.hid (HK1.out.below hb2 HK1.out.lt); clear hb2))
    go_ret2
    exact ⟨rfl, HB2.out⟩
end
end
section
open Go.ChangeShapes Go.WideShapes Go.ChangeAt Go.RowKit
def RetOwn (w : World) (l : List Int) (e : Ending) (w' : World) : Prop := ∃ v, e = .returned v ∧ OwnI w' w.heap.size 24 .u64 v l ∧ Below w.heap.size w w'
theorem clone64_c (l : List Int) (A : Option Addr) (n c : Nat) (hn : n ≤ 100000000) (w : World) (hrd : Rd .u64 w w.heap.size A n l) : Calls Tryz.prog 49 #[.slice A n c] w (RetOwn w l) := by
  have q22 : ∀ (w : World) (a : Option Addr) (n c n' c' : Nat), (binOp .eql 22 (.slice a n c) (.slice none n' c')).run Tryz.prog w = .ok (.bool a.isNone) w := fun w a n c n' c' => Lib.run_eql_slice_nil w _ _ a n c n' c' Tryz.underlying22
  have hlen := hrd.len
  cases A with
  | none =>
    have hn0 : n = 0 := by
      rcases Nat.eq_zero_or_pos n with h | h
      · exact h
      · obtain ⟨g, off, e, _⟩ := hrd.at_ h
        cases e
    obtain rfl : l = [] := List.length_eq_zero_iff.1 (by omega)
    clear hlen hrd hn
    go_enter Tryz.func49, Tryz.ntmps49
    go_wp2
    go_ret
    exact ⟨_, rfl, OwnI.empty _ _ _ _, Below.refl _ _⟩
  | some a =>
    have HR := Lib.hid hrd
    have HN := Lib.hid hn
    clear hlen hrd hn
    go_enter Tryz.func49, Tryz.ntmps49
    go_wp2_with (first
      | (at_builtin; refine wpList_own_copy8o w rfl (.tmp 5) (.tmp 6) rfl rfl (some a) n c l rfl HR.out HN.out ?_; intro v w2 hb2 ho2; have HB2 := Lib.hid hb2; have HO2 := Lib.hid ho2; clear hb2 ho2))
    go_ret
    exact ⟨_, rfl, HO2.out, HB2.out⟩
end
section
theorem cov_bd {M : Nat} (h : M ≠ 0) : ∀ k, M - lowN M ≤ covN M k ∧ covN M k ≤ M - 1
  | 0 => by
    have h1 := lowN_pos h
    show M - lowN M ≤ M - lowN M ∧ M - lowN M ≤ M - 1
    omega
  | k + 1 => by
    rw [covN]
    split
    · rename_i e
      have := child_in (by omega) e
      omega
    · exact cov_bd h k
theorem bldF_bd {l : List Int} (hz : ∀ z ∈ l, 0 ≤ z) (k m : Nat) (hm : m < l.length) : 0 ≤ (bldF l k).getD m 0 ∧ (bldF l k).getD m 0 ≤ sumL l := by
  rw [bldF_at k hm]
  obtain ⟨h1, h2⟩ := cov_bd (M := m + 1) (by omega) k
  have h3 := preL_mono hz h1
  have h4 := preL_mono hz (show covN (m + 1) k ≤ m by omega)
  have h5 := preL_next hm
  have h6 := preL_le hz (m + 1)
  have h7 := preL_nn hz (m + 1 - lowN (m + 1))
  have h8 := preL_nn hz (covN (m + 1) k)
  have h9 : 0 ≤ l.getD m 0 := by
    have := preL_mono hz (show m ≤ m + 1 by omega)
    omega
  omega
theorem bldF_keep {l : List Int} {k j : Nat} (hj : j < l.length) (h : j ≠ k + lowN (k + 1)) : (bldF l (k + 1)).getD j 0 = (bldF l k).getD j 0 := by
  rw [bldF_at _ hj, bldF_at _ hj, covN, if_neg (by omega)]
theorem bldF_prev {l : List Int} {k : Nat} (hk : k < l.length) (h : k + 1 + lowN (k + 1) ≤ l.length) : (bldF l (k + 1)).set (k + lowN (k + 1)) ((bldF l (k + 1)).getD (k + lowN (k + 1)) 0 - (bldF l (k + 1)).getD k 0) = bldF l k := by
  have hp := lowN_pos (n := k + 1) (by omega)
  have h1 := bldF_next hk h
  have h2 : (bldF l (k + 1)).getD (k + lowN (k + 1)) 0 = (bldF l k).getD (k + lowN (k + 1)) 0 + (bldF l k).getD k 0 := by
    rw [← h1, List.getD_eq_getElem?_getD, List.getElem?_set_self (by rw [bldF_len]; omega)]
    rfl
  have h3 := bldF_keep (l := l) (k := k) hk (by omega)
  rw [h2, h3]
  apply ext_getD (by rw [List.length_set, bldF_len, bldF_len])
  intro j hj
  rw [List.length_set, bldF_len] at hj
  by_cases hjo : j = k + lowN (k + 1)
  · subst hjo
    rw [List.getD_eq_getElem?_getD, List.getElem?_set_self (by rw [bldF_len]; exact hj)]
    show (bldF l k).getD (k + lowN (k + 1)) 0 + (bldF l k).getD k 0 - (bldF l k).getD k 0 = _
    omega
  · rw [List.getD_eq_getElem?_getD, List.getElem?_set_ne (fun h => hjo h.symm), ← List.getD_eq_getElem?_getD, bldF_keep hj hjo]
def chainP (i p : Nat) : Prop := p ≠ 0 ∧ ∀ m, holdsP m p ↔ (holdsP m (i + 1) ∧ p ≤ m)
theorem chain_zero (i : Nat) : chainP i (i + 1) := ⟨by omega, fun m => ⟨fun h => ⟨h, h.2⟩, fun h => h.1⟩⟩
theorem chain_next {i p : Nat} (h : chainP i p) : chainP i (p + lowN p) := by
  obtain ⟨h0, h1⟩ := h
  have hp := lowN_pos h0
  refine ⟨by omega, fun m => ⟨fun hm => ?_, fun hm => ?_⟩⟩
  · exact ⟨((h1 m).1 (holds_back h0 hm)).1, hm.2⟩
  · obtain ⟨h2, h3⟩ := hm
    exact holds_next h0 ((h1 m).2 ⟨h2, by omega⟩) (by omega)
theorem chain_self {i p : Nat} (h : chainP i p) : holdsP p (i + 1) := ((h.2 p).1 (holds_self h.1)).1
theorem chain_gap {i p m : Nat} (h : chainP i p) (hm : holdsP m (i + 1)) (h2 : p < m) : p + lowN p ≤ m := (holds_next h.1 ((h.2 m).2 ⟨hm, by omega⟩) (by omega)).2
def setF (l : List Int) (i : Nat) (d : Int) (p : Nat) : List Int := (List.range l.length).map fun j => (treeL l).getD j 0 + if j + 1 - lowN (j + 1) < i + 1 ∧ i + 1 ≤ j + 1 ∧ j + 1 < p then d else 0
theorem setF_len (l : List Int) (i : Nat) (d : Int) (p : Nat) : (setF l i d p).length = l.length := by simp [setF]
theorem setF_at {l : List Int} (i : Nat) (d : Int) (p : Nat) {j : Nat} (h : j < l.length) : (setF l i d p).getD j 0 = (treeL l).getD j 0 + if j + 1 - lowN (j + 1) < i + 1 ∧ i + 1 ≤ j + 1 ∧ j + 1 < p then d else 0 := by simp [setF, h]
theorem setF_zero (l : List Int) (i : Nat) (d : Int) : setF l i d (i + 1) = treeL l := by
  apply ext_getD (by rw [setF_len, treeL_len])
  intro j hj
  rw [setF_len] at hj
  rw [setF_at i d _ hj, if_neg (by omega), Int.add_zero]
theorem setF_here {l : List Int} {i : Nat} (d : Int) {p : Nat} (h : chainP i p) (hp : p ≤ l.length) : (setF l i d p).getD (p - 1) 0 = (treeL l).getD (p - 1) 0 := by
  have := h.1
  rw [setF_at i d _ (by omega), if_neg (by omega), Int.add_zero]
theorem setF_next {l : List Int} {i : Nat} (d : Int) {p : Nat} (h : chainP i p) (hp : p ≤ l.length) : (setF l i d p).set (p - 1) ((treeL l).getD (p - 1) 0 + d) = setF l i d (p + lowN p) := by
  have h0 := h.1
  have hpos := lowN_pos h0
  apply ext_getD (by rw [List.length_set, setF_len, setF_len])
  intro j hj
  rw [List.length_set, setF_len] at hj
  by_cases hjo : j = p - 1
  · subst hjo
    have hs := chain_self h
    rw [List.getD_eq_getElem?_getD, List.getElem?_set_self (by rw [setF_len]; exact hj)]
    show (treeL l).getD (p - 1) 0 + d = _
    rw [setF_at i d _ hj, if_pos]
    rw [show p - 1 + 1 = p by omega]
    exact ⟨hs.1, hs.2, by omega⟩
  · rw [List.getD_eq_getElem?_getD, List.getElem?_set_ne (fun h => hjo h.symm), ← List.getD_eq_getElem?_getD, setF_at i d _ hj, setF_at i d _ hj]
    by_cases hh : j + 1 - lowN (j + 1) < i + 1 ∧ i + 1 ≤ j + 1
    · by_cases h2 : j + 1 < p
      · rw [if_pos ⟨hh.1, hh.2, h2⟩, if_pos ⟨hh.1, hh.2, by omega⟩]
      · have := chain_gap h (m := j + 1) hh (by omega)
        rw [if_neg (by omega), if_neg (by omega)]
    · rw [if_neg (by omega), if_neg (by omega)]
theorem setF_done {l : List Int} {i : Nat} (v : Int) {p : Nat} (hi : i < l.length) (h : l.length < p) : setF l i (v - l.getD i 0) p = treeL (l.set i v) := by
  apply ext_getD (by rw [setF_len, treeL_len, List.length_set])
  intro j hj
  rw [setF_len] at hj
  rw [setF_at _ _ _ hj, treeL_set v hi j hj]
  by_cases hh : j + 1 - lowN (j + 1) < i + 1 ∧ i + 1 ≤ j + 1
  · rw [if_pos ⟨hh.1, hh.2, by omega⟩, if_pos hh]
  · rw [if_neg (by omega), if_neg hh]
theorem setF_bd {l : List Int} (hz : ∀ z ∈ l, 0 ≤ z) {i p : Nat} {v : Int} (v0 : 0 ≤ v) (hi : i < l.length) (h : chainP i p) (hp : p ≤ l.length) :
    l.getD i 0 ≤ (treeL l).getD (p - 1) 0 ∧ (treeL l).getD (p - 1) 0 ≤ sumL l ∧ 0 ≤ l.getD i 0 ∧ (treeL l).getD (p - 1) 0 + (v - l.getD i 0) ≤ sumL (l.set i v) := by
  have h0 := h.1
  obtain ⟨h1, h2⟩ := chain_self h
  have hz2 : ∀ z ∈ l.set i v, 0 ≤ z := fun z hh => by
    rcases List.mem_or_eq_of_mem_set hh with h | h
    · exact hz z h
    · rw [h]; exact v0
  have e1 := treeL_at (l := l) (i := p - 1) (by omega)
  rw [show p - 1 + 1 = p by omega] at e1
  have e2 := preL_next hi
  have e3 := preL_mono hz (show i + 1 ≤ p by omega)
  have e4 := preL_mono hz (show p - lowN p ≤ i by omega)
  have e5 := preL_le hz p
  have e6 := preL_nn hz (p - lowN p)
  have e7 := preL_mono hz (show i ≤ i + 1 by omega)
  have e8 := preL_set v hi p
  rw [if_pos (by omega)] at e8
  have e9 := preL_le hz2 p
  omega
end
section
open Go.ChangeShapes Go.WideShapes Go.ChangeAt Go.RowKit
theorem OwnI.lower {w : World} {b b' : Nat} {e : TypeId} {k : IntKind} {v : Value} {zs : List Int} (h : OwnI w b e k v zs) (hb : b' ≤ b) : OwnI w b' e k v zs := by
  refine ⟨h.1, ?_⟩
  rcases h.2 with h1 | ⟨g, cap, cur, h1, h2, h3⟩
  · exact .inl h1
  · exact .inr ⟨g, cap, cur, h1, by omega, h3⟩
structure BldS (w0 : World) (g2 : Nat) (v2 : Value) (g7 c7 n : Nat) (ts : List Int) (w : World) : Prop where
  b2 : Blk w g2 32 #[v2]
  own : OwnI w w0.heap.size 24 .u64 (.slice (some ⟨g7, 0, none⟩) n c7) ts
  bel : Below w0.heap.size w0 w
  len : ts.length = n
  le7 : w0.heap.size ≤ g7
section
variable {w0 w w' : World} {g2 g7 c7 n j : Nat} {v2 v : Value} {ts : List Int} {x z : Int} {cur : Array Value}
theorem BldS.below (h : BldS w0 g2 v2 g7 c7 n ts w) (hb : Below w.heap.size w w') : BldS w0 g2 v2 g7 c7 n ts w' := ⟨h.b2.below hb h.b2.lt, h.own.below hb, h.bel.trans (hb.mono h.bel.size), h.len, h.le7⟩
theorem BldS.drew (h : BldS w0 g2 v2 g7 c7 n ts w) : BldS w0 g2 v2 g7 c7 n ts w.drew := h.below (Below.refl _ _).drew
theorem BldS.rd (h : BldS w0 g2 v2 g7 c7 n ts w) : Rd .u64 w w.heap.size (some ⟨g7, 0, none⟩) n ts := OwnI.rd h.own h.len
theorem BldS.cell (h : BldS w0 g2 v2 g7 c7 n ts w) (hj : j < n) (hx : ts.getD j 0 = x) : w.cell? ⟨g7, j, none⟩ = some (.int .u64 x) := by
  obtain ⟨g, off, e, -, hc⟩ := h.rd.at_ (by omega)
  injection e with e
  injection e with e1 e2
  subst e1 e2
  have := hc j hj
  rw [hx, Nat.zero_add] at this
  exact this
theorem BldS.blk (h : BldS w0 g2 v2 g7 c7 n ts w) (hn : 0 < n) : ∃ cur, Hid (Blk w g7 24 cur) ∧ Hid (∀ j, j < n → j < cur.size) := by
  obtain ⟨g, cur, e, -, hk, hs, -⟩ := h.own.whole (by rw [h.len]; exact hn)
  injection e with e
  injection e with e1 e2
  subst e1
  exact ⟨cur, Lib.hid hk, Lib.hid (fun j hj => by rw [h.len] at hs; omega)⟩
theorem BldS.ne (h : BldS w0 g2 v2 g7 c7 n ts w) (hk : Blk w g7 24 cur) : g2 ≠ g7 := by
  rintro rfl
  have h1 := h.b2
  unfold Blk at h1 hk
  rw [h1] at hk
  injection hk with hk
  injection hk with _ h5
  exact absurd h5 (by decide)
theorem BldS.put (h : BldS w0 g2 v2 g7 c7 n ts w) (hk : Blk w g7 24 cur) (hj : j < n) (hk2 : Blk w' g7 24 (cur.setIfInBounds j (.int .u64 z))) (ho : Only g7 w w') : BldS w0 g2 v2 g7 c7 n (ts.set j z) w' := by
  obtain ⟨h1, h2⟩ := own_set h.own hk (by rw [h.len]; exact hj) h.bel h.le7 hk2 ho
  exact ⟨h.b2.only ho (h.ne hk), h1, h2, by rw [List.length_set]; exact h.len, h.le7⟩
theorem BldS.frz (h : BldS w0 g2 v2 g7 c7 n ts w) (hn : 0 < n) : w.frozen? ⟨g7, j, none⟩ = false := by
  obtain ⟨cur, hk, -⟩ := h.blk hn
  exact hk.out.frozen j
theorem bld_start {l : List Int} {w1 : World} (hk : Blk w1 g2 32 #[v2]) (hb : Below w0.heap.size w0 w1) (ho : OwnI w w1.heap.size 24 .u64 v l) (hb2 : Below w1.heap.size w1 w) (hn : l.length = n) (h0 : 0 < n) :
    ∃ g7 c7, v = .slice (some ⟨g7, 0, none⟩) n c7 ∧ Hid (BldS w0 g2 v2 g7 c7 n l w) ∧ Hid (n ≤ c7) ∧ Hid (c7 ≤ maxLen) := by
  obtain ⟨A, c, rfl, h1, h2⟩ := ho.form
  obtain ⟨g, cur, rfl, h3, -⟩ := ho.whole (by omega)
  rw [hn] at h1 ho
  have hs := hb.size
  exact ⟨g, c, by rw [hn], Lib.hid ⟨hk.below hb2 hk.lt, ho.lower hs, hb.trans (hb2.mono hs), hn, by omega⟩, Lib.hid h1, Lib.hid h2⟩
end
def PAnyT (_ : World) : Prop := True
end
section
open Go.ChangeShapes Go.WideShapes Go.ChangeAt Go.RowKit
theorem bits_lo {x : Int} (x0 : 0 ≤ x) (x1 : x < 18446744073709551616) : IntKind.u64.wrap x = x := by rw [IntKind.wrap_u64]; omega
theorem mask_lo (a : Int) (a0 : 0 ≤ a) (a1 : a < 18446744073709551616) : bits .and .u64 a 4294967295 = a % 4294967296 := by
  obtain ⟨n, rfl⟩ := Int.eq_ofNat_of_zero_le a0
  have h := bits_and_u64_nat n 4294967295 (by omega) (by omega)
  rw [Nat.and_two_pow_sub_one_eq_mod n 32] at h
  exact h
theorem ext_add (a b : Int) (a0 : 0 ≤ a) (b0 : 0 ≤ b) (w : World) : (callFunc 103 #[.int .u64 a, .int .u64 b, .int .u64 0]).run Tryz.prog w = .ok (.value (.tuple #[.int .u64 ((a + b) % 18446744073709551616), .int .u64 ((a + b) / 18446744073709551616)])) w := by
  rw [run_callFunc_extern Tryz.func103 (by kernel_rfl) (by kernel_rfl) (by kernel_rfl) (e := add64Entry) (by kernel_rfl), run_add64 a b 0 a0 b0 (by omega) (by omega)]
  simp only [Result.andThen, Int.add_zero]
theorem mul_c (a b : Int) (a0 : 0 ≤ a) (a1 : a < 18446744073709551616) (b0 : 0 ≤ b) (b1 : b < 18446744073709551616) (w : World) : Calls Tryz.prog 89 #[.int .u64 a, .int .u64 b] w fun e w' => e = .returned (.tuple #[.int .u64 (a * b / 18446744073709551616), .int .u64 (a * b % 18446744073709551616)]) ∧ w = w' := by
  obtain ⟨x, hx⟩ := Int.eq_ofNat_of_zero_le a0
  obtain ⟨y, hy⟩ := Int.eq_ofNat_of_zero_le b0
  obtain ⟨g1, g2, g3, g4⟩ := Lib.mul64_hi x y (by omega) (by omega)
  have p1 := Lib.half_mul_le (a := x / 4294967296) (b := y / 4294967296) (by omega) (by omega)
  have p2 := Lib.half_mul_le (a := x / 4294967296) (b := y % 4294967296) (by omega) (by omega)
  have p3 := Lib.half_mul_le (a := x % 4294967296) (b := y / 4294967296) (by omega) (by omega)
  have p4 := Lib.half_mul_le (a := x % 4294967296) (b := y % 4294967296) (by omega) (by omega)
  have q1 : a / 4294967296 * (b / 4294967296) = ((x / 4294967296 * (y / 4294967296) : Nat) : Int) := by rw [hx, hy, Int.natCast_mul, Int.natCast_ediv, Int.natCast_ediv]; rfl
  have q2 : a / 4294967296 * (b % 4294967296) = ((x / 4294967296 * (y % 4294967296) : Nat) : Int) := by rw [hx, hy, Int.natCast_mul, Int.natCast_ediv, Int.natCast_emod]; rfl
  have q3 : a % 4294967296 * (b / 4294967296) = ((x % 4294967296 * (y / 4294967296) : Nat) : Int) := by rw [hx, hy, Int.natCast_mul, Int.natCast_emod, Int.natCast_ediv]; rfl
  have q4 : a % 4294967296 * (b % 4294967296) = ((x % 4294967296 * (y % 4294967296) : Nat) : Int) := by rw [hx, hy, Int.natCast_mul, Int.natCast_emod, Int.natCast_emod]; rfl
  have q5 : a * b = ((x * y : Nat) : Int) := by rw [hx, hy, Int.natCast_mul]
  generalize x / 4294967296 * (y / 4294967296) = P1 at *
  generalize x / 4294967296 * (y % 4294967296) = P2 at *
  generalize x % 4294967296 * (y / 4294967296) = P3 at *
  generalize x % 4294967296 * (y % 4294967296) = P4 at *
  generalize x * y = P5 at *
  have HQ := Lib.hid (And.intro q1 (And.intro q2 (And.intro q3 (And.intro q4 q5))))
  have m1 := mask_lo a a0 a1
  have m2 := mask_lo b b0 b1
  have HG := Lib.hid (And.intro g1 (And.intro g2 (And.intro g3 g4)))
  have HP := Lib.hid (And.intro p1 (And.intro p2 (And.intro p3 p4)))
  clear q1 q2 q3 q4 q5 g1 g2 g3 g4 p1 p2 p3 p4 hx hy
  go_enter Tryz.func89, Tryz.ntmps89
  go_wp2
  obtain ⟨q1, q2, q3, q4, q5⟩ := HQ.out
  obtain ⟨g1, g2, g3, g4⟩ := HG.out
  obtain ⟨p1, p2, p3, p4⟩ := HP.out
  clear HQ HG HP
  have w1 : IntKind.u64.wrap (P1 : Int) = P1 := bits_lo (by omega) (by omega)
  have w2 : IntKind.u64.wrap (P2 : Int) = P2 := bits_lo (by omega) (by omega)
  have w3 : IntKind.u64.wrap (P3 : Int) = P3 := bits_lo (by omega) (by omega)
  have w4 : IntKind.u64.wrap (P4 : Int) = P4 := bits_lo (by omega) (by omega)
  have w5 : IntKind.u64.wrap (P5 : Int) = P5 % 18446744073709551616 := IntKind.wrap_u64 _
  have wT : IntKind.u64.wrap ((P2 : Int) + P4 / 4294967296) = P2 + P4 / 4294967296 := bits_lo (by omega) (by omega)
  have mT := mask_lo ((P2 : Int) + P4 / 4294967296) (by omega) (by omega)
  have wW : IntKind.u64.wrap (((P2 : Int) + P4 / 4294967296) % 4294967296 + P3) = ((P2 : Int) + P4 / 4294967296) % 4294967296 + P3 := bits_lo (by omega) (by omega)
  have wH : IntKind.u64.wrap ((P1 : Int) + (P2 + P4 / 4294967296) / 4294967296) = (P1 : Int) + (P2 + P4 / 4294967296) / 4294967296 := bits_lo (by omega) (by omega)
  have wI : IntKind.u64.wrap ((P1 : Int) + (P2 + P4 / 4294967296) / 4294967296 + (((P2 : Int) + P4 / 4294967296) % 4294967296 + P3) / 4294967296) = P5 / 18446744073709551616 := by rw [bits_lo (by omega) (by omega)]; omega
  simp only [q1, q2, q3, q4, q5, w1, w2, w3, w4, w5, wT, mT, wW, wH, wI]
  go_ret2
  exact ⟨by first | rfl | (rw [q5]), rfl⟩
theorem q9fits_c (a : Int) (a0 : 0 ≤ a) (a1 : a < 18446744073709551616) (w : World) : Calls Tryz.prog 77 #[.int .u64 a] w fun e w' => e = .returned (.bool (decide (a < 9223372036854775808))) ∧ w = w' := by
  go_enter Tryz.func77, Tryz.ntmps77
  go_wp2
  go_ret
  exact ⟨rfl, rfl⟩
theorem q9bel_ok (l : Int) (l0 : 0 ≤ l) (l1 : l < 9223372036854775808) (w : World) : Calls Tryz.prog 90 #[.int .u64 0, .int .u64 l] w fun e w' => e = .returned (.tuple #[.int .u64 l, .bool true]) ∧ w = w' := by
  have hf := q9fits_c l l0 (by omega)
  rw [decide_eq_true l1] at hf
  have HF := Lib.hid hf
  clear hf
  go_enter Tryz.func90, Tryz.ntmps90
  go_wp2_with (first
    | (go_at_call 77; (with_reducible refine (HF.out _).mono ?_); rintro e _ ⟨rfl, rfl⟩))
  go_ret2
  exact ⟨rfl, rfl⟩
theorem q9bel_no (h l : Int) (h0 : 0 ≤ h) (h1 : h < 18446744073709551616) (l0 : 0 ≤ l) (l1 : l < 18446744073709551616) (hno : h = 0 → ¬ l < 9223372036854775808) (w : World) : Calls Tryz.prog 90 #[.int .u64 h, .int .u64 l] w fun e w' => e = .returned (.tuple #[.int .u64 0, .bool false]) ∧ w = w' := by
  have hf := q9fits_c l l0 l1
  by_cases hz : h = 0
  · subst hz
    rw [decide_eq_false (hno rfl)] at hf
    have HF := Lib.hid hf
    clear hf hno
    go_enter Tryz.func90, Tryz.ntmps90
    go_wp2_with (first
      | (go_at_call 77; (with_reducible refine (HF.out _).mono ?_); rintro e _ ⟨rfl, rfl⟩))
    go_ret2
    exact ⟨rfl, rfl⟩
  · have tz : (h == 0) = false := by rw [beq_eq_false_iff_ne]; exact hz
    clear hf hno
    go_enter Tryz.func90, Tryz.ntmps90
    go_wp2
    go_ret2
    exact ⟨rfl, rfl⟩
theorem q9add_c (a b : Int) (a0 : 0 ≤ a) (a1 : a < 18446744073709551616) (b0 : 0 ≤ b) (b1 : b < 18446744073709551616) (w : World) : Calls Tryz.prog 79 #[.int .u64 a, .int .u64 b] w fun e w' => e = .returned (.tuple #[.int .u64 (addV a b), .bool (addO a b)]) ∧ w = w' := by
  have hx := ext_add a b a0 b0
  obtain ⟨s, hs⟩ : ∃ s, (a + b) % 18446744073709551616 = s := ⟨_, rfl⟩
  obtain ⟨c, hc⟩ : ∃ c, (a + b) / 18446744073709551616 = c := ⟨_, rfl⟩
  rw [hs, hc] at hx
  by_cases h : a + b < 9223372036854775808
  · obtain rfl : c = 0 := by omega
    obtain rfl : s = a + b := by omega
    have hb := q9bel_ok (a + b) (by omega) h
    rw [(addV_ok h).1, (addV_ok h).2]
    have HB := Lib.hid hb
    clear hb hs hc h
    go_enter Tryz.func79, Tryz.ntmps79
    go_wp2_with (first
      | (go_at_call 90; (with_reducible refine (HB.out _).mono ?_); rintro e _ ⟨rfl, rfl⟩)
      | (simp only [hx]))
    go_ret2
    exact ⟨rfl, rfl⟩
  · have hb := q9bel_no c s (by omega) (by omega) (by omega) (by omega) (by omega)
    rw [(addV_no h).1, (addV_no h).2]
    have HB := Lib.hid hb
    clear hb hs hc h
    go_enter Tryz.func79, Tryz.ntmps79
    go_wp2_with (first
      | (go_at_call 90; (with_reducible refine (HB.out _).mono ?_); rintro e _ ⟨rfl, rfl⟩)
      | (simp only [hx]))
    go_ret2
    exact ⟨rfl, rfl⟩
theorem q9mul_c (a b : Int) (a0 : 0 ≤ a) (a1 : a < 18446744073709551616) (b0 : 0 ≤ b) (b1 : b < 18446744073709551616) (w : World) : Calls Tryz.prog 58 #[.int .u64 a, .int .u64 b] w fun e w' => e = .returned (.tuple #[.int .u64 (mulV a b), .bool (mulO a b)]) ∧ w = w' := by
  have hx := mul_c a b a0 a1 b0 b1
  have hm := Int.mul_nonneg a0 b0
  have hl : a * b ≤ 18446744073709551615 * 18446744073709551615 := Int.mul_le_mul (by omega) (by omega) b0 (by omega)
  by_cases h : a * b < 9223372036854775808
  · rw [(mulV_ok h).1, (mulV_ok h).2]
    generalize a * b = m at *
    obtain ⟨s, hs⟩ : ∃ s, m % 18446744073709551616 = s := ⟨_, rfl⟩
    obtain ⟨c, hc⟩ : ∃ c, m / 18446744073709551616 = c := ⟨_, rfl⟩
    rw [hs, hc] at hx
    obtain rfl : c = 0 := by omega
    obtain rfl : s = m := by omega
    have hb := q9bel_ok s (by omega) h
    have HB := Lib.hid hb
    have HX := Lib.hid hx
    clear hb hx hs hc h hm hl
    go_enter Tryz.func58, Tryz.ntmps58
    go_wp2_with (first
      | (go_at_call 90; (with_reducible refine (HB.out _).mono ?_); rintro e _ ⟨rfl, rfl⟩)
      | (go_at_call 89; (with_reducible refine (HX.out _).mono ?_); rintro e _ ⟨rfl, rfl⟩))
    go_ret2
    exact ⟨rfl, rfl⟩
  · rw [(mulV_no h).1, (mulV_no h).2]
    generalize a * b = m at *
    obtain ⟨s, hs⟩ : ∃ s, m % 18446744073709551616 = s := ⟨_, rfl⟩
    obtain ⟨c, hc⟩ : ∃ c, m / 18446744073709551616 = c := ⟨_, rfl⟩
    rw [hs, hc] at hx
    have hb := q9bel_no c s (by omega) (by omega) (by omega) (by omega) (by omega)
    have HB := Lib.hid hb
    have HX := Lib.hid hx
    clear hb hx hs hc h hm hl
    go_enter Tryz.func58, Tryz.ntmps58
    go_wp2_with (first
      | (go_at_call 90; (with_reducible refine (HB.out _).mono ?_); rintro e _ ⟨rfl, rfl⟩)
      | (go_at_call 89; (with_reducible refine (HX.out _).mono ?_); rintro e _ ⟨rfl, rfl⟩))
    go_ret2
    exact ⟨rfl, rfl⟩
set_option maxHeartbeats 2000000 in
theorem q9total_c (zs : List Int) (hz : ∀ z ∈ zs, 0 ≤ z ∧ z < 18446744073709551616) (A : Option Addr) (n c : Nat) (hn : n ≤ maxLen) (w : World) (hrd : Rd .u64 w w.heap.size A n zs) : Calls Tryz.prog 48 #[.slice A n c] w fun e w' => e = .returned (.tuple #[.int .u64 (sumV zs), .bool (sumO zs)]) ∧ w = w' := by
  have HR := Lib.hid hrd
  have HZ := Lib.hid hz
  have hlen := hrd.len
  have hnm : (n : Int) ≤ 9223372036854775807 := by unfold maxLen at hn; omega
  have hle := fun k => sumL_le (l := zs) (fun z h => (hz z h).1) k
  have hst := fun k h => sumL_take (l := zs) (k := k) h
  have htk : zs.take n = zs := by rw [← hlen, List.take_length]
  have HLE := Lib.hid hle
  have HST := Lib.hid hst
  clear hrd hz hn hle hst
  go_enter Tryz.func48, Tryz.ntmps48
  go_wp2
  go_loopw [4, 10] (fun s i wr => ∃ k : Nat, k ≤ n ∧ i = .int .i64 (k : Int) ∧ s = .int .u64 (sumL (zs.take k)) ∧ 0 ≤ sumL (zs.take k) ∧ sumL (zs.take k) < 9223372036854775808 ∧ wr = w) (fun _ i _ => n - (intOf i).toNat)
  case atStart => exact ⟨0, by omega, rfl, rfl, Int.le_refl _, (by show (0 : Int) < 9223372036854775808; omega), by first | rfl | trivial⟩
  case round =>
    obtain ⟨k, hk, rfl, rfl, h0, h1, rfl⟩ := hrel
    by_cases hlt : k < n
    · obtain ⟨b, off, rfl, _, hc⟩ := HR.out.at_ (by omega)
      have hck := hc k hlt
      have hzk := HZ.out _ (getD_in (l := zs) (k := k) (by omega))
      have hsk := HST.out k (by omega)
      have hl1 := HLE.out (k + 1)
      have HSK := Lib.hid hsk
      obtain ⟨z, hzz⟩ : ∃ z, zs.getD k 0 = z := ⟨_, rfl⟩
      obtain ⟨S, hS⟩ : ∃ S, sumL (zs.take k) = S := ⟨_, rfl⟩
      obtain ⟨S1, hS1⟩ : ∃ S, sumL (zs.take (k + 1)) = S := ⟨_, rfl⟩
      rw [hzz, hS] at HSK
      rw [hzz] at hck hzk hsk
      rw [hS] at h0 h1 hsk ⊢
      rw [hS1] at hl1 hsk
      have hadd := fun W => q9add_c S z h0 (by omega) hzk.1 hzk.2 W
      by_cases hs : S + z < 9223372036854775808
      · rw [(addV_ok hs).1, (addV_ok hs).2] at hadd
        have HADD := Lib.hid hadd
        clear hadd hc hzz hS hS1 hsk hl1
        go_wp2_with (first
          | (go_at_call 79; (with_reducible refine (HADD.out _).mono ?_); rintro e _ ⟨rfl, rfl⟩))
        go_roundw
        case rel => exact ⟨k + 1, by omega, by go_num, by rw [HSK.out], by rw [HSK.out]; omega, by rw [HSK.out]; exact hs, by first | rfl | trivial⟩
        case measure => simp [intOf]; omega
      · rw [(addV_no hs).1, (addV_no hs).2] at hadd
        have hno : ¬ sumL zs < 9223372036854775808 := by omega
        have HADD := Lib.hid hadd
        have HNO := Lib.hid (sumV_no hno)
        clear hadd hc hzz hS hS1 hsk hl1 hno
        go_wp2_with (first
          | (go_at_call 79; (with_reducible refine (HADD.out _).mono ?_); rintro e _ ⟨rfl, rfl⟩))
        go_ret2
        exact ⟨ret_pair (sym2 HNO.out), by first | rfl | trivial⟩
    · obtain rfl : k = n := by omega
      rw [htk] at h0 h1 ⊢
      have HOK := Lib.hid (sumV_ok h1)
      go_wp2
      go_ret2
      exact ⟨ret_pair (sym2 HOK.out), by first | rfl | trivial⟩
end
section
open Go.ChangeShapes Go.WideShapes Go.ChangeAt Go.RowKit
set_option maxHeartbeats 8000000 in
theorem q11build_c (l : List Int) (hz : ∀ z ∈ l, 0 ≤ z ∧ z < 18446744073709551616) (A : Option Addr) (n c : Nat) (hn : n ≤ maxLen) (w : World) (hT : TzT w) (hrd : Rd .u64 w w.heap.size A n l) : Calls Tryz.prog 13 #[.slice A n c] w (RetFen w (bldL l) (bldE l)) := by
  have HR := Lib.hid hrd
  have HTT := Lib.hid hT
  have hlen := hrd.len
  have hnm : (n : Int) ≤ 9223372036854775807 := by unfold maxLen at hn; omega
  have HTO := Lib.hid (fun W h => q9total_c l hz A n c hn W h)
  have HEMP : Hid (∀ er w', bldE l = er ∧ bldL l = [] → Below w.heap.size w w' → RetFen w (bldL l) (bldE l) (.returned (.tuple #[.agg #[.slice none 0 0], .int .i64 er])) w') := Lib.hid (fun er w' h hb => by rw [h.1, h.2]; exact ⟨none, 0, rfl, rd_nil _ _ _ _, Nat.le_refl _, by simp [maxLen], hb⟩)
  clear hT
  by_cases hm : 1048576 < n
  · have hm2 : (1048576 : Int) < (n : Int) := by omega
    have HE := Lib.hid (bldE_many (l := l) (by omega))
    clear hrd hz hm HTO hlen
    go_enter Tryz.func13, Tryz.ntmps13
    go_wp2_with (first
        | (with_reducible refine at_any ?_; refine at_dst 2 rfl ?_; refine wpList_alloc_any rfl 32 rfl #[.slice none 0 0] zero_fen ?_; intro w1 hk1 hs1 hb1; have HK1 := Lib.hid hk1.out; have HB1 := Lib.hid hb1; clear hk1 hs1 hb1)
        | (with_reducible refine at_any ?_; refine at_dst 12 rfl ?_; refine wpList_val rfl (.agg #[.slice none 0 0]) (build_fen0 _ rfl) ?_)
        | (with_reducible refine at_any ?_; refine at_store 2 rfl ?_; refine wpList_store_any rfl 32 (.tmp 2) (.tmp 12) rfl w.heap.size rfl 32 #[.slice none 0 0] #[.slice none 0 0] HK1.out rfl (size1 _ _) (sizedF _) (fen_ones _ _ _) ?_; intro w9 hk9 hs9 hb9 ho9; have HB9 := Lib.hid (HB1.out.trans (hb9 _ (Nat.le_refl _))); have HK9 := Lib.hid hk9.out; clear hb9)
        | (refine bodyPost_any2 2 3 32 rfl w.heap.size rfl (.int .i64 14) rfl 32 #[.slice none 0 0] HK9.out _ Tryz.underlying32 rfl (sizedF _) rfl ?_))
    exact HEMP.out _ _ HE.out HB9.out
  have hm2 : (n : Int) ≤ 1048576 := by omega
  have HN8 : Hid (n ≤ 100000000) := Lib.hid (by omega)
  by_cases hs : sumL l < 9223372036854775808
  · obtain ⟨e1, e2⟩ := sumV_ok hs
    have HE := Lib.hid (bldE_ok (l := l) (by omega) hs)
    rw [e1, e2] at HTO
    obtain ⟨x, hx⟩ : ∃ x, sumL l = x := ⟨_, rfl⟩
    rw [hx] at HTO
    have HEND : Hid (∀ A' c' w', Rd .u64 w' w'.heap.size A' n (treeL l) → n ≤ c' → c' ≤ maxLen → Below w.heap.size w w' → RetFen w (bldL l) (bldE l) (.returned (.tuple #[.agg #[.slice A' n c'], .int .i64 0])) w') := Lib.hid (fun A' c' w' h1 h2 h3 h4 => by rw [HE.out.1, HE.out.2]; refine ⟨A', c', by rw [treeL_len, hlen], ?_⟩; rw [treeL_len, hlen]; exact ⟨h1, h2, h3, h4⟩)
    have hz0 : ∀ z ∈ l, 0 ≤ z := fun z h => (hz z h).1
    by_cases h0 : n = 0
    · subst h0
      obtain rfl : l = [] := List.length_eq_zero_iff.1 hlen
      clear hrd hz hz0 hm hs e1 e2 HE hx
      go_enter Tryz.func13, Tryz.ntmps13
      go_wp2_with (first
        | (with_reducible refine at_any ?_; refine at_dst 2 rfl ?_; refine wpList_alloc_any rfl 32 rfl #[.slice none 0 0] zero_fen ?_; intro w1 hk1 hs1 hb1; have HK1 := Lib.hid hk1.out; have HB1 := Lib.hid hb1; clear hk1 hs1 hb1)
        | (go_at_call 48; (with_reducible refine (HTO.out _ (HR1 HR.out HB1.out)).mono ?_); rintro e _ ⟨rfl, rfl⟩)
        | (go_at_call 49; (with_reducible refine (clone64_c [] A 0 c HN8.out _ (HR1 HR.out HB1.out)).mono ?_); rintro e w2 ⟨v6, rfl, ho2, hb2⟩; obtain ⟨A7, c7, rfl, hc7, hm7⟩ := ho2.form; have HK2 := Lib.hid (HK1.out.below hb2 HK1.out.lt); have HB2 := Lib.hid (HB1.out.trans (hb2.mono HB1.out.size)); have hl0 : ([] : List Int).length = 0 := rfl; rw [hl0]; clear hl0 hb2 ho2))
      go_loopw [7] (fun nn wr => nn = .int .i64 1 ∧ w2 = wr) (fun _ _ => 0)
      case atStart => exact ⟨rfl, by first | rfl | trivial⟩
      case round =>
        obtain ⟨rfl, rfl⟩ := hrel
        go_wp2_with (first
          | (with_reducible refine at_any ?_; refine at_store 2 rfl ?_; refine wpList_store_any rfl 32 (.tmp 2) (.tmp 50) rfl w.heap.size rfl 32 #[.slice none 0 0] #[.slice A7 0 c7] HK2.out rfl (size1 _ _) (sizedF _) (fen_ones _ _ _) ?_; intro w9 hk9 hs9 hb9 ho9; have HB9 := Lib.hid (HB2.out.trans (hb9 _ (Nat.le_refl _))); have HK9 := Lib.hid hk9.out; clear hb9)
          | (refine bodyPost_any2 2 3 32 rfl w.heap.size rfl (.int .i64 0) rfl 32 #[.slice A7 0 c7] HK9.out _ Tryz.underlying32 rfl (sizedF _) rfl ?_))
        exact HEND.out _ _ _ (rd_nil _ _ _ _) hc7 hm7 HB9.out
    · have HPOS : Hid (0 < n) := Lib.hid (by omega)
      have HLN := Lib.hid hlen
      have HNEXT := Lib.hid (fun M (h1 : 1 ≤ M) (h2 : M + lowN M ≤ n) => bldF_next (l := l) (k := M - 1) (by omega) (by rw [show M - 1 + 1 = M by omega]; omega))
      have HOUT := Lib.hid (fun M (h1 : 1 ≤ M) (h2 : n < M + lowN M) => bldF_out (l := l) (k := M - 1) (by rw [show M - 1 + 1 = M by omega]; omega))
      have HBD := Lib.hid (fun k m (hm : m < n) => bldF_bd hz0 k m (by omega))
      have HALL : Hid (bldF l n = treeL l) := Lib.hid (by rw [← hlen]; exact bldF_all l)
      have HZ : Hid (bldF l 0 = l) := Lib.hid (bldF_zero l)
      have HKEEP := Lib.hid (fun M (h1 : 1 ≤ M) (h2 : M ≤ n) => bldF_keep (l := l) (k := M - 1) (j := M - 1) (by omega) (by have := lowN_pos (n := M - 1 + 1) (by omega); omega))
      rw [hx] at hs HBD
      have HSX := Lib.hid hs
      have HLOW := Lib.hid (fun M (h1 : 1 ≤ M) (h2 : M ≤ n) W hW => q11low_c M (by omega) (by omega) W hW)
      clear hrd hz hz0 hm hs e1 e2 HE hx hlen h0
      go_enter Tryz.func13, Tryz.ntmps13
      go_wp2_with (first
        | (with_reducible refine at_any ?_; refine at_dst 2 rfl ?_; refine wpList_alloc_any rfl 32 rfl #[.slice none 0 0] zero_fen ?_; intro w1 hk1 hs1 hb1; have HK1 := Lib.hid hk1.out; have HB1 := Lib.hid hb1; clear hk1 hs1 hb1)
        | (go_at_call 48; (with_reducible refine (HTO.out _ (HR1 HR.out HB1.out)).mono ?_); rintro e _ ⟨rfl, rfl⟩)
        | (go_at_call 49; (with_reducible refine (clone64_c l A n c HN8.out _ (HR1 HR.out HB1.out)).mono ?_); rintro e w2 ⟨v6, rfl, ho2, hb2⟩; obtain ⟨g7, c7, rfl, HS2, HC7, HM7⟩ := bld_start HK1.out HB1.out ho2 hb2 HLN.out HPOS.out; clear ho2 hb2))
      obtain ⟨g2, hg2⟩ : ∃ g, w.heap.size = g := ⟨_, rfl⟩
      have HS3 : Hid (BldS w g2 (.slice none 0 0) g7 c7 n l w2) := Lib.hid (by rw [← hg2]; exact HS2.out)
      have HG2 : Hid (w.heap.size ≤ g2) := Lib.hid (Nat.le_of_eq hg2)
      rw [hg2]
      clear HS2 hg2 HK1 HB1
      go_loopw [7] (fun nn wr => ∃ M : Nat, 1 ≤ M ∧ M ≤ n + 1 ∧ nn = .int .i64 (M : Int) ∧ BldS w g2 (.slice none 0 0) g7 c7 n (bldF l (M - 1)) wr) (fun nn _ => n + 1 - (intOf nn).toNat)
      case atStart => exact ⟨1, Nat.le_refl _, by omega, rfl, by rw [Nat.sub_self, HZ.out]; exact HS3.out⟩
      case round =>
        clear HS3
        obtain ⟨M, hM1, hM2, rfl, hS⟩ := hrel
        have HS := Lib.hid hS
        clear hS
        by_cases hMn : M ≤ n
        · have hlow := fun W hW => HLOW.out M hM1 hMn W hW
          have hlp := lowN_pos (n := M) (by omega)
          have hll := lowN_le M
          have hmi : (M : Int) ≤ 1048576 := by omega
          have hm1 : (1 : Int) ≤ (M : Int) := by omega
          have HMN := Lib.hid hMn
          have hMnI : (M : Int) ≤ (n : Int) := by omega
          by_cases ha : M + lowN M ≤ n
          · have hnx := HNEXT.out M hM1 ha
            have hbq := HBD.out (M - 1) (M + lowN M - 1) (by omega)
            have hbk := HBD.out (M - 1) (M - 1) (by omega)
            have hbs := HBD.out M (M + lowN M - 1) (by omega)
            obtain ⟨k, hk⟩ : ∃ k, M - 1 = k := ⟨_, rfl⟩
            have hk1 : k + 1 = M := by omega
            rw [hk] at HS hnx hbq hbk
            rw [hk1] at hnx
            obtain ⟨lo, hlo⟩ : ∃ x, lowN M = x := ⟨_, rfl⟩
            rw [hlo] at hnx hbq hbs hlp hll ha hlow
            obtain ⟨q, hq⟩ : ∃ q, M + lo - 1 = q := ⟨_, rfl⟩
            have hkq : k + lo = q := by omega
            rw [hkq] at hnx
            rw [hq] at hbq hbs
            obtain ⟨B, hB⟩ : ∃ B, bldF l k = B := ⟨_, rfl⟩
            rw [hB] at HS hnx hbq hbk
            obtain ⟨x2, hx2⟩ : ∃ z, B.getD q 0 = z := ⟨_, rfl⟩
            obtain ⟨y, hy⟩ : ∃ z, B.getD k 0 = z := ⟨_, rfl⟩
            have hlB := HS.out.len
            have hsv : (bldF l M).getD q 0 = x2 + y := by
              rw [← hnx, List.getD_eq_getElem?_getD, List.getElem?_set_self (by omega), hx2, hy]
              rfl
            rw [hsv] at hbs
            rw [hx2, hy] at hnx
            rw [hx2] at hbq
            rw [hy] at hbk
            have hsx := HSX.out
            have HX := Lib.hid hx2
            have HY := Lib.hid hy
            have HLOWW := Lib.hid hlow
            obtain ⟨s, hs⟩ : ∃ s, x2 + y = s := ⟨_, rfl⟩
            rw [hs] at hnx hbs
            have HNX := Lib.hid hnx
            have HSW : Hid (IntKind.u64.wrap (x2 + y) = s) := Lib.hid (by rw [hs, IntKind.wrap_u64]; omega)
            obtain ⟨a, hae⟩ : ∃ a, M + lo = a := ⟨_, rfl⟩
            have haI : (M : Int) + (lo : Int) = (a : Int) := by omega
            have han : (a : Int) ≤ (n : Int) := by omega
            have ha1 : (1 : Int) ≤ (a : Int) := by omega
            have HQW : Hid (IntKind.i64.wrap ((a : Int) - 1) = (q : Int)) := Lib.hid (by rw [IntKind.wrap_i64]; omega)
            have HQN : Hid ((q : Int) < (n : Int)) := Lib.hid (by omega)
            have HQL : Hid (q < n) := Lib.hid (by omega)
            have HKW : Hid (IntKind.i64.wrap ((M : Int) - 1) = (k : Int)) := Lib.hid (by rw [IntKind.wrap_i64]; omega)
            have HKN : Hid ((k : Int) < (n : Int)) := Lib.hid (by omega)
            have HKL : Hid (k < n) := Lib.hid (by omega)
            obtain ⟨x, hxx⟩ : ∃ z, x2 = z := ⟨_, rfl⟩
            rw [hxx] at HX HSW
            clear hnx hbq hbk hbs hk hk1 hlo hq hkq hB hx2 hy hlB hsv hsx hs hlp hll ha hlow hMn hae hxx hM2
            go_wp2_with (first
              | (go_at_call 50; (with_reducible refine (HLOWW.out _ (HTT.out.below HS.out.bel)).mono ?_); rintro e _ ⟨rfl, rfl⟩))
            have HS8 := Lib.hid HS.out.drew
            obtain ⟨cur, HKC, HSC⟩ := HS8.out.blk HPOS.out
            have HXC := Lib.hid (HS8.out.cell HQL.out HX.out)
            have HYC := Lib.hid (HS8.out.cell HKL.out HY.out)
            clear HS
            refine wp_region_held_drew (S := PAnyT) (by kernel_rfl) trivial (fun hH => ?_)
            refine wpAnyH_letter #[false, false, false, false, false, false, false, false, false, false, false, false, false] (by kernel_rfl) (fun _ _ d _ _ h => by cases d <;> exact h) (fun QL HQ1 HQ2 => ?_)
            refine held_v 0 (some 37) rfl (by kernel_rfl) (by kernel_rfl) (by kernel_rfl) (by kernel_rfl) (fun c a v w h => HQ2.out c a _ v w h) (by kernel_rfl) (.slice (some ⟨g7, 0, none⟩) n c7) (fun W h => by kernel_rfl) trivial ?_
            try simp only [Act.put, List.setIfInBounds_toArray, List.set_cons_zero, List.set_cons_succ]
            refine held_v 1 (some 38) rfl (by kernel_rfl) (by kernel_rfl) (by kernel_rfl) (by kernel_rfl) (fun c a v w h => HQ2.out c a _ v w h) (by kernel_rfl) (.int .i64 (a : Int)) (fun W h => by kernel_rfl) trivial ?_
            try simp only [Act.put, List.setIfInBounds_toArray, List.set_cons_zero, List.set_cons_succ]
            refine held_v 2 (some 39) rfl (by kernel_rfl) (by kernel_rfl) (by kernel_rfl) (by kernel_rfl) (fun c a v w h => HQ2.out c a _ v w h) (by kernel_rfl) (.int .i64 (q : Int)) (fun W h => by have p := HQW.out; go_simp) trivial ?_
            try simp only [Act.put, List.setIfInBounds_toArray, List.set_cons_zero, List.set_cons_succ]
            refine held_v 3 (some 40) rfl (by kernel_rfl) (by kernel_rfl) (by kernel_rfl) (by kernel_rfl) (fun c a v w h => HQ2.out c a _ v w h) (by kernel_rfl) (.pointer (some ⟨g7, q, none⟩)) (fun W h => by have p := HQN.out; go_simp) trivial ?_
            try simp only [Act.put, List.setIfInBounds_toArray, List.set_cons_zero, List.set_cons_succ]
            refine held_v 5 (some 42) rfl (by kernel_rfl) (by kernel_rfl) (by kernel_rfl) (by kernel_rfl) (fun c a v w h => HQ2.out c a _ v w h) (by kernel_rfl) (.slice (some ⟨g7, 0, none⟩) n c7) (fun W h => by kernel_rfl) trivial ?_
            try simp only [Act.put, List.setIfInBounds_toArray, List.set_cons_zero, List.set_cons_succ]
            refine held_v 6 (some 43) rfl (by kernel_rfl) (by kernel_rfl) (by kernel_rfl) (by kernel_rfl) (fun c a v w h => HQ2.out c a _ v w h) (by kernel_rfl) (.int .i64 (M : Int)) (fun W h => by kernel_rfl) trivial ?_
            try simp only [Act.put, List.setIfInBounds_toArray, List.set_cons_zero, List.set_cons_succ]
            refine held_v 7 (some 44) rfl (by kernel_rfl) (by kernel_rfl) (by kernel_rfl) (by kernel_rfl) (fun c a v w h => HQ2.out c a _ v w h) (by kernel_rfl) (.int .i64 (k : Int)) (fun W h => by have p := HKW.out; go_simp) trivial ?_
            try simp only [Act.put, List.setIfInBounds_toArray, List.set_cons_zero, List.set_cons_succ]
            refine held_v 8 (some 45) rfl (by kernel_rfl) (by kernel_rfl) (by kernel_rfl) (by kernel_rfl) (fun c a v w h => HQ2.out c a _ v w h) (by kernel_rfl) (.pointer (some ⟨g7, k, none⟩)) (fun W h => by have p := HKN.out; go_simp) trivial ?_
            try simp only [Act.put, List.setIfInBounds_toArray, List.set_cons_zero, List.set_cons_succ]
            refine wpAnyH_ready (rs := [4, 9]) (by kernel_rfl) (by decide) ?_
            refine AllReadyH.cons rfl (fun K hK => ?_) (AllReadyH.cons rfl (fun K hK => ?_) AllReadyH.nil)
            · refine step_v (some 41) (by kernel_rfl) (by kernel_rfl) (.int .u64 x) (by have p := HXC.out; go_simp) ?_
              refine hK.out _ _ trivial (fun _ => ?_)
              clear hK K
              try simp only [Act.put, List.setIfInBounds_toArray, List.set_cons_zero, List.set_cons_succ]
              refine wpAnyH_ready (rs := [9]) (by kernel_rfl) (by decide) ?_
              refine AllReadyH.cons rfl (fun K hK => ?_) AllReadyH.nil
              refine step_v (some 46) (by kernel_rfl) (by kernel_rfl) (.int .u64 y) (by have p := HYC.out; go_simp) ?_
              refine hK.out _ _ trivial (fun _ => ?_)
              clear hK K
              try simp only [Act.put, List.setIfInBounds_toArray, List.set_cons_zero, List.set_cons_succ]
              refine held_v 10 (some 47) rfl (by kernel_rfl) (by kernel_rfl) (by kernel_rfl) (by kernel_rfl) (fun c a v w h => HQ2.out c a _ v w h) (by kernel_rfl) (.int .u64 s) (fun W h => by have p := HSW.out; go_simp) trivial ?_
              try simp only [Act.put, List.setIfInBounds_toArray, List.set_cons_zero, List.set_cons_succ]
              refine held_v 11 (some 48) rfl (by kernel_rfl) (by kernel_rfl) (by kernel_rfl) (by kernel_rfl) (fun c a v w h => HQ2.out c a _ v w h) (by kernel_rfl) (.pointer (some ⟨g7, q, none⟩)) (fun W h => by have p := HQN.out; go_simp) trivial ?_
              try simp only [Act.put, List.setIfInBounds_toArray, List.set_cons_zero, List.set_cons_succ]
              refine wpAnyH_ready (rs := [12]) (by kernel_rfl) (by decide) ?_
              refine AllReadyH.cons rfl (fun K hK => ?_) AllReadyH.nil
              refine step_store_cell none (by kernel_rfl) (by kernel_rfl) 24 (.tmp 48) (.tmp 47) rfl g7 q (by kernel_rfl) 24 cur HKC.out (.int .u64 s) (by kernel_rfl) (HSC.out _ HQL.out) size_u64f rfl rfl ?_
              intro w41 hkw41 how41
              have HNEW := Lib.hid (BldS.put HS8.out HKC.out HQL.out hkw41.out how41)
              clear hkw41 how41
              refine hK.out _ _ trivial (fun _ => ?_)
              clear hK K
              try simp only [Act.put, List.setIfInBounds_toArray, List.set_cons_zero, List.set_cons_succ]
              refine wpAnyH_done (by kernel_rfl) ?_ _
              refine HQ1.out _ _ ?_
              clear HQ1 HQ2
              clear HS8 HKC HSC HX HY HXC HYC
              go_wp2
              go_roundw
              case rel => exact ⟨M + 1, by omega, by have := HMN.out; omega, by go_num, by rw [Nat.add_sub_cancel, ← HNX.out]; exact HNEW.out⟩
              case measure => have := HMN.out; simp [intOf]; omega
            · refine step_v (some 46) (by kernel_rfl) (by kernel_rfl) (.int .u64 y) (by have p := HYC.out; go_simp) ?_
              refine hK.out _ _ trivial (fun _ => ?_)
              clear hK K
              try simp only [Act.put, List.setIfInBounds_toArray, List.set_cons_zero, List.set_cons_succ]
              refine wpAnyH_ready (rs := [4]) (by kernel_rfl) (by decide) ?_
              refine AllReadyH.cons rfl (fun K hK => ?_) AllReadyH.nil
              refine step_v (some 41) (by kernel_rfl) (by kernel_rfl) (.int .u64 x) (by have p := HXC.out; go_simp) ?_
              refine hK.out _ _ trivial (fun _ => ?_)
              clear hK K
              try simp only [Act.put, List.setIfInBounds_toArray, List.set_cons_zero, List.set_cons_succ]
              refine held_v 10 (some 47) rfl (by kernel_rfl) (by kernel_rfl) (by kernel_rfl) (by kernel_rfl) (fun c a v w h => HQ2.out c a _ v w h) (by kernel_rfl) (.int .u64 s) (fun W h => by have p := HSW.out; go_simp) trivial ?_
              try simp only [Act.put, List.setIfInBounds_toArray, List.set_cons_zero, List.set_cons_succ]
              refine held_v 11 (some 48) rfl (by kernel_rfl) (by kernel_rfl) (by kernel_rfl) (by kernel_rfl) (fun c a v w h => HQ2.out c a _ v w h) (by kernel_rfl) (.pointer (some ⟨g7, q, none⟩)) (fun W h => by have p := HQN.out; go_simp) trivial ?_
              try simp only [Act.put, List.setIfInBounds_toArray, List.set_cons_zero, List.set_cons_succ]
              refine wpAnyH_ready (rs := [12]) (by kernel_rfl) (by decide) ?_
              refine AllReadyH.cons rfl (fun K hK => ?_) AllReadyH.nil
              refine step_store_cell none (by kernel_rfl) (by kernel_rfl) 24 (.tmp 48) (.tmp 47) rfl g7 q (by kernel_rfl) 24 cur HKC.out (.int .u64 s) (by kernel_rfl) (HSC.out _ HQL.out) size_u64f rfl rfl ?_
              intro w42 hkw42 how42
              have HNEW := Lib.hid (BldS.put HS8.out HKC.out HQL.out hkw42.out how42)
              clear hkw42 how42
              refine hK.out _ _ trivial (fun _ => ?_)
              clear hK K
              try simp only [Act.put, List.setIfInBounds_toArray, List.set_cons_zero, List.set_cons_succ]
              refine wpAnyH_done (by kernel_rfl) ?_ _
              refine HQ1.out _ _ ?_
              clear HQ1 HQ2
              clear HS8 HKC HSC HX HY HXC HYC
              go_wp2
              go_roundw
              case rel => exact ⟨M + 1, by omega, by have := HMN.out; omega, by go_num, by rw [Nat.add_sub_cancel, ← HNX.out]; exact HNEW.out⟩
              case measure => have := HMN.out; simp [intOf]; omega
          · have hout := HOUT.out M hM1 (by omega)
            rw [show M - 1 + 1 = M by omega] at hout
            have HO := Lib.hid hout
            obtain ⟨lo, hlo⟩ : ∃ x, lowN M = x := ⟨_, rfl⟩
            rw [hlo] at hlp hll ha hlow
            have HLOWW := Lib.hid hlow
            obtain ⟨a, hae⟩ : ∃ a, M + lo = a := ⟨_, rfl⟩
            have haI : (M : Int) + (lo : Int) = (a : Int) := by omega
            have han : ¬ (a : Int) ≤ (n : Int) := by omega
            have ha1 : (a : Int) ≤ 2097152 := by omega
            clear hout hlo hlp hll ha hlow hMn hae hM2
            go_wp2_with (first
              | (go_at_call 50; (with_reducible refine (HLOWW.out _ (HTT.out.below HS.out.bel)).mono ?_); rintro e _ ⟨rfl, rfl⟩))
            go_roundw
            case rel => exact ⟨M + 1, by omega, by have := HMN.out; omega, by go_num, by rw [Nat.add_sub_cancel, HO.out]; exact HS.out⟩
            case measure => have := HMN.out; simp [intOf]; omega
        · obtain rfl : M = n + 1 := by omega
          rw [Nat.add_sub_cancel, HALL.out] at HS
          have hgt : ¬ ((n + 1 : Nat) : Int) ≤ (n : Int) := by omega
          have HK2 := Lib.hid HS.out.b2
          have HB2 := Lib.hid HS.out.bel
          have HRX := Lib.hid HS.out.rd
          clear hMn hM1 hM2
          go_wp2_with (first
            | (with_reducible refine at_any ?_; refine at_store 2 rfl ?_; refine wpList_store_any rfl 32 (.tmp 2) (.tmp 50) rfl g2 rfl 32 #[.slice none 0 0] #[.slice (some ⟨g7, 0, none⟩) n c7] HK2.out rfl (size1 _ _) (sizedF _) (fen_ones _ _ _) ?_; intro w9 hk9 hs9 hb9 ho9; have HB9 := Lib.hid (HB2.out.trans (hb9 _ (HG2.out))); have HK9 := Lib.hid hk9.out; have HR9 := Lib.hid (rd_past HRX.out HK2.out hs9.out ho9); clear hb9)
            | (refine bodyPost_any2 2 3 32 rfl g2 rfl (.int .i64 0) rfl 32 #[.slice (some ⟨g7, 0, none⟩) n c7] HK9.out _ Tryz.underlying32 rfl (sizedF _) rfl ?_))
          exact HEND.out _ _ _ HR9.out HC7.out HM7.out HB9.out
  · obtain ⟨e1, e2⟩ := sumV_no hs
    have HE := Lib.hid (bldE_big (l := l) (by omega) hs)
    rw [e1, e2] at HTO
    clear hrd hz hm hs e1 e2 hlen
    go_enter Tryz.func13, Tryz.ntmps13
    go_wp2_with (first
      | (with_reducible refine at_any ?_; refine at_dst 2 rfl ?_; refine wpList_alloc_any rfl 32 rfl #[.slice none 0 0] zero_fen ?_; intro w1 hk1 hs1 hb1; have HK1 := Lib.hid hk1.out; have HB1 := Lib.hid hb1; clear hk1 hs1 hb1)
      | (go_at_call 48; (with_reducible refine (HTO.out _ (HR1 HR.out HB1.out)).mono ?_); rintro e _ ⟨rfl, rfl⟩)
      | (with_reducible refine at_any ?_; refine at_dst 20 rfl ?_; refine wpList_val rfl (.agg #[.slice none 0 0]) (build_fen0 _ rfl) ?_)
      | (with_reducible refine at_any ?_; refine at_store 2 rfl ?_; refine wpList_store_any rfl 32 (.tmp 2) (.tmp 20) rfl w.heap.size rfl 32 #[.slice none 0 0] #[.slice none 0 0] HK1.out rfl (size1 _ _) (sizedF _) (fen_ones _ _ _) ?_; intro w9 hk9 hs9 hb9 ho9; have HB9 := Lib.hid (HB1.out.trans (hb9 _ (Nat.le_refl _))); have HK9 := Lib.hid hk9.out; clear hb9)
      | (refine bodyPost_any2 2 3 32 rfl w.heap.size rfl (.int .i64 11) rfl 32 #[.slice none 0 0] HK9.out _ Tryz.underlying32 rfl (sizedF _) rfl ?_))
    exact HEMP.out _ _ HE.out HB9.out
end
section
open Go.ChangeShapes Go.WideShapes Go.ChangeAt Go.RowKit
set_option maxHeartbeats 8000000 in
theorem q11stakes_c (l : List Int) (hz : ∀ z ∈ l, 0 ≤ z) (hs : sumL l < 9223372036854775808) (hl : l.length ≤ 1048576) (A : Option Addr) (n c : Nat) (hn : l.length = n) (hc : n ≤ c) (hcm : c ≤ maxLen) (w : World) (hT : TzT w) (hrd : Rd .u64 w w.heap.size A n (treeL l)) : Calls Tryz.prog 70 #[.agg #[.slice A n c]] w (RetL w l) := by
  have HR := Lib.hid hrd
  have HTT := Lib.hid hT
  have hm2 : (n : Int) ≤ 1048576 := by omega
  have HN8 : Hid (n ≤ 100000000) := Lib.hid (by omega)
  by_cases h0 : n = 0
  · subst h0
    obtain rfl : l = [] := List.length_eq_zero_iff.1 hn
    have e : treeL [] = [] := rfl
    rw [e] at HR
    clear hrd hz hs hl hn hc hcm hT e
    go_enter Tryz.func70, Tryz.ntmps70
    go_wp2_with (first
      | (with_reducible refine at_any ?_; refine at_dst 1 rfl ?_; refine wpList_box_any rfl 32 (.tmp 0) rfl #[.slice A 0 c] rfl ?_; intro w1 hk1 hs1 hb1; have HK1 := Lib.hid hk1.out; have HB1 := Lib.hid hb1; have cz := Blk.cell0 HK1.out; clear hk1 hs1 hb1)
      | (go_at_call 49; (with_reducible refine (clone64_c [] A 0 c HN8.out _ (HR1 HR.out HB1.out)).mono ?_); rintro e w2 ⟨v6, rfl, ho2, hb2⟩; obtain ⟨A7, c7, rfl, hc7, hm7⟩ := ho2.form; have HB2 := Lib.hid (HB1.out.trans (hb2.mono HB1.out.size)); have hl0 : ([] : List Int).length = 0 := rfl; rw [hl0]; clear hl0 hb2 ho2))
    go_loopw [4] (fun nn wr => nn = .int .i64 0 ∧ w2 = wr) (fun _ _ => 0)
    case atStart => exact ⟨rfl, by first | rfl | trivial⟩
    case round =>
      obtain ⟨rfl, rfl⟩ := hrel
      go_wp2
      go_ret
      exact ⟨A7, c7, rfl, rd_nil _ _ _ _, hc7, hm7, HB2.out⟩
  · have HPOS : Hid (0 < n) := Lib.hid (by omega)
    have HLN : Hid ((treeL l).length = n) := Lib.hid ((treeL_len l).trans hn)
    have HLL := Lib.hid hn
    have HPREV := Lib.hid (fun M (h1 : 1 ≤ M) (h2 : M + lowN M ≤ n) => bldF_prev (l := l) (k := M - 1) (by have := lowN_pos (n := M) (by omega); omega) (by rw [show M - 1 + 1 = M by omega]; omega))
    have HOUT := Lib.hid (fun M (h1 : 1 ≤ M) (h2 : n < M + lowN M) => bldF_out (l := l) (k := M - 1) (by rw [show M - 1 + 1 = M by omega]; omega))
    have HBD := Lib.hid (fun k m (hm : m < n) => bldF_bd hz k m (by omega))
    have HALL : Hid (bldF l n = treeL l) := Lib.hid (by rw [← hn]; exact bldF_all l)
    have HZ : Hid (bldF l 0 = l) := Lib.hid (bldF_zero l)
    have HSX := Lib.hid hs
    have HLOW := Lib.hid (fun M (h1 : 1 ≤ M) (h2 : M ≤ n) W hW => q11low_c M (by omega) (by omega) W hW)
    clear hrd hz hs hl hn hc hcm hT h0
    go_enter Tryz.func70, Tryz.ntmps70
    go_wp2_with (first
      | (with_reducible refine at_any ?_; refine at_dst 1 rfl ?_; refine wpList_box_any rfl 32 (.tmp 0) rfl #[.slice A n c] rfl ?_; intro w1 hk1 hs1 hb1; have HK1 := Lib.hid hk1.out; have HB1 := Lib.hid hb1; have cz := Blk.cell0 HK1.out; clear hk1 hs1 hb1)
      | (go_at_call 49; (with_reducible refine (clone64_c (treeL l) A n c HN8.out _ (HR1 HR.out HB1.out)).mono ?_); rintro e w2 ⟨v6, rfl, ho2, hb2⟩; obtain ⟨g7, c7, rfl, HS2, HC7, HM7⟩ := bld_start HK1.out HB1.out ho2 hb2 HLN.out HPOS.out; clear ho2 hb2))
    obtain ⟨g2, hg2⟩ : ∃ g, w.heap.size = g := ⟨_, rfl⟩
    have HS3 : Hid (BldS w g2 (.slice A n c) g7 c7 n (treeL l) w2) := Lib.hid (by rw [← hg2]; exact HS2.out)
    rw [hg2]
    clear HS2 hg2 HK1 HB1 cz
    go_loopw [4] (fun nn wr => ∃ M : Nat, M ≤ n ∧ nn = .int .i64 (M : Int) ∧ BldS w g2 (.slice A n c) g7 c7 n (bldF l M) wr) (fun nn _ => (intOf nn).toNat)
    case atStart => exact ⟨n, Nat.le_refl _, rfl, by rw [HALL.out]; exact HS3.out⟩
    case round =>
      clear HS3
      obtain ⟨M, hM2, rfl, hS⟩ := hrel
      have HS := Lib.hid hS
      clear hS
      by_cases hM1 : 1 ≤ M
      · have hlow := fun W hW => HLOW.out M hM1 hM2 W hW
        have hlp := lowN_pos (n := M) (by omega)
        have hll := lowN_le M
        have hmi : (M : Int) ≤ 1048576 := by omega
        have hm1 : (1 : Int) ≤ (M : Int) := by omega
        have HMN := Lib.hid hM2
        have hMnI : (M : Int) ≤ (n : Int) := by omega
        by_cases ha : M + lowN M ≤ n
        · have hnx := HPREV.out M hM1 ha
          have hbq := HBD.out M (M + lowN M - 1) (by omega)
          have hbk := HBD.out M (M - 1) (by omega)
          have hbs := HBD.out (M - 1) (M + lowN M - 1) (by omega)
          obtain ⟨k, hk⟩ : ∃ k, M - 1 = k := ⟨_, rfl⟩
          have hk1 : k + 1 = M := by omega
          rw [hk] at hnx hbs hbk
          rw [hk1] at hnx
          obtain ⟨lo, hlo⟩ : ∃ x, lowN M = x := ⟨_, rfl⟩
          rw [hlo] at hnx hbq hbs hlp hll ha hlow
          obtain ⟨q, hq⟩ : ∃ q, M + lo - 1 = q := ⟨_, rfl⟩
          have hkq : k + lo = q := by omega
          rw [hkq] at hnx
          rw [hq] at hbq hbs
          obtain ⟨B, hB⟩ : ∃ B, bldF l M = B := ⟨_, rfl⟩
          rw [hB] at HS hnx hbq hbk
          obtain ⟨x, hx2⟩ : ∃ z, B.getD q 0 = z := ⟨_, rfl⟩
          obtain ⟨y, hy⟩ : ∃ z, B.getD k 0 = z := ⟨_, rfl⟩
          have hlB := HS.out.len
          have hsv : (bldF l k).getD q 0 = x - y := by
            rw [← hnx, List.getD_eq_getElem?_getD, List.getElem?_set_self (by omega), hx2, hy]
            rfl
          rw [hsv] at hbs
          rw [hx2, hy] at hnx
          rw [hx2] at hbq
          rw [hy] at hbk
          have hsx := HSX.out
          have HX := Lib.hid hx2
          have HY := Lib.hid hy
          have HLOWW := Lib.hid hlow
          obtain ⟨s, hs⟩ : ∃ s, x - y = s := ⟨_, rfl⟩
          rw [hs] at hnx hbs
          have HNX := Lib.hid hnx
          have HSW : Hid (IntKind.u64.wrap (x - y) = s) := Lib.hid (by rw [hs, IntKind.wrap_u64]; omega)
          obtain ⟨a, hae⟩ : ∃ a, M + lo = a := ⟨_, rfl⟩
          have haI : (M : Int) + (lo : Int) = (a : Int) := by omega
          have han : (a : Int) ≤ (n : Int) := by omega
          have ha1 : (1 : Int) ≤ (a : Int) := by omega
          have HQW : Hid (IntKind.i64.wrap ((a : Int) - 1) = (q : Int)) := Lib.hid (by rw [IntKind.wrap_i64]; omega)
          have HQN : Hid ((q : Int) < (n : Int)) := Lib.hid (by omega)
          have HQL : Hid (q < n) := Lib.hid (by omega)
          have HKW : Hid (IntKind.i64.wrap ((M : Int) - 1) = (k : Int)) := Lib.hid (by rw [IntKind.wrap_i64]; omega)
          have HKW2 : Hid (IntKind.i64.wrap (k : Int) = (k : Int)) := Lib.hid (by rw [IntKind.wrap_i64]; omega)
          have HKN : Hid ((k : Int) < (n : Int)) := Lib.hid (by omega)
          have HKL : Hid (k < n) := Lib.hid (by omega)
          have HKM : Hid (k + 1 = M) := Lib.hid hk1
          have hkI : (M : Int) - 1 = (k : Int) := by omega
          clear hnx hbq hbk hbs hk hk1 hlo hq hkq hB hx2 hy hlB hsv hsx hs hlp hll ha hlow hM1 hM2 hae
          go_wp2_with (first
            | (go_at_call 50; (with_reducible refine (HLOWW.out _ (HTT.out.below HS.out.bel)).mono ?_); rintro e _ ⟨rfl, rfl⟩))
          have HS8 := Lib.hid HS.out.drew
          obtain ⟨cur, HKC, HSC⟩ := HS8.out.blk HPOS.out
          have HXC := Lib.hid (HS8.out.cell HQL.out HX.out)
          have HYC := Lib.hid (HS8.out.cell HKL.out HY.out)
          clear HS
          refine wp_region_held_drew (S := PAnyT) (by kernel_rfl) trivial (fun hH => ?_)
          refine wpAnyH_letter #[false, false, false, false, false, false, false, false, false, false, false, false, false] (by kernel_rfl) (fun _ _ d _ _ h => by cases d <;> exact h) (fun QL HQ1 HQ2 => ?_)
          refine held_v 0 (some 23) rfl (by kernel_rfl) (by kernel_rfl) (by kernel_rfl) (by kernel_rfl) (fun c a v w h => HQ2.out c a _ v w h) (by kernel_rfl) (.slice (some ⟨g7, 0, none⟩) n c7) (fun W h => by kernel_rfl) trivial ?_
          try simp only [Act.put, List.setIfInBounds_toArray, List.set_cons_zero, List.set_cons_succ]
          refine held_v 1 (some 24) rfl (by kernel_rfl) (by kernel_rfl) (by kernel_rfl) (by kernel_rfl) (fun c a v w h => HQ2.out c a _ v w h) (by kernel_rfl) (.int .i64 (a : Int)) (fun W h => by kernel_rfl) trivial ?_
          try simp only [Act.put, List.setIfInBounds_toArray, List.set_cons_zero, List.set_cons_succ]
          refine held_v 2 (some 25) rfl (by kernel_rfl) (by kernel_rfl) (by kernel_rfl) (by kernel_rfl) (fun c a v w h => HQ2.out c a _ v w h) (by kernel_rfl) (.int .i64 (q : Int)) (fun W h => by have p := HQW.out; go_simp) trivial ?_
          try simp only [Act.put, List.setIfInBounds_toArray, List.set_cons_zero, List.set_cons_succ]
          refine held_v 3 (some 26) rfl (by kernel_rfl) (by kernel_rfl) (by kernel_rfl) (by kernel_rfl) (fun c a v w h => HQ2.out c a _ v w h) (by kernel_rfl) (.pointer (some ⟨g7, q, none⟩)) (fun W h => by have p := HQN.out; go_simp) trivial ?_
          try simp only [Act.put, List.setIfInBounds_toArray, List.set_cons_zero, List.set_cons_succ]
          refine held_v 5 (some 28) rfl (by kernel_rfl) (by kernel_rfl) (by kernel_rfl) (by kernel_rfl) (fun c a v w h => HQ2.out c a _ v w h) (by kernel_rfl) (.slice (some ⟨g7, 0, none⟩) n c7) (fun W h => by kernel_rfl) trivial ?_
          try simp only [Act.put, List.setIfInBounds_toArray, List.set_cons_zero, List.set_cons_succ]
          refine held_v 6 (some 29) rfl (by kernel_rfl) (by kernel_rfl) (by kernel_rfl) (by kernel_rfl) (fun c a v w h => HQ2.out c a _ v w h) (by kernel_rfl) (.int .i64 (M : Int)) (fun W h => by kernel_rfl) trivial ?_
          try simp only [Act.put, List.setIfInBounds_toArray, List.set_cons_zero, List.set_cons_succ]
          refine held_v 7 (some 30) rfl (by kernel_rfl) (by kernel_rfl) (by kernel_rfl) (by kernel_rfl) (fun c a v w h => HQ2.out c a _ v w h) (by kernel_rfl) (.int .i64 (k : Int)) (fun W h => by have p := HKW.out; have p2 := HKW2.out; go_simp) trivial ?_
          try simp only [Act.put, List.setIfInBounds_toArray, List.set_cons_zero, List.set_cons_succ]
          refine held_v 8 (some 31) rfl (by kernel_rfl) (by kernel_rfl) (by kernel_rfl) (by kernel_rfl) (fun c a v w h => HQ2.out c a _ v w h) (by kernel_rfl) (.pointer (some ⟨g7, k, none⟩)) (fun W h => by have p := HKN.out; go_simp) trivial ?_
          try simp only [Act.put, List.setIfInBounds_toArray, List.set_cons_zero, List.set_cons_succ]
          refine wpAnyH_ready (rs := [4, 9]) (by kernel_rfl) (by decide) ?_
          refine AllReadyH.cons rfl (fun K hK => ?_) (AllReadyH.cons rfl (fun K hK => ?_) AllReadyH.nil)
          · refine step_v (some 27) (by kernel_rfl) (by kernel_rfl) (.int .u64 x) (by have p := HXC.out; go_simp) ?_
            refine hK.out _ _ trivial (fun _ => ?_)
            clear hK K
            try simp only [Act.put, List.setIfInBounds_toArray, List.set_cons_zero, List.set_cons_succ]
            refine wpAnyH_ready (rs := [9]) (by kernel_rfl) (by decide) ?_
            refine AllReadyH.cons rfl (fun K hK => ?_) AllReadyH.nil
            refine step_v (some 32) (by kernel_rfl) (by kernel_rfl) (.int .u64 y) (by have p := HYC.out; go_simp) ?_
            refine hK.out _ _ trivial (fun _ => ?_)
            clear hK K
            try simp only [Act.put, List.setIfInBounds_toArray, List.set_cons_zero, List.set_cons_succ]
            refine held_v 10 (some 33) rfl (by kernel_rfl) (by kernel_rfl) (by kernel_rfl) (by kernel_rfl) (fun c a v w h => HQ2.out c a _ v w h) (by kernel_rfl) (.int .u64 s) (fun W h => by have p := HSW.out; go_simp) trivial ?_
            try simp only [Act.put, List.setIfInBounds_toArray, List.set_cons_zero, List.set_cons_succ]
            refine held_v 11 (some 34) rfl (by kernel_rfl) (by kernel_rfl) (by kernel_rfl) (by kernel_rfl) (fun c a v w h => HQ2.out c a _ v w h) (by kernel_rfl) (.pointer (some ⟨g7, q, none⟩)) (fun W h => by have p := HQN.out; go_simp) trivial ?_
            try simp only [Act.put, List.setIfInBounds_toArray, List.set_cons_zero, List.set_cons_succ]
            refine wpAnyH_ready (rs := [12]) (by kernel_rfl) (by decide) ?_
            refine AllReadyH.cons rfl (fun K hK => ?_) AllReadyH.nil
            refine step_store_cell none (by kernel_rfl) (by kernel_rfl) 24 (.tmp 34) (.tmp 33) rfl g7 q (by kernel_rfl) 24 cur HKC.out (.int .u64 s) (by kernel_rfl) (HSC.out _ HQL.out) size_u64f rfl rfl ?_
            intro w41 hkw41 how41
            have HNEW := Lib.hid (BldS.put HS8.out HKC.out HQL.out hkw41.out how41)
            clear hkw41 how41
            refine hK.out _ _ trivial (fun _ => ?_)
            clear hK K
            try simp only [Act.put, List.setIfInBounds_toArray, List.set_cons_zero, List.set_cons_succ]
            refine wpAnyH_done (by kernel_rfl) ?_ _
            refine HQ1.out _ _ ?_
            clear HQ1 HQ2
            clear HS8 HKC HSC HX HY HXC HYC
            go_wp2
            go_roundw
            case rel => exact ⟨k, by have := HKL.out; omega, by go_num, by rw [← HNX.out]; exact HNEW.out⟩
            case measure => have := HKM.out; simp [intOf]; omega
          · refine step_v (some 32) (by kernel_rfl) (by kernel_rfl) (.int .u64 y) (by have p := HYC.out; go_simp) ?_
            refine hK.out _ _ trivial (fun _ => ?_)
            clear hK K
            try simp only [Act.put, List.setIfInBounds_toArray, List.set_cons_zero, List.set_cons_succ]
            refine wpAnyH_ready (rs := [4]) (by kernel_rfl) (by decide) ?_
            refine AllReadyH.cons rfl (fun K hK => ?_) AllReadyH.nil
            refine step_v (some 27) (by kernel_rfl) (by kernel_rfl) (.int .u64 x) (by have p := HXC.out; go_simp) ?_
            refine hK.out _ _ trivial (fun _ => ?_)
            clear hK K
            try simp only [Act.put, List.setIfInBounds_toArray, List.set_cons_zero, List.set_cons_succ]
            refine held_v 10 (some 33) rfl (by kernel_rfl) (by kernel_rfl) (by kernel_rfl) (by kernel_rfl) (fun c a v w h => HQ2.out c a _ v w h) (by kernel_rfl) (.int .u64 s) (fun W h => by have p := HSW.out; go_simp) trivial ?_
            try simp only [Act.put, List.setIfInBounds_toArray, List.set_cons_zero, List.set_cons_succ]
            refine held_v 11 (some 34) rfl (by kernel_rfl) (by kernel_rfl) (by kernel_rfl) (by kernel_rfl) (fun c a v w h => HQ2.out c a _ v w h) (by kernel_rfl) (.pointer (some ⟨g7, q, none⟩)) (fun W h => by have p := HQN.out; go_simp) trivial ?_
            try simp only [Act.put, List.setIfInBounds_toArray, List.set_cons_zero, List.set_cons_succ]
            refine wpAnyH_ready (rs := [12]) (by kernel_rfl) (by decide) ?_
            refine AllReadyH.cons rfl (fun K hK => ?_) AllReadyH.nil
            refine step_store_cell none (by kernel_rfl) (by kernel_rfl) 24 (.tmp 34) (.tmp 33) rfl g7 q (by kernel_rfl) 24 cur HKC.out (.int .u64 s) (by kernel_rfl) (HSC.out _ HQL.out) size_u64f rfl rfl ?_
            intro w42 hkw42 how42
            have HNEW := Lib.hid (BldS.put HS8.out HKC.out HQL.out hkw42.out how42)
            clear hkw42 how42
            refine hK.out _ _ trivial (fun _ => ?_)
            clear hK K
            try simp only [Act.put, List.setIfInBounds_toArray, List.set_cons_zero, List.set_cons_succ]
            refine wpAnyH_done (by kernel_rfl) ?_ _
            refine HQ1.out _ _ ?_
            clear HQ1 HQ2
            clear HS8 HKC HSC HX HY HXC HYC
            go_wp2
            go_roundw
            case rel => exact ⟨k, by have := HKL.out; omega, by go_num, by rw [← HNX.out]; exact HNEW.out⟩
            case measure => have := HKM.out; simp [intOf]; omega
        · have hout := HOUT.out M hM1 (by omega)
          rw [show M - 1 + 1 = M by omega] at hout
          have HO := Lib.hid hout
          obtain ⟨k, hk⟩ : ∃ k, M - 1 = k := ⟨_, rfl⟩
          rw [hk] at HO
          have HKM : Hid (k + 1 = M) := Lib.hid (by omega)
          have hkI : (M : Int) - 1 = (k : Int) := by omega
          obtain ⟨lo, hlo⟩ : ∃ x, lowN M = x := ⟨_, rfl⟩
          rw [hlo] at hlp hll ha hlow
          have HLOWW := Lib.hid hlow
          obtain ⟨a, hae⟩ : ∃ a, M + lo = a := ⟨_, rfl⟩
          have haI : (M : Int) + (lo : Int) = (a : Int) := by omega
          have han : ¬ (a : Int) ≤ (n : Int) := by omega
          have ha1 : (a : Int) ≤ 2097152 := by omega
          clear hout hlo hlp hll ha hlow hM1 hM2 hae hk
          go_wp2_with (first
            | (go_at_call 50; (with_reducible refine (HLOWW.out _ (HTT.out.below HS.out.bel)).mono ?_); rintro e _ ⟨rfl, rfl⟩))
          go_roundw
          case rel => exact ⟨k, by have := HKM.out; have := HMN.out; omega, by go_num, by rw [← HO.out]; exact HS.out⟩
          case measure => have := HKM.out; simp [intOf]; omega
      · obtain rfl : M = 0 := by omega
        rw [HZ.out] at HS
        rw [show ((0 : Nat) : Int) = 0 from rfl]
        clear hM1 hM2
        go_wp2
        go_ret
        exact ⟨some ⟨g7, 0, none⟩, c7, by rw [HLL.out]; rfl, by rw [HLL.out]; exact HS.out.rd, by rw [HLL.out]; exact HC7.out, HM7.out, HS.out.bel⟩
end
section
open Go.ChangeShapes Go.WideShapes Go.ChangeAt Go.RowKit
theorem ret_iiF {a b c d : Int} (h : a = b) (h2 : c = d) : Ending.returned (.tuple #[.int .i64 a, .int .i64 c]) = .returned (.tuple #[.int .i64 b, .int .i64 d]) := by rw [h, h2]
theorem fx_start {w w1 : World} {A : Option Addr} {m c : Nat} {ts : List Int} (hk : Blk w1 w.heap.size 32 #[.slice A m c]) (hr : Rd .u64 w w.heap.size A m ts) (hb : Below w.heap.size w w1) : Fx [.blk w.heap.size 32 #[.slice A m c], .rdb .u64 w.heap.size A m ts, .bel w] w1 :=
  ⟨hk, ⟨hr.below hb, hb.size⟩, hb, trivial⟩
set_option maxHeartbeats 8000000 in
theorem q11owner_c (l : List Int) (hz : ∀ z ∈ l, 0 ≤ z) (hs : sumL l < 9223372036854775808) (hl : l.length ≤ 1048576) (A : Option Addr) (m c : Nat) (hm : l.length = m) (hc : m ≤ c) (hcm : c ≤ maxLen) (t : Int) (t0 : 0 ≤ t) (t1 : t < 18446744073709551616) (w : World) (hT : TzT w) (hrd : Rd .u64 w w.heap.size A m (treeL l)) : Calls Tryz.prog 25 #[.agg #[.slice A m c], .int .u64 t] w fun e w' => e = .returned (.tuple #[.int .i64 (ownV l t), .int .i64 (ownE l t)]) ∧ Below w.heap.size w w' := by
  have HTT := Lib.hid hT
  have htot := fun W hW h => q11total_c l hz hs hl A m c hm hc hcm W hW h
  have hmI : (m : Int) ≤ 1048576 := by omega
  have hno : ¬ t < sumL l → ownV l t = 0 ∧ ownE l t = 3 := fun h => own_no hz (by omega)
  have HIS := Lib.hid (fun o (h : o < m) h1 h2 => own_is hz (t := t) (o := o) t0 (by omega) h1 h2)
  have HALL : Hid (preL l m = sumL l) := Lib.hid (by rw [← hm, preL_all])
  have HMID := Lib.hid (fun n s k (h1 : s = 2 ^ k) (h2 : 2 * s ∣ n) (h3 : n + s ≤ m) => tree_mid (l := l) h1 h2 (by omega))
  have HMO := Lib.hid (fun a b (h : a ≤ b) => preL_mono hz (l := l) h)
  have HNN := Lib.hid (fun a => preL_nn hz (l := l) a)
  have HLE := Lib.hid (fun a => Int.lt_of_le_of_lt (preL_le hz (l := l) a) hs)
  have hm0 : t < sumL l → 0 < m := fun h => by
    rcases Nat.eq_zero_or_pos m with h0 | h0
    · have : sumL l = 0 := by rw [← HALL.out, h0]; rfl
      omega
    · exact h0
  obtain ⟨x, hx⟩ : ∃ x, sumL l = x := ⟨_, rfl⟩
  obtain ⟨ts, hts⟩ : ∃ x, treeL l = x := ⟨_, rfl⟩
  rw [hx] at htot hno HALL hm0 hs
  rw [hts] at htot hrd HMID
  have HR := Lib.hid hrd
  have HTO := Lib.hid htot
  by_cases htx : t < x
  · have hmp := hm0 htx
    have hmp2 : (1 : Int) ≤ (m : Int) := by omega
    have HTX := Lib.hid htx
    obtain ⟨k0, -, hk1, hk2⟩ := bitLen_is m (by omega) (by omega)
    have HHI := Lib.hid (fun W => q11high_c m k0 hk1 hk2 (by omega) W)
    obtain ⟨g, off, hA, -, hcc⟩ := hrd.at_ hmp
    have HCELL : Hid (∀ j, j < m → ∀ W, Rd .u64 W W.heap.size A m ts → W.cell? ⟨g, off + j, none⟩ = some (.int .u64 (ts.getD j 0))) := Lib.hid (fun j hj W h => by
      obtain ⟨g2, off2, e1, -, e2⟩ := h.at_ hmp
      rw [hA] at e1
      injection e1 with e1
      injection e1 with e1 e3
      subst e1 e3
      exact e2 j hj)
    subst hA
    obtain ⟨A, hA⟩ : ∃ A : Option Addr, (some ⟨g, off, none⟩ : Option Addr) = A := ⟨_, rfl⟩
    have HA := Lib.hid hA
    have hntx : ¬ x ≤ t := by omega
    rw [hA] at HR HTO HCELL ⊢
    have HST : Hid (0 + 2 ^ (k0 + 1) ≤ m → t < preL l (0 + 2 ^ (k0 + 1))) := Lib.hid (fun h => absurd h (by omega))
    have hpk0 : 2 ^ (k0 + 1) = 2 * 2 ^ k0 := by rw [Nat.pow_succ, Nat.mul_comm]
    have HSM : Hid (2 ^ (k0 + 1) ≤ 2097152) := Lib.hid (by omega)
    have HSD : Hid (((2 ^ (k0 + 1) / 2 : Nat) : Int) = ((2 ^ k0 : Nat) : Int)) := Lib.hid (by rw [show 2 ^ (k0 + 1) = 2 * 2 ^ k0 by rw [Nat.pow_succ, Nat.mul_comm], Nat.mul_div_cancel_left _ (by omega)])
    have HP0 := Lib.hid hmp
    obtain ⟨sd, hsd⟩ : ∃ z : Int, ((2 ^ k0 : Nat) : Int) = z := ⟨_, rfl⟩
    rw [hsd] at HHI HSD
    clear hrd htot hno hm0 hz hl hm hc hcm hx hk1 hk2 hcc hts hT hA hsd hpk0
    go_enter Tryz.func25, Tryz.ntmps25
    go_wp2_with (first
      | (with_reducible refine at_any ?_; refine at_dst 2 rfl ?_; refine wpList_box_any rfl 32 (.tmp 0) rfl #[.slice A m c] rfl ?_; intro w1 hk1 hs1 hb1; have G1 := Lib.hid (fx_start hk1.out HR.out hb1); clear hk1 hs1 hb1)
      | (with_reducible refine at_any ?_; refine at_dst 11 rfl ?_; refine wpList_load_fen (by kernel_rfl) (.tmp 2) rfl w.heap.size rfl 32 (.slice A m c) (Fx.b0 G1.out) ?_)
      | (go_at_call 51; (with_reducible refine (HTO.out _ (HTT.out.below (Fx.e2 G1.out)) (Fx.r1 G1.out)).mono ?_); rintro e w2 ⟨rfl, hb2⟩; have G2 := Lib.hid (Fx.below G1.out hb2); clear hb2)
      | (with_reducible refine at_any ?_; refine at_dst 15 rfl ?_; refine wpList_load_fen (by kernel_rfl) (.tmp 2) rfl w.heap.size rfl 32 (.slice A m c) (Fx.b0 G2.out) ?_)
      | (go_at_call 64; (with_reducible refine (q11len_c A m c _).mono ?_); rintro e w3 ⟨rfl, hb3⟩; have G3 := Lib.hid (Fx.below G2.out hb3); clear hb3)
      | (go_at_call 63; (with_reducible refine (HHI.out _).mono ?_); rintro e _ ⟨rfl, rfl⟩))
    obtain ⟨gB, hgB⟩ : ∃ g, w.heap.size = g := ⟨_, rfl⟩
    have G9 : Hid (Fx [.blk gB 32 #[.slice A m c], .rdb .u64 w.heap.size A m ts, .bel w] w3) := Lib.hid (by rw [← hgB]; exact G3.out)
    rw [hgB]
    clear hgB G3
    go_loopw [6, 7, 8] (fun nn tt ss wr => ∃ (K n : Nat), ss = .int .i64 ((2 ^ K / 2 : Nat) : Int) ∧ nn = .int .i64 (n : Int) ∧ tt = .int .u64 (t - preL l n) ∧ 2 ^ K ≤ 2097152 ∧ 2 ^ K ∣ n ∧ n < m ∧ preL l n ≤ t ∧ (n + 2 ^ K ≤ m → t < preL l (n + 2 ^ K)) ∧ Fx [.blk gB 32 #[.slice A m c], .rdb .u64 w.heap.size A m ts, .bel w] wr) (fun _ _ ss _ => (intOf ss).toNat)
    case atStart => exact ⟨k0 + 1, 0, by rw [HSD.out], rfl, by rw [show preL l 0 = 0 from rfl, Int.sub_zero], HSM.out, ⟨0, rfl⟩, HP0.out, t0, HST.out, G9.out⟩
    case round =>
      clear HST HSM HSD G9 HHI HTO
      obtain ⟨K, n, rfl, rfl, rfl, hKm, hdv, hnm, hpn, hnx, hG⟩ := hrel
      have G11 := Lib.hid hG
      clear hG
      have hnmI : (n : Int) < (m : Int) := by omega
      have hn0I : (0 : Int) ≤ (n : Int) := by omega
      cases K with
      | zero =>
        obtain ⟨e1, e2⟩ := HIS.out n hnm hpn (by have h := hnx (by rw [Nat.pow_zero]; omega); rw [Nat.pow_zero] at h; exact h)
        have E1 := Lib.hid e1
        have E2 := Lib.hid e2
        rw [show ((2 ^ 0 / 2 : Nat) : Int) = 0 from rfl]
        clear hKm hdv hnm hpn hnx e1 e2
        go_wp2
        go_ret2
        exact ⟨ret_iiF E1.out.symm E2.out.symm, Fx.e2 G11.out⟩
      | succ k =>
        have hnk : 2 ^ (k + 1) = 2 * 2 ^ k := by rw [Nat.pow_succ, Nat.mul_comm]
        have hk1 : 1 ≤ 2 ^ k := Nat.one_le_two_pow
        have hmid := HMID.out n (2 ^ k) k rfl (by rw [← hnk]; exact hdv)
        have hd2 : 2 ^ k ∣ n := Nat.dvd_trans ⟨2, by rw [hnk, Nat.mul_comm]⟩ hdv
        rw [hnk] at hKm hnx
        rw [show 2 ^ (k + 1) / 2 = 2 ^ k by rw [hnk, Nat.mul_div_cancel_left _ (by omega)]]
        have hq : ((2 ^ k : Nat) : Int) / 2 = ((2 ^ k / 2 : Nat) : Int) := by omega
        have hqm : ((2 ^ k / 2 : Nat) : Int).toNat < (((2 ^ k : Nat) : Int)).toNat := by omega
        have HKM : Hid (2 ^ k ≤ 2097152) := Lib.hid (by omega)
        have HD2 := Lib.hid hd2
        have HDS : Hid (2 ^ k ∣ n + 2 ^ k) := Lib.hid (Nat.dvd_add hd2 (Nat.dvd_refl _))
        have hp0 := HNN.out n
        have hpl := HLE.out n
        by_cases hle : n + 2 ^ k < m
        · have hcell := hmid (by omega)
          have hck := HCELL.out (n + 2 ^ k - 1) (by omega)
          rw [hcell] at hck
          have hp1 := HMO.out n (n + 2 ^ k) (by omega)
          have hp2 := HLE.out (n + 2 ^ k)
          by_cases hgo : preL l (n + 2 ^ k) ≤ t
          · have HNX : Hid (n + 2 ^ k + 2 ^ k ≤ m → t < preL l (n + 2 ^ k + 2 ^ k)) := Lib.hid (fun h => by have h2 := hnx (by omega); rw [show n + 2 * 2 ^ k = n + 2 ^ k + 2 ^ k by omega] at h2; exact h2)
            have HRL := Lib.hid hgo
            obtain ⟨s, hsk⟩ : ∃ s, 2 ^ k = s := ⟨_, rfl⟩
            rw [hsk] at hk1 hle hck hp1 hp2 hgo hq HKM hqm ⊢
            have HSK := Lib.hid hsk
            obtain ⟨q, hqq⟩ : ∃ q, n + s - 1 = q := ⟨_, rfl⟩
            rw [hqq] at hck
            have HP1 : Hid (t - preL l n - (preL l (n + s) - preL l n) = t - preL l (n + s)) := Lib.hid (by omega)
            obtain ⟨u, hu⟩ : ∃ u, t - preL l n = u := ⟨_, rfl⟩
            obtain ⟨z, hzz⟩ : ∃ z, preL l (n + s) - preL l n = z := ⟨_, rfl⟩
            rw [hu, hzz] at HP1
            rw [hzz] at hck
            rw [hu]
            have HCK := Lib.hid hck
            have u0 : 0 ≤ u := by omega
            have u1 : u < 18446744073709551616 := by omega
            have z0 : 0 ≤ z := by omega
            have zu : z ≤ u := by omega
            have hsI : (1 : Int) ≤ (s : Int) := by omega
            have hsM : (n : Int) + (s : Int) < (m : Int) := by omega
            have hqI : (n : Int) + (s : Int) - 1 = (q : Int) := by omega
            have hqm2 : (q : Int) < (m : Int) := by omega
            have hq0 : (0 : Int) ≤ (q : Int) := by omega
            obtain ⟨sh, hsh⟩ : ∃ x : Int, ((s / 2 : Nat) : Int) = x := ⟨_, rfl⟩
            have HSH : Hid (sh = ((s / 2 : Nat) : Int)) := Lib.hid hsh.symm
            have hsh0 : 0 ≤ sh ∧ sh ≤ 1048576 := by omega
            obtain ⟨hsh1, hsh2⟩ := hsh0
            rw [hsh] at hq hqm
            have HQM := Lib.hid hqm
            have HLEM := Lib.hid hle
            have HAA := HA.out
            subst HAA
            clear hmid hcell hp0 hpl hp1 hp2 hgo hnk hk1 hd2 hKm hdv hnm hpn hnx hsk hqq hu hzz hsh hqm hck hle
            go_wp2_with (first
              | (with_reducible refine at_any ?_; refine at_dst 26 rfl ?_; refine wpList_load_fen (by kernel_rfl) (.tmp 2) rfl gB rfl 32 _ (Fx.b0 G11.out) ?_)
              | (go_at_call 64; (with_reducible refine (q11len_c _ m c _).mono ?_); rintro e w12 ⟨rfl, hb12⟩; have G12 := Lib.hid (Fx.below G11.out hb12); have c12 := Blk.cell0 (Fx.b0 G12.out); have z12 := HCK.out _ (Fx.r1 G12.out); clear hb12))
            go_quiet (fail)
            go_wp2
            go_roundw
            case rel => exact ⟨k, n + s, by rw [HSK.out, HSH.out], by go_num, by rw [HP1.out], by rw [HSK.out]; exact HKM.out, by have h := HDS.out; rw [HSK.out] at h ⊢; exact h, HLEM.out, by have h := HRL.out; rw [HSK.out] at h; exact h, by have h := HNX.out; rw [HSK.out] at h ⊢; exact h, Fx.below G12.out (below_drewN (Below.refl _ _) _)⟩
            case measure => exact HQM.out
          · have HRN : Hid (t < preL l (n + 2 ^ k)) := Lib.hid (by omega)
            have HNM := Lib.hid hnm
            have HPN := Lib.hid hpn
            obtain ⟨s, hsk⟩ : ∃ s, 2 ^ k = s := ⟨_, rfl⟩
            rw [hsk] at hk1 hle hck hp1 hp2 hgo hq HKM hqm ⊢
            have HSK := Lib.hid hsk
            obtain ⟨q, hqq⟩ : ∃ q, n + s - 1 = q := ⟨_, rfl⟩
            rw [hqq] at hck
            obtain ⟨u, hu⟩ : ∃ u, t - preL l n = u := ⟨_, rfl⟩
            obtain ⟨z, hzz⟩ : ∃ z, preL l (n + s) - preL l n = z := ⟨_, rfl⟩
            rw [hzz] at hck
            rw [hu]
            have HU := Lib.hid hu
            have HCK := Lib.hid hck
            have u0 : 0 ≤ u := by omega
            have zu : ¬ z ≤ u := by omega
            have hsI : (1 : Int) ≤ (s : Int) := by omega
            have hsM : (n : Int) + (s : Int) < (m : Int) := by omega
            have hqI : (n : Int) + (s : Int) - 1 = (q : Int) := by omega
            have hqm2 : (q : Int) < (m : Int) := by omega
            have hq0 : (0 : Int) ≤ (q : Int) := by omega
            obtain ⟨sh, hsh⟩ : ∃ x : Int, ((s / 2 : Nat) : Int) = x := ⟨_, rfl⟩
            have HSH : Hid (sh = ((s / 2 : Nat) : Int)) := Lib.hid hsh.symm
            have hsh0 : 0 ≤ sh ∧ sh ≤ 1048576 := by omega
            obtain ⟨hsh1, hsh2⟩ := hsh0
            rw [hsh] at hq hqm
            have HQM := Lib.hid hqm
            have HAA := HA.out
            subst HAA
            clear hmid hcell hp0 hpl hp1 hp2 hgo hnk hk1 hd2 hKm hdv hnm hpn hnx hsk hqq hu hzz hsh hqm hck hle
            go_wp2_with (first
              | (with_reducible refine at_any ?_; refine at_dst 26 rfl ?_; refine wpList_load_fen (by kernel_rfl) (.tmp 2) rfl gB rfl 32 _ (Fx.b0 G11.out) ?_)
              | (go_at_call 64; (with_reducible refine (q11len_c _ m c _).mono ?_); rintro e w12 ⟨rfl, hb12⟩; have G12 := Lib.hid (Fx.below G11.out hb12); have c12 := Blk.cell0 (Fx.b0 G12.out); have z12 := HCK.out _ (Fx.r1 G12.out); clear hb12))
            go_roundw
            case rel => exact ⟨k, n, by rw [HSK.out, HSH.out], rfl, by rw [HU.out], by rw [HSK.out]; exact HKM.out, HD2.out, HNM.out, HPN.out, fun _ => HRN.out, G12.out⟩
            case measure => exact HQM.out
        · have HNM := Lib.hid hnm
          have HPN := Lib.hid hpn
          have HOUT : Hid (n + 2 ^ k ≤ m → t < preL l (n + 2 ^ k)) := Lib.hid (fun h => by
            have e : n + 2 ^ k = m := by omega
            rw [e, HALL.out]
            exact HTX.out)
          obtain ⟨s, hsk⟩ : ∃ s, 2 ^ k = s := ⟨_, rfl⟩
          rw [hsk] at hk1 hle hq HKM hqm ⊢
          have HSK := Lib.hid hsk
          obtain ⟨u, hu⟩ : ∃ u, t - preL l n = u := ⟨_, rfl⟩
          rw [hu]
          have HU := Lib.hid hu
          have u0 : 0 ≤ u := by omega
          have hsI : (1 : Int) ≤ (s : Int) := by omega
          have hsX : (s : Int) ≤ 2097152 := by have := HKM.out; omega
          have hsM : ¬ (n : Int) + (s : Int) < (m : Int) := by omega
          obtain ⟨sh, hsh⟩ : ∃ x : Int, ((s / 2 : Nat) : Int) = x := ⟨_, rfl⟩
          have HSH : Hid (sh = ((s / 2 : Nat) : Int)) := Lib.hid hsh.symm
          have hsh0 : 0 ≤ sh ∧ sh ≤ 1048576 := by have := HKM.out; omega
          obtain ⟨hsh1, hsh2⟩ := hsh0
          rw [hsh] at hq hqm
          have HQM := Lib.hid hqm
          clear hmid hp0 hpl hnk hk1 hd2 hKm hdv hnm hpn hnx hsk hu hsh hqm hle
          go_wp2_with (first
            | (with_reducible refine at_any ?_; refine at_dst 26 rfl ?_; refine wpList_load_fen (by kernel_rfl) (.tmp 2) rfl gB rfl 32 _ (Fx.b0 G11.out) ?_)
            | (go_at_call 64; (with_reducible refine (q11len_c _ m c _).mono ?_); rintro e w12 ⟨rfl, hb12⟩; have G12 := Lib.hid (Fx.below G11.out hb12); have c12 := Blk.cell0 (Fx.b0 G12.out); clear hb12))
          go_roundw
          case rel => exact ⟨k, n, by rw [HSK.out, HSH.out], rfl, by rw [HU.out], by rw [HSK.out]; exact HKM.out, HD2.out, HNM.out, HPN.out, HOUT.out, G12.out⟩
          case measure => exact HQM.out
  · obtain ⟨e1, e2⟩ := hno htx
    rw [e1, e2]
    have htx2 : x ≤ t := by omega
    clear hrd htot hno hm0 hz hl hm hc hcm hx e1 e2 hts hT
    go_enter Tryz.func25, Tryz.ntmps25
    go_wp2_with (first
      | (with_reducible refine at_any ?_; refine at_dst 2 rfl ?_; refine wpList_box_any rfl 32 (.tmp 0) rfl #[.slice A m c] rfl ?_; intro w1 hk1 hs1 hb1; have G1 := Lib.hid (fx_start hk1.out HR.out hb1); clear hk1 hs1 hb1)
      | (with_reducible refine at_any ?_; refine at_dst 11 rfl ?_; refine wpList_load_fen (by kernel_rfl) (.tmp 2) rfl w.heap.size rfl 32 (.slice A m c) (Fx.b0 G1.out) ?_)
      | (go_at_call 51; (with_reducible refine (HTO.out _ (HTT.out.below (Fx.e2 G1.out)) (Fx.r1 G1.out)).mono ?_); rintro e w2 ⟨rfl, hb2⟩; have G2 := Lib.hid (Fx.below G1.out hb2); clear hb2))
    go_ret2
    exact ⟨rfl, Fx.e2 G2.out⟩
end
section
open Go.ChangeShapes Go.WideShapes Go.ChangeAt Go.RowKit
def RetFenF (w : World) (ts : List Int) (er : Int) (e : Ending) (w' : World) : Prop := ∃ A c, e = .returned (.tuple #[.agg #[.slice A ts.length c], .int .i64 er]) ∧ Rd .u64 w' w'.heap.size A ts.length ts ∧ ts.length ≤ c ∧ c ≤ maxLen ∧ Below w.heap.size w w' ∧ ∀ b off, A = some ⟨b, off, none⟩ → w.heap.size ≤ b
set_option maxHeartbeats 8000000 in
theorem q11setF_c (l : List Int) (hz : ∀ z ∈ l, 0 ≤ z) (hs : sumL l < 9223372036854775808) (hl : l.length ≤ 1048576) (A : Option Addr) (n c : Nat) (hn : l.length = n) (hc : n ≤ c) (hcm : c ≤ maxLen) (i v : Int) (i0 : -9223372036854775808 ≤ i) (i1 : i < 9223372036854775808) (v0 : 0 ≤ v) (v1 : v < 18446744073709551616) (w : World) (hT : TzT w) (hrd : Rd .u64 w w.heap.size A n (treeL l)) : Calls Tryz.prog 71 #[.agg #[.slice A n c], .int .i64 i, .int .u64 v] w (RetFenF w (treeL (setL l i v)) (setE l i v)) := by
  have HTT := Lib.hid hT
  have hat := fun W hW h => q11at_c l hz hs hl A n c hn hc hcm i i0 i1 W hW h
  have htot := fun W hW h => q11total_c l hz hs hl A n c hn hc hcm W hW h
  have hm2 : (n : Int) ≤ 1048576 := by omega
  have HN8 : Hid (n ≤ 100000000) := Lib.hid (by omega)
  have HEMP : Hid (∀ er w', setE l i v = er ∧ setL l i v = [] → Below w.heap.size w w' → RetFenF w (treeL (setL l i v)) (setE l i v) (.returned (.tuple #[.agg #[.slice none 0 0], .int .i64 er])) w') := Lib.hid (fun er w' h hb => by rw [h.1, h.2]; exact ⟨none, 0, rfl, rd_nil _ _ _ _, Nat.le_refl _, by simp [maxLen], hb, fun b off h => by cases h⟩)
  by_cases hin : 0 ≤ i ∧ i < (l.length : Int)
  · obtain ⟨a1, a2⟩ := at_ok hin
    rw [a1, a2] at hat
    obtain ⟨k, rfl⟩ := Int.eq_ofNat_of_zero_le hin.1
    rw [Int.toNat_natCast] at hat
    have hk : k < l.length := by omega
    have hss : sumL (l.set k v) = sumL l + (v - l.getD k 0) := by
      have a1 := preL_set (l := l) (i := k) v hk n
      have a2 : preL (l.set k v) n = sumL (l.set k v) := by
        have := preL_all (l.set k v)
        rw [List.length_set, hn] at this
        exact this
      have a3 : preL l n = sumL l := by rw [← hn, preL_all]
      rw [if_pos (by omega)] at a1
      omega
    have hok := hz _ (getD_in hk)
    have hol : l.getD k 0 ≤ sumL l := by
      have a1 := preL_next hk
      have a2 := preL_nn hz k
      have a3 := preL_le hz (k + 1)
      omega
    have hset := fun p h1 h2 => setF_bd hz v0 hk (p := p) h1 h2
    have hdone := fun p (h : l.length < p) => setF_done (l := l) (i := k) v hk h
    obtain ⟨x, hx⟩ : ∃ x, sumL l = x := ⟨_, rfl⟩
    rw [hx] at htot hss hol hset
    have hs' : x < 9223372036854775808 := by omega
    obtain ⟨o, ho⟩ : ∃ x, l.getD k 0 = x := ⟨_, rfl⟩
    rw [ho] at hat hss hok hol hset hdone
    have HAT := Lib.hid hat
    have HTO := Lib.hid htot
    have hx0 : x - o < 18446744073709551616 := by omega
    have hx1 : 0 ≤ x - o := by omega
    have hwr : IntKind.u64.wrap (x - o) = x - o := by rw [IntKind.wrap_u64]; omega
    have hadd := fun W => q9add_c (x - o) v hx1 hx0 v0 v1 W
    by_cases hs2 : sumL (l.set k v) < 9223372036854775808
    · obtain ⟨b1, b2⟩ := addV_ok (a := x - o) (b := v) (by omega)
      rw [b2] at hadd
      obtain ⟨av, hav⟩ : ∃ z9 : Int, addV (x - o) v = z9 := ⟨_, rfl⟩
      rw [hav] at hadd
      have HAD := Lib.hid hadd
      have HE := Lib.hid (setE_ok (l := l) (i := k) (v := v) hin (by rw [Int.toNat_natCast]; exact hs2))
      have HEND : Hid (∀ A' c' w', Rd .u64 w' w'.heap.size A' n (treeL (l.set k v)) → n ≤ c' → c' ≤ maxLen → Below w.heap.size w w' → (∀ b off, A' = some ⟨b, off, none⟩ → w.heap.size ≤ b) → RetFenF w (treeL (setL l k v)) (setE l k v) (.returned (.tuple #[.agg #[.slice A' n c'], .int .i64 0])) w') := Lib.hid (fun A' c' w' h1 h2 h3 h4 h5 => by rw [HE.out.1, HE.out.2, Int.toNat_natCast]; refine ⟨A', c', by rw [treeL_len, List.length_set, hn], ?_⟩; rw [treeL_len, List.length_set, hn]; exact ⟨h1, h2, h3, h4, h5⟩)
      have HPOS : Hid (0 < n) := Lib.hid (by omega)
      have HKN : Hid (k + 1 ≤ n) := Lib.hid (by omega)
      have HLN : Hid ((treeL l).length = n) := Lib.hid ((treeL_len l).trans hn)
      have HZERO := Lib.hid (setF_zero l k (v - o))
      have HHERE := Lib.hid (fun p (h : chainP k p) (hp : p ≤ n) => setF_here (l := l) (v - o) h (by omega))
      have HNEXT := Lib.hid (fun p (h : chainP k p) (hp : p ≤ n) => setF_next (l := l) (v - o) h (by omega))
      have HSET := Lib.hid (fun p (h : chainP k p) (hp : p ≤ n) => hset p h (by omega))
      have HDONE := Lib.hid (fun p (h : n < p) => hdone p (by omega))
      have HLOW := Lib.hid (fun M (h1 : M ≠ 0) (h2 : M ≤ n) W hW => q11low_c M h1 (by omega) W hW)
      have HS2 := Lib.hid hs2
      have HXB := Lib.hid hs'
      have hkI : (k : Int) < (n : Int) := by omega
      have ok0 : 0 ≤ o := hok
      have oxx : o ≤ x := hol
      have HR := Lib.hid hrd
      clear hrd hz hs hl hn hc hcm hT hat htot hadd hav b1 b2 hset hdone hss hok hol hx ho hk hin HE i0 i1 hs2 a1 a2 HEMP
      go_enter Tryz.func71, Tryz.ntmps71
      go_wp2_with (first
        | (with_reducible refine at_any ?_; refine at_dst 3 rfl ?_; refine wpList_box_any rfl 32 (.tmp 0) rfl #[.slice A n c] rfl ?_; intro w1 hk1 hs1 hb1; have G1 := Lib.hid (fx_start hk1.out HR.out hb1); have HGR := Lib.hid (Below.size hb1); clear hk1 hs1 hb1)
        | (with_reducible refine at_any ?_; refine at_dst 6 rfl ?_; refine wpList_alloc_any rfl 32 rfl #[.slice none 0 0] zero_fen ?_; intro w2 hk2 hs2 hb2; have G2 := Lib.hid (Fx.newB G1.out hk2.out hb2); clear hk2 hs2 hb2)
        | (with_reducible refine at_any ?_; refine at_dst 15 rfl ?_; refine wpList_load_fen (by kernel_rfl) (.tmp 3) rfl w.heap.size rfl 32 (.slice A n c) (Fx.b1 G2.out) ?_)
        | (go_at_call 97; (with_reducible refine (HAT.out _ (HTT.out.below (Fx.e3 G2.out)) (Fx.r2 G2.out)).mono ?_); rintro e w3 ⟨rfl, hb3⟩; have G3 := Lib.hid (Fx.below G2.out hb3); clear hb3)
        | (with_reducible refine at_any ?_; refine at_dst 25 rfl ?_; refine wpList_load_fen (by kernel_rfl) (.tmp 3) rfl w.heap.size rfl 32 (.slice A n c) (Fx.b1 G3.out) ?_)
        | (go_at_call 51; (with_reducible refine (HTO.out _ (HTT.out.below (Fx.e3 G3.out)) (Fx.r2 G3.out)).mono ?_); rintro e w4 ⟨rfl, hb4⟩; have G4 := Lib.hid (Fx.below G3.out hb4); have cz := Blk.cell0 (Fx.b1 G4.out); clear hb4)
        | (go_at_call 79; (with_reducible refine (HAD.out _).mono ?_); rintro e _ ⟨rfl, rfl⟩)
        | (go_at_call 49; (with_reducible refine (clone64_c (treeL l) A n c HN8.out _ (Fx.r2 G4.out)).mono ?_); rintro e w5 ⟨v6, rfl, ho2, hb2⟩; obtain ⟨g7, c7, rfl, HS2', HC7, HM7⟩ := bld_start (Fx.b0 G4.out) (Fx.e3 G4.out) ho2 hb2 HLN.out HPOS.out; clear ho2 hb2))
      obtain ⟨g2, hg2⟩ : ∃ g, w1.heap.size = g := ⟨_, rfl⟩
      have HS3 : Hid (BldS w g2 (.slice none 0 0) g7 c7 n (treeL l) w5) := Lib.hid (by rw [← hg2]; exact HS2'.out)
      have HG2 : Hid (w.heap.size ≤ g2) := Lib.hid (by rw [← hg2]; exact HGR.out)
      rw [hg2]
      clear HS2' hg2 HGR G4 HAT HTO HAD cz
      go_loopw [13] (fun pp wr => ∃ p : Nat, chainP k p ∧ p ≤ 2097152 ∧ pp = .int .i64 (p : Int) ∧ BldS w g2 (.slice none 0 0) g7 c7 n (setF l k (v - o) p) wr) (fun pp _ => 2097153 - (intOf pp).toNat)
      case atStart => exact ⟨k + 1, chain_zero k, by have := HKN.out; omega, by go_num, by rw [HZERO.out]; exact HS3.out⟩
      case round =>
        clear HS3
        obtain ⟨p, hch, hpb, rfl, hS⟩ := hrel
        have HS := Lib.hid hS
        have HCH := Lib.hid hch
        clear hS
        by_cases hp : p ≤ n
        · have hlow := fun W hW => HLOW.out p hch.1 hp W hW
          have hlp := lowN_pos hch.1
          have hll := lowN_le p
          have hhe := HHERE.out p hch hp
          have hnx := HNEXT.out p hch hp
          obtain ⟨s1, s2, s3, s4⟩ := HSET.out p hch hp
          have hsb := HS2.out
          have hxb := HXB.out
          obtain ⟨q, hq⟩ : ∃ q, p - 1 = q := ⟨_, rfl⟩
          have hp0 := hch.1
          rw [hq] at hhe hnx s1 s2 s4
          obtain ⟨y, hy⟩ : ∃ z, (treeL l).getD q 0 = z := ⟨_, rfl⟩
          rw [hy] at hhe hnx s1 s2 s4
          obtain ⟨lo, hlo⟩ : ∃ x, lowN p = x := ⟨_, rfl⟩
          rw [hlo] at hnx hlp hll hlow
          have HCN : Hid (chainP k (p + lo)) := Lib.hid (by rw [← hlo]; exact chain_next hch)
          have HLOWW := Lib.hid hlow
          obtain ⟨B, hB⟩ : ∃ B, setF l k (v - o) p = B := ⟨_, rfl⟩
          rw [hB] at HS hhe hnx
          have hyv : y + (v - o) = y - o + v := by omega
          rw [hyv] at hnx
          have HNX := Lib.hid hnx
          have y0 : o ≤ y := s1
          have y1 : y < 9223372036854775808 := by omega
          have hz1 : y - o + v < 9223372036854775808 := by omega
          have hz2 : 0 ≤ y - o := by omega
          have hW1 : IntKind.u64.wrap (y - o) = y - o := by rw [IntKind.wrap_u64]; omega
          have hW2 : IntKind.u64.wrap (y - o + v) = y - o + v := by rw [IntKind.wrap_u64]; omega
          have hqI : (p : Int) - 1 = (q : Int) := by omega
          have hq0 : (0 : Int) ≤ (q : Int) := by omega
          have hqn : (q : Int) < (n : Int) := by omega
          have hpn : (p : Int) ≤ (n : Int) := by omega
          have hp1 : (1 : Int) ≤ (p : Int) := by omega
          have hpl : (lo : Int) ≤ (p : Int) := by omega
          have hlo1 : (1 : Int) ≤ (lo : Int) := by omega
          have HPL : Hid (p + lo ≤ 2097152 ∧ 1 ≤ lo) := Lib.hid ⟨by omega, by omega⟩
          have HQL : Hid (q < n) := Lib.hid (by omega)
          obtain ⟨cur, HKC, HSC⟩ := HS.out.blk HPOS.out
          have hyc := HS.out.cell HQL.out hhe
          have hfz := HS.out.frz (j := q) HPOS.out
          have HPB := Lib.hid hpb
          clear hlow hlp hll hhe hnx s1 s2 s3 s4 hsb hxb hq hy hlo hB hyv hp hpb hch hp0 hz1
          go_wp2_with (first
            | (with_reducible refine at_any ?_; refine at_store 61 rfl ?_; refine wpList_store_cell rfl 24 (.tmp 61) (.tmp 60) rfl g7 q rfl 24 cur HKC.out (.int .u64 (y - o + v)) rfl (HSC.out _ HQL.out) size_u64f rfl rfl ?_; intro w9 hk9 ho9; have HNEW := Lib.hid (BldS.put HS.out HKC.out HQL.out hk9.out ho9); clear hk9 ho9)
            | (go_at_call 50; (with_reducible refine (HLOWW.out _ (HTT.out.below HNEW.out.bel)).mono ?_); rintro e _ ⟨rfl, rfl⟩))
          go_roundw
          case rel => exact ⟨p + lo, HCN.out, HPL.out.1, by go_num, by rw [← HNX.out]; exact HNEW.out⟩
          case measure => have := HPL.out; have := HPB.out; simp [intOf]; omega
        · have hdn := HDONE.out p (by omega)
          rw [hdn] at HS
          have hgt : ¬ (p : Int) ≤ (n : Int) := by omega
          have HK2 := Lib.hid HS.out.b2
          have HB2 := Lib.hid HS.out.bel
          have HRX := Lib.hid HS.out.rd
          have HL7 := Lib.hid HS.out.le7
          clear hdn hp hpb hch
          go_wp2_with (first
            | (with_reducible refine at_any ?_; refine at_store 6 rfl ?_; refine wpList_store_any rfl 32 (.tmp 6) (.tmp 63) rfl g2 rfl 32 #[.slice none 0 0] #[.slice (some ⟨g7, 0, none⟩) n c7] HK2.out rfl (size1 _ _) (sizedF _) (fen_ones _ _ _) ?_; intro w9 hk9 hs9 hb9 ho9; have HB9 := Lib.hid (HB2.out.trans (hb9 _ (HG2.out))); have HK9 := Lib.hid hk9.out; have HR9 := Lib.hid (rd_past HRX.out HK2.out hs9.out ho9); clear hb9)
            | (refine bodyPost_any2 6 7 32 rfl g2 rfl (.int .i64 0) rfl 32 #[.slice (some ⟨g7, 0, none⟩) n c7] HK9.out _ Tryz.underlying32 rfl (sizedF _) rfl ?_))
          exact HEND.out _ _ _ HR9.out HC7.out HM7.out HB9.out (fun b off h => by injection h with h; injection h with h; subst h; exact HL7.out)
    · obtain ⟨b1, b2⟩ := addV_no (a := x - o) (b := v) (by omega)
      rw [b1, b2] at hadd
      have HAD := Lib.hid hadd
      have HE := Lib.hid (setE_big (l := l) (i := k) (v := v) hin (by rw [Int.toNat_natCast]; exact hs2))
      have ok0 : 0 ≤ o := hok
      have oxx : o ≤ x := hol
      have HR := Lib.hid hrd
      clear hrd hz hs hl hn hc hcm hT hat htot hadd b1 b2 hset hdone hss hok hol hx ho hk hin i0 i1 hs2 a1 a2
      go_enter Tryz.func71, Tryz.ntmps71
      go_wp2_with (first
        | (with_reducible refine at_any ?_; refine at_dst 3 rfl ?_; refine wpList_box_any rfl 32 (.tmp 0) rfl #[.slice A n c] rfl ?_; intro w1 hk1 hs1 hb1; have G1 := Lib.hid (fx_start hk1.out HR.out hb1); have HGR := Lib.hid (Below.size hb1); clear hk1 hs1 hb1)
        | (with_reducible refine at_any ?_; refine at_dst 6 rfl ?_; refine wpList_alloc_any rfl 32 rfl #[.slice none 0 0] zero_fen ?_; intro w2 hk2 hs2 hb2; have G2 := Lib.hid (Fx.newB G1.out hk2.out hb2); clear hk2 hs2 hb2)
        | (with_reducible refine at_any ?_; refine at_dst 15 rfl ?_; refine wpList_load_fen (by kernel_rfl) (.tmp 3) rfl w.heap.size rfl 32 (.slice A n c) (Fx.b1 G2.out) ?_)
        | (go_at_call 97; (with_reducible refine (HAT.out _ (HTT.out.below (Fx.e3 G2.out)) (Fx.r2 G2.out)).mono ?_); rintro e w3 ⟨rfl, hb3⟩; have G3 := Lib.hid (Fx.below G2.out hb3); clear hb3)
        | (with_reducible refine at_any ?_; refine at_dst 25 rfl ?_; refine wpList_load_fen (by kernel_rfl) (.tmp 3) rfl w.heap.size rfl 32 (.slice A n c) (Fx.b1 G3.out) ?_)
        | (go_at_call 51; (with_reducible refine (HTO.out _ (HTT.out.below (Fx.e3 G3.out)) (Fx.r2 G3.out)).mono ?_); rintro e w4 ⟨rfl, hb4⟩; have G4 := Lib.hid (Fx.below G3.out hb4); have cz := Blk.cell0 (Fx.b1 G4.out); clear hb4)
        | (go_at_call 79; (with_reducible refine (HAD.out _).mono ?_); rintro e _ ⟨rfl, rfl⟩)
        | (with_reducible refine at_any ?_; refine at_dst 35 rfl ?_; refine wpList_val rfl (.agg #[.slice none 0 0]) (build_fen0 _ rfl) ?_)
        | (with_reducible refine at_any ?_; refine at_store 6 rfl ?_; refine wpList_store_any rfl 32 (.tmp 6) (.tmp 35) rfl w1.heap.size rfl 32 #[.slice none 0 0] #[.slice none 0 0] (Fx.b0 G4.out) rfl (size1 _ _) (sizedF _) (fen_ones _ _ _) ?_; intro w9 hk9 hs9 hb9 ho9; have HB9 := Lib.hid ((Fx.e3 G4.out).trans (hb9 _ HGR.out)); have HK9 := Lib.hid hk9.out; clear hb9)
        | (refine bodyPost_any2 6 7 32 rfl w1.heap.size rfl (.int .i64 11) rfl 32 #[.slice none 0 0] HK9.out _ Tryz.underlying32 rfl (sizedF _) rfl ?_))
      exact HEMP.out _ _ HE.out HB9.out
  · obtain ⟨a1, a2⟩ := at_no hin
    rw [a1, a2] at hat
    have HAT := Lib.hid hat
    have HE := Lib.hid (setE_no (l := l) (i := i) v hin)
    have HR := Lib.hid hrd
    clear hrd hz hs hl hn hc hcm hT hat htot hin a1 a2
    go_enter Tryz.func71, Tryz.ntmps71
    go_wp2_with (first
      | (with_reducible refine at_any ?_; refine at_dst 3 rfl ?_; refine wpList_box_any rfl 32 (.tmp 0) rfl #[.slice A n c] rfl ?_; intro w1 hk1 hs1 hb1; have G1 := Lib.hid (fx_start hk1.out HR.out hb1); have HGR := Lib.hid (Below.size hb1); clear hk1 hs1 hb1)
      | (with_reducible refine at_any ?_; refine at_dst 6 rfl ?_; refine wpList_alloc_any rfl 32 rfl #[.slice none 0 0] zero_fen ?_; intro w2 hk2 hs2 hb2; have G2 := Lib.hid (Fx.newB G1.out hk2.out hb2); clear hk2 hs2 hb2)
      | (with_reducible refine at_any ?_; refine at_dst 15 rfl ?_; refine wpList_load_fen (by kernel_rfl) (.tmp 3) rfl w.heap.size rfl 32 (.slice A n c) (Fx.b1 G2.out) ?_)
      | (go_at_call 97; (with_reducible refine (HAT.out _ (HTT.out.below (Fx.e3 G2.out)) (Fx.r2 G2.out)).mono ?_); rintro e w3 ⟨rfl, hb3⟩; have G3 := Lib.hid (Fx.below G2.out hb3); clear hb3)
      | (with_reducible refine at_any ?_; refine at_dst 22 rfl ?_; refine wpList_val rfl (.agg #[.slice none 0 0]) (build_fen0 _ rfl) ?_)
      | (with_reducible refine at_any ?_; refine at_store 6 rfl ?_; refine wpList_store_any rfl 32 (.tmp 6) (.tmp 22) rfl w1.heap.size rfl 32 #[.slice none 0 0] #[.slice none 0 0] (Fx.b0 G3.out) rfl (size1 _ _) (sizedF _) (fen_ones _ _ _) ?_; intro w9 hk9 hs9 hb9 ho9; have HB9 := Lib.hid ((Fx.e3 G3.out).trans (hb9 _ HGR.out)); have HK9 := Lib.hid hk9.out; clear hb9)
      | (refine bodyPost_any2 6 7 32 rfl w1.heap.size rfl (.int .i64 3) rfl 32 #[.slice none 0 0] HK9.out _ Tryz.underlying32 rfl (sizedF _) rfl ?_))
    exact HEMP.out _ _ HE.out HB9.out
end
section
open Go.ChangeShapes Go.WideShapes Go.ChangeAt Go.RowKit

end
section
open Go.ChangeShapes Go.WideShapes Go.ChangeAt Go.RowKit
theorem fx_led {w w6 w7 : World} {AF : Option Addr} {m c : Nat} {ts : List Int} {Z : Array Value} {w5 : World} (h : Fx [.blk w.heap.size 32 #[.slice AF m c], .rdb .u64 w.heap.size AF m ts, .bel w] w6) (hk : Blk w6 w5.heap.size 40 Z) (hb0 : Blk w5 w.heap.size 32 #[.slice AF m c]) (hbw : Below w.heap.size w w5) (hs : w7.heap.size = w6.heap.size) (hb : ∀ B, B ≤ w5.heap.size → Below B w6 w7) (ho : ∀ j, j ≠ w5.heap.size → w7.heap[j]? = w6.heap[j]?) : Fx [.blk w.heap.size 32 #[.slice AF m c], .rdb .u64 w.heap.size AF m ts, .bel w] w7 :=
  Fx.store h hk ⟨Nat.ne_of_lt hb0.lt, hbw.size, hbw.size, trivial⟩ hs hb ho
theorem draw_owns {l : List Int} (hz : ∀ z ∈ l, 0 ≤ z) (s : Src) (a : Int) (h : (drawR s (sumL l) a).2.2 = 0) : ownE l (drawR s (sumL l) a).1 = 0 := by
  have h0 := (draw_in s (sumL l) a).1
  have h1 : (drawR s (sumL l) a).1 < sumL l := by
    unfold drawR at h ⊢
    split
    next hb => rw [if_pos hb] at h; exact (drawGo_first _ _ _ _ h).1
    next hb => rw [if_neg hb] at h; exact absurd h (by show ¬ (1 : Int) = 0; omega)
  obtain ⟨_, _, _, e, _⟩ := own_at hz h0 h1
  exact e
set_option maxHeartbeats 8000000 in
theorem q13draw_c (l : List Int) (hz : ∀ z ∈ l, 0 ≤ z) (hs : sumL l < 9223372036854775808) (hl : l.length ≤ 1048576) (AF : Option Addr) (m c : Nat) (hm : l.length = m) (hc : m ≤ c) (hcm : c ≤ maxLen) (s : Src) (ok : s.Ok) (a : Int) (a0 : -9223372036854775808 ≤ a) (a1 : a < 9223372036854775808) (A0 : Option Addr) (c0 : Nat) (hc0 : s.tape.length ≤ c0) (hcm0 : c0 ≤ maxLen) (w : World) (hrf : Rd .u64 w w.heap.size AF m (treeL l)) (hrd : Rd .u8 w w.heap.size A0 s.tape.length s.tape) (hkst : Kst w) :
    Calls Tryz.prog 15 #[.agg #[.slice AF m c], .agg (srcV s A0 c0), .int .i64 a] w (RetLead w s A0 (ledT l s a)) := by
  have HKS := Lib.hid hkst
  have HZ0 := Lib.hid zero_src
  have hRd := Lib.hid hrd
  have HZSS := Lib.hid (fun (t : Src) (h : t.seed.length = 32) A c => srcV_same Src.zero t rfl h none A 0 c)
  have hto := fun W hW h => q11total_c l hz hs hl AF m c hm hc hcm W hW h
  have hs0 := sumL_nn hz
  obtain ⟨ts, hts⟩ : ∃ x, treeL l = x := ⟨_, rfl⟩
  rw [hts] at hrf hto
  have HRF := Lib.hid hrf
  obtain ⟨Z, hZ⟩ : ∃ Z, srcV Src.zero none 0 = Z := ⟨_, rfl⟩
  rw [hZ] at HZ0 HZSS
  have SV := Lib.hid (sizedS s ok.sl A0 c0)
  have OV := Lib.hid (srcV_ones s A0 c0)
  have ZV := Lib.hid (HZSS.out s ok.sl A0 c0)
  by_cases hnz : sumL l = 0
  · rw [ledT_zero s a hnz]
    rw [hnz] at hto
    have HTO := Lib.hid hto
    have HEND0 : Hid (∀ wF, Below w.heap.size w wF → ∀ w', RdP A0 s.tape.length s.tape w' → Below wF.heap.size wF w' → RetLead w s A0 (0, s, 10) (.returned (.tuple #[.int .i64 0, .agg (srcV s A0 c0), .int .i64 10])) w') := Lib.hid (fun wF h0 w' hr hb => ⟨A0, c0, rfl, hr, hc0, hcm0, .inl rfl, h0.trans (hb.mono h0.size)⟩)
    obtain ⟨rr, hrr⟩ : ∃ r : Int × Src × Int, (0, s, 10) = r := ⟨_, rfl⟩
    rw [hrr] at HEND0 ⊢
    obtain ⟨V, hV⟩ : ∃ V, srcV s A0 c0 = V := ⟨_, rfl⟩
    rw [hV] at SV OV ZV HEND0 ⊢
    obtain ⟨zs, hzs⟩ : ∃ zs, s.tape = zs := ⟨_, rfl⟩
    obtain ⟨L, hL⟩ : ∃ L, zs.length = L := ⟨_, rfl⟩
    rw [hzs, hL] at HEND0
    rw [hzs, hL] at hRd
    have HEND := HEND0
    clear HEND0 hrr hV hzs hL hto hz hs0 hrd hrf hc hcm hc0 hcm0 hZ a0 a1 hs hl hm HZSS hts hkst
    go_enter Tryz.func15, Tryz.ntmps15
    go_wp2_with (first
      | (with_reducible refine at_any ?_; refine at_dst 3 rfl ?_; refine wpList_box_any rfl 32 (.tmp 0) rfl #[.slice AF m c] rfl ?_; intro wF hkF hsF hbF; have G0 := Lib.hid (fx_start hkF.out HRF.out hbF); have HBF := Lib.hid hbF; have HRdF := Lib.hid ((hRd.out.below hbF).mono (Below.size hbF)); clear hkF hsF hbF)
      | (with_reducible refine at_any ?_; refine at_dst 4 rfl ?_; refine wpList_box_any rfl 40 (.tmp 1) rfl V rfl ?_; intro w1 hk1 hs1 hb1)
      | (with_reducible refine at_any ?_; refine at_dst 7 rfl ?_; refine wpList_alloc_any rfl 40 rfl Z HZ0.out ?_; intro w2 hk2 hs2 hb2; have HS2 := Lib.hid (DrS.mk2 HRdF.out hk1.out hb1 hk2.out hb2 (Below.refl _ _)); have HZ2 := Lib.hid (fx1 hk2.out); have G2 := Lib.hid (Fx.below (Fx.below G0.out hb1) hb2); clear G0 hs1 hb1 hs2 hb2)
      | (with_reducible refine at_any ?_; refine at_dst 14 rfl ?_; refine wpList_load_fen (by kernel_rfl) (.tmp 3) rfl w.heap.size rfl 32 (.slice AF m c) (Fx.b0 G2.out) ?_)
      | (go_at_call 51; (with_reducible refine (HTO.out _ (Kst.tz (HKS.out.below (Fx.e2 G2.out))) (Fx.r1 G2.out)).mono ?_); rintro e w3 ⟨rfl, hb3⟩; have HS := Lib.hid (DrS.below HS2.out hb3); have HZ := Lib.hid (Fx.below HZ2.out hb3); have G3 := Lib.hid (Fx.below G2.out hb3); clear G2 HS2 HZ2 hb3))
    obtain ⟨g3, hg3⟩ : ∃ g, wF.heap.size = g := ⟨_, rfl⟩
    obtain ⟨g7, hg7⟩ : ∃ g, w1.heap.size = g := ⟨_, rfl⟩
    have HS9 := HS.out
    have HZ9 := HZ.out
    rw [hg3, hg7] at HS9
    rw [hg7] at HZ9
    rw [hg3, hg7]
    clear hg3 hg7 hk1 hk2 HS HZ
    have HZ7 := HZ9.drew
    refine wp_region_held_drew (S := (DrS wF g3 g7 V A0 L zs)) (by kernel_rfl) HS9.drew (fun hH => ?_)
    refine wpAnyH_letter #[false, false, false, false] (by kernel_rfl) (fun _ _ d _ _ h => by cases d <;> exact h) (fun QL HQ1 HQ2 => ?_)
    refine held_row 0 (some 18) rfl (by kernel_rfl) (by kernel_rfl) (by kernel_rfl) (by kernel_rfl) (fun c a v w h => HQ2.out c a _ v w h) (by kernel_rfl) 40 (.tmp 4) rfl g3 (by kernel_rfl) 40 V (fun _ h => h.blk) _ Tryz.underlying40 rfl SV.out hH ?_
    try simp only [Act.put, List.setIfInBounds_toArray, List.set_cons_zero, List.set_cons_succ]
    refine held_v 1 (some 6) rfl (by kernel_rfl) (by kernel_rfl) (by kernel_rfl) (by kernel_rfl) (fun c a v w h => HQ2.out c a _ v w h) (by kernel_rfl) (.int .i64 0) (fun W h => by kernel_rfl) hH ?_
    try simp only [Act.put, List.setIfInBounds_toArray, List.set_cons_zero, List.set_cons_succ]
    refine wpAnyH_ready (rs := [2]) (by kernel_rfl) (by decide) ?_
    refine AllReadyH.cons rfl (fun K hK => ?_) AllReadyH.nil
    refine step_store none (by kernel_rfl) (by kernel_rfl) 40 (.tmp 7) (.tmp 18) rfl g7 (by kernel_rfl) 40 Z V HZ7.1 (by kernel_rfl) ZV.out SV.out OV.out ?_
    intro w41 hkw41 hsw41 hbw41 how41
    have ex42 : Fx [.blk g7 40 V] w41 := ⟨hkw41.out, trivial⟩
    refine hK.out _ _ (hH.store HZ7.1 hH.store7 hsw41.out hbw41 how41) (fun hw41 => ?_)
    clear hK K
    try simp only [Act.put, List.setIfInBounds_toArray, List.set_cons_zero, List.set_cons_succ]
    refine held_v 3 (some 8) rfl (by kernel_rfl) (by kernel_rfl) (by kernel_rfl) (by kernel_rfl) (fun c a v w h => HQ2.out c a _ v w h) (by kernel_rfl) (.int .i64 10) (fun W h => by kernel_rfl) hw41 ?_
    try simp only [Act.put, List.setIfInBounds_toArray, List.set_cons_zero, List.set_cons_succ]
    refine wpAnyH_done (by kernel_rfl) ?_ _
    refine HQ1.out _ _ ?_
    clear HQ1 HQ2
    go_wp2_with (refine bodyPost_mid 6 7 8 40 rfl g7 rfl (.int .i64 0) (.int .i64 10) rfl rfl 40 V ex42.1 _ Tryz.underlying40 rfl SV.out rfl ?_)
    exact HEND.out wF HBF.out _ hw41.rd hw41.bel
  · rw [ledT_go s a hnz]
    have hdr := fun W h hk => q8draw_c s ok (sumL l) (by omega) (by omega) a a0 a1 A0 c0 hc0 hcm0 W h hk
    have okt : (drawT s (sumL l) a).Ok := drawT_ok s (sumL l) a ok
    have HEND0 : Hid (∀ wF, Below w.heap.size w wF → ∀ A2 c2 w', Sep wF A0 A2 → s.tape.length ≤ c2 → c2 ≤ maxLen → RdP A2 s.tape.length s.tape w' → Below wF.heap.size wF w' → RetLead w s A0 (ledGo l (drawR s (sumL l) a)) (.returned (.tuple #[.int .i64 (ledGo l (drawR s (sumL l) a)).1, .agg (srcV (ledGo l (drawR s (sumL l) a)).2.1 A2 c2), .int .i64 (ledGo l (drawR s (sumL l) a)).2.2])) w') := Lib.hid (fun wF h0 A2 c2 w' h1 h2 h3 h4 h5 => ⟨A2, c2, rfl, h4, h2, h3, sep_from h1 h0.size, h0.trans (h5.mono h0.size)⟩)
    have how := fun W hW h => q11owner_c l hz hs hl AF m c hm hc hcm (drawR s (sumL l) a).1 (draw_in s (sumL l) a).1 (draw_in s (sumL l) a).2 W hW h
    have hgo : (drawR s (sumL l) a).2.2 = 0 → ledGo l (drawR s (sumL l) a) = (ownV l (drawR s (sumL l) a).1, (drawR s (sumL l) a).2.1, 0) := fun h => if_pos h
    have hgn : (drawR s (sumL l) a).2.2 ≠ 0 → ledGo l (drawR s (sumL l) a) = (0, (drawR s (sumL l) a).2.1, (drawR s (sumL l) a).2.2) := fun h => if_neg h
    rw [hts] at how
    have hoz := draw_owns hz s a
    obtain ⟨S, hS⟩ : ∃ x, sumL l = x := ⟨_, rfl⟩
    rw [hS] at hto hnz hdr okt HEND0 how hgo hgn hoz ⊢
    obtain ⟨t, ht⟩ : ∃ x, drawT s S a = x := ⟨_, rfl⟩
    have ht2 : (drawR s S a).2.1 = t := ht
    obtain ⟨x, hx⟩ : ∃ x, (drawR s S a).1 = x := ⟨_, rfl⟩
    obtain ⟨E, hE⟩ : ∃ x, (drawR s S a).2.2 = x := ⟨_, rfl⟩
    rw [ht] at okt
    unfold RetDraw at hdr
    rw [ht2, hx, hE] at hdr hgo
    rw [hx, hE] at hoz
    rw [ht2, hE] at hgn
    rw [hx] at how
    have t1 : (S == 0) = false := by rw [beq_eq_false_iff_ne]; exact hnz
    have HTO := Lib.hid hto
    have HDR0 := Lib.hid hdr
    have ST := Lib.hid (fun A c => sizedS t okt.sl A c)
    have OT := Lib.hid (fun A c => srcV_ones t A c)
    have ZT := Lib.hid (fun A c => HZSS.out t okt.sl A c)
    obtain ⟨ov, hov⟩ : ∃ y, ownV l x = y := ⟨_, rfl⟩
    obtain ⟨oe, hoe⟩ : ∃ y, ownE l x = y := ⟨_, rfl⟩
    rw [hov, hoe] at how
    rw [hoe] at hoz
    rw [hov] at hgo
    have HOW := Lib.hid how
    by_cases hE0 : E = 0
    · have e1 := hgo hE0
      rw [hoz hE0] at HOW
      rw [e1] at HEND0 ⊢
      have t2 : (E == 0) = true := by rw [beq_iff_eq]; exact hE0
      have t3 : (E != 0) = false := by rw [bne, t2]; rfl
      obtain ⟨rr, hrr⟩ : ∃ r : Int × Src × Int, (ov, t, 0) = r := ⟨_, rfl⟩
      have HEND1 : Hid (∀ wF, Below w.heap.size w wF → ∀ A2 c2 w', Sep wF A0 A2 → s.tape.length ≤ c2 → c2 ≤ maxLen → RdP A2 s.tape.length s.tape w' → Below wF.heap.size wF w' → RetLead w s A0 rr (.returned (.tuple #[.int .i64 ov, .agg (srcV t A2 c2), .int .i64 0])) w') := by rw [← hrr]; exact HEND0
      rw [hrr]
      obtain ⟨V, hV⟩ : ∃ V, srcV s A0 c0 = V := ⟨_, rfl⟩
      have HDR := HDR0
      rw [hV] at SV OV ZV HDR ⊢
      obtain ⟨zs, hzs⟩ : ∃ zs, s.tape = zs := ⟨_, rfl⟩
      obtain ⟨L, hL⟩ : ∃ L, zs.length = L := ⟨_, rfl⟩
      rw [hzs, hL] at HEND1 hRd HDR
      have HEND := HEND1
      clear HEND1 HEND0 HDR0 hrr hV hzs hL hto hdr how hgo hgn e1 hoz hov hoe hx hE ht ht2 hS okt hz hs0 hrd hrf hc hcm hc0 hcm0 hZ a0 a1 hs hl hm HZSS hnz hE0 hts hkst
      go_enter Tryz.func15, Tryz.ntmps15
      go_wp2_with (first
        | (with_reducible refine at_any ?_; refine at_dst 3 rfl ?_; refine wpList_box_any rfl 32 (.tmp 0) rfl #[.slice AF m c] rfl ?_; intro wF hkF hsF hbF; have G0 := Lib.hid (fx_start hkF.out HRF.out hbF); have HBF := Lib.hid hbF; have HRdF := Lib.hid ((hRd.out.below hbF).mono (Below.size hbF)); clear hkF hsF hbF)
        | (with_reducible refine at_any ?_; refine at_dst 4 rfl ?_; refine wpList_box_any rfl 40 (.tmp 1) rfl V rfl ?_; intro w1 hk1 hs1 hb1)
        | (with_reducible refine at_any ?_; refine at_dst 7 rfl ?_; refine wpList_alloc_any rfl 40 rfl Z HZ0.out ?_; intro w2 hk2 hs2 hb2; have HS2 := Lib.hid (DrS.mk2 HRdF.out hk1.out hb1 hk2.out hb2 (Below.refl _ _)); have HZ2 := Lib.hid (fx1 hk2.out); have G2 := Lib.hid (Fx.below (Fx.below G0.out hb1) hb2); clear G0 hs1 hb1 hs2 hb2)
        | (with_reducible refine at_any ?_; refine at_dst 14 rfl ?_; refine wpList_load_fen (by kernel_rfl) (.tmp 3) rfl w.heap.size rfl 32 (.slice AF m c) (Fx.b0 G2.out) ?_)
        | (go_at_call 51; (with_reducible refine (HTO.out _ (Kst.tz (HKS.out.below (Fx.e2 G2.out))) (Fx.r1 G2.out)).mono ?_); rintro e w3 ⟨rfl, hb3⟩; have HS := Lib.hid (DrS.below HS2.out hb3); have HZ := Lib.hid (Fx.below HZ2.out hb3); have G3 := Lib.hid (Fx.below G2.out hb3); clear G2 HS2 HZ2 hb3)
        | (with_reducible refine at_any ?_; refine at_dst 20 rfl ?_; refine wpList_load_blk rfl 40 (.tmp 4) rfl wF.heap.size rfl 40 V HS.out.blk _ Tryz.underlying40 rfl SV.out ?_)
        | (go_at_call 33; (with_reducible refine (HDR.out _ HS.out.rd.rd (HKS.out.below (Fx.e2 G3.out))).mono ?_); rintro e w5 ⟨A2, c2, rfl, hrd2, hc2, hm2, hsp2, hb5⟩; obtain ⟨V2, hV2⟩ : ∃ V2, srcV t A2 c2 = V2 := ⟨_, rfl⟩; have SV2 := Lib.hid (ST.out A2 c2); have OV2 := Lib.hid (OT.out A2 c2); have ZV2 := Lib.hid (ZT.out A2 c2); have HH2 := Lib.hid (fun w' h3 h4 => HEND.out wF HBF.out A2 c2 w' (sep_from hsp2 HS.out.bel.size) hc2 hm2 h3 h4); rw [hV2] at SV2 OV2 ZV2 HH2 ⊢; clear hV2 hc2 hm2; have G5 := Lib.hid (Fx.below G3.out hb5); clear G3)
        | (with_reducible refine at_any ?_; refine at_dst 11 rfl ?_; refine wpList_alloc_any rfl 40 rfl Z HZ0.out ?_; intro w6 hk6 hs6 hb6; have G6 := Lib.hid (Fx.below G5.out hb6))
        | (with_reducible refine at_any ?_; refine at_store 11 rfl ?_; refine wpList_store_any rfl 40 (.tmp 11) (.tmp 25) rfl w5.heap.size rfl 40 Z V2 hk6.out rfl ZV2.out SV2.out OV2.out ?_; intro w7 hk7 hs7 hb7 ho7; have T := Lib.hid (DrS.took HS.out HZ.out hrd2 hsp2 hb5 hb6 hk6.out hk7.out hs7.out hb7 ho7); have G7 := Lib.hid (fx_led G6.out hk6.out (Fx.b0 G5.out) (Fx.e2 G5.out) hs7.out hb7 ho7); clear G5 G6)
        | (with_reducible refine at_any ?_; refine at_dst 32 rfl ?_; refine wpList_load_fen (by kernel_rfl) (.tmp 3) rfl w.heap.size rfl 32 (.slice AF m c) (Fx.b0 G7.out) ?_)
        | (go_at_call 25; (with_reducible refine (HOW.out _ (Kst.tz (HKS.out.below (Fx.e2 G7.out))) (Fx.r1 G7.out)).mono ?_); rintro e w8 ⟨rfl, hb8⟩))
      obtain ⟨-, HZ9, -, -, -, HD⟩ := T.out
      have HZ9 := HZ9.below hb8
      have HD := HD.below hb8
      obtain ⟨g7, hg7⟩ : ∃ g, w1.heap.size = g := ⟨_, rfl⟩
      obtain ⟨g11, hg11⟩ : ∃ g, w5.heap.size = g := ⟨_, rfl⟩
      rw [hg7] at HZ9 HD
      rw [hg11] at HD
      rw [hg7, hg11]
      clear hg7 hg11 T
      have HZ7 := HZ9.drew
      refine wp_region_held_drew (S := (DrH wF g7 g11 V2 A2 L zs)) (by kernel_rfl) HD.drew (fun hH => ?_)
      refine wpAnyH_letter #[false, false, false, false, false, false] (by kernel_rfl) (fun _ _ d _ _ h => by cases d <;> exact h) (fun QL HQ1 HQ2 => ?_)
      refine held_v 0 (some 37) rfl (by kernel_rfl) (by kernel_rfl) (by kernel_rfl) (by kernel_rfl) (fun c a v w h => HQ2.out c a _ v w h) (by kernel_rfl) (.int .i64 ov) (fun W h => by kernel_rfl) hH ?_
      try simp only [Act.put, List.setIfInBounds_toArray, List.set_cons_zero, List.set_cons_succ]
      refine held_row 1 (some 38) rfl (by kernel_rfl) (by kernel_rfl) (by kernel_rfl) (by kernel_rfl) (fun c a v w h => HQ2.out c a _ v w h) (by kernel_rfl) 40 (.tmp 11) rfl g11 (by kernel_rfl) 40 V2 (fun _ h => h.blk) _ Tryz.underlying40 rfl SV2.out hH ?_
      try simp only [Act.put, List.setIfInBounds_toArray, List.set_cons_zero, List.set_cons_succ]
      refine held_v 2 (some 39) rfl (by kernel_rfl) (by kernel_rfl) (by kernel_rfl) (by kernel_rfl) (fun c a v w h => HQ2.out c a _ v w h) (by kernel_rfl) (.int .i64 0) (fun W h => by kernel_rfl) hH ?_
      try simp only [Act.put, List.setIfInBounds_toArray, List.set_cons_zero, List.set_cons_succ]
      refine held_v 3 (some 6) rfl (by kernel_rfl) (by kernel_rfl) (by kernel_rfl) (by kernel_rfl) (fun c a v w h => HQ2.out c a _ v w h) (by kernel_rfl) (.int .i64 ov) (fun W h => by kernel_rfl) hH ?_
      try simp only [Act.put, List.setIfInBounds_toArray, List.set_cons_zero, List.set_cons_succ]
      refine wpAnyH_ready (rs := [4]) (by kernel_rfl) (by decide) ?_
      refine AllReadyH.cons rfl (fun K hK => ?_) AllReadyH.nil
      refine step_store none (by kernel_rfl) (by kernel_rfl) 40 (.tmp 7) (.tmp 38) rfl g7 (by kernel_rfl) 40 Z V2 HZ7.1 (by kernel_rfl) ZV2.out SV2.out OV2.out ?_
      intro w141 hkw141 hsw141 hbw141 how141
      have ex142 : Fx [.blk g7 40 V2] w141 := ⟨hkw141.out, trivial⟩
      refine hK.out _ _ (hH.store HZ7.1 hH.store7 hsw141.out hbw141 how141) (fun hw141 => ?_)
      clear hK K
      try simp only [Act.put, List.setIfInBounds_toArray, List.set_cons_zero, List.set_cons_succ]
      refine held_v 5 (some 8) rfl (by kernel_rfl) (by kernel_rfl) (by kernel_rfl) (by kernel_rfl) (fun c a v w h => HQ2.out c a _ v w h) (by kernel_rfl) (.int .i64 0) (fun W h => by kernel_rfl) hw141 ?_
      try simp only [Act.put, List.setIfInBounds_toArray, List.set_cons_zero, List.set_cons_succ]
      refine wpAnyH_done (by kernel_rfl) ?_ _
      refine HQ1.out _ _ ?_
      clear HQ1 HQ2
      go_wp2_with (refine bodyPost_mid 6 7 8 40 rfl g7 rfl (.int .i64 ov) (.int .i64 0) rfl rfl 40 V2 ex142.1 _ Tryz.underlying40 rfl SV2.out rfl ?_)
      exact HH2.out _ hw141.rd.rd hw141.bel
    · have e1 := hgn hE0
      rw [e1] at HEND0 ⊢
      have t2 : (E == 0) = false := by rw [beq_eq_false_iff_ne]; exact hE0
      have t3 : (E != 0) = true := by rw [bne, t2]; rfl
      obtain ⟨rr, hrr⟩ : ∃ r : Int × Src × Int, (0, t, E) = r := ⟨_, rfl⟩
      have HEND1 : Hid (∀ wF, Below w.heap.size w wF → ∀ A2 c2 w', Sep wF A0 A2 → s.tape.length ≤ c2 → c2 ≤ maxLen → RdP A2 s.tape.length s.tape w' → Below wF.heap.size wF w' → RetLead w s A0 rr (.returned (.tuple #[.int .i64 0, .agg (srcV t A2 c2), .int .i64 E])) w') := by rw [← hrr]; exact HEND0
      rw [hrr]
      obtain ⟨V, hV⟩ : ∃ V, srcV s A0 c0 = V := ⟨_, rfl⟩
      have HDR := HDR0
      rw [hV] at SV OV ZV HDR ⊢
      obtain ⟨zs, hzs⟩ : ∃ zs, s.tape = zs := ⟨_, rfl⟩
      obtain ⟨L, hL⟩ : ∃ L, zs.length = L := ⟨_, rfl⟩
      rw [hzs, hL] at HEND1 hRd HDR
      have HEND := HEND1
      clear HEND1 HEND0 HDR0 hrr hV hzs hL hto hdr how hgo hgn e1 hoz hov hoe hx hE ht ht2 hS okt hz hs0 hrd hrf hc hcm hc0 hcm0 hZ a0 a1 hs hl hm HZSS hnz hE0 hts hkst
      go_enter Tryz.func15, Tryz.ntmps15
      go_wp2_with (first
        | (with_reducible refine at_any ?_; refine at_dst 3 rfl ?_; refine wpList_box_any rfl 32 (.tmp 0) rfl #[.slice AF m c] rfl ?_; intro wF hkF hsF hbF; have G0 := Lib.hid (fx_start hkF.out HRF.out hbF); have HBF := Lib.hid hbF; have HRdF := Lib.hid ((hRd.out.below hbF).mono (Below.size hbF)); clear hkF hsF hbF)
        | (with_reducible refine at_any ?_; refine at_dst 4 rfl ?_; refine wpList_box_any rfl 40 (.tmp 1) rfl V rfl ?_; intro w1 hk1 hs1 hb1)
        | (with_reducible refine at_any ?_; refine at_dst 7 rfl ?_; refine wpList_alloc_any rfl 40 rfl Z HZ0.out ?_; intro w2 hk2 hs2 hb2; have HS2 := Lib.hid (DrS.mk2 HRdF.out hk1.out hb1 hk2.out hb2 (Below.refl _ _)); have HZ2 := Lib.hid (fx1 hk2.out); have G2 := Lib.hid (Fx.below (Fx.below G0.out hb1) hb2); clear G0 hs1 hb1 hs2 hb2)
        | (with_reducible refine at_any ?_; refine at_dst 14 rfl ?_; refine wpList_load_fen (by kernel_rfl) (.tmp 3) rfl w.heap.size rfl 32 (.slice AF m c) (Fx.b0 G2.out) ?_)
        | (go_at_call 51; (with_reducible refine (HTO.out _ (Kst.tz (HKS.out.below (Fx.e2 G2.out))) (Fx.r1 G2.out)).mono ?_); rintro e w3 ⟨rfl, hb3⟩; have HS := Lib.hid (DrS.below HS2.out hb3); have HZ := Lib.hid (Fx.below HZ2.out hb3); have G3 := Lib.hid (Fx.below G2.out hb3); clear G2 HS2 HZ2 hb3)
        | (with_reducible refine at_any ?_; refine at_dst 20 rfl ?_; refine wpList_load_blk rfl 40 (.tmp 4) rfl wF.heap.size rfl 40 V HS.out.blk _ Tryz.underlying40 rfl SV.out ?_)
        | (go_at_call 33; (with_reducible refine (HDR.out _ HS.out.rd.rd (HKS.out.below (Fx.e2 G3.out))).mono ?_); rintro e w5 ⟨A2, c2, rfl, hrd2, hc2, hm2, hsp2, hb5⟩; obtain ⟨V2, hV2⟩ : ∃ V2, srcV t A2 c2 = V2 := ⟨_, rfl⟩; have SV2 := Lib.hid (ST.out A2 c2); have OV2 := Lib.hid (OT.out A2 c2); have ZV2 := Lib.hid (ZT.out A2 c2); have HH2 := Lib.hid (fun w' h3 h4 => HEND.out wF HBF.out A2 c2 w' (sep_from hsp2 HS.out.bel.size) hc2 hm2 h3 h4); rw [hV2] at SV2 OV2 ZV2 HH2 ⊢; clear hV2 hc2 hm2; have G5 := Lib.hid (Fx.below G3.out hb5); clear G3)
        | (with_reducible refine at_any ?_; refine at_dst 11 rfl ?_; refine wpList_alloc_any rfl 40 rfl Z HZ0.out ?_; intro w6 hk6 hs6 hb6; have G6 := Lib.hid (Fx.below G5.out hb6))
        | (with_reducible refine at_any ?_; refine at_store 11 rfl ?_; refine wpList_store_any rfl 40 (.tmp 11) (.tmp 25) rfl w5.heap.size rfl 40 Z V2 hk6.out rfl ZV2.out SV2.out OV2.out ?_; intro w7 hk7 hs7 hb7 ho7; have T := Lib.hid (DrS.took HS.out HZ.out hrd2 hsp2 hb5 hb6 hk6.out hk7.out hs7.out hb7 ho7); have G7 := Lib.hid (fx_led G6.out hk6.out (Fx.b0 G5.out) (Fx.e2 G5.out) hs7.out hb7 ho7); clear G5 G6))
      obtain ⟨-, HZ9, -, -, -, HD⟩ := T.out
      obtain ⟨g7, hg7⟩ : ∃ g, w1.heap.size = g := ⟨_, rfl⟩
      obtain ⟨g11, hg11⟩ : ∃ g, w5.heap.size = g := ⟨_, rfl⟩
      rw [hg7] at HZ9 HD
      rw [hg11] at HD
      rw [hg7, hg11]
      clear hg7 hg11 T
      have HZ7 := HZ9.drew
      refine wp_region_held_drew (S := (DrH wF g7 g11 V2 A2 L zs)) (by kernel_rfl) HD.drew (fun hH => ?_)
      refine wpAnyH_letter #[false, false, false, false, false] (by kernel_rfl) (fun _ _ d _ _ h => by cases d <;> exact h) (fun QL HQ1 HQ2 => ?_)
      refine held_row 0 (some 29) rfl (by kernel_rfl) (by kernel_rfl) (by kernel_rfl) (by kernel_rfl) (fun c a v w h => HQ2.out c a _ v w h) (by kernel_rfl) 40 (.tmp 11) rfl g11 (by kernel_rfl) 40 V2 (fun _ h => h.blk) _ Tryz.underlying40 rfl SV2.out hH ?_
      try simp only [Act.put, List.setIfInBounds_toArray, List.set_cons_zero, List.set_cons_succ]
      refine held_v 1 (some 30) rfl (by kernel_rfl) (by kernel_rfl) (by kernel_rfl) (by kernel_rfl) (fun c a v w h => HQ2.out c a _ v w h) (by kernel_rfl) (.int .i64 E) (fun W h => by kernel_rfl) hH ?_
      try simp only [Act.put, List.setIfInBounds_toArray, List.set_cons_zero, List.set_cons_succ]
      refine held_v 2 (some 6) rfl (by kernel_rfl) (by kernel_rfl) (by kernel_rfl) (by kernel_rfl) (fun c a v w h => HQ2.out c a _ v w h) (by kernel_rfl) (.int .i64 0) (fun W h => by kernel_rfl) hH ?_
      try simp only [Act.put, List.setIfInBounds_toArray, List.set_cons_zero, List.set_cons_succ]
      refine wpAnyH_ready (rs := [3]) (by kernel_rfl) (by decide) ?_
      refine AllReadyH.cons rfl (fun K hK => ?_) AllReadyH.nil
      refine step_store none (by kernel_rfl) (by kernel_rfl) 40 (.tmp 7) (.tmp 29) rfl g7 (by kernel_rfl) 40 Z V2 HZ7.1 (by kernel_rfl) ZV2.out SV2.out OV2.out ?_
      intro w141 hkw141 hsw141 hbw141 how141
      have ex142 : Fx [.blk g7 40 V2] w141 := ⟨hkw141.out, trivial⟩
      refine hK.out _ _ (hH.store HZ7.1 hH.store7 hsw141.out hbw141 how141) (fun hw141 => ?_)
      clear hK K
      try simp only [Act.put, List.setIfInBounds_toArray, List.set_cons_zero, List.set_cons_succ]
      refine held_v 4 (some 8) rfl (by kernel_rfl) (by kernel_rfl) (by kernel_rfl) (by kernel_rfl) (fun c a v w h => HQ2.out c a _ v w h) (by kernel_rfl) (.int .i64 E) (fun W h => by kernel_rfl) hw141 ?_
      try simp only [Act.put, List.setIfInBounds_toArray, List.set_cons_zero, List.set_cons_succ]
      refine wpAnyH_done (by kernel_rfl) ?_ _
      refine HQ1.out _ _ ?_
      clear HQ1 HQ2
      go_wp2_with (refine bodyPost_mid 6 7 8 40 rfl g7 rfl (.int .i64 0) (.int .i64 E) rfl rfl 40 V2 ex142.1 _ Tryz.underlying40 rfl SV2.out rfl ?_)
      exact HH2.out _ hw141.rd.rd hw141.bel
end
end Go.Proofs.YtkhlkggdibaefaaGreatDoor
