/-
  Texts of this claim, joined: TapO, TapN, TapA, UniA, RefZc, RefZ, RefZa, SafA, AlsB, AlsD, AlsE, AlsF, AlsG, AlsH, AlsI, AlsA. What each shows, and its conditions, stand at its own head.
-/
import Derived.Test.YtomkidgmpbjgeaaDoorGc
import Derived.Deep.QuietTactic
import Derived.BigQuiet
import Derived.Laws.StructEq
import Derived.Test.YtomkidgmpbjgeaaDoorRows
import Derived.Laws.Externs
import Derived.Lib.Mul64
/-
  What the landed tape's (reading).octet returns: the byte that has the next bit; and what it leaves of the block that was hashed last.
  Conditions: the source's fields lie in their types' ranges; it has a next bit; the table of constants holds what the text lays.
-/
set_option maxRecDepth 100000
set_option linter.unusedSimpArgs false
namespace Go.Proofs.YtomkidgmpbjgeaaDoor
open Go.ChangeShapes Go.WideShapes Go.ChangeAt Go.RowKit
set_option linter.unusedVariables false
theorem size_bool : (Tryd.prog.info? 4).map (·.size) = some 1 := by kernel_rfl
theorem only_drewN (g : Nat) (w : World) (n : Nat) : Only g w (w.drewN n) := Only.of_below (below_drewN (Below.refl _ _) n)
theorem blk_drewN {w : World} {g : Nat} {t : TypeId} {cs : Array Value} (h : Blk w g t cs) (n : Nat) : Blk (w.drewN n) g t cs := h.below (below_drewN (Below.refl _ _) n) h.lt
set_option maxHeartbeats 4000000 in
theorem qoct1_c (g : Nat) (s : Src) (A : Option Addr) (c : Nat) (b : List Int) (h : Bool) (ok : s.Ok) (hk : s.kind = 1) (hlt : s.at_ < 8 * (s.tape.length : Int)) (hbk : BkA s b h) (w : World) (hg : Blk w g 77 (rdV s A c b h)) (hrd : Rd .u8 w w.heap.size A s.tape.length s.tape) :
    Calls Tryd.prog 50 #[.pointer (some ⟨g, 0, none⟩)] w (RetOct w g s A c) := by
  have hS : RdS g s A c w := ⟨b, h, hg, hbk.1⟩
  have c0 := hS.kind
  have c1 := hS.tape
  have c36 := hS.at_ ok.sl
  have tl := ok.tl
  obtain ⟨j, hj⟩ : ∃ j : Nat, (s.at_ / 8).toNat = j := ⟨_, rfl⟩
  have a0 := ok.a0
  have a1 := ok.a1
  have e1 : s.at_ / 8 = (j : Int) := by omega
  have hjl : j < s.tape.length := by omega
  obtain ⟨b0, off, hA, hb0, hcell⟩ := hrd.2 (by omega)
  have cj := hcell j hjl
  have hoc : octS s = s.tape.getD j 0 := by unfold octS; rw [if_neg (by omega), hj]
  obtain ⟨x, hx⟩ : ∃ x, s.tape.getD j 0 = x := ⟨_, rfl⟩
  rw [hx] at cj hoc
  rw [hk] at c0
  have HEND : Hid (∀ n, RetOct w g s A c (.returned (.int .u8 x)) (w.drewN n)) := Lib.hid fun n => ⟨b, h, by rw [hoc], blk_drewN hg n, ⟨hbk.1, hbk.2.1, fun hk2 => by rw [hk] at hk2; cases hk2⟩, only_drewN g w n⟩
  obtain ⟨L, hL⟩ : ∃ L, s.tape.length = L := ⟨_, rfl⟩
  obtain ⟨at_, hat⟩ : ∃ a, s.at_ = a := ⟨_, rfl⟩
  rw [hL] at c1 hjl tl
  rw [hat] at c36 e1 a0 a1
  have q0 : (0 : Int) ≤ (j : Int) ∧ (j : Int) < (L : Int) := by omega
  have e2 : IntKind.u64.wrap (at_.tdiv 8) = (j : Int) := by rw [Int.tdiv_eq_ediv_of_nonneg a0, e1, IntKind.wrap_u64]; omega
  subst hA
  clear hS hj hx hoc hcell hrd hg hbk hk hlt hL hat hb0 e1 ok
  go_enter Tryd.func50, Tryd.ntmps50
  go_wp2
  go_quiet (fail)
  go_wp2
  go_ret
  exact HEND.out _
set_option maxHeartbeats 4000000 in
/-- Of a stream: no block is hashed. -/
theorem qoct3_c (g : Nat) (s : Src) (A : Option Addr) (c : Nat) (b : List Int) (ok : s.Ok) (hk : s.kind = 2) (hn : s.at_ % 256 ≠ 0) (hbk : BkA s b true) (w : World) (hg : Blk w g 77 (rdV s A c b true)) :
    Calls Tryd.prog 50 #[.pointer (some ⟨g, 0, none⟩)] w (RetOct w g s A c) := by
  obtain ⟨h, hh⟩ : ∃ h, h = true := ⟨_, rfl⟩
  rw [← hh] at hg hbk
  have hS : RdS g s A c w := ⟨b, h, hg, hbk.1⟩
  have c0 := hS.kind
  have a0 := ok.a0
  have a1 := ok.a1
  rw [hk] at c0
  have hRl := blkL_len s.seed s.dom (s.at_ / 256)
  have hRi := blkL_in s.seed s.dom (s.at_ / 256)
  obtain ⟨j, hj⟩ : ∃ j : Nat, (s.at_ % 256 / 8).toNat = j := ⟨_, rfl⟩
  have e1 : s.at_ % 256 / 8 = (j : Int) := by omega
  have hj32 : j < 32 := by omega
  have hoc : octS s = (blkL s.seed s.dom (s.at_ / 256)).getD j 0 := by unfold octS; rw [if_pos hk, hj]
  have HBLK := Lib.hid (fun W k => qblock_c s.seed s.dom (s.at_ / 256) ok.sl ok.si ok.d0 ok.d1 (by omega) (by omega) W k)
  have hbR := hbk.2.2 hk hh hn
  have c69 := (hg.cell 69).trans (rdV_hashed s ok.sl A c b hbk.1 h)
  rw [hh] at c69 hg
  obtain ⟨R, hR⟩ : ∃ R, blkL s.seed s.dom (s.at_ / 256) = R := ⟨_, rfl⟩
  rw [hR] at hRl hRi hoc HBLK
  obtain ⟨x, hx⟩ : ∃ x, R.getD j 0 = x := ⟨_, rfl⟩
  rw [hx] at hoc
  have HEND : Hid (∀ hh W, Blk W g 77 (rdV s A c R hh) → Only g w W → ∀ n, RetOct w g s A c (.returned (.int .u8 x)) (W.drewN n)) := Lib.hid fun hh W hB hO n => ⟨R, hh, by rw [hoc], blk_drewN hB n, ⟨hRl, hRi, fun _ => hR.symm⟩, hO.trans (only_drewN g W n)⟩
  have C36 := Lib.hid (fun (hh : Bool) (W : World) (hB : Blk W g 77 (rdV s A c R hh)) => (hB.cell 36).trans (rdV_at s ok.sl A c R hh))
  have CJ := Lib.hid (fun (hh : Bool) (W : World) (hB : Blk W g 77 (rdV s A c R hh)) => (show W.cell? ⟨g, 37 + j, none⟩ = some (.int .u8 x) by rw [hB.cell, rdV_blk s ok.sl A c R hh j (by omega), hx]))
  have E1 := Lib.hid e1
  rw [hbR, hR] at hg
  have KV := Lib.hid hg
  have KO : Hid (Only g w w) := Lib.hid (Only.refl g w)
  have c36a := C36.out _ _ hg
  have t1 : (s.at_ % 256 == 0) = false := by rw [beq_eq_false_iff_ne]; exact hn
  obtain ⟨at_, hat⟩ : ∃ a, s.at_ = a := ⟨_, rfl⟩
  rw [hat] at a0 a1 C36 E1 c36a t1
  clear hS hj hx hoc hg hbk hk hn hat e1 hRl hRi HBLK ok hbR hR hh
  go_enter Tryd.func50, Tryd.ntmps50
  go_wp2
  clear c36a
  have c36 := C36.out _ _ KV.out
  have cj := CJ.out _ _ KV.out
  have q0 : ((j : Nat) : Int) < 32 := by omega
  have e2 : IntKind.u64.wrap ((at_.tmod 256).tdiv 8) = (j : Int) := by rw [Int.tmod_eq_emod_of_nonneg a0, Int.tdiv_eq_ediv_of_nonneg (by omega), E1.out, IntKind.wrap_u64]; omega
  go_quiet (fail)
  go_wp2
  go_ret
  exact HEND.out _ _ KV.out KO.out _

set_option maxHeartbeats 8000000 in
/-- Of a stream: a block is hashed. -/
theorem qoct2_c (g : Nat) (s : Src) (A : Option Addr) (c : Nat) (b : List Int) (h : Bool) (ok : s.Ok) (hk : s.kind = 2) (hn : h = false ∨ s.at_ % 256 = 0) (hbk : BkA s b h) (w : World) (hg : Blk w g 77 (rdV s A c b h)) (hkst : Kst w) :
    Calls Tryd.prog 50 #[.pointer (some ⟨g, 0, none⟩)] w (RetOct w g s A c) := by
  have hS : RdS g s A c w := ⟨b, h, hg, hbk.1⟩
  have c0 := hS.kind
  have a0 := ok.a0
  have a1 := ok.a1
  rw [hk] at c0
  have hRl := blkL_len s.seed s.dom (s.at_ / 256)
  have hRi := blkL_in s.seed s.dom (s.at_ / 256)
  obtain ⟨j, hj⟩ : ∃ j : Nat, (s.at_ % 256 / 8).toNat = j := ⟨_, rfl⟩
  have e1 : s.at_ % 256 / 8 = (j : Int) := by omega
  have hj32 : j < 32 := by omega
  have hoc : octS s = (blkL s.seed s.dom (s.at_ / 256)).getD j 0 := by unfold octS; rw [if_pos hk, hj]
  have HBLK := Lib.hid (fun W k => qblock_c s.seed s.dom (s.at_ / 256) ok.sl ok.si ok.d0 ok.d1 (by omega) (by omega) W k)
  have OKA1 := ok.a1
  have c69 := (hg.cell 69).trans (rdV_hashed s ok.sl A c b hbk.1 h)
  have c36a := hS.at_ ok.sl
  obtain ⟨R, hR⟩ : ∃ R, blkL s.seed s.dom (s.at_ / 256) = R := ⟨_, rfl⟩
  rw [hR] at hRl hRi hoc HBLK
  obtain ⟨x, hx⟩ : ∃ x, R.getD j 0 = x := ⟨_, rfl⟩
  rw [hx] at hoc
  have HEND : Hid (∀ hh W, Blk W g 77 (rdV s A c R hh) → Only g w W → ∀ n, RetOct w g s A c (.returned (.int .u8 x)) (W.drewN n)) := Lib.hid fun hh W hB hO n => ⟨R, hh, by rw [hoc], blk_drewN hB n, ⟨hRl, hRi, fun _ => hR.symm⟩, hO.trans (only_drewN g W n)⟩
  have C36 := Lib.hid (fun (hh : Bool) (W : World) (hB : Blk W g 77 (rdV s A c R hh)) => (hB.cell 36).trans (rdV_at s ok.sl A c R hh))
  have CJ := Lib.hid (fun (hh : Bool) (W : World) (hB : Blk W g 77 (rdV s A c R hh)) => (show W.cell? ⟨g, 37 + j, none⟩ = some (.int .u8 x) by rw [hB.cell, rdV_blk s ok.sl A c R hh j (by omega), hx]))
  have E1 := Lib.hid e1
  have HPUT := Lib.hid (rdV_put s ok.sl A c b R hbk.1 hRl h)
  have HSET := Lib.hid (rdV_set69 s ok.sl A c R hRl h true)
  have LR := Lib.hid (show 37 + (intsA .u8 R).size ≤ (rdV s A c b h).size by rw [intsA_size, hRl, rdV_size s ok.sl A c b hbk.1]; omega)
  have L69 := Lib.hid (show 69 < (rdV s A c R h).size by rw [rdV_size s ok.sl A c R hRl]; omega)
  have SR := Lib.hid (show (Tryd.prog.info? 35).map (·.size) = some (intsA .u8 R).size by rw [intsA_size, hRl]; exact size_hash)
  have OR := Lib.hid (all_oneCell_toArray (ints_one .u8 R))
  have HRL := Lib.hid hRl
  have HSL := Lib.hid ok.sl
  have SSD := Lib.hid (show (Tryd.prog.info? 35).map (·.size) = some (s.seed.map (Value.int .u8)).length by rw [List.length_map, ok.sl]; exact size_hash)
  have HKS := Lib.hid hkst
  have HQ := Lib.hid (show IntKind.u64.wrap (s.at_ / 256) = s.at_ / 256 by rw [IntKind.wrap_u64]; omega)
  have HQD := Lib.hid (show s.at_.tdiv 256 = s.at_ / 256 from Int.tdiv_eq_ediv_of_nonneg a0)
  have HSS := Lib.hid hS
  have F0 : Fx [.blk g 77 (rdV s A c b h)] w := ⟨hg, trivial⟩
  obtain ⟨V, hV⟩ : ∃ V, rdV s A c b h = V := ⟨_, rfl⟩
  rw [hV] at F0 HPUT LR
  have HF0 := Lib.hid F0
  obtain ⟨at_, hat⟩ : ∃ a, s.at_ = a := ⟨_, rfl⟩
  have HAT := Lib.hid hat
  have a2 := a0
  rw [hat] at a2 c36a E1
  have AA := Lib.hid a0
  clear hS hj hx hoc hg hbk hk hat e1 hRl hRi ok hR hV F0 hkst a0 a1
  have hn2 : h = false ∨ (h = true ∧ (at_ % 256 == 0) = true) := by
    rcases hn with h1 | h1
    · exact .inl h1
    · cases h
      · exact .inl rfl
      · exact .inr ⟨rfl, by rw [beq_iff_eq, ← HAT.out]; exact h1⟩
  clear hn
  have a3 : at_ < 18446744073709551616 := by rw [← HAT.out]; exact OKA1
  rcases hn2 with hh | ⟨hh, t1⟩
  all_goals
    rw [hh] at c69
    go_enter Tryd.func50, Tryd.ntmps50
    go_wp2
    have F0 := HF0.out.drew
    refine wp_region_held_drew (S := RdS g s A c) (by kernel_rfl) (HSS.out.drew) (fun hH => ?_)
    refine wpAnyH_letter #[false, false, false, false, false, false, false, false, false, false, false, false, false, false, false, false, false, false, false, false, false] (by kernel_rfl) (fun _ _ d _ _ h => by cases d <;> exact h) (fun QL HQ1 HQ2 => ?_)
    refine held_v 0 (some 36) rfl (by kernel_rfl) (by kernel_rfl) (by kernel_rfl) (by kernel_rfl) (fun c a v w h => HQ2.out c a _ v w h) (by kernel_rfl) (.pointer (some ⟨g, 0, none⟩)) (fun W h => by kernel_rfl) hH ?_
    try simp only [Act.put, List.setIfInBounds_toArray, List.set_cons_zero, List.set_cons_succ]
    refine held_v 1 (some 37) rfl (by kernel_rfl) (by kernel_rfl) (by kernel_rfl) (by kernel_rfl) (fun c a v w h => HQ2.out c a _ v w h) (by kernel_rfl) (.pointer (some ⟨g, 0, none⟩)) (fun W h => by kernel_rfl) hH ?_
    try simp only [Act.put, List.setIfInBounds_toArray, List.set_cons_zero, List.set_cons_succ]
    refine held_v 2 (some 38) rfl (by kernel_rfl) (by kernel_rfl) (by kernel_rfl) (by kernel_rfl) (fun c a v w h => HQ2.out c a _ v w h) (by kernel_rfl) (.pointer (some ⟨g, 0, none⟩)) (fun W h => by go_simp) hH ?_
    try simp only [Act.put, List.setIfInBounds_toArray, List.set_cons_zero, List.set_cons_succ]
    refine held_v 3 (some 39) rfl (by kernel_rfl) (by kernel_rfl) (by kernel_rfl) (by kernel_rfl) (fun c a v w h => HQ2.out c a _ v w h) (by kernel_rfl) (.pointer (some ⟨g, 0, none⟩)) (fun W h => by kernel_rfl) hH ?_
    try simp only [Act.put, List.setIfInBounds_toArray, List.set_cons_zero, List.set_cons_succ]
    refine held_v 4 (some 40) rfl (by kernel_rfl) (by kernel_rfl) (by kernel_rfl) (by kernel_rfl) (fun c a v w h => HQ2.out c a _ v w h) (by kernel_rfl) (.pointer (some ⟨g, 3, none⟩)) (fun W h => by kernel_rfl) hH ?_
    try simp only [Act.put, List.setIfInBounds_toArray, List.set_cons_zero, List.set_cons_succ]
    refine held_load_at 5 (some 41) rfl (by kernel_rfl) (by kernel_rfl) (by kernel_rfl) (by kernel_rfl) (fun c a v w h => HQ2.out c a _ v w h) (by kernel_rfl) 35 (.tmp 40) rfl g 3 (by kernel_rfl) (s.seed.map (Value.int .u8)) (fun W h => h.seed) _ Tryd.underlying35 rfl SSD.out hH ?_
    try simp only [Act.put, List.setIfInBounds_toArray, List.set_cons_zero, List.set_cons_succ]
    refine held_v 6 (some 42) rfl (by kernel_rfl) (by kernel_rfl) (by kernel_rfl) (by kernel_rfl) (fun c a v w h => HQ2.out c a _ v w h) (by kernel_rfl) (.pointer (some ⟨g, 0, none⟩)) (fun W h => by kernel_rfl) hH ?_
    try simp only [Act.put, List.setIfInBounds_toArray, List.set_cons_zero, List.set_cons_succ]
    refine held_v 7 (some 43) rfl (by kernel_rfl) (by kernel_rfl) (by kernel_rfl) (by kernel_rfl) (fun c a v w h => HQ2.out c a _ v w h) (by kernel_rfl) (.pointer (some ⟨g, 0, none⟩)) (fun W h => by go_simp) hH ?_
    try simp only [Act.put, List.setIfInBounds_toArray, List.set_cons_zero, List.set_cons_succ]
    refine held_v 8 (some 44) rfl (by kernel_rfl) (by kernel_rfl) (by kernel_rfl) (by kernel_rfl) (fun c a v w h => HQ2.out c a _ v w h) (by kernel_rfl) (.pointer (some ⟨g, 0, none⟩)) (fun W h => by kernel_rfl) hH ?_
    try simp only [Act.put, List.setIfInBounds_toArray, List.set_cons_zero, List.set_cons_succ]
    refine held_v 9 (some 45) rfl (by kernel_rfl) (by kernel_rfl) (by kernel_rfl) (by kernel_rfl) (fun c a v w h => HQ2.out c a _ v w h) (by kernel_rfl) (.pointer (some ⟨g, 35, none⟩)) (fun W h => by kernel_rfl) hH ?_
    try simp only [Act.put, List.setIfInBounds_toArray, List.set_cons_zero, List.set_cons_succ]
    refine held_v 10 (some 46) rfl (by kernel_rfl) (by kernel_rfl) (by kernel_rfl) (by kernel_rfl) (fun c a v w h => HQ2.out c a _ v w h) (by kernel_rfl) (.int .u64 s.dom) (fun W h => by have p := h.dom HSL.out; go_simp) hH ?_
    try simp only [Act.put, List.setIfInBounds_toArray, List.set_cons_zero, List.set_cons_succ]
    refine held_v 11 (some 47) rfl (by kernel_rfl) (by kernel_rfl) (by kernel_rfl) (by kernel_rfl) (fun c a v w h => HQ2.out c a _ v w h) (by kernel_rfl) (.pointer (some ⟨g, 0, none⟩)) (fun W h => by kernel_rfl) hH ?_
    try simp only [Act.put, List.setIfInBounds_toArray, List.set_cons_zero, List.set_cons_succ]
    refine held_v 12 (some 48) rfl (by kernel_rfl) (by kernel_rfl) (by kernel_rfl) (by kernel_rfl) (fun c a v w h => HQ2.out c a _ v w h) (by kernel_rfl) (.pointer (some ⟨g, 0, none⟩)) (fun W h => by go_simp) hH ?_
    try simp only [Act.put, List.setIfInBounds_toArray, List.set_cons_zero, List.set_cons_succ]
    refine held_v 13 (some 49) rfl (by kernel_rfl) (by kernel_rfl) (by kernel_rfl) (by kernel_rfl) (fun c a v w h => HQ2.out c a _ v w h) (by kernel_rfl) (.pointer (some ⟨g, 0, none⟩)) (fun W h => by kernel_rfl) hH ?_
    try simp only [Act.put, List.setIfInBounds_toArray, List.set_cons_zero, List.set_cons_succ]
    refine held_v 14 (some 50) rfl (by kernel_rfl) (by kernel_rfl) (by kernel_rfl) (by kernel_rfl) (fun c a v w h => HQ2.out c a _ v w h) (by kernel_rfl) (.pointer (some ⟨g, 36, none⟩)) (fun W h => by kernel_rfl) hH ?_
    try simp only [Act.put, List.setIfInBounds_toArray, List.set_cons_zero, List.set_cons_succ]
    refine held_v 15 (some 51) rfl (by kernel_rfl) (by kernel_rfl) (by kernel_rfl) (by kernel_rfl) (fun c a v w h => HQ2.out c a _ v w h) (by kernel_rfl) (.int .u64 s.at_) (fun W h => by have p := h.at_ HSL.out; go_simp) hH ?_
    try simp only [Act.put, List.setIfInBounds_toArray, List.set_cons_zero, List.set_cons_succ]
    refine held_v 16 (some 52) rfl (by kernel_rfl) (by kernel_rfl) (by kernel_rfl) (by kernel_rfl) (fun c a v w h => HQ2.out c a _ v w h) (by kernel_rfl) (.int .u64 (s.at_ / 256)) (fun W h => by have p := HQ.out; have p2 := HQD.out; go_simp) hH ?_
    try simp only [Act.put, List.setIfInBounds_toArray, List.set_cons_zero, List.set_cons_succ]
    refine wpAnyH_ready (rs := [17]) (by kernel_rfl) (by decide) ?_
    refine AllReadyH.cons rfl (fun K hK => ?_) AllReadyH.nil
    refine step_call (some 53) (by kernel_rfl) (by kernel_rfl) _ _ (by kernel_rfl) _ (HBLK.out _ (HKS.out.below (Below.refl _ _).drew)) ?_
    rintro e w41 ⟨rfl, hbw41⟩
    have ex42 := F0.below hbw41
    refine ⟨_, rfl, ?_⟩
    refine hK.out _ _ (hH.below hbw41) (fun hw41 => ?_)
    clear hK K
    try simp only [Act.put, List.setIfInBounds_toArray, List.set_cons_zero, List.set_cons_succ]
    refine held_v 18 (some 54) rfl (by kernel_rfl) (by kernel_rfl) (by kernel_rfl) (by kernel_rfl) (fun c a v w h => HQ2.out c a _ v w h) (by kernel_rfl) (.pointer (some ⟨g, 0, none⟩)) (fun W h => by go_simp) hw41 ?_
    try simp only [Act.put, List.setIfInBounds_toArray, List.set_cons_zero, List.set_cons_succ]
    refine held_v 19 (some 55) rfl (by kernel_rfl) (by kernel_rfl) (by kernel_rfl) (by kernel_rfl) (fun c a v w h => HQ2.out c a _ v w h) (by kernel_rfl) (.pointer (some ⟨g, 37, none⟩)) (fun W h => by kernel_rfl) hw41 ?_
    try simp only [Act.put, List.setIfInBounds_toArray, List.set_cons_zero, List.set_cons_succ]
    refine wpAnyH_ready (rs := [20]) (by kernel_rfl) (by decide) ?_
    refine AllReadyH.cons rfl (fun K hK => ?_) AllReadyH.nil
    refine step_store_off none (by kernel_rfl) (by kernel_rfl) 35 (.tmp 55) (.tmp 53) rfl g 37 (by kernel_rfl) 77 V (intsA .u8 R) ex42.1 (by kernel_rfl) LR.out SR.out OR.out ?_
    intro w43 hkw43 how43
    have HKN : Hid (Blk w43 g 77 (rdV s A c R h)) := Lib.hid (by have hh := hkw43.out; rw [HPUT.out] at hh; exact hh)
    have HON : Hid (Only g w w43) := Lib.hid ((Only.of_below (w := w.drew) hbw41).of_drew.trans how43)
    refine hK.out _ _ (⟨R, h, HKN.out, HRL.out⟩) (fun hw43 => ?_)
    clear hK K
    try simp only [Act.put, List.setIfInBounds_toArray, List.set_cons_zero, List.set_cons_succ]
    refine wpAnyH_done (by kernel_rfl) ?_ _
    refine HQ1.out _ _ ?_
    clear HQ1 HQ2
    clear c69 c36a
    go_wp2_with (with_reducible refine at_any ?_; refine at_store 58 rfl ?_; refine wpList_store_cell rfl 4 (.tmp 58) (.const (.bool true)) rfl g 69 rfl 77 (rdV s A c R h) HKN.out (.bool true) rfl L69.out size_bool rfl rfl ?_; intro w9 hk9 ho9)
    have KV := Lib.hid (show Blk w9 g 77 (rdV s A c R true) by have hh := hk9.out; rw [HSET.out] at hh; exact hh)
    have KO := Lib.hid (HON.out.trans ho9)
    have a0 := a2
    have c36 := (C36.out _ _ KV.out).trans (by rw [HAT.out])
    have cj := CJ.out _ _ KV.out
    have q0 : ((j : Nat) : Int) < 32 := by omega
    have e2 : IntKind.u64.wrap ((at_.tmod 256).tdiv 8) = (j : Int) := by rw [Int.tmod_eq_emod_of_nonneg a0, Int.tdiv_eq_ediv_of_nonneg (by omega), E1.out, IntKind.wrap_u64]; omega
    go_quiet (fail)
    go_wp2
    go_ret
    exact HEND.out _ _ KV.out KO.out _
end Go.Proofs.YtomkidgmpbjgeaaDoor
/-
  What the landed tape's (reading).bit and number return, and leave.
  Conditions: the source's fields lie in their types' ranges; it has so many bits; the table of constants holds what the text lays.
-/
set_option maxRecDepth 100000
set_option linter.unusedSimpArgs false
namespace Go.Proofs.YtomkidgmpbjgeaaDoor
open Go.ChangeShapes Go.WideShapes Go.ChangeAt Go.RowKit
set_option linter.unusedVariables false
theorem Only.of_drew_l {g : Nat} {w w' : World} (h : Only g w.drew w') : Only g w w' := h.of_drew
theorem qoctet_c (g : Nat) (s : Src) (A : Option Addr) (c : Nat) (b : List Int) (h : Bool) (ok : s.Ok) (hk : s.kind = 2 ∨ s.kind = 1 ∧ s.at_ < 8 * (s.tape.length : Int)) (hbk : BkA s b h) (w : World) (hg : Blk w g 77 (rdV s A c b h)) (hrd : Rd .u8 w w.heap.size A s.tape.length s.tape) (hkst : Kst w) :
    Calls Tryd.prog 50 #[.pointer (some ⟨g, 0, none⟩)] w (RetOct w g s A c) := by
  rcases hk with hk | ⟨hk, hlt⟩
  · by_cases hn : h = false ∨ s.at_ % 256 = 0
    · exact qoct2_c g s A c b h ok hk hn hbk w hg hkst
    · have h1 : h = true := by
        cases h
        · exact absurd (.inl rfl) hn
        · rfl
      subst h1
      exact qoct3_c g s A c b ok hk (fun h => hn (.inr h)) hbk w hg
  · exact qoct1_c g s A c b h ok hk hlt hbk w hg hrd
theorem octS_in (s : Src) (ok : s.Ok) : 0 ≤ octS s ∧ octS s < 256 := by
  unfold octS
  split
  · exact bytN_in s.seed s.dom (s.at_ / 256) _
  · rw [List.getD_eq_getElem?_getD]
    rcases h : s.tape[(s.at_ / 8).toNat]? with _ | z
    · simp
    · exact ok.ti z (List.mem_of_getElem? h)
set_option maxHeartbeats 4000000 in
theorem qbitr_c (g : Nat) (s : Src) (A : Option Addr) (c : Nat) (b : List Int) (h : Bool) (ok : s.Ok) (hk : s.kind = 2 ∨ s.kind = 1 ∧ s.at_ < 8 * (s.tape.length : Int)) (hnx : s.at_ + 1 < 18446744073709551616) (hbk : BkA s b h) (w : World) (hg : Blk w g 77 (rdV s A c b h)) (hrd : Rd .u8 w w.heap.size A s.tape.length s.tape) (hkst : Kst w) :
    Calls Tryd.prog 47 #[.pointer (some ⟨g, 0, none⟩)] w (RetNum w g (bitS s s.at_) (s.to (s.at_ + 1)) A c) := by
  have HOC := Lib.hid (fun W g1 g2 g3 => qoctet_c g s A c b h ok hk hbk W g1 g2 g3)
  have hx := octS_in s ok
  have hbit := bitS_oct s
  have a0 := ok.a0
  have a1 := ok.a1
  have HG0 := Lib.hid (blk_drewN hg 1)
  have HRD0 := Lib.hid (hrd.below (w' := w.drew) (Below.refl _ _).drew)
  have HKS0 := Lib.hid (hkst.below (Below.refl _ _).drew)
  have HSS : Hid (RdS g s A c w) := Lib.hid ⟨b, h, hg, hbk.1⟩
  obtain ⟨q, hq⟩ : ∃ q, (7 - s.at_ % 8).toNat = q := ⟨_, rfl⟩
  have e2 : 7 - s.at_ % 8 = (q : Int) := by omega
  have hq7 : q ≤ 7 := by omega
  rw [hq] at hbit
  obtain ⟨x, hxe⟩ : ∃ x, octS s = x := ⟨_, rfl⟩
  rw [hxe] at hx hbit
  have p0 := Wd.pow_pos2 q
  have y0 : 0 ≤ x / 2 ^ q := Int.ediv_nonneg hx.1 (by omega)
  have y1 : x / 2 ^ q < 256 := by have := Int.ediv_le_self (2 ^ q) hx.1; omega
  have HQM := Lib.hid (show min q 8 = q by omega)
  have HOX : Hid (octS s = x) := Lib.hid hxe
  have hYE : ∃ y, x / 2 ^ q = y := ⟨_, rfl⟩
  obtain ⟨y, hy⟩ := hYE
  rw [hy] at y0 y1 hbit
  have HM3 := Lib.hid (show octS s / 2 ^ q = y by rw [HOX.out, hy])
  have HM5 := Lib.hid (and_one y y0 y1)
  have HM4 := Lib.hid (show IntKind.u64.wrap y = y by rw [IntKind.wrap_u64]; omega)
  have HSL := Lib.hid ok.sl
  have HXE : Hid (∀ e W, RetOct w g s A c e W → RetOct w g s A c e W) := Lib.hid fun _ _ h => h
  obtain ⟨at_, hat⟩ : ∃ a, s.at_ = a := ⟨_, rfl⟩
  have HAT := Lib.hid hat
  rw [hat] at a0 a1 e2 hnx
  have HM1 := Lib.hid (show at_.tmod 8 = at_ % 8 from Int.tmod_eq_emod_of_nonneg a0)
  have HM2 := Lib.hid (show IntKind.u64.wrap (q : Int) = (q : Int) by rw [IntKind.wrap_u64]; omega)
  have HEND : Hid (∀ b2 h2 W, BkB s b2 → Blk W g 77 (rdV (s.to (at_ + 1)) A c b2 h2) → Only g w W → RetNum w g (bitS s s.at_) (s.to (s.at_ + 1)) A c (.returned (.int .u64 (y % 2))) W) := Lib.hid fun b2 h2 W hB hK hO => ⟨b2, h2, by rw [hbit], by rw [hat]; exact hK, hB.next, hO⟩
  have HST := Lib.hid (fun b2 h2 => rdV_set36 s ok.sl A c b2 h2 (at_ + 1))
  have HSZ := Lib.hid (fun b2 (hb : b2.length = 32) h2 => rdV_size s ok.sl A c b2 hb h2)
  have HC36 := Lib.hid (fun b2 h2 => rdV_at s ok.sl A c b2 h2)
  rw [hat] at HC36
  have HNX := Lib.hid (show IntKind.u64.wrap (at_ + 1) = at_ + 1 by rw [IntKind.wrap_u64]; omega)
  clear hq hxe hy hat hg hrd hkst hbk hbit ok hk p0
  go_enter Tryd.func47, Tryd.ntmps47
  go_wp2
  refine wp_region_held_drew (S := RdS g s A c) (by kernel_rfl) (HSS.out.drew) (fun hH => ?_)
  refine wpAnyH_letter #[false, false, false, false, false, false, false, false, false, false, false, false, false] (by kernel_rfl) (fun _ _ d _ _ h => by cases d <;> exact h) (fun QL HQ1 HQ2 => ?_)
  refine held_v 0 (some 4) rfl (by kernel_rfl) (by kernel_rfl) (by kernel_rfl) (by kernel_rfl) (fun c a v w h => HQ2.out c a _ v w h) (by kernel_rfl) (.pointer (some ⟨g, 0, none⟩)) (fun W h => by kernel_rfl) hH ?_
  try simp only [Act.put, List.setIfInBounds_toArray, List.set_cons_zero, List.set_cons_succ]
  refine held_v 2 (some 6) rfl (by kernel_rfl) (by kernel_rfl) (by kernel_rfl) (by kernel_rfl) (fun c a v w h => HQ2.out c a _ v w h) (by kernel_rfl) (.pointer (some ⟨g, 0, none⟩)) (fun W h => by kernel_rfl) hH ?_
  try simp only [Act.put, List.setIfInBounds_toArray, List.set_cons_zero, List.set_cons_succ]
  refine held_v 3 (some 7) rfl (by kernel_rfl) (by kernel_rfl) (by kernel_rfl) (by kernel_rfl) (fun c a v w h => HQ2.out c a _ v w h) (by kernel_rfl) (.pointer (some ⟨g, 0, none⟩)) (fun W h => by go_simp) hH ?_
  try simp only [Act.put, List.setIfInBounds_toArray, List.set_cons_zero, List.set_cons_succ]
  refine held_v 4 (some 8) rfl (by kernel_rfl) (by kernel_rfl) (by kernel_rfl) (by kernel_rfl) (fun c a v w h => HQ2.out c a _ v w h) (by kernel_rfl) (.pointer (some ⟨g, 0, none⟩)) (fun W h => by kernel_rfl) hH ?_
  try simp only [Act.put, List.setIfInBounds_toArray, List.set_cons_zero, List.set_cons_succ]
  refine held_v 5 (some 9) rfl (by kernel_rfl) (by kernel_rfl) (by kernel_rfl) (by kernel_rfl) (fun c a v w h => HQ2.out c a _ v w h) (by kernel_rfl) (.pointer (some ⟨g, 36, none⟩)) (fun W h => by kernel_rfl) hH ?_
  try simp only [Act.put, List.setIfInBounds_toArray, List.set_cons_zero, List.set_cons_succ]
  refine held_v 6 (some 10) rfl (by kernel_rfl) (by kernel_rfl) (by kernel_rfl) (by kernel_rfl) (fun c a v w h => HQ2.out c a _ v w h) (by kernel_rfl) (.int .u64 at_) (fun W h => by have p := h.at_ HSL.out; rw [HAT.out] at p; go_simp) hH ?_
  try simp only [Act.put, List.setIfInBounds_toArray, List.set_cons_zero, List.set_cons_succ]
  refine held_v 7 (some 11) rfl (by kernel_rfl) (by kernel_rfl) (by kernel_rfl) (by kernel_rfl) (fun c a v w h => HQ2.out c a _ v w h) (by kernel_rfl) (.int .u64 (at_ % 8)) (fun W h => by have p := HM1.out; go_simp) hH ?_
  try simp only [Act.put, List.setIfInBounds_toArray, List.set_cons_zero, List.set_cons_succ]
  refine held_v 8 (some 12) rfl (by kernel_rfl) (by kernel_rfl) (by kernel_rfl) (by kernel_rfl) (fun c a v w h => HQ2.out c a _ v w h) (by kernel_rfl) (.int .u64 q) (fun W h => by have p := HM2.out; go_simp) hH ?_
  try simp only [Act.put, List.setIfInBounds_toArray, List.set_cons_zero, List.set_cons_succ]
  refine wpAnyH_ready (rs := [1]) (by kernel_rfl) (by decide) ?_
  refine AllReadyH.cons rfl (fun K hK => ?_) AllReadyH.nil
  refine step_call (some 5) (by kernel_rfl) (by kernel_rfl) _ _ (by kernel_rfl) _ (HOC.out w.drew HG0.out HRD0.out HKS0.out) ?_
  rintro e w41 ⟨b2, h2, rfl, hk2, hbk2, ho2⟩
  have HK2 := Lib.hid hk2
  have HB2 := Lib.hid hbk2
  have HO2 : Hid (Only g w w41) := Lib.hid ho2.of_drew_l
  clear hk2 hbk2 ho2
  refine ⟨_, rfl, ?_⟩
  refine hK.out _ _ (⟨b2, h2, HK2.out, HB2.out.1⟩) (fun hw41 => ?_)
  clear hK K
  try simp only [Act.put, List.setIfInBounds_toArray, List.set_cons_zero, List.set_cons_succ]
  refine held_v 9 (some 13) rfl (by kernel_rfl) (by kernel_rfl) (by kernel_rfl) (by kernel_rfl) (fun c a v w h => HQ2.out c a _ v w h) (by kernel_rfl) (.int .u8 y) (fun W h => by have p := HM3.out; go_simp) hw41 ?_
  try simp only [Act.put, List.setIfInBounds_toArray, List.set_cons_zero, List.set_cons_succ]
  refine held_v 10 (some 14) rfl (by kernel_rfl) (by kernel_rfl) (by kernel_rfl) (by kernel_rfl) (fun c a v w h => HQ2.out c a _ v w h) (by kernel_rfl) (.int .u64 y) (fun W h => by have p := HM4.out; go_simp) hw41 ?_
  try simp only [Act.put, List.setIfInBounds_toArray, List.set_cons_zero, List.set_cons_succ]
  refine held_v 11 (some 15) rfl (by kernel_rfl) (by kernel_rfl) (by kernel_rfl) (by kernel_rfl) (fun c a v w h => HQ2.out c a _ v w h) (by kernel_rfl) (.int .u64 (y % 2)) (fun W h => by have p := HM5.out; go_simp) hw41 ?_
  try simp only [Act.put, List.setIfInBounds_toArray, List.set_cons_zero, List.set_cons_succ]
  refine held_v 12 (some 3) rfl (by kernel_rfl) (by kernel_rfl) (by kernel_rfl) (by kernel_rfl) (fun c a v w h => HQ2.out c a _ v w h) (by kernel_rfl) (.int .u64 (y % 2)) (fun W h => by kernel_rfl) hw41 ?_
  try simp only [Act.put, List.setIfInBounds_toArray, List.set_cons_zero, List.set_cons_succ]
  refine wpAnyH_done (by kernel_rfl) ?_ _
  refine HQ1.out _ _ ?_
  clear HQ1 HQ2
  have KV := Lib.hid HK2.out
  have L36 := Lib.hid (show 36 < (rdV s A c b2 h2).size by rw [HSZ.out _ HB2.out.1]; omega)
  have c36 := (HK2.out.cell 36).trans (HC36.out b2 h2)
  go_wp2_with (with_reducible refine at_any ?_; refine at_store 24 rfl ?_; refine wpList_store_cell rfl 24 (.tmp 24) (.tmp 21) rfl g 36 rfl 77 _ KV.out (.int .u64 (at_ + 1)) rfl L36.out size_u64s rfl rfl ?_; intro w9 hk9 ho9; have K9 := Lib.hid hk9.out; rw [HST.out] at K9; have O9 := Lib.hid (HO2.out.trans ho9); clear hk9 ho9)
  go_ret
  exact HEND.out _ _ _ HB2.out K9.out O9.out
/-- A source that is read, behind so many bits. -/
def NumI (w : World) (g : Nat) (s : Src) (A : Option Addr) (c : Nat) (w' : World) : Prop := ∃ b h, Blk w' g 77 (rdV s A c b h) ∧ BkA s b h ∧ Only g w w'
theorem or_one (x b : Int) (x0 : 0 ≤ x) (x1 : x < 9223372036854775808) (b0 : 0 ≤ b) (b1 : b < 2) : bits .or .u64 (x * 2) b = 2 * x + b := by
  have h := Wd.u64_or_add x b 1 x0 b0 (by omega) (by omega)
  rw [show (2 : Int) ^ 1 = 2 from rfl] at h
  rw [h]
  omega
set_option maxHeartbeats 4000000 in
theorem qnumr_c (w0 : World) (g : Nat) (s : Src) (A : Option Addr) (c : Nat) (b : List Int) (h : Bool) (ok : s.Ok) (K : Nat) (hK : K ≤ 64) (hk : s.kind = 2 ∨ s.kind = 1 ∧ s.at_ + (K : Int) ≤ 8 * (s.tape.length : Int)) (hnx : s.at_ + (K : Int) < 18446744073709551616) (hbk : BkA s b h) (w : World) (hg : Blk w g 77 (rdV s A c b h)) (hrd : Rd .u8 w0 w0.heap.size A s.tape.length s.tape) (hkst : Kst w0) (hbl : Below w0.heap.size w0 w) (hg0 : w0.heap.size ≤ g) :
    Calls Tryd.prog 40 #[.pointer (some ⟨g, 0, none⟩), .int .i64 K] w (RetNum w g (numS s s.at_ K) (s.to (s.at_ + K)) A c) := by
  have a0 := ok.a0
  have HBT : Hid (∀ (i : Nat), i < K → ∀ W, NumI w g (s.to (s.at_ + i)) A c W → Calls Tryd.prog 47 #[.pointer (some ⟨g, 0, none⟩)] W fun e w' => e = .returned (.int .u64 (bitS s (s.at_ + i))) ∧ NumI w g (s.to (s.at_ + ((i + 1 : Nat) : Int))) A c w') := Lib.hid fun i hi W hI => by
    obtain ⟨b2, h2, hK2, hB2, hO2⟩ := hI
    have hbl2 : Below w0.heap.size w0 W := hbl.trans (hO2.below hg0 hbl.size)
    have hc := qbitr_c g (s.to (s.at_ + i)) A c b2 h2 (ok.to_ _ (by omega) (by omega)) (by
      rcases hk with h3 | ⟨h3, h4⟩
      · exact .inl h3
      · exact .inr ⟨h3, show s.at_ + (i : Int) < 8 * (s.tape.length : Int) by omega⟩) (show s.at_ + (i : Int) + 1 < 18446744073709551616 by omega) hB2 W hK2 ((hrd.below hbl2).mono hbl2.size) (hkst.below hbl2)
    refine hc.mono ?_
    rintro e w' ⟨b3, h3, he, hk3, hb3, ho3⟩
    refine ⟨he, b3, h3, ?_, ?_, hO2.trans ho3⟩
    · rw [show s.at_ + ((i + 1 : Nat) : Int) = (s.to (s.at_ + i)).at_ + 1 from (show s.at_ + ((i + 1 : Nat) : Int) = s.at_ + (i : Int) + 1 by omega)]
      exact hk3
    · rw [show s.at_ + ((i + 1 : Nat) : Int) = (s.to (s.at_ + i)).at_ + 1 from (show s.at_ + ((i + 1 : Nat) : Int) = s.at_ + (i : Int) + 1 by omega)]
      exact hb3
  have HI0 : NumI w g (s.to (s.at_ + ((0 : Nat) : Int))) A c w := by
    rw [Int.natCast_zero, Int.add_zero]
    exact ⟨b, h, hg, hbk, Only.refl g w⟩
  have HI := Lib.hid HI0
  have HEND : Hid (∀ W, NumI w g (s.to (s.at_ + K)) A c W → RetNum w g (numS s s.at_ K) (s.to (s.at_ + K)) A c (.returned (.int .u64 (numS s s.at_ K))) W) := Lib.hid fun W ⟨b2, h2, h3, h4, h5⟩ => ⟨b2, h2, rfl, h3, h4, h5⟩
  have HIN := Lib.hid (fun i => numS_in s s.at_ i)
  have HNX := Lib.hid (fun i => numS_succ s s.at_ i)
  have HPW := Lib.hid (fun (i : Nat) (h : i ≤ 63) => pow2_le i h)
  clear HI0 hg hrd hkst hbl hg0 hbk hk hnx ok a0
  go_enter Tryd.func40, Tryd.ntmps40
  go_wp2
  go_loopw [5, 7] (fun v cc wr => ∃ i : Nat, i ≤ K ∧ v = .int .u64 (numS s s.at_ i) ∧ cc = .int .i64 i ∧ NumI w g (s.to (s.at_ + i)) A c wr) (fun _ cc _ => K - (intOf cc).toNat)
  case atStart => exact ⟨0, by omega, rfl, rfl, HI.out⟩
  case round =>
    clear HI
    obtain ⟨i, hi, rfl, rfl, hF⟩ := hrel
    by_cases hlt : i < K
    · obtain ⟨x0, x1⟩ := HIN.out i
      have hnx := HNX.out i
      have hpw := HPW.out i (by omega)
      obtain ⟨b0, b1⟩ := bitS_in s (s.at_ + i)
      have HB := Lib.hid (fun W => HBT.out i hlt W)
      have HF := Lib.hid hF
      obtain ⟨X, hX⟩ : ∃ x, numS s s.at_ i = x := ⟨_, rfl⟩
      obtain ⟨b, hb⟩ : ∃ x, bitS s (s.at_ + i) = x := ⟨_, rfl⟩
      rw [hX, hb] at hnx
      rw [hX] at x0 x1
      rw [hb] at b0 b1 HB
      rw [hX]
      have HNXi := Lib.hid hnx
      have hxb : X < 9223372036854775808 := by omega
      have HOR := Lib.hid (or_one X b x0 hxb b0 b1)
      have e4 : IntKind.u64.wrap (2 * X) = 2 * X := by rw [IntKind.wrap_u64]; omega
      clear hnx hX hb hF hpw HBT
      go_wp2_with (go_at_call 47; (with_reducible refine (HB.out _ HF.out).mono ?_); rintro e w5 ⟨rfl, hI5⟩; have HI5 := Lib.hid hI5; clear hI5)
      go_roundw
      case rel => exact ⟨i + 1, by omega, by rw [HNXi.out, HOR.out], by go_num, HI5.out⟩
      case measure => simp [intOf]; omega
    · obtain rfl : i = K := by omega
      have HF := Lib.hid hF
      clear hF HIN HNX HPW HBT
      go_wp2
      go_ret
      exact HEND.out _ HF.out
end Go.Proofs.YtomkidgmpbjgeaaDoor
/-
  What the landed tape's calls return (Right, Left, Take, Tape, Stream, Same), and that memory is left as it was.
  Conditions: the arguments lie in their types' ranges; the table of constants holds what the text lays.
-/
set_option maxRecDepth 100000
set_option linter.unusedSimpArgs false
namespace Go.Proofs.YtomkidgmpbjgeaaDoor
open Go.ChangeShapes Go.WideShapes Go.ChangeAt Go.RowKit
set_option linter.unusedVariables false
theorem qhas_c (L : Nat) (b : Int) (tl : L ≤ 140737488355328) (A : Option Addr) (c : Nat) (w : World) : Calls Tryd.prog 37 #[.slice A L c, .int .u64 b] w fun e w' => e = .returned (.bool (decide (b ≤ 8 * (L : Int)))) ∧ w = w' := by
  have e1 : IntKind.u64.wrap ((L : Int) * 8) = L * 8 := by rw [IntKind.wrap_u64]; omega
  rw [Int.mul_comm 8]
  by_cases h1 : b ≤ (L : Int) * 8
  all_goals
    first | rw [decide_eq_true h1] | rw [decide_eq_false h1]
    go_enter Tryd.func37, Tryd.ntmps37
    go_wp2
    go_ret
    exact ⟨rfl, rfl⟩
set_option maxHeartbeats 4000000 in
theorem qsright_c (s : Src) (ok : s.Ok) (A : Option Addr) (c : Nat) (w : World) : Calls Tryd.prog 25 #[.agg (srcV s A c)] w fun e w' => e = .returned (.bool (rightS s)) ∧ Below w.heap.size w w' := by
  have HC := Lib.hid (fun (W : World) (g : Nat) (h : Blk W g 37 (srcV s A c)) => And.intro ((h.cell 0).trans (srcV_kind s A c)) (And.intro ((h.cell 1).trans (srcV_tape s A c)) (And.intro ((h.cell 2).trans (srcV_bits s A c)) ((h.cell 36).trans (srcV_at s ok.sl A c)))))
  have k0 := ok.k0
  have k1 := ok.k1
  have tl := ok.tl
  have b0 := ok.b0
  have b1 := ok.b1
  have a0 := ok.a0
  have a1 := ok.a1
  have hR : rightS s = if s.kind = 1 then decide (s.bits ≤ 8 * (s.tape.length : Int)) && decide (s.at_ ≤ s.bits) else decide (s.kind = 2) && decide (s.at_ ≤ 4611686018427387904) := rfl
  obtain ⟨V, hV⟩ : ∃ V, srcV s A c = V := ⟨_, rfl⟩
  obtain ⟨kd, hkd⟩ : ∃ x, s.kind = x := ⟨_, rfl⟩
  obtain ⟨L, hL⟩ : ∃ x, s.tape.length = x := ⟨_, rfl⟩
  obtain ⟨bt, hbt⟩ : ∃ x, s.bits = x := ⟨_, rfl⟩
  obtain ⟨at_, hat⟩ : ∃ x, s.at_ = x := ⟨_, rfl⟩
  rw [hV, hkd, hL, hbt, hat] at HC
  rw [hkd, hL, hbt, hat] at hR
  rw [hkd] at k0 k1
  rw [hL] at tl
  rw [hbt] at b0 b1
  rw [hat] at a0 a1
  rw [hV, hR]
  clear hV hkd hL hbt hat hR ok
  have HH := Lib.hid (fun W => qhas_c L bt tl A c W)
  by_cases hk : kd = 1
  · rw [if_pos hk]
    subst hk
    by_cases h1 : bt ≤ 8 * (L : Int)
    all_goals
      first | rw [decide_eq_true h1] at HH ⊢ | rw [decide_eq_false h1] at HH ⊢
      first | rw [Bool.true_and] | rw [Bool.false_and]
      go_enter Tryd.func25, Tryd.ntmps25
      go_wp2_with (first
        | (with_reducible refine at_any ?_; refine at_dst 1 rfl ?_; refine wpList_box_any rfl 37 (.tmp 0) rfl V rfl ?_; intro w1 hk1 hs1 hb1; have c0 := (HC.out _ _ hk1.out).1; have c1 := (HC.out _ _ hk1.out).2.1; have c2 := (HC.out _ _ hk1.out).2.2.1; have c3 := (HC.out _ _ hk1.out).2.2.2)
        | (go_at_call 37; (with_reducible refine (HH.out _).mono ?_); rintro e _ ⟨rfl, rfl⟩))
      go_ret
      exact ⟨rfl, hb1⟩
  · rw [if_neg hk]
    have t1 : (kd == 1) = false := by rw [beq_eq_false_iff_ne]; exact hk
    by_cases h1 : kd = 2
    all_goals
      first | rw [decide_eq_true h1] | rw [decide_eq_false h1]
      first | rw [Bool.true_and] | rw [Bool.false_and]
      first | subst h1 | (have t2 : (kd == 2) = false := by rw [beq_eq_false_iff_ne]; exact h1)
      go_enter Tryd.func25, Tryd.ntmps25
      go_wp2_with (with_reducible refine at_any ?_; refine at_dst 1 rfl ?_; refine wpList_box_any rfl 37 (.tmp 0) rfl V rfl ?_; intro w1 hk1 hs1 hb1; have c0 := (HC.out _ _ hk1.out).1; have c1 := (HC.out _ _ hk1.out).2.1; have c2 := (HC.out _ _ hk1.out).2.2.1; have c3 := (HC.out _ _ hk1.out).2.2.2)
      go_ret
      exact ⟨rfl, hb1⟩
set_option maxHeartbeats 4000000 in
theorem qsleft_c (s : Src) (ok : s.Ok) (A : Option Addr) (c : Nat) (w : World) : Calls Tryd.prog 39 #[.agg (srcV s A c)] w fun e w' => e = .returned (.int .u64 (leftS s)) ∧ Below w.heap.size w w' := by
  have HC := Lib.hid (fun (W : World) (g : Nat) (h : Blk W g 37 (srcV s A c)) => And.intro ((h.cell 0).trans (srcV_kind s A c)) (And.intro ((h.cell 2).trans (srcV_bits s A c)) ((h.cell 36).trans (srcV_at s ok.sl A c))))
  have HRT := Lib.hid (fun W => qsright_c s ok A c W)
  have SV := Lib.hid (sizedS s ok.sl A c)
  have k0 := ok.k0
  have k1 := ok.k1
  have b0 := ok.b0
  have b1 := ok.b1
  have a0 := ok.a0
  have a1 := ok.a1
  have hl := left_le ok
  have hL : leftS s = if rightS s = true then (if s.kind = 1 then s.bits - s.at_ else 4611686018427387904 - s.at_) else 0 := rfl
  obtain ⟨V, hV⟩ : ∃ V, srcV s A c = V := ⟨_, rfl⟩
  obtain ⟨kd, hkd⟩ : ∃ x, s.kind = x := ⟨_, rfl⟩
  obtain ⟨bt, hbt⟩ : ∃ x, s.bits = x := ⟨_, rfl⟩
  obtain ⟨at_, hat⟩ : ∃ x, s.at_ = x := ⟨_, rfl⟩
  obtain ⟨r, hr⟩ : ∃ x, rightS s = x := ⟨_, rfl⟩
  rw [hV, hkd, hbt, hat] at HC
  rw [hV, hr] at HRT
  rw [hV] at SV
  rw [hkd, hbt, hat, hr] at hL
  rw [hkd] at k0 k1
  rw [hbt] at b0 b1
  rw [hat] at a0 a1
  rw [hV]
  rw [hL] at hl
  rw [hL]
  clear hV hkd hbt hat hr hL ok
  cases r
  · rw [if_neg (by decide)]
    go_enter Tryd.func39, Tryd.ntmps39
    go_wp2_with (first
      | (with_reducible refine at_any ?_; refine at_dst 1 rfl ?_; refine wpList_box_any rfl 37 (.tmp 0) rfl V rfl ?_; intro w1 hk1 hs1 hb1)
      | (with_reducible refine at_any ?_; refine at_dst 3 rfl ?_; refine wpList_load_blk rfl 37 (.tmp 1) rfl w.heap.size rfl 37 V hk1.out _ Tryd.underlying37 rfl SV.out ?_)
      | (go_at_call 25; (with_reducible refine (HRT.out _).mono ?_); rintro e w2 ⟨rfl, hb2⟩))
    go_ret
    exact ⟨rfl, hb1.trans (hb2.mono hb1.size)⟩
  · rw [if_pos rfl] at hl ⊢
    by_cases hk : kd = 1
    all_goals
      first | rw [if_pos hk] at hl ⊢ | rw [if_neg hk] at hl ⊢
      first | subst hk | (have t1 : (kd == 1) = false := by rw [beq_eq_false_iff_ne]; exact hk)
      first | (have e1 : IntKind.u64.wrap (bt - at_) = bt - at_ := by rw [IntKind.wrap_u64]; omega) | (have e2 : IntKind.u64.wrap (4611686018427387904 - at_) = 4611686018427387904 - at_ := by rw [IntKind.wrap_u64]; omega)
      go_enter Tryd.func39, Tryd.ntmps39
      go_wp2_with (first
        | (with_reducible refine at_any ?_; refine at_dst 1 rfl ?_; refine wpList_box_any rfl 37 (.tmp 0) rfl V rfl ?_; intro w1 hk1 hs1 hb1)
        | (with_reducible refine at_any ?_; refine at_dst 3 rfl ?_; refine wpList_load_blk rfl 37 (.tmp 1) rfl w.heap.size rfl 37 V hk1.out _ Tryd.underlying37 rfl SV.out ?_)
        | (go_at_call 25; (with_reducible refine (HRT.out _).mono ?_); rintro e w2 ⟨rfl, hb2⟩; have k2 := hk1.out.below hb2 hk1.out.lt; have c0 := (HC.out _ _ k2).1; have c2 := (HC.out _ _ k2).2.1; have c3 := (HC.out _ _ k2).2.2))
      go_ret
      exact ⟨rfl, hb1.trans (hb2.mono hb1.size)⟩
set_option maxHeartbeats 4000000 in
theorem qstake_c (s : Src) (ok : s.Ok) (k : Int) (k0 : -9223372036854775808 ≤ k) (k1 : k < 9223372036854775808) (A : Option Addr) (c : Nat) (hc : s.tape.length ≤ c) (hcm : c ≤ maxLen) (w : World) (hrd : Rd .u8 w w.heap.size A s.tape.length s.tape) (hkst : Kst w) : Calls Tryd.prog 28 #[.agg (srcV s A c), .int .i64 k] w (RetTake w s k A) := by
  have HRT := Lib.hid (fun W => qsright_c s ok A c W)
  have HLT := Lib.hid (fun W => qsleft_c s ok A c W)
  have hll := left_le ok
  have SV := Lib.hid (sizedS s ok.sl A c)
  have OV := Lib.hid (srcV_ones s A c)
  have ZV := Lib.hid (srcV_same Src.zero s rfl ok.sl none A 0 c)
  have HZ0 := Lib.hid zero_src
  obtain ⟨Z, hZ⟩ : ∃ Z, srcV Src.zero none 0 = Z := ⟨_, rfl⟩
  rw [hZ] at ZV HZ0
  have hRd := Lib.hid hrd
  have HKS := Lib.hid hkst
  by_cases hbad : ¬ (rightS s = true ∧ 0 ≤ k ∧ k ≤ 64)
  · have hE : takeE s k = 1 := by unfold takeE; rw [if_neg hbad]
    have HEND : Hid (∀ w', Below w.heap.size w w' → RetTake w s k A (.returned (.tuple #[.int .u64 0, .agg (srcV s A c), .int .i64 1])) w') := Lib.hid (fun w' hb => ⟨A, c, by unfold takeV takeS; rw [hE]; rfl, (hRd.out.below hb).mono hb.size, hc, hcm, .inl rfl, hb⟩)
    obtain ⟨V, hV⟩ : ∃ V, srcV s A c = V := ⟨_, rfl⟩
    rw [hV] at HRT HLT SV OV ZV HEND
    rw [hV]
    have hcase : (rightS s = false) ∨ (rightS s = true ∧ k < 0) ∨ (rightS s = true ∧ ¬ k < 0 ∧ 64 < k) := by
      cases h : rightS s
      · exact .inl rfl
      · refine .inr ?_
        by_cases h0 : k < 0
        · exact .inl ⟨rfl, h0⟩
        · exact .inr ⟨rfl, h0, Decidable.byContradiction fun h7 => hbad ⟨h, by omega, by omega⟩⟩
    clear hZ hV hE hbad hll hrd hkst
    rcases hcase with hr | ⟨hr, h0⟩ | ⟨hr, h0, h6⟩
    all_goals
      rw [hr] at HRT
      go_enter Tryd.func28, Tryd.ntmps28
      go_wp2_with (first
        | (with_reducible refine at_any ?_; refine at_dst 2 rfl ?_; refine wpList_box_any rfl 37 (.tmp 0) rfl V rfl ?_; intro w1 hk1 hs1 hb1)
        | (with_reducible refine at_any ?_; refine at_dst 5 rfl ?_; refine wpList_alloc_any rfl 37 rfl Z HZ0.out ?_; intro w2 hk2 hs2 hb2; have k2 := Lib.hid (hk1.out.below hb2 hk1.out.lt); have bl2 := Lib.hid (hb1.trans (hb2.mono hb1.size)))
        | (with_reducible refine at_any ?_; refine at_dst 9 rfl ?_; refine wpList_load_blk rfl 37 (.tmp 2) rfl w.heap.size rfl 37 V k2.out _ Tryd.underlying37 rfl SV.out ?_)
        | (go_at_call 25; (with_reducible refine (HRT.out _).mono ?_); rintro e wz ⟨rfl, hbz⟩))
      have HB2 : Src2 w w.heap.size w1.heap.size V Z wz := ⟨hk2.out.below hbz hk2.out.lt, k2.out.below hbz k2.out.lt, bl2.out.trans (hbz.mono bl2.out.size), trivial⟩
      have h25 : w.heap.size < w1.heap.size := by rw [hs1.out]; omega
      obtain ⟨g2, hg2⟩ : ∃ g, w.heap.size = g := ⟨_, rfl⟩
      obtain ⟨g5, hg5⟩ : ∃ g, w1.heap.size = g := ⟨_, rfl⟩
      have h02 : w.heap.size ≤ g2 := by omega
      rw [hg2, hg5] at HB2 h25
      rw [hg2, hg5]
      clear hg2 hg5 hk1 hs1 hb1 hk2 hs2 hb2 k2 bl2 hbz
      have hS := HB2.keep.drew
      have HZ5 := HB2.old.drew
      refine wp_region_held_drew (S := (Fx [.blk g2 37 V, .bel w])) (by kernel_rfl) hS (fun hH => ?_)
      refine wpAnyH_letter #[false, false, false, false] (by kernel_rfl) (fun _ _ d _ _ h => by cases d <;> exact h) (fun QL HQ1 HQ2 => ?_)
      refine held_row 0 (some 20) rfl (by kernel_rfl) (by kernel_rfl) (by kernel_rfl) (by kernel_rfl) (fun c a v w h => HQ2.out c a _ v w h) (by kernel_rfl) 37 (.tmp 2) rfl g2 (by kernel_rfl) 37 V (fun _ h => h.1) _ Tryd.underlying37 rfl SV.out hH ?_
      try simp only [Act.put, List.setIfInBounds_toArray, List.set_cons_zero, List.set_cons_succ]
      refine held_v 1 (some 4) rfl (by kernel_rfl) (by kernel_rfl) (by kernel_rfl) (by kernel_rfl) (fun c a v w h => HQ2.out c a _ v w h) (by kernel_rfl) (.int .u64 0) (fun W h => by kernel_rfl) hH ?_
      try simp only [Act.put, List.setIfInBounds_toArray, List.set_cons_zero, List.set_cons_succ]
      refine wpAnyH_ready (rs := [2]) (by kernel_rfl) (by decide) ?_
      refine AllReadyH.cons rfl (fun K hK => ?_) AllReadyH.nil
      refine step_store none (by kernel_rfl) (by kernel_rfl) 37 (.tmp 5) (.tmp 20) rfl g5 (by kernel_rfl) 37 Z V HZ5.1 (by kernel_rfl) ZV.out SV.out OV.out ?_
      intro w41 hkw41 hsw41 hbw41 how41
      have ex42 : Fx [.blk g5 37 V] w41 := ⟨hkw41.out, trivial⟩
      refine hK.out _ _ (hH.store HZ5.1 ⟨Nat.ne_of_lt h25, Nat.le_trans h02 (Nat.le_of_lt h25), trivial⟩ hsw41.out hbw41 how41) (fun hw41 => ?_)
      clear hK K
      try simp only [Act.put, List.setIfInBounds_toArray, List.set_cons_zero, List.set_cons_succ]
      refine held_v 3 (some 6) rfl (by kernel_rfl) (by kernel_rfl) (by kernel_rfl) (by kernel_rfl) (fun c a v w h => HQ2.out c a _ v w h) (by kernel_rfl) (.int .i64 1) (fun W h => by kernel_rfl) hw41 ?_
      try simp only [Act.put, List.setIfInBounds_toArray, List.set_cons_zero, List.set_cons_succ]
      refine wpAnyH_done (by kernel_rfl) ?_ _
      refine HQ1.out _ _ ?_
      clear HQ1 HQ2
      go_wp2_with (refine bodyPost_mid 4 5 6 37 rfl g5 rfl (.int .u64 0) (.int .i64 1) rfl rfl 37 V ex42.1 _ Tryd.underlying37 rfl SV.out rfl ?_)
      exact HEND.out _ hw41.2.1
  · have hgood : rightS s = true ∧ 0 ≤ k ∧ k ≤ 64 := Decidable.of_not_not hbad
    obtain ⟨hr, kk0, kk1⟩ := hgood
    have ng0 : ¬ k < 0 := by omega
    have ng1 : ¬ 64 < k := by omega
    rw [hr] at HRT
    obtain ⟨K, rfl⟩ := Int.eq_ofNat_of_zero_le kk0
    have e3 : IntKind.u64.wrap (K : Int) = K := by rw [IntKind.wrap_u64]; omega
    clear k0 k1
    obtain ⟨lf, hlf⟩ : ∃ x, leftS s = x := ⟨_, rfl⟩
    rw [hlf] at HLT hll
    by_cases hmore : lf < (K : Int)
    · have hE : takeE s (K : Int) = 8 := by unfold takeE; rw [if_pos ⟨hr, kk0, kk1⟩, hlf, if_neg (by omega)]
      have HEND : Hid (∀ w', Below w.heap.size w w' → RetTake w s (K : Int) A (.returned (.tuple #[.int .u64 0, .agg (srcV s A c), .int .i64 8])) w') := Lib.hid (fun w' hb => ⟨A, c, by unfold takeV takeS; rw [hE]; rfl, (hRd.out.below hb).mono hb.size, hc, hcm, .inl rfl, hb⟩)
      obtain ⟨V, hV⟩ : ∃ V, srcV s A c = V := ⟨_, rfl⟩
      rw [hV] at HRT HLT SV OV ZV HEND
      rw [hV]
      clear hZ hV hE hbad hrd hlf hkst
      go_enter Tryd.func28, Tryd.ntmps28
      go_wp2_with (first
        | (with_reducible refine at_any ?_; refine at_dst 2 rfl ?_; refine wpList_box_any rfl 37 (.tmp 0) rfl V rfl ?_; intro w1 hk1 hs1 hb1)
        | (with_reducible refine at_any ?_; refine at_dst 5 rfl ?_; refine wpList_alloc_any rfl 37 rfl Z HZ0.out ?_; intro w2 hk2 hs2 hb2; have k2 := Lib.hid (hk1.out.below hb2 hk1.out.lt); have bl2 := Lib.hid (hb1.trans (hb2.mono hb1.size)))
        | (with_reducible refine at_any ?_; refine at_dst 9 rfl ?_; refine wpList_load_blk rfl 37 (.tmp 2) rfl w.heap.size rfl 37 V k2.out _ Tryd.underlying37 rfl SV.out ?_)
        | (go_at_call 25; (with_reducible refine (HRT.out _).mono ?_); rintro e wy ⟨rfl, hby⟩; have k2y := Lib.hid (k2.out.below hby k2.out.lt); have bly := Lib.hid (bl2.out.trans (hby.mono bl2.out.size)))
        | (with_reducible refine at_any ?_; refine at_dst 23 rfl ?_; refine wpList_load_blk rfl 37 (.tmp 2) rfl w.heap.size rfl 37 V k2y.out _ Tryd.underlying37 rfl SV.out ?_)
        | (go_at_call 39; (with_reducible refine (HLT.out _).mono ?_); rintro e wz ⟨rfl, hbz⟩))
      have HB2 : Src2 w w.heap.size w1.heap.size V Z wz := ⟨(hk2.out.below hby hk2.out.lt).below hbz (hk2.out.below hby hk2.out.lt).lt, k2y.out.below hbz k2y.out.lt, bly.out.trans (hbz.mono bly.out.size), trivial⟩
      have h25 : w.heap.size < w1.heap.size := by rw [hs1.out]; omega
      obtain ⟨g2, hg2⟩ : ∃ g, w.heap.size = g := ⟨_, rfl⟩
      obtain ⟨g5, hg5⟩ : ∃ g, w1.heap.size = g := ⟨_, rfl⟩
      have h02 : w.heap.size ≤ g2 := by omega
      rw [hg2, hg5] at HB2 h25
      rw [hg2, hg5]
      clear hg2 hg5 hk1 hs1 hb1 hk2 hs2 hb2 k2 bl2 hbz hby k2y bly
      have hS := HB2.keep.drew
      have HZ5 := HB2.old.drew
      refine wp_region_held_drew (S := (Fx [.blk g2 37 V, .bel w])) (by kernel_rfl) hS (fun hH => ?_)
      refine wpAnyH_letter #[false, false, false, false] (by kernel_rfl) (fun _ _ d _ _ h => by cases d <;> exact h) (fun QL HQ1 HQ2 => ?_)
      refine held_row 0 (some 26) rfl (by kernel_rfl) (by kernel_rfl) (by kernel_rfl) (by kernel_rfl) (fun c a v w h => HQ2.out c a _ v w h) (by kernel_rfl) 37 (.tmp 2) rfl g2 (by kernel_rfl) 37 V (fun _ h => h.1) _ Tryd.underlying37 rfl SV.out hH ?_
      try simp only [Act.put, List.setIfInBounds_toArray, List.set_cons_zero, List.set_cons_succ]
      refine held_v 1 (some 4) rfl (by kernel_rfl) (by kernel_rfl) (by kernel_rfl) (by kernel_rfl) (fun c a v w h => HQ2.out c a _ v w h) (by kernel_rfl) (.int .u64 0) (fun W h => by kernel_rfl) hH ?_
      try simp only [Act.put, List.setIfInBounds_toArray, List.set_cons_zero, List.set_cons_succ]
      refine wpAnyH_ready (rs := [2]) (by kernel_rfl) (by decide) ?_
      refine AllReadyH.cons rfl (fun K hK => ?_) AllReadyH.nil
      refine step_store none (by kernel_rfl) (by kernel_rfl) 37 (.tmp 5) (.tmp 26) rfl g5 (by kernel_rfl) 37 Z V HZ5.1 (by kernel_rfl) ZV.out SV.out OV.out ?_
      intro w41 hkw41 hsw41 hbw41 how41
      have ex42 : Fx [.blk g5 37 V] w41 := ⟨hkw41.out, trivial⟩
      refine hK.out _ _ (hH.store HZ5.1 ⟨Nat.ne_of_lt h25, Nat.le_trans h02 (Nat.le_of_lt h25), trivial⟩ hsw41.out hbw41 how41) (fun hw41 => ?_)
      clear hK K
      try simp only [Act.put, List.setIfInBounds_toArray, List.set_cons_zero, List.set_cons_succ]
      refine held_v 3 (some 6) rfl (by kernel_rfl) (by kernel_rfl) (by kernel_rfl) (by kernel_rfl) (fun c a v w h => HQ2.out c a _ v w h) (by kernel_rfl) (.int .i64 8) (fun W h => by kernel_rfl) hw41 ?_
      try simp only [Act.put, List.setIfInBounds_toArray, List.set_cons_zero, List.set_cons_succ]
      refine wpAnyH_done (by kernel_rfl) ?_ _
      refine HQ1.out _ _ ?_
      clear HQ1 HQ2
      go_wp2_with (refine bodyPost_mid 4 5 6 37 rfl g5 rfl (.int .u64 0) (.int .i64 8) rfl rfl 37 V ex42.1 _ Tryd.underlying37 rfl SV.out rfl ?_)
      exact HEND.out _ hw41.2.1
    · have hle : (K : Int) ≤ lf := by omega
      have hE : takeE s (K : Int) = 0 := by unfold takeE; rw [if_pos ⟨hr, kk0, kk1⟩, hlf, if_pos hle]
      have hat : s.at_ + lf < 18446744073709551616 := by
        rcases rightS_end hr with h | h
        · rw [hlf] at h; exact h.1
        · exact absurd ok h
      have a0 := ok.a0
      have hnum : takeV s (K : Int) = numS s s.at_ K := by unfold takeV; rw [if_pos hE, Int.toNat_natCast]
      have hsrc : takeS s (K : Int) = s.to (s.at_ + K) := by unfold takeS; rw [if_pos hE]
      have hkd : s.kind = 2 ∨ s.kind = 1 ∧ s.at_ + (K : Int) ≤ 8 * (s.tape.length : Int) := by
        unfold leftS at hlf
        rw [if_pos hr] at hlf
        unfold rightS at hr
        split at hr
        · rename_i h1
          rw [if_pos h1] at hlf
          simp at hr
          exact .inr ⟨h1, by omega⟩
        · simp at hr
          exact .inl hr.1
      have HNUM := Lib.hid (fun (g : Nat) (W : World) hg (hbl : Below w.heap.size w W) (hg0 : w.heap.size ≤ g) => qnumr_c w g s A c (List.replicate 32 0) false ok K (by omega) hkd (by omega) (BkA.zero s) W hg hrd hkst hbl hg0)
      have BR := Lib.hid (fun (a : Act) (o : Oper) (x : Operand) (W : World) h1 h2 => build_rd (a := a) (o := o) (x := x) W s ok.sl A c h1 h2)
      have SRV := Lib.hid (sizedR s ok.sl A c (List.replicate 32 0) (by simp) false)
      have ORV := Lib.hid (rdV_ones s A c (List.replicate 32 0) false)
      have ZRV := Lib.hid (show (rdV Src.zero none 0 (List.replicate 32 0) false).size = (rdV s A c (List.replicate 32 0) false).size by rw [rdV_size _ rfl _ _ _ (by simp), rdV_size _ ok.sl _ _ _ (by simp)])
      have HZR := Lib.hid zero_rdg
      have SV2 := Lib.hid (sizedS (s.to (s.at_ + K)) ok.sl A c)
      have OV2 := Lib.hid (srcV_ones (s.to (s.at_ + K)) A c)
      have ZV2 := Lib.hid (srcV_same Src.zero (s.to (s.at_ + K)) rfl ok.sl none A 0 c)
      have HSR := Lib.hid (fun (W : World) (g : Nat) (b : List Int) (h : Bool) (hk : Blk W g 77 (rdV (s.to (s.at_ + K)) A c b h)) => rdV_src hk)
      have HEND : Hid (∀ w', Below w.heap.size w w' → RetTake w s (K : Int) A (.returned (.tuple #[.int .u64 (numS s s.at_ K), .agg (srcV (s.to (s.at_ + K)) A c), .int .i64 0])) w') := Lib.hid (fun w' hb => ⟨A, c, by rw [hnum, hsrc, hE], (hRd.out.below hb).mono hb.size, hc, hcm, .inl rfl, hb⟩)
      rw [hZ] at ZV2
      obtain ⟨V, hV⟩ : ∃ V, srcV s A c = V := ⟨_, rfl⟩
      rw [hV] at HRT HLT SV OV ZV BR
      rw [hV]
      obtain ⟨X0, hX0⟩ : ∃ X, rdV s A c (List.replicate 32 0) false = X := ⟨_, rfl⟩
      rw [hX0] at BR SRV ORV ZRV HNUM
      obtain ⟨Y0, hY0⟩ : ∃ X, rdV Src.zero none 0 (List.replicate 32 0) false = X := ⟨_, rfl⟩
      rw [hY0] at ZRV HZR
      obtain ⟨V2, hV2⟩ : ∃ V, srcV (s.to (s.at_ + K)) A c = V := ⟨_, rfl⟩
      rw [hV2] at SV2 OV2 ZV2 HEND
      have HV2 := Lib.hid hV2
      obtain ⟨N, hN⟩ : ∃ x, numS s s.at_ K = x := ⟨_, rfl⟩
      rw [hN] at HEND HNUM
      clear hZ hV hE hbad hrd hlf hnum hsrc hkd hr hkst hX0 hY0 hV2 hN
      go_enter Tryd.func28, Tryd.ntmps28
      go_wp2_with (first
        | (with_reducible refine at_any ?_; refine at_dst 2 rfl ?_; refine wpList_box_any rfl 37 (.tmp 0) rfl V rfl ?_; intro w1 hk1 hs1 hb1)
        | (with_reducible refine at_any ?_; refine at_dst 5 rfl ?_; refine wpList_alloc_any rfl 37 rfl Z HZ0.out ?_; intro w2 hk2 hs2 hb2; have k2 := Lib.hid (hk1.out.below hb2 hk1.out.lt); have bl2 := Lib.hid (hb1.trans (hb2.mono hb1.size)))
        | (with_reducible refine at_any ?_; refine at_dst 9 rfl ?_; refine wpList_load_blk rfl 37 (.tmp 2) rfl w.heap.size rfl 37 V k2.out _ Tryd.underlying37 rfl SV.out ?_)
        | (go_at_call 25; (with_reducible refine (HRT.out _).mono ?_); rintro e wy ⟨rfl, hby⟩; have k2y := Lib.hid (k2.out.below hby k2.out.lt); have k5y := Lib.hid (hk2.out.below hby hk2.out.lt); have bly := Lib.hid (bl2.out.trans (hby.mono bl2.out.size)))
        | (with_reducible refine at_any ?_; refine at_dst 23 rfl ?_; refine wpList_load_blk rfl 37 (.tmp 2) rfl w.heap.size rfl 37 V k2y.out _ Tryd.underlying37 rfl SV.out ?_)
        | (go_at_call 39; (with_reducible refine (HLT.out _).mono ?_); rintro e wz ⟨rfl, hbz⟩; have k2z := Lib.hid (k2y.out.below hbz k2y.out.lt); have k5z := Lib.hid (k5y.out.below hbz k5y.out.lt); have blz := Lib.hid (bly.out.trans (hbz.mono bly.out.size)))
        | (with_reducible refine at_any ?_; refine at_dst 27 rfl ?_; refine wpList_load_blk rfl 37 (.tmp 2) rfl w.heap.size rfl 37 V k2z.out _ Tryd.underlying37 rfl SV.out ?_)
        | (with_reducible refine at_any ?_; refine at_dst 28 rfl ?_; refine wpList_val rfl (.agg X0) (BR.out _ _ _ _ rfl rfl) ?_)
        | (with_reducible refine at_any ?_; refine at_dst 7 rfl ?_; refine wpList_alloc_any rfl 77 rfl Y0 HZR.out ?_; intro w7 hk7 hs7 hb7; have k57 := Lib.hid (k5z.out.below hb7 k5z.out.lt); have bl7 := Lib.hid (blz.out.trans (hb7.mono blz.out.size)))
        | (with_reducible refine at_any ?_; refine at_store 7 rfl ?_; refine wpList_store_any rfl 77 (.tmp 7) (.tmp 28) rfl wz.heap.size rfl 77 Y0 X0 hk7.out rfl ZRV.out SRV.out ORV.out ?_; intro w8 hk8 hs8 hb8 ho8; have bl8 := Lib.hid (bl7.out.trans (hb8 _ blz.out.size)))
        | (go_at_call 40; (with_reducible refine (HNUM.out wz.heap.size w8 hk8.out bl8.out blz.out.size).mono ?_); rintro e w9 ⟨b9, h9, rfl, hk9, hb9, ho9⟩; have HK9 := Lib.hid hk9; have HO9 := Lib.hid ho9; clear hk9 hb9 ho9))
      have h57 : w1.heap.size < wz.heap.size := by
        have h1 := hs2.out
        have h2 := hby.size
        have h3 := hbz.size
        omega
      have h05 : w.heap.size ≤ w1.heap.size := hb1.size
      have HSRC := Lib.hid (fun (W : World) (hk : Blk W wz.heap.size 77 (rdV (s.to (s.at_ + K)) A c b9 h9)) => HSR.out W _ b9 h9 hk)
      rw [HV2.out] at HSRC
      have K9 := HK9.out
      have B9 : Below w.heap.size w w9 := bl8.out.trans (HO9.out.below blz.out.size bl8.out.size)
      have K5 : Blk w9 w1.heap.size 37 Z := Blk.only (Blk.other k57.out ho8 (Nat.ne_of_lt h57)) HO9.out (Nat.ne_of_lt h57)
      obtain ⟨X9, hX9⟩ : ∃ X, rdV (s.to (s.at_ + K)) A c b9 h9 = X := ⟨_, rfl⟩
      rw [hX9] at HSRC K9
      obtain ⟨g7, hg7⟩ : ∃ g, wz.heap.size = g := ⟨_, rfl⟩
      obtain ⟨g5, hg5⟩ : ∃ g, w1.heap.size = g := ⟨_, rfl⟩
      rw [hg7] at K9 HSRC
      rw [hg5] at K5 h05
      rw [hg7, hg5] at h57
      rw [hg7, hg5]
      have hS : Fx [.blk g7 77 X9, .bel w] w9.drew := Fx.drew ⟨K9, B9, trivial⟩
      have HZ5 : Fx [.blk g5 37 Z] w9.drew := Fx.drew ⟨K5, trivial⟩
      clear hg7 hg5 hX9 K9 K5 B9 HK9 HO9 hk1 hs1 hb1 hk2 hs2 hb2 k2 bl2 hby k2y k5y bly hbz k2z k5z blz hk7 hs7 hb7 k57 bl7 hk8 hs8 hb8 ho8 bl8
      refine wp_region_held_drew (S := (Fx [.blk g7 77 X9, .bel w])) (by kernel_rfl) hS (fun hH => ?_)
      refine wpAnyH_letter #[false, false, false, false, false, false] (by kernel_rfl) (fun _ _ d _ _ h => by cases d <;> exact h) (fun QL HQ1 HQ2 => ?_)
      refine held_v 0 (some 31) rfl (by kernel_rfl) (by kernel_rfl) (by kernel_rfl) (by kernel_rfl) (fun c a v w h => HQ2.out c a _ v w h) (by kernel_rfl) (.int .u64 N) (fun W h => by kernel_rfl) hH ?_
      try simp only [Act.put, List.setIfInBounds_toArray, List.set_cons_zero, List.set_cons_succ]
      refine held_v 1 (some 32) rfl (by kernel_rfl) (by kernel_rfl) (by kernel_rfl) (by kernel_rfl) (fun c a v w h => HQ2.out c a _ v w h) (by kernel_rfl) (.pointer (some ⟨g7, 0, none⟩)) (fun W h => by kernel_rfl) hH ?_
      try simp only [Act.put, List.setIfInBounds_toArray, List.set_cons_zero, List.set_cons_succ]
      refine held_load_arr 2 (some 33) rfl (by kernel_rfl) (by kernel_rfl) (by kernel_rfl) (by kernel_rfl) (fun c a v w h => HQ2.out c a _ v w h) (by kernel_rfl) 37 (.tmp 32) rfl g7 0 (by kernel_rfl) V2 (fun W h => HSRC.out W h.1) _ Tryd.underlying37 rfl SV2.out hH ?_
      try simp only [Act.put, List.setIfInBounds_toArray, List.set_cons_zero, List.set_cons_succ]
      refine held_v 3 (some 4) rfl (by kernel_rfl) (by kernel_rfl) (by kernel_rfl) (by kernel_rfl) (fun c a v w h => HQ2.out c a _ v w h) (by kernel_rfl) (.int .u64 N) (fun W h => by kernel_rfl) hH ?_
      try simp only [Act.put, List.setIfInBounds_toArray, List.set_cons_zero, List.set_cons_succ]
      refine wpAnyH_ready (rs := [4]) (by kernel_rfl) (by decide) ?_
      refine AllReadyH.cons rfl (fun K hK => ?_) AllReadyH.nil
      refine step_store none (by kernel_rfl) (by kernel_rfl) 37 (.tmp 5) (.tmp 33) rfl g5 (by kernel_rfl) 37 Z V2 HZ5.1 (by kernel_rfl) ZV2.out SV2.out OV2.out ?_
      intro w41 hkw41 hsw41 hbw41 how41
      have ex42 : Fx [.blk g5 37 V2] w41 := ⟨hkw41.out, trivial⟩
      refine hK.out _ _ (hH.store HZ5.1 ⟨Nat.ne_of_gt h57, h05, trivial⟩ hsw41.out hbw41 how41) (fun hw41 => ?_)
      clear hK K
      try simp only [Act.put, List.setIfInBounds_toArray, List.set_cons_zero, List.set_cons_succ]
      refine held_v 5 (some 6) rfl (by kernel_rfl) (by kernel_rfl) (by kernel_rfl) (by kernel_rfl) (fun c a v w h => HQ2.out c a _ v w h) (by kernel_rfl) (.int .i64 0) (fun W h => by kernel_rfl) hw41 ?_
      try simp only [Act.put, List.setIfInBounds_toArray, List.set_cons_zero, List.set_cons_succ]
      refine wpAnyH_done (by kernel_rfl) ?_ _
      refine HQ1.out _ _ ?_
      clear HQ1 HQ2
      go_wp2_with (refine bodyPost_mid 4 5 6 37 rfl g5 rfl (.int .u64 N) (.int .i64 0) rfl rfl 37 V2 ex42.1 _ Tryd.underlying37 rfl SV2.out rfl ?_)
      exact HEND.out _ hw41.2.1
end Go.Proofs.YtomkidgmpbjgeaaDoor
/-
  What the landed uniform's functions return (Need, bounds, Draw), and that memory is left as it was.
  Conditions: the arguments lie in their types' ranges; the table of constants holds what the text lays.
-/
set_option maxRecDepth 100000
set_option linter.unusedSimpArgs false
namespace Go.Proofs.YtomkidgmpbjgeaaDoor
open Go.ChangeShapes Go.WideShapes Go.ChangeAt Go.RowKit
set_option linter.unusedVariables false
theorem q8need_c (n : Int) (n0 : 0 ≤ n) (n1 : n < 18446744073709551616) (w : World) : Calls Tryd.prog 27 #[.int .u64 n] w fun e w' => e = .returned (.int .i64 (needN n : Nat)) ∧ w = w' := by
  by_cases h : n = 0
  · subst h
    go_enter Tryd.func27, Tryd.ntmps27
    go_wp2
    go_ret
    exact ⟨rfl, rfl⟩
  · have HB := Lib.hid (fun W => bits_i (n - 1) (by omega) (by omega) W)
    have hR : needN n = Wd.bitsL (n - 1).toNat := by unfold needN; rw [if_neg h]
    rw [hR]
    obtain ⟨B, hB⟩ : ∃ B, Wd.bitsL (n - 1).toNat = B := ⟨_, rfl⟩
    rw [hB] at HB ⊢
    have t1 : (n == 0) = false := by rw [beq_eq_false_iff_ne]; exact h
    have e1 : IntKind.u64.wrap (n - 1) = n - 1 := by rw [IntKind.wrap_u64]; omega
    clear h hR hB
    go_enter Tryd.func27, Tryd.ntmps27
    go_wp2_with (go_at_call 38; (with_reducible refine (HB.out _).mono ?_); rintro e _ ⟨rfl, rfl⟩)
    go_ret
    exact ⟨rfl, rfl⟩
/-- Whether a number may be a bound. -/
theorem q8bound_c (n : Int) (n0 : 0 ≤ n) (n1 : n < 18446744073709551616) (w : World) : Calls Tryd.prog 26 #[.int .u64 n] w fun e w' => e = .returned (.bool (decide (1 ≤ n ∧ n < 9223372036854775808))) ∧ w = w' := by
  by_cases h1 : 1 ≤ n
  · by_cases h2 : n < 9223372036854775808
    · rw [decide_eq_true ⟨h1, h2⟩]
      go_enter Tryd.func26, Tryd.ntmps26
      go_wp2
      go_ret
      exact ⟨rfl, rfl⟩
    · rw [decide_eq_false (fun h => h2 h.2)]
      go_enter Tryd.func26, Tryd.ntmps26
      go_wp2
      go_ret
      exact ⟨rfl, rfl⟩
  · rw [decide_eq_false (fun h => h1 h.1)]
    go_enter Tryd.func26, Tryd.ntmps26
    go_wp2
    go_ret
    exact ⟨rfl, rfl⟩
set_option maxHeartbeats 8000000 in
theorem q8draw_c (s : Src) (ok : s.Ok) (n : Int) (n0 : 0 ≤ n) (n1 : n < 18446744073709551616) (a : Int) (a0 : -9223372036854775808 ≤ a) (a1 : a < 9223372036854775808) (A0 : Option Addr) (c0 : Nat) (hc : s.tape.length ≤ c0) (hcm : c0 ≤ maxLen) (w : World) (hrd : Rd .u8 w w.heap.size A0 s.tape.length s.tape) (hkst : Kst w) : Calls Tryd.prog 20 #[.agg (srcV s A0 c0), .int .u64 n, .int .i64 a] w (RetDraw w s A0 (drawR s n a)) := by
  have HRT := Lib.hid (fun W => qsright_c s ok A0 c0 W)
  have HBD := Lib.hid (fun W => q8bound_c n n0 n1 W)
  have HZ0 := Lib.hid zero_src
  have hRd := Lib.hid hrd
  have HKS := Lib.hid hkst
  have HZSS := Lib.hid (fun (t : Src) (h : t.seed.length = 32) A c => srcV_same Src.zero t rfl h none A 0 c)
  obtain ⟨Z, hZ⟩ : ∃ Z, srcV Src.zero none 0 = Z := ⟨_, rfl⟩
  rw [hZ] at HZ0 HZSS
  by_cases hbad : ¬ drawB s n a = true
  · have hE : drawR s n a = (0, s, 1) := by unfold drawR; rw [if_neg hbad]
    have HEND : Hid (∀ w', RdP A0 s.tape.length s.tape w' → Below w.heap.size w w' → RetDraw w s A0 (drawR s n a) (.returned (.tuple #[.int .u64 0, .agg (srcV s A0 c0), .int .i64 1])) w') := Lib.hid (fun w' hr hb => ⟨A0, c0, by rw [hE], hr, hc, hcm, .inl rfl, hb⟩)
    have hcase : (rightS s = false) ∨ (rightS s = true ∧ decide (1 ≤ n ∧ n < 9223372036854775808) = false) ∨ (rightS s = true ∧ decide (1 ≤ n ∧ n < 9223372036854775808) = true ∧ a < 1) ∨ (rightS s = true ∧ decide (1 ≤ n ∧ n < 9223372036854775808) = true ∧ ¬ a < 1 ∧ 64 < a) := by
      cases h : rightS s
      · exact .inl rfl
      · refine .inr ?_
        by_cases h1 : 1 ≤ n ∧ n < 9223372036854775808
        · refine .inr ?_
          by_cases h3 : a < 1
          · exact .inl ⟨rfl, decide_eq_true h1, h3⟩
          · refine .inr ⟨rfl, decide_eq_true h1, h3, Decidable.byContradiction fun h4 => hbad ?_⟩
            unfold drawB
            rw [h, Bool.true_and]
            exact decide_eq_true ⟨h1.1, h1.2, by omega, by omega⟩
        · exact .inl ⟨rfl, decide_eq_false h1⟩
    have SV := Lib.hid (sizedS s ok.sl A0 c0)
    have OV := Lib.hid (srcV_ones s A0 c0)
    have ZV := Lib.hid (HZSS.out s ok.sl A0 c0)
    obtain ⟨V, hV⟩ : ∃ V, srcV s A0 c0 = V := ⟨_, rfl⟩
    rw [hV] at HRT HEND SV OV ZV
    rw [hV]
    obtain ⟨rr, hrr⟩ : ∃ r, drawR s n a = r := ⟨_, rfl⟩
    rw [hrr] at HEND ⊢
    obtain ⟨bd, hbd⟩ : ∃ b, decide (1 ≤ n ∧ n < 9223372036854775808) = b := ⟨_, rfl⟩
    rw [hbd] at HBD hcase
    clear hZ hV hE hbad hrd hkst hrr hbd
    rcases hcase with hr | ⟨hr, rfl⟩ | ⟨hr, rfl, h3⟩ | ⟨hr, rfl, h3, h4⟩
    all_goals
      rw [hr] at HRT
      go_enter Tryd.func20, Tryd.ntmps20
      go_wp2_with (first
        | (with_reducible refine at_any ?_; refine at_dst 3 rfl ?_; refine wpList_box_any rfl 37 (.tmp 0) rfl V rfl ?_; intro w1 hk1 hs1 hb1)
        | (with_reducible refine at_any ?_; refine at_dst 7 rfl ?_; refine wpList_alloc_any rfl 37 rfl Z HZ0.out ?_; intro w2 hk2 hs2 hb2; have k2 := Lib.hid (hk1.out.below hb2 hk1.out.lt))
        | (with_reducible refine at_any ?_; refine at_dst 13 rfl ?_; refine wpList_load_blk rfl 37 (.tmp 3) rfl w.heap.size rfl 37 V k2.out _ Tryd.underlying37 rfl SV.out ?_)
        | (go_at_call 25; (with_reducible refine (HRT.out _).mono ?_); rintro e wz ⟨rfl, hbz⟩)
        | (go_at_call 26; (with_reducible refine (HBD.out _).mono ?_); rintro e _ ⟨rfl, rfl⟩))
      have HS := DrS.mk2 hRd.out hk1.out hb1 hk2.out hb2 hbz
      have HZ : Fx [.blk w1.heap.size 37 Z] wz := ⟨hk2.out.below hbz hk2.out.lt, trivial⟩
      obtain ⟨g3, hg3⟩ : ∃ g, w.heap.size = g := ⟨_, rfl⟩
      obtain ⟨g7, hg7⟩ : ∃ g, w1.heap.size = g := ⟨_, rfl⟩
      obtain ⟨zs, hzs⟩ : ∃ zs, s.tape = zs := ⟨_, rfl⟩
      obtain ⟨L, hL⟩ : ∃ L, zs.length = L := ⟨_, rfl⟩
      rw [hzs, hL] at HEND
      rw [hg3, hg7, hzs, hL] at HS
      rw [hg7] at HZ
      rw [hg3, hg7]
      clear hg3 hg7 hzs hL hk1 hs1 hb1 hk2 hs2 hb2 k2 hbz
      have HZ7 := HZ.drew
      refine wp_region_held_drew (S := (DrS w g3 g7 V A0 L zs)) (by kernel_rfl) HS.drew (fun hH => ?_)
      refine wpAnyH_letter #[false, false, false, false] (by kernel_rfl) (fun _ _ d _ _ h => by cases d <;> exact h) (fun QL HQ1 HQ2 => ?_)
      refine held_row 0 (some 29) rfl (by kernel_rfl) (by kernel_rfl) (by kernel_rfl) (by kernel_rfl) (fun c a v w h => HQ2.out c a _ v w h) (by kernel_rfl) 37 (.tmp 3) rfl g3 (by kernel_rfl) 37 V (fun _ h => h.blk) _ Tryd.underlying37 rfl SV.out hH ?_
      try simp only [Act.put, List.setIfInBounds_toArray, List.set_cons_zero, List.set_cons_succ]
      refine held_v 1 (some 6) rfl (by kernel_rfl) (by kernel_rfl) (by kernel_rfl) (by kernel_rfl) (fun c a v w h => HQ2.out c a _ v w h) (by kernel_rfl) (.int .u64 0) (fun W h => by kernel_rfl) hH ?_
      try simp only [Act.put, List.setIfInBounds_toArray, List.set_cons_zero, List.set_cons_succ]
      refine wpAnyH_ready (rs := [2]) (by kernel_rfl) (by decide) ?_
      refine AllReadyH.cons rfl (fun K hK => ?_) AllReadyH.nil
      refine step_store none (by kernel_rfl) (by kernel_rfl) 37 (.tmp 7) (.tmp 29) rfl g7 (by kernel_rfl) 37 Z V HZ7.1 (by kernel_rfl) ZV.out SV.out OV.out ?_
      intro w41 hkw41 hsw41 hbw41 how41
      have ex42 : Fx [.blk g7 37 V] w41 := ⟨hkw41.out, trivial⟩
      refine hK.out _ _ (hH.store HZ7.1 hH.store7 hsw41.out hbw41 how41) (fun hw41 => ?_)
      clear hK K
      try simp only [Act.put, List.setIfInBounds_toArray, List.set_cons_zero, List.set_cons_succ]
      refine held_v 3 (some 8) rfl (by kernel_rfl) (by kernel_rfl) (by kernel_rfl) (by kernel_rfl) (fun c a v w h => HQ2.out c a _ v w h) (by kernel_rfl) (.int .i64 1) (fun W h => by kernel_rfl) hw41 ?_
      try simp only [Act.put, List.setIfInBounds_toArray, List.set_cons_zero, List.set_cons_succ]
      refine wpAnyH_done (by kernel_rfl) ?_ _
      refine HQ1.out _ _ ?_
      clear HQ1 HQ2
      go_wp2_with (refine bodyPost_mid 6 7 8 37 rfl g7 rfl (.int .u64 0) (.int .i64 1) rfl rfl 37 V ex42.1 _ Tryd.underlying37 rfl SV.out rfl ?_)
      exact HEND.out _ hw41.rd hw41.bel
  · have hgood : drawB s n a = true := Decidable.of_not_not hbad
    have hE : drawR s n a = drawGo (needN n) n a.toNat s := by unfold drawR; rw [if_pos hgood]
    obtain ⟨hr, hd⟩ : rightS s = true ∧ decide (1 ≤ n ∧ n < 9223372036854775808 ∧ 1 ≤ a ∧ a ≤ 64) = true := by unfold drawB at hgood; rwa [Bool.and_eq_true] at hgood
    obtain ⟨nn0, nn1, aa0, aa1⟩ := of_decide_eq_true hd
    rw [decide_eq_true ⟨nn0, nn1⟩] at HBD
    have h3 : ¬ a < 1 := by omega
    have h4 : ¬ 64 < a := by omega
    have hk64 := needN_le n n0 n1
    have HND := Lib.hid (fun W => q8need_c n n0 n1 W)
    obtain ⟨k, hk⟩ : ∃ k, needN n = k := ⟨_, rfl⟩
    rw [hk] at hE hk64 HND
    rw [hE]
    obtain ⟨a, rfl⟩ := Int.eq_ofNat_of_zero_le (show 0 ≤ a by omega)
    rw [Int.toNat_natCast]
    rw [hr] at HRT
    have HTAKE := Lib.hid (fun (t : Src) (okt : t.Ok) (A : Option Addr) (c : Nat) (h1 : t.tape.length ≤ c) (h2 : c ≤ maxLen) (W : World) (h3 : Rd .u8 W W.heap.size A t.tape.length t.tape) (kk : Kst W) => qstake_c t okt (k : Int) (by omega) (by omega) A c h1 h2 W h3 kk)
    have SV := Lib.hid (sizedS s ok.sl A0 c0)
    have HL0 : Hid (∀ g3 g7 W, DrS w g3 g7 (srcV s A0 c0) A0 s.tape.length s.tape W → Fx [.blk g7 37 Z] W → DrL w g3 g7 s k n a A0 Z 0 W) := Lib.hid (fun g3 g7 W h1 h2 => ⟨s, A0, c0, rfl, ok, rfl, h1, h2, .inl rfl, hc, hcm⟩)
    obtain ⟨V, hV⟩ : ∃ V, srcV s A0 c0 = V := ⟨_, rfl⟩
    rw [hV] at HRT SV HL0
    rw [hV]
    obtain ⟨rr, hrr⟩ : ∃ r, drawGo k n a s = r := ⟨_, rfl⟩
    rw [hrr]
    have HRR := Lib.hid hrr
    clear hZ hV hE hbad hrd hkst hrr hgood hd hr hk a0 a1 aa0 hc hcm
    have aa2 : a ≤ 64 := by omega
    clear aa1
    go_enter Tryd.func20, Tryd.ntmps20
    go_wp2_with (first
      | (with_reducible refine at_any ?_; refine at_dst 3 rfl ?_; refine wpList_box_any rfl 37 (.tmp 0) rfl V rfl ?_; intro w1 hk1 hs1 hb1)
      | (with_reducible refine at_any ?_; refine at_dst 7 rfl ?_; refine wpList_alloc_any rfl 37 rfl Z HZ0.out ?_; intro w2 hk2 hs2 hb2; have k2 := Lib.hid (hk1.out.below hb2 hk1.out.lt))
      | (with_reducible refine at_any ?_; refine at_dst 13 rfl ?_; refine wpList_load_blk rfl 37 (.tmp 3) rfl w.heap.size rfl 37 V k2.out _ Tryd.underlying37 rfl SV.out ?_)
      | (go_at_call 25; (with_reducible refine (HRT.out _).mono ?_); rintro e wz ⟨rfl, hbz⟩)
      | (go_at_call 26; (with_reducible refine (HBD.out _).mono ?_); rintro e _ ⟨rfl, rfl⟩)
      | (go_at_call 27; (with_reducible refine (HND.out _).mono ?_); rintro e _ ⟨rfl, rfl⟩))
    have HS := DrS.mk2 hRd.out hk1.out hb1 hk2.out hb2 hbz
    have HZ : Fx [.blk w1.heap.size 37 Z] wz := ⟨hk2.out.below hbz hk2.out.lt, trivial⟩
    have HL := Lib.hid (HL0.out _ _ _ HS HZ)
    obtain ⟨g3, hg3⟩ : ∃ g, w.heap.size = g := ⟨_, rfl⟩
    obtain ⟨g7, hg7⟩ : ∃ g, w1.heap.size = g := ⟨_, rfl⟩
    rw [hg3, hg7] at HL
    rw [hg3, hg7]
    clear hg3 hg7 hk1 hs1 hb1 hk2 hs2 hb2 k2 hbz HS HZ HL0 HRT SV HBD h3 h4
    go_loopw [33] (fun cc wr => ∃ i : Nat, i ≤ a ∧ cc = .int .i64 i ∧ DrL w g3 g7 s k n a A0 Z i wr) (fun cc _ => a - (intOf cc).toNat)
    case atStart => exact ⟨0, by omega, rfl, HL.out⟩
    case round =>
      clear HL
      obtain ⟨i, hi, rfl, si, A, c, hgo, oki, htp, HS, HZ, hsp, hcl, hcm⟩ := hrel
      have SV := Lib.hid (sizedS si oki.sl A c)
      have OV := Lib.hid (srcV_ones si A c)
      have ZV := Lib.hid (HZSS.out si oki.sl A c)
      have HSP := Lib.hid hsp
      rw [HRR.out] at hgo
      by_cases hlt : i < a
      · have HTK := Lib.hid (fun (W : World) (h3 : RdP A s.tape.length s.tape W) (kk : Kst W) => HTAKE.out si oki A c (by rw [htp]; exact hcl) hcm W (by rw [htp]; exact h3) kk)
        have hst : a - i = a - i - 1 + 1 := by omega
        rw [hst] at hgo
        have hti := takeE_in si k
        have hvi := takeV_in si k
        have htok := takeS_ok oki k
        have http := takeS_tape si k
        rw [htp] at http
        have hgz : takeE si k ≠ 0 → rr = (0, si, takeE si k) := fun h => by rw [hgo, drawGo_err h]
        have hgh : takeE si k = 0 → takeV si k < n → rr = (takeV si k, takeS si k, 0) := fun h h2 => by rw [hgo, drawGo_hit h h2]
        have hgm : takeE si k = 0 → ¬ takeV si k < n → rr = drawGo k n (a - (i + 1)) (takeS si k) := fun h h2 => by rw [hgo, drawGo_miss h h2, show a - i - 1 = a - (i + 1) by omega]
        have hsi : takeE si k ≠ 0 → takeS si k = si := fun h => by unfold takeS; rw [if_neg h]
        unfold RetTake at HTK
        rw [htp] at HTK
        obtain ⟨X, hX⟩ : ∃ X, takeV si k = X := ⟨_, rfl⟩
        obtain ⟨E, hE⟩ : ∃ E, takeE si k = E := ⟨_, rfl⟩
        obtain ⟨t, ht⟩ : ∃ t, takeS si k = t := ⟨_, rfl⟩
        rw [hX, hE, ht] at HTK
        rw [hX] at hvi hgh hgm
        rw [hE] at hti hgz hgh hgm hsi
        rw [ht] at htok http hgh hgm hsi
        have ST := Lib.hid (fun A c => sizedS t htok.sl A c)
        have OT := Lib.hid (fun A c => srcV_ones t A c)
        have ZT := Lib.hid (fun A c => HZSS.out t htok.sl A c)
        obtain ⟨zs, hzs⟩ : ∃ zs, s.tape = zs := ⟨_, rfl⟩
        obtain ⟨L, hL⟩ : ∃ L, zs.length = L := ⟨_, rfl⟩
        have HG1 : Hid (∀ A2 c2 g11 W, DrS w g3 g7 (srcV si A c) A L zs W → Blk W g7 37 Z → Blk W g11 37 (srcV t A2 c2) → RdP A2 L zs W → Apt L A2 g3 → Apt L A2 g7 → Sep w A0 A2 → L ≤ c2 → c2 ≤ maxLen → g3 ≠ g11 → g7 ≠ g11 → True) := Lib.hid (fun _ _ _ _ _ _ _ _ _ _ _ _ _ _ _ => trivial)
        have HEZ : Hid (E ≠ 0 → ∀ w', RdP A L zs w' → Below w.heap.size w w' → RetDraw w s A0 rr (.returned (.tuple #[.int .u64 0, .agg (srcV si A c), .int .i64 E])) w') := Lib.hid (fun h w' hr hb => ⟨A, c, by rw [hgz h], by rw [hzs, hL]; exact hr, hcl, hcm, hsp, hb⟩)
        have HEH : Hid (E = 0 → X < n → ∀ A2 c2 w', Sep w A0 A2 → L ≤ c2 → c2 ≤ maxLen → RdP A2 L zs w' → Below w.heap.size w w' → RetDraw w s A0 rr (.returned (.tuple #[.int .u64 X, .agg (srcV t A2 c2), .int .i64 0])) w') := Lib.hid (fun h h2 A2 c2 w' h3 h4 h5 hr hb => ⟨A2, c2, by rw [hgh h h2], by rw [hzs, hL]; exact hr, by rw [hzs, hL]; exact h4, h5, h3, hb⟩)
        have HEM : Hid (E = 0 → ¬ X < n → ∀ A2 c2 W, DrS w g3 g7 (srcV t A2 c2) A2 L zs W → Fx [.blk g7 37 Z] W → Sep w A0 A2 → L ≤ c2 → c2 ≤ maxLen → DrL w g3 g7 s k n a A0 Z (i + 1) W) := Lib.hid (fun h h2 A2 c2 W h3 h4 h5 h6 h7 => ⟨t, A2, c2, by rw [HRR.out]; exact hgm h h2, htok, by rw [http, hzs], by rw [hzs, hL]; exact h3, h4, h5, by rw [hzs, hL]; exact h6, h7⟩)
        rw [hzs, hL] at HTK
        rw [hzs, hL] at HS hcl
        clear hgo oki htp hsp hst htok http hgz hgh hgm hsi hX hE ht hzs hL HG1
        obtain ⟨V, hV⟩ : ∃ V, srcV si A c = V := ⟨_, rfl⟩
        rw [hV] at SV OV ZV HS HTK HEZ
        clear hV HTAKE HZSS
        by_cases hE0 : E = 0
        · have t1 : (E == 0) = true := by rw [beq_iff_eq]; exact hE0
          have t2 : (E != 0) = false := by rw [bne, t1]; rfl
          by_cases hx : X < n
          · have t0 : True := trivial
            go_wp2_with (first
              | (with_reducible refine at_any ?_; refine at_dst 36 rfl ?_; refine wpList_load_blk rfl 37 (.tmp 3) rfl g3 rfl 37 V HS.blk _ Tryd.underlying37 rfl SV.out ?_)
              | (go_at_call 28; (with_reducible refine (HTK.out _ HS.rd (HKS.out.below HS.bel)).mono ?_); rintro e w5 ⟨A2, c2, rfl, hrd2, hc2, hm2, hsp2, hb5⟩; obtain ⟨V2, hV2⟩ : ∃ V2, srcV t A2 c2 = V2 := ⟨_, rfl⟩; have SV2 := Lib.hid (ST.out A2 c2); have OV2 := Lib.hid (OT.out A2 c2); have ZV2 := Lib.hid (ZT.out A2 c2); have HM2 := Lib.hid (fun h h2 W h3 h4 => HEM.out h h2 A2 c2 W h3 h4 (Sep.trans HSP.out hsp2 HS.bel.size) hc2 hm2); have HH2 := Lib.hid (fun h h2 w' h3 h4 => HEH.out h h2 A2 c2 w' (Sep.trans HSP.out hsp2 HS.bel.size) hc2 hm2 h3 h4); rw [hV2] at SV2 OV2 ZV2 HM2 HH2 ⊢; clear hV2 hc2 hm2)
              | (with_reducible refine at_any ?_; refine at_dst 11 rfl ?_; refine wpList_alloc_any rfl 37 rfl Z HZ0.out ?_; intro w6 hk6 hs6 hb6)
              | (with_reducible refine at_any ?_; refine at_store 11 rfl ?_; refine wpList_store_any rfl 37 (.tmp 11) (.tmp 40) rfl w5.heap.size rfl 37 Z V2 hk6.out rfl ZV2.out SV2.out OV2.out ?_; intro w7 hk7 hs7 hb7 ho7; have T := Lib.hid (HS.took HZ hrd2 hsp2 hb5 hb6 hk6.out hk7.out hs7.out hb7 ho7)))
            obtain ⟨-, HZ, -, -, -, HD⟩ := T.out
            obtain ⟨g11, hg11⟩ : ∃ g, w5.heap.size = g := ⟨_, rfl⟩
            rw [hg11] at HD
            try rw [hg11]
            have HZ7 := HZ.drew
            refine wp_region_held_drew (S := (DrH w g7 g11 V2 A2 L zs)) (by kernel_rfl) HD.drew (fun hH => ?_)
            refine wpAnyH_letter #[false, false, false, false, false] (by kernel_rfl) (fun _ _ d _ _ h => by cases d <;> exact h) (fun QL HQ1 HQ2 => ?_)
            refine held_v 0 (some 49) rfl (by kernel_rfl) (by kernel_rfl) (by kernel_rfl) (by kernel_rfl) (fun c a v w h => HQ2.out c a _ v w h) (by kernel_rfl) (.int .u64 X) (fun W h => by kernel_rfl) hH ?_
            try simp only [Act.put, List.setIfInBounds_toArray, List.set_cons_zero, List.set_cons_succ]
            refine held_row 1 (some 50) rfl (by kernel_rfl) (by kernel_rfl) (by kernel_rfl) (by kernel_rfl) (fun c a v w h => HQ2.out c a _ v w h) (by kernel_rfl) 37 (.tmp 11) rfl g11 (by kernel_rfl) 37 V2 (fun _ h => h.blk) _ Tryd.underlying37 rfl SV2.out hH ?_
            try simp only [Act.put, List.setIfInBounds_toArray, List.set_cons_zero, List.set_cons_succ]
            refine held_v 2 (some 6) rfl (by kernel_rfl) (by kernel_rfl) (by kernel_rfl) (by kernel_rfl) (fun c a v w h => HQ2.out c a _ v w h) (by kernel_rfl) (.int .u64 X) (fun W h => by kernel_rfl) hH ?_
            try simp only [Act.put, List.setIfInBounds_toArray, List.set_cons_zero, List.set_cons_succ]
            refine wpAnyH_ready (rs := [3]) (by kernel_rfl) (by decide) ?_
            refine AllReadyH.cons rfl (fun K hK => ?_) AllReadyH.nil
            refine step_store none (by kernel_rfl) (by kernel_rfl) 37 (.tmp 7) (.tmp 50) rfl g7 (by kernel_rfl) 37 Z V2 HZ7.1 (by kernel_rfl) ZV2.out SV2.out OV2.out ?_
            intro w141 hkw141 hsw141 hbw141 how141
            have ex142 : Fx [.blk g7 37 V2] w141 := ⟨hkw141.out, trivial⟩
            refine hK.out _ _ (hH.store HZ7.1 hH.store7 hsw141.out hbw141 how141) (fun hw141 => ?_)
            clear hK K
            try simp only [Act.put, List.setIfInBounds_toArray, List.set_cons_zero, List.set_cons_succ]
            refine held_v 4 (some 8) rfl (by kernel_rfl) (by kernel_rfl) (by kernel_rfl) (by kernel_rfl) (fun c a v w h => HQ2.out c a _ v w h) (by kernel_rfl) (.int .i64 0) (fun W h => by kernel_rfl) hw141 ?_
            try simp only [Act.put, List.setIfInBounds_toArray, List.set_cons_zero, List.set_cons_succ]
            refine wpAnyH_done (by kernel_rfl) ?_ _
            refine HQ1.out _ _ ?_
            clear HQ1 HQ2
            go_wp2_with (refine bodyPost_mid 6 7 8 37 rfl g7 rfl (.int .u64 X) (.int .i64 0) rfl rfl 37 V2 ex142.1 _ Tryd.underlying37 rfl SV2.out rfl ?_)
            exact HH2.out hE0 hx _ hw141.rd.rd hw141.bel
          · have hx2 : n ≤ X := by omega
            go_wp2_with (first
              | (with_reducible refine at_any ?_; refine at_dst 36 rfl ?_; refine wpList_load_blk rfl 37 (.tmp 3) rfl g3 rfl 37 V HS.blk _ Tryd.underlying37 rfl SV.out ?_)
              | (go_at_call 28; (with_reducible refine (HTK.out _ HS.rd (HKS.out.below HS.bel)).mono ?_); rintro e w5 ⟨A2, c2, rfl, hrd2, hc2, hm2, hsp2, hb5⟩; obtain ⟨V2, hV2⟩ : ∃ V2, srcV t A2 c2 = V2 := ⟨_, rfl⟩; have SV2 := Lib.hid (ST.out A2 c2); have OV2 := Lib.hid (OT.out A2 c2); have ZV2 := Lib.hid (ZT.out A2 c2); have HM2 := Lib.hid (fun h h2 W h3 h4 => HEM.out h h2 A2 c2 W h3 h4 (Sep.trans HSP.out hsp2 HS.bel.size) hc2 hm2); have HH2 := Lib.hid (fun h h2 w' h3 h4 => HEH.out h h2 A2 c2 w' (Sep.trans HSP.out hsp2 HS.bel.size) hc2 hm2 h3 h4); rw [hV2] at SV2 OV2 ZV2 HM2 HH2 ⊢; clear hV2 hc2 hm2)
              | (with_reducible refine at_any ?_; refine at_dst 11 rfl ?_; refine wpList_alloc_any rfl 37 rfl Z HZ0.out ?_; intro w6 hk6 hs6 hb6)
              | (with_reducible refine at_any ?_; refine at_store 11 rfl ?_; refine wpList_store_any rfl 37 (.tmp 11) (.tmp 40) rfl w5.heap.size rfl 37 Z V2 hk6.out rfl ZV2.out SV2.out OV2.out ?_; intro w7 hk7 hs7 hb7 ho7; have T := Lib.hid (HS.took HZ hrd2 hsp2 hb5 hb6 hk6.out hk7.out hs7.out hb7 ho7))
              | (with_reducible refine at_any ?_; refine at_dst 51 rfl ?_; refine wpList_load_blk rfl 37 (.tmp 11) rfl w5.heap.size rfl 37 V2 hk7.out _ Tryd.underlying37 rfl SV2.out ?_)
              | (with_reducible refine at_any ?_; refine at_store 3 rfl ?_; refine wpList_store_any rfl 37 (.tmp 3) (.tmp 51) rfl g3 rfl 37 V V2 T.out.1.blk rfl (ZV.out.symm.trans ZV2.out) SV2.out OV2.out ?_; intro w9 hk9 hs9 hb9 ho9; have HS9 := Lib.hid (T.out.1.put3 T.out.2.2.1 T.out.2.2.2.1 T.out.2.2.2.2.1 hk9.out hs9.out hb9 ho9); have HZ9 := Lib.hid (T.out.2.1.store T.out.1.blk (T.out.1.hof Z) hs9.out hb9 ho9)))
            have HF := Lib.hid (HM2.out hE0 (by first | exact hx2 | exact Int.not_lt.2 hx2) _ HS9.out HZ9.out)
            clear HS9 HZ9 T
            go_roundw
            case rel => exact ⟨i + 1, by omega, by go_num, HF.out⟩
            case measure => simp [intOf]; omega
        · have t1 : (E == 0) = false := by rw [beq_eq_false_iff_ne]; exact hE0
          have t2 : (E != 0) = true := by rw [bne, t1]; rfl
          go_wp2_with (first
            | (with_reducible refine at_any ?_; refine at_dst 36 rfl ?_; refine wpList_load_blk rfl 37 (.tmp 3) rfl g3 rfl 37 V HS.blk _ Tryd.underlying37 rfl SV.out ?_)
            | (go_at_call 28; (with_reducible refine (HTK.out _ HS.rd (HKS.out.below HS.bel)).mono ?_); rintro e w5 ⟨A2, c2, rfl, hrd2, hc2, hm2, hsp2, hb5⟩; obtain ⟨V2, hV2⟩ : ∃ V2, srcV t A2 c2 = V2 := ⟨_, rfl⟩; have SV2 := Lib.hid (ST.out A2 c2); have OV2 := Lib.hid (OT.out A2 c2); have ZV2 := Lib.hid (ZT.out A2 c2); have HM2 := Lib.hid (fun h h2 W h3 h4 => HEM.out h h2 A2 c2 W h3 h4 (Sep.trans HSP.out hsp2 HS.bel.size) hc2 hm2); have HH2 := Lib.hid (fun h h2 w' h3 h4 => HEH.out h h2 A2 c2 w' (Sep.trans HSP.out hsp2 HS.bel.size) hc2 hm2 h3 h4); rw [hV2] at SV2 OV2 ZV2 HM2 HH2 ⊢; clear hV2 hc2 hm2)
            | (with_reducible refine at_any ?_; refine at_dst 11 rfl ?_; refine wpList_alloc_any rfl 37 rfl Z HZ0.out ?_; intro w6 hk6 hs6 hb6)
            | (with_reducible refine at_any ?_; refine at_store 11 rfl ?_; refine wpList_store_any rfl 37 (.tmp 11) (.tmp 40) rfl w5.heap.size rfl 37 Z V2 hk6.out rfl ZV2.out SV2.out OV2.out ?_; intro w7 hk7 hs7 hb7 ho7; have T := Lib.hid (HS.took HZ hrd2 hsp2 hb5 hb6 hk6.out hk7.out hs7.out hb7 ho7)))
          obtain ⟨HS7, HZ, -⟩ := T.out
          have HZ7 := HZ.drew
          refine wp_region_held_drew (S := (DrS w g3 g7 V A L zs)) (by kernel_rfl) HS7.drew (fun hH => ?_)
          refine wpAnyH_letter #[false, false, false, false, false] (by kernel_rfl) (fun _ _ d _ _ h => by cases d <;> exact h) (fun QL HQ1 HQ2 => ?_)
          refine held_row 0 (some 44) rfl (by kernel_rfl) (by kernel_rfl) (by kernel_rfl) (by kernel_rfl) (fun c a v w h => HQ2.out c a _ v w h) (by kernel_rfl) 37 (.tmp 3) rfl g3 (by kernel_rfl) 37 V (fun _ h => h.blk) _ Tryd.underlying37 rfl SV.out hH ?_
          try simp only [Act.put, List.setIfInBounds_toArray, List.set_cons_zero, List.set_cons_succ]
          refine held_v 1 (some 45) rfl (by kernel_rfl) (by kernel_rfl) (by kernel_rfl) (by kernel_rfl) (fun c a v w h => HQ2.out c a _ v w h) (by kernel_rfl) (.int .i64 E) (fun W h => by kernel_rfl) hH ?_
          try simp only [Act.put, List.setIfInBounds_toArray, List.set_cons_zero, List.set_cons_succ]
          refine held_v 2 (some 6) rfl (by kernel_rfl) (by kernel_rfl) (by kernel_rfl) (by kernel_rfl) (fun c a v w h => HQ2.out c a _ v w h) (by kernel_rfl) (.int .u64 0) (fun W h => by kernel_rfl) hH ?_
          try simp only [Act.put, List.setIfInBounds_toArray, List.set_cons_zero, List.set_cons_succ]
          refine wpAnyH_ready (rs := [3]) (by kernel_rfl) (by decide) ?_
          refine AllReadyH.cons rfl (fun K hK => ?_) AllReadyH.nil
          refine step_store none (by kernel_rfl) (by kernel_rfl) 37 (.tmp 7) (.tmp 44) rfl g7 (by kernel_rfl) 37 Z V HZ7.1 (by kernel_rfl) ZV.out SV.out OV.out ?_
          intro w141 hkw141 hsw141 hbw141 how141
          have ex142 : Fx [.blk g7 37 V] w141 := ⟨hkw141.out, trivial⟩
          refine hK.out _ _ (hH.store HZ7.1 hH.store7 hsw141.out hbw141 how141) (fun hw141 => ?_)
          clear hK K
          try simp only [Act.put, List.setIfInBounds_toArray, List.set_cons_zero, List.set_cons_succ]
          refine held_v 4 (some 8) rfl (by kernel_rfl) (by kernel_rfl) (by kernel_rfl) (by kernel_rfl) (fun c a v w h => HQ2.out c a _ v w h) (by kernel_rfl) (.int .i64 E) (fun W h => by kernel_rfl) hw141 ?_
          try simp only [Act.put, List.setIfInBounds_toArray, List.set_cons_zero, List.set_cons_succ]
          refine wpAnyH_done (by kernel_rfl) ?_ _
          refine HQ1.out _ _ ?_
          clear HQ1 HQ2
          go_wp2_with (refine bodyPost_mid 6 7 8 37 rfl g7 rfl (.int .u64 0) (.int .i64 E) rfl rfl 37 V ex142.1 _ Tryd.underlying37 rfl SV.out rfl ?_)
          exact HEZ.out hE0 _ hw141.rd.rd hw141.bel
      · obtain rfl : i = a := by omega
        rw [Nat.sub_self, drawGo_zero] at hgo
        have HEND : Hid (∀ w', RdP A s.tape.length s.tape w' → Below w.heap.size w w' → RetDraw w s A0 rr (.returned (.tuple #[.int .u64 0, .agg (srcV si A c), .int .i64 9])) w') := Lib.hid (fun w' hr hb => ⟨A, c, by rw [hgo], hr, hcl, hcm, hsp, hb⟩)
        obtain ⟨zs, hzs⟩ : ∃ zs, s.tape = zs := ⟨_, rfl⟩
        obtain ⟨L, hL⟩ : ∃ L, zs.length = L := ⟨_, rfl⟩
        rw [hzs, hL] at HEND HS
        obtain ⟨V, hV⟩ : ∃ V, srcV si A c = V := ⟨_, rfl⟩
        rw [hV] at SV OV ZV HEND HS
        clear hgo oki htp hsp hcl hcm hzs hL hV HTAKE HND HZSS
        go_wp2_with fail
        have HZ7 := HZ.drew
        refine wp_region_held_drew (S := (DrS w g3 g7 V A L zs)) (by kernel_rfl) HS.drew (fun hH => ?_)
        refine wpAnyH_letter #[false, false, false, false] (by kernel_rfl) (fun _ _ d _ _ h => by cases d <;> exact h) (fun QL HQ1 HQ2 => ?_)
        refine held_row 0 (some 53) rfl (by kernel_rfl) (by kernel_rfl) (by kernel_rfl) (by kernel_rfl) (fun c a v w h => HQ2.out c a _ v w h) (by kernel_rfl) 37 (.tmp 3) rfl g3 (by kernel_rfl) 37 V (fun _ h => h.blk) _ Tryd.underlying37 rfl SV.out hH ?_
        try simp only [Act.put, List.setIfInBounds_toArray, List.set_cons_zero, List.set_cons_succ]
        refine held_v 1 (some 6) rfl (by kernel_rfl) (by kernel_rfl) (by kernel_rfl) (by kernel_rfl) (fun c a v w h => HQ2.out c a _ v w h) (by kernel_rfl) (.int .u64 0) (fun W h => by kernel_rfl) hH ?_
        try simp only [Act.put, List.setIfInBounds_toArray, List.set_cons_zero, List.set_cons_succ]
        refine wpAnyH_ready (rs := [2]) (by kernel_rfl) (by decide) ?_
        refine AllReadyH.cons rfl (fun K hK => ?_) AllReadyH.nil
        refine step_store none (by kernel_rfl) (by kernel_rfl) 37 (.tmp 7) (.tmp 53) rfl g7 (by kernel_rfl) 37 Z V HZ7.1 (by kernel_rfl) ZV.out SV.out OV.out ?_
        intro w41 hkw41 hsw41 hbw41 how41
        have ex42 : Fx [.blk g7 37 V] w41 := ⟨hkw41.out, trivial⟩
        refine hK.out _ _ (hH.store HZ7.1 hH.store7 hsw41.out hbw41 how41) (fun hw41 => ?_)
        clear hK K
        try simp only [Act.put, List.setIfInBounds_toArray, List.set_cons_zero, List.set_cons_succ]
        refine held_v 3 (some 8) rfl (by kernel_rfl) (by kernel_rfl) (by kernel_rfl) (by kernel_rfl) (fun c a v w h => HQ2.out c a _ v w h) (by kernel_rfl) (.int .i64 9) (fun W h => by kernel_rfl) hw41 ?_
        try simp only [Act.put, List.setIfInBounds_toArray, List.set_cons_zero, List.set_cons_succ]
        refine wpAnyH_done (by kernel_rfl) ?_ _
        refine HQ1.out _ _ ?_
        clear HQ1 HQ2
        go_wp2_with (refine bodyPost_mid 6 7 8 37 rfl g7 rfl (.int .u64 0) (.int .i64 9) rfl rfl 37 V ex42.1 _ Tryd.underlying37 rfl SV.out rfl ?_)
        exact HEND.out _ hw41.rd hw41.bel
end Go.Proofs.YtomkidgmpbjgeaaDoor
/-
  What drawlotref14 returns: whether two tables are the same.
  Conditions: the numbers lie in their types' ranges; the cells read as pairs.
-/
set_option maxRecDepth 100000
set_option linter.unusedVariables false
set_option linter.unusedSimpArgs false
namespace Go.Proofs.YtomkidgmpbjgeaaDoor
open Go.ChangeShapes Go.WideShapes Go.ChangeAt Go.RowKit
theorem eq_cell (a b c d : Int) (W : World) : (Op.equalIn 10000 52 (.agg #[.int .u64 a, .int .i64 b]) (.agg #[.int .u64 c, .int .i64 d])).run Tryd.prog W = .ok (decide (a = c ∧ b = d)) W := by
  by_cases h : a = c
  · by_cases h2 : b = d
    · subst h h2
      go_simp
    · subst h
      have h3 : (b == d) = false := by rw [beq_eq_false_iff_ne]; exact h2
      go_simp
  · have h3 : (a == c) = false := by rw [beq_eq_false_iff_ne]; exact h
    go_simp
theorem size_cell : (Tryd.prog.info? 52).map (·.size) = some 2 := by kernel_rfl
theorem range_cell {w : World} {b off : Nat} {u v : Value} (h : w.cell? ⟨b, off, none⟩ = some u) (h2 : w.cell? ⟨b, off + 1, none⟩ = some v) : w.rangeAt b off [u, v] := by
  intro j z hz
  match j, hz with
  | 0, hz => injection hz with hz; subst hz; exact h
  | 1, hz => injection hz with hz; subst hz; exact h2
  | j + 2, hz => simp at hz
theorem ext_cell {xs ys : List (Int × Int)} (h : xs.length = ys.length) (h2 : ∀ j, j < xs.length → cellL xs j = cellL ys j) : xs = ys := by
  apply List.ext_getElem h
  intro j h3 h4
  have h5 := h2 j h3
  simpa [cellL, List.getD_eq_getElem?_getD, List.getElem?_eq_getElem h3, List.getElem?_eq_getElem h4] using h5
end Go.Proofs.YtomkidgmpbjgeaaDoor
/-
  What drawlotref14 returns of a table: whether it may be.
  Conditions: the numbers lie in their types' ranges; the cells read as pairs.
-/
set_option maxRecDepth 100000
set_option linter.unusedVariables false
set_option linter.unusedSimpArgs false
namespace Go.Proofs.YtomkidgmpbjgeaaDoor
open Go.ChangeShapes Go.WideShapes Go.ChangeAt Go.RowKit
theorem ret_iiT {a b c d : Int} (h : a = b) (h2 : c = d) : Ending.returned (.tuple #[.int .i64 a, .int .i64 c]) = .returned (.tuple #[.int .i64 b, .int .i64 d]) := by rw [h, h2]
end Go.Proofs.YtomkidgmpbjgeaaDoor
/-
  What drawlotref14 returns of a table: its size, a lookup, an owner, how many, whether two are the same.
  Conditions: the numbers lie in their types' ranges; the cells read as pairs.
-/
set_option maxRecDepth 100000
set_option linter.unusedVariables false
set_option linter.unusedSimpArgs false
namespace Go.Proofs.YtomkidgmpbjgeaaDoor
open Go.ChangeShapes Go.WideShapes Go.ChangeAt Go.RowKit
section
variable (T : Int) (T0 : 0 ≤ T) (T1 : T < 18446744073709551616) (ts : List (Int × Int)) (hts : PrOk ts) (A : Option Addr) (n c : Nat) (hn : n ≤ maxLen) (w : World) (hrd : RdPr .u64 .i64 w w.heap.size A n ts)
include T0 T1 hts hn hrd
end
end Go.Proofs.YtomkidgmpbjgeaaDoor
/-
  What the program's safe returns: sums, differences and products below 2^63, or refused, over the library's carries.
  Conditions: the numbers lie in their type's range; the slices read as lists.
-/
set_option maxRecDepth 100000
set_option linter.unusedSimpArgs false
namespace Go.Proofs.YtomkidgmpbjgeaaDoor
open Go.ChangeShapes Go.WideShapes Go.ChangeAt Go.RowKit
set_option linter.unusedVariables false
theorem bits_lo {x : Int} (x0 : 0 ≤ x) (x1 : x < 18446744073709551616) : IntKind.u64.wrap x = x := by rw [IntKind.wrap_u64]; omega
theorem mask_lo (a : Int) (a0 : 0 ≤ a) (a1 : a < 18446744073709551616) : bits .and .u64 a 4294967295 = a % 4294967296 := by
  obtain ⟨n, rfl⟩ := Int.eq_ofNat_of_zero_le a0
  have h := bits_and_u64_nat n 4294967295 (by omega) (by omega)
  rw [Nat.and_two_pow_sub_one_eq_mod n 32] at h
  exact h
/-- bits.Add64 with no carry: the model's own entry, run. -/
theorem ext_add (a b : Int) (a0 : 0 ≤ a) (b0 : 0 ≤ b) (w : World) : (callFunc 48 #[.int .u64 a, .int .u64 b, .int .u64 0]).run Tryd.prog w = .ok (.value (.tuple #[.int .u64 ((a + b) % 18446744073709551616), .int .u64 ((a + b) / 18446744073709551616)])) w := by
  rw [run_callFunc_extern Tryd.func48 (by kernel_rfl) (by kernel_rfl) (by kernel_rfl) (e := add64Entry) (by kernel_rfl), run_add64 a b 0 a0 b0 (by omega) (by omega)]
  simp only [Result.andThen, Int.add_zero]
/-- bits.Mul64: the library's own text, walked. -/
theorem mul_c (a b : Int) (a0 : 0 ≤ a) (a1 : a < 18446744073709551616) (b0 : 0 ≤ b) (b1 : b < 18446744073709551616) (w : World) : Calls Tryd.prog 42 #[.int .u64 a, .int .u64 b] w fun e w' => e = .returned (.tuple #[.int .u64 (a * b / 18446744073709551616), .int .u64 (a * b % 18446744073709551616)]) ∧ w = w' := by
  obtain ⟨x, hx⟩ := Int.eq_ofNat_of_zero_le a0
  obtain ⟨y, hy⟩ := Int.eq_ofNat_of_zero_le b0
  obtain ⟨g1, g2, g3, g4⟩ := Lib.mul64_hi x y (by omega) (by omega)
  have p1 := Lib.half_mul_le (a := x / 4294967296) (b := y / 4294967296) (by omega) (by omega)
  have p2 := Lib.half_mul_le (a := x / 4294967296) (b := y % 4294967296) (by omega) (by omega)
  have p3 := Lib.half_mul_le (a := x % 4294967296) (b := y / 4294967296) (by omega) (by omega)
  have p4 := Lib.half_mul_le (a := x % 4294967296) (b := y % 4294967296) (by omega) (by omega)
  have q1 : a / 4294967296 * (b / 4294967296) = ((x / 4294967296 * (y / 4294967296) : Nat) : Int) := by rw [hx, hy, Int.natCast_mul, Int.natCast_ediv, Int.natCast_ediv]; rfl
  have q2 : a / 4294967296 * (b % 4294967296) = ((x / 4294967296 * (y % 4294967296) : Nat) : Int) := by rw [hx, hy, Int.natCast_mul, Int.natCast_ediv, Int.natCast_emod]; rfl
  have q3 : a % 4294967296 * (b / 4294967296) = ((x % 4294967296 * (y / 4294967296) : Nat) : Int) := by rw [hx, hy, Int.natCast_mul, Int.natCast_emod, Int.natCast_ediv]; rfl
  have q4 : a % 4294967296 * (b % 4294967296) = ((x % 4294967296 * (y % 4294967296) : Nat) : Int) := by rw [hx, hy, Int.natCast_mul, Int.natCast_emod, Int.natCast_emod]; rfl
  have q5 : a * b = ((x * y : Nat) : Int) := by rw [hx, hy, Int.natCast_mul]
  generalize x / 4294967296 * (y / 4294967296) = P1 at *
  generalize x / 4294967296 * (y % 4294967296) = P2 at *
  generalize x % 4294967296 * (y / 4294967296) = P3 at *
  generalize x % 4294967296 * (y % 4294967296) = P4 at *
  generalize x * y = P5 at *
  have HQ := Lib.hid (And.intro q1 (And.intro q2 (And.intro q3 (And.intro q4 q5))))
  have m1 := mask_lo a a0 a1
  have m2 := mask_lo b b0 b1
  have HG := Lib.hid (And.intro g1 (And.intro g2 (And.intro g3 g4)))
  have HP := Lib.hid (And.intro p1 (And.intro p2 (And.intro p3 p4)))
  clear q1 q2 q3 q4 q5 g1 g2 g3 g4 p1 p2 p3 p4 hx hy
  go_enter Tryd.func42, Tryd.ntmps42
  go_wp2
  obtain ⟨q1, q2, q3, q4, q5⟩ := HQ.out
  obtain ⟨g1, g2, g3, g4⟩ := HG.out
  obtain ⟨p1, p2, p3, p4⟩ := HP.out
  clear HQ HG HP
  have w1 : IntKind.u64.wrap (P1 : Int) = P1 := bits_lo (by omega) (by omega)
  have w2 : IntKind.u64.wrap (P2 : Int) = P2 := bits_lo (by omega) (by omega)
  have w3 : IntKind.u64.wrap (P3 : Int) = P3 := bits_lo (by omega) (by omega)
  have w4 : IntKind.u64.wrap (P4 : Int) = P4 := bits_lo (by omega) (by omega)
  have w5 : IntKind.u64.wrap (P5 : Int) = P5 % 18446744073709551616 := IntKind.wrap_u64 _
  have wT : IntKind.u64.wrap ((P2 : Int) + P4 / 4294967296) = P2 + P4 / 4294967296 := bits_lo (by omega) (by omega)
  have mT := mask_lo ((P2 : Int) + P4 / 4294967296) (by omega) (by omega)
  have wW : IntKind.u64.wrap (((P2 : Int) + P4 / 4294967296) % 4294967296 + P3) = ((P2 : Int) + P4 / 4294967296) % 4294967296 + P3 := bits_lo (by omega) (by omega)
  have wH : IntKind.u64.wrap ((P1 : Int) + (P2 + P4 / 4294967296) / 4294967296) = (P1 : Int) + (P2 + P4 / 4294967296) / 4294967296 := bits_lo (by omega) (by omega)
  have wI : IntKind.u64.wrap ((P1 : Int) + (P2 + P4 / 4294967296) / 4294967296 + (((P2 : Int) + P4 / 4294967296) % 4294967296 + P3) / 4294967296) = P5 / 18446744073709551616 := by rw [bits_lo (by omega) (by omega)]; omega
  simp only [q1, q2, q3, q4, q5, w1, w2, w3, w4, w5, wT, mT, wW, wH, wI]
  go_ret2
  exact ⟨by first | rfl | (rw [q5]), rfl⟩
theorem q9fits_c (a : Int) (a0 : 0 ≤ a) (a1 : a < 18446744073709551616) (w : World) : Calls Tryd.prog 49 #[.int .u64 a] w fun e w' => e = .returned (.bool (decide (a < 9223372036854775808))) ∧ w = w' := by
  go_enter Tryd.func49, Tryd.ntmps49
  go_wp2
  go_ret
  exact ⟨rfl, rfl⟩
theorem q9bel_ok (l : Int) (l0 : 0 ≤ l) (l1 : l < 9223372036854775808) (w : World) : Calls Tryd.prog 43 #[.int .u64 0, .int .u64 l] w fun e w' => e = .returned (.tuple #[.int .u64 l, .bool true]) ∧ w = w' := by
  have hf := q9fits_c l l0 (by omega)
  rw [decide_eq_true l1] at hf
  have HF := Lib.hid hf
  clear hf
  go_enter Tryd.func43, Tryd.ntmps43
  go_wp2_with (first
    | (go_at_call 49; (with_reducible refine (HF.out _).mono ?_); rintro e _ ⟨rfl, rfl⟩))
  go_ret2
  exact ⟨rfl, rfl⟩
theorem q9bel_no (h l : Int) (h0 : 0 ≤ h) (h1 : h < 18446744073709551616) (l0 : 0 ≤ l) (l1 : l < 18446744073709551616) (hno : h = 0 → ¬ l < 9223372036854775808) (w : World) : Calls Tryd.prog 43 #[.int .u64 h, .int .u64 l] w fun e w' => e = .returned (.tuple #[.int .u64 0, .bool false]) ∧ w = w' := by
  have hf := q9fits_c l l0 l1
  by_cases hz : h = 0
  · subst hz
    rw [decide_eq_false (hno rfl)] at hf
    have HF := Lib.hid hf
    clear hf hno
    go_enter Tryd.func43, Tryd.ntmps43
    go_wp2_with (first
      | (go_at_call 49; (with_reducible refine (HF.out _).mono ?_); rintro e _ ⟨rfl, rfl⟩))
    go_ret2
    exact ⟨rfl, rfl⟩
  · have tz : (h == 0) = false := by rw [beq_eq_false_iff_ne]; exact hz
    clear hf hno
    go_enter Tryd.func43, Tryd.ntmps43
    go_wp2
    go_ret2
    exact ⟨rfl, rfl⟩
theorem q9add_c (a b : Int) (a0 : 0 ≤ a) (a1 : a < 18446744073709551616) (b0 : 0 ≤ b) (b1 : b < 18446744073709551616) (w : World) : Calls Tryd.prog 41 #[.int .u64 a, .int .u64 b] w fun e w' => e = .returned (.tuple #[.int .u64 (addV a b), .bool (addO a b)]) ∧ w = w' := by
  have hx := ext_add a b a0 b0
  obtain ⟨s, hs⟩ : ∃ s, (a + b) % 18446744073709551616 = s := ⟨_, rfl⟩
  obtain ⟨c, hc⟩ : ∃ c, (a + b) / 18446744073709551616 = c := ⟨_, rfl⟩
  rw [hs, hc] at hx
  by_cases h : a + b < 9223372036854775808
  · obtain rfl : c = 0 := by omega
    obtain rfl : s = a + b := by omega
    have hb := q9bel_ok (a + b) (by omega) h
    rw [(addV_ok h).1, (addV_ok h).2]
    have HB := Lib.hid hb
    clear hb hs hc h
    go_enter Tryd.func41, Tryd.ntmps41
    go_wp2_with (first
      | (go_at_call 43; (with_reducible refine (HB.out _).mono ?_); rintro e _ ⟨rfl, rfl⟩)
      | (simp only [hx]))
    go_ret2
    exact ⟨rfl, rfl⟩
  · have hb := q9bel_no c s (by omega) (by omega) (by omega) (by omega) (by omega)
    rw [(addV_no h).1, (addV_no h).2]
    have HB := Lib.hid hb
    clear hb hs hc h
    go_enter Tryd.func41, Tryd.ntmps41
    go_wp2_with (first
      | (go_at_call 43; (with_reducible refine (HB.out _).mono ?_); rintro e _ ⟨rfl, rfl⟩)
      | (simp only [hx]))
    go_ret2
    exact ⟨rfl, rfl⟩
theorem q9mul_c (a b : Int) (a0 : 0 ≤ a) (a1 : a < 18446744073709551616) (b0 : 0 ≤ b) (b1 : b < 18446744073709551616) (w : World) : Calls Tryd.prog 31 #[.int .u64 a, .int .u64 b] w fun e w' => e = .returned (.tuple #[.int .u64 (mulV a b), .bool (mulO a b)]) ∧ w = w' := by
  have hx := mul_c a b a0 a1 b0 b1
  have hm := Int.mul_nonneg a0 b0
  have hl : a * b ≤ 18446744073709551615 * 18446744073709551615 := Int.mul_le_mul (by omega) (by omega) b0 (by omega)
  by_cases h : a * b < 9223372036854775808
  · rw [(mulV_ok h).1, (mulV_ok h).2]
    generalize a * b = m at *
    obtain ⟨s, hs⟩ : ∃ s, m % 18446744073709551616 = s := ⟨_, rfl⟩
    obtain ⟨c, hc⟩ : ∃ c, m / 18446744073709551616 = c := ⟨_, rfl⟩
    rw [hs, hc] at hx
    obtain rfl : c = 0 := by omega
    obtain rfl : s = m := by omega
    have hb := q9bel_ok s (by omega) h
    have HB := Lib.hid hb
    have HX := Lib.hid hx
    clear hb hx hs hc h hm hl
    go_enter Tryd.func31, Tryd.ntmps31
    go_wp2_with (first
      | (go_at_call 43; (with_reducible refine (HB.out _).mono ?_); rintro e _ ⟨rfl, rfl⟩)
      | (go_at_call 42; (with_reducible refine (HX.out _).mono ?_); rintro e _ ⟨rfl, rfl⟩))
    go_ret2
    exact ⟨rfl, rfl⟩
  · rw [(mulV_no h).1, (mulV_no h).2]
    generalize a * b = m at *
    obtain ⟨s, hs⟩ : ∃ s, m % 18446744073709551616 = s := ⟨_, rfl⟩
    obtain ⟨c, hc⟩ : ∃ c, m / 18446744073709551616 = c := ⟨_, rfl⟩
    rw [hs, hc] at hx
    have hb := q9bel_no c s (by omega) (by omega) (by omega) (by omega) (by omega)
    have HB := Lib.hid hb
    have HX := Lib.hid hx
    clear hb hx hs hc h hm hl
    go_enter Tryd.func31, Tryd.ntmps31
    go_wp2_with (first
      | (go_at_call 43; (with_reducible refine (HB.out _).mono ?_); rintro e _ ⟨rfl, rfl⟩)
      | (go_at_call 42; (with_reducible refine (HX.out _).mono ?_); rintro e _ ⟨rfl, rfl⟩))
    go_ret2
    exact ⟨rfl, rfl⟩
set_option maxHeartbeats 2000000 in
theorem q9total_c (zs : List Int) (hz : ∀ z ∈ zs, 0 ≤ z ∧ z < 18446744073709551616) (A : Option Addr) (n c : Nat) (hn : n ≤ maxLen) (w : World) (hrd : Rd .u64 w w.heap.size A n zs) : Calls Tryd.prog 30 #[.slice A n c] w fun e w' => e = .returned (.tuple #[.int .u64 (sumV zs), .bool (sumO zs)]) ∧ w = w' := by
  have HR := Lib.hid hrd
  have HZ := Lib.hid hz
  have hlen := hrd.len
  have hnm : (n : Int) ≤ 9223372036854775807 := by unfold maxLen at hn; omega
  have hle := fun k => sumL_le (l := zs) (fun z h => (hz z h).1) k
  have hst := fun k h => sumL_take (l := zs) (k := k) h
  have htk : zs.take n = zs := by rw [← hlen, List.take_length]
  have HLE := Lib.hid hle
  have HST := Lib.hid hst
  clear hrd hz hn hle hst
  go_enter Tryd.func30, Tryd.ntmps30
  go_wp2
  go_loopw [4, 10] (fun s i wr => ∃ k : Nat, k ≤ n ∧ i = .int .i64 (k : Int) ∧ s = .int .u64 (sumL (zs.take k)) ∧ 0 ≤ sumL (zs.take k) ∧ sumL (zs.take k) < 9223372036854775808 ∧ wr = w) (fun _ i _ => n - (intOf i).toNat)
  case atStart => exact ⟨0, by omega, rfl, rfl, Int.le_refl _, (by show (0 : Int) < 9223372036854775808; omega), by first | rfl | trivial⟩
  case round =>
    obtain ⟨k, hk, rfl, rfl, h0, h1, rfl⟩ := hrel
    by_cases hlt : k < n
    · obtain ⟨b, off, rfl, _, hc⟩ := HR.out.at_ (by omega)
      have hck := hc k hlt
      have hzk := HZ.out _ (getD_in (l := zs) (k := k) (by omega))
      have hsk := HST.out k (by omega)
      have hl1 := HLE.out (k + 1)
      have HSK := Lib.hid hsk
      obtain ⟨z, hzz⟩ : ∃ z, zs.getD k 0 = z := ⟨_, rfl⟩
      obtain ⟨S, hS⟩ : ∃ S, sumL (zs.take k) = S := ⟨_, rfl⟩
      obtain ⟨S1, hS1⟩ : ∃ S, sumL (zs.take (k + 1)) = S := ⟨_, rfl⟩
      rw [hzz, hS] at HSK
      rw [hzz] at hck hzk hsk
      rw [hS] at h0 h1 hsk ⊢
      rw [hS1] at hl1 hsk
      have hadd := fun W => q9add_c S z h0 (by omega) hzk.1 hzk.2 W
      by_cases hs : S + z < 9223372036854775808
      · rw [(addV_ok hs).1, (addV_ok hs).2] at hadd
        have HADD := Lib.hid hadd
        clear hadd hc hzz hS hS1 hsk hl1
        go_wp2_with (first
          | (go_at_call 41; (with_reducible refine (HADD.out _).mono ?_); rintro e _ ⟨rfl, rfl⟩))
        go_roundw
        case rel => exact ⟨k + 1, by omega, by go_num, by rw [HSK.out], by rw [HSK.out]; omega, by rw [HSK.out]; exact hs, by first | rfl | trivial⟩
        case measure => simp [intOf]; omega
      · rw [(addV_no hs).1, (addV_no hs).2] at hadd
        have hno : ¬ sumL zs < 9223372036854775808 := by omega
        have HADD := Lib.hid hadd
        have HNO := Lib.hid (sumV_no hno)
        clear hadd hc hzz hS hS1 hsk hl1 hno
        go_wp2_with (first
          | (go_at_call 41; (with_reducible refine (HADD.out _).mono ?_); rintro e _ ⟨rfl, rfl⟩))
        go_ret2
        exact ⟨ret_pair (sym2 HNO.out), by first | rfl | trivial⟩
    · obtain rfl : k = n := by omega
      rw [htk] at h0 h1 ⊢
      have HOK := Lib.hid (sumV_ok h1)
      go_wp2
      go_ret2
      exact ⟨ret_pair (sym2 HOK.out), by first | rfl | trivial⟩
end Go.Proofs.YtomkidgmpbjgeaaDoor
/-
  What the landed alias tells of a column, and of a cell: whether there is such a column, who owns an offset in it, whether a cell may not be.
  Conditions: the numbers lie in their types' ranges; the cells read as pairs.
-/
set_option maxRecDepth 100000
set_option linter.unusedVariables false
set_option linter.unusedSimpArgs false
namespace Go.Proofs.YtomkidgmpbjgeaaDoor
open Go.ChangeShapes Go.WideShapes Go.ChangeAt Go.RowKit
theorem ret_intv {a b : Int} (h : a = b) : Ending.returned (.int .i64 a) = .returned (.int .i64 b) := by rw [h]
theorem q14col_c (T : Int) (A : Option Addr) (n c : Nat) (hn : n ≤ maxLen) (i : Int) (i0 : -9223372036854775808 ≤ i) (i1 : i < 9223372036854775808) (w : World) : Calls Tryd.prog 36 #[.agg #[.int .u64 T, .slice A n c], .int .i64 i] w fun e w' => e = .returned (.bool (decide (0 ≤ i ∧ i < (n : Int)))) ∧ Below w.heap.size w w' := by
  have hnm : (n : Int) ≤ 9223372036854775807 := by unfold maxLen at hn; omega
  have HS := Lib.hid (TbS.new w T A n c)
  by_cases h1 : 0 ≤ i
  · by_cases h2 : i < (n : Int)
    · have HV := Lib.hid (decide_eq_true (And.intro h1 h2))
      go_enter Tryd.func36, Tryd.ntmps36
      go_wp2
      go_ret
      exact ⟨ret_bool (by first | exact HV.out.symm | (rw [HV.out]; simp; omega) | (simp; omega)), HS.out.bel⟩
    · have HV := Lib.hid (decide_eq_false (fun h : 0 ≤ i ∧ i < (n : Int) => h2 h.2))
      go_enter Tryd.func36, Tryd.ntmps36
      go_wp2
      go_ret
      exact ⟨ret_bool (by first | exact HV.out.symm | (rw [HV.out]; simp; omega) | (simp; omega)), HS.out.bel⟩
  · have HV := Lib.hid (decide_eq_false (fun h : 0 ≤ i ∧ i < (n : Int) => h1 h.1))
    go_enter Tryd.func36, Tryd.ntmps36
    go_wp2
    go_ret
    exact ⟨ret_bool (by first | exact HV.out.symm | (rw [HV.out]; simp; omega) | (simp; omega)), HS.out.bel⟩
def lkC (ts : List (Int × Int)) (k : Nat) (u : Int) : Int := if u < (cellL ts k).1 then (k : Int) else (cellL ts k).2
set_option maxHeartbeats 2000000 in
theorem q14of_c (T : Int) (ts : List (Int × Int)) (hts : PrOk ts) (A : Option Addr) (n c : Nat) (hn : n ≤ maxLen) (w : World) (hrd : RdPr .u64 .i64 w w.heap.size A n ts) (k : Nat) (hk : k < n) (u : Int) (u0 : 0 ≤ u) (u1 : u < 18446744073709551616) :
    Calls Tryd.prog 29 #[.agg #[.int .u64 T, .slice A n c], .int .i64 (k : Int), .int .u64 u] w fun e w' => e = .returned (.int .i64 (lkC ts k u)) ∧ Below w.heap.size w w' := by
  have hlen := hrd.len
  have hnm : (n : Int) ≤ 9223372036854775807 := by unfold maxLen at hn; omega
  obtain ⟨b, off, rfl, hb, -⟩ := hrd.cells (by omega)
  have HS := Lib.hid (TbS.new w T (some ⟨b, off, none⟩) n c)
  have c0 := HS.out.c0
  have c1 := HS.out.c1
  obtain ⟨c2, c3⟩ := (HS.out.pr hrd).cellAt hk
  have hz := hts.at_ (k := k) (by omega)
  have HV : Hid (lkC ts k u = if u < (cellL ts k).1 then (k : Int) else (cellL ts k).2) := Lib.hid rfl
  obtain ⟨x, hx⟩ : ∃ x, (cellL ts k).1 = x := ⟨_, rfl⟩
  obtain ⟨y, hy⟩ : ∃ x, (cellL ts k).2 = x := ⟨_, rfl⟩
  rw [hx, hy] at hz HV
  rw [hx] at c2
  rw [hy] at c3
  have i0 : (0 : Int) ≤ (k : Int) := by omega
  have i1 : (k : Int) < (n : Int) := by omega
  clear hrd hts hx hy
  by_cases hu : u < x
  · rw [if_pos hu] at HV
    go_enter Tryd.func29, Tryd.ntmps29
    go_wp2
    go_ret
    exact ⟨ret_intv HV.out.symm, (HS.out.alloc _).bel⟩
  · rw [if_neg hu] at HV
    go_enter Tryd.func29, Tryd.ntmps29
    go_wp2
    go_ret
    exact ⟨ret_intv HV.out.symm, (HS.out.alloc _).bel⟩
/-- A cell that may not be, in a table of n cells. -/
def badC (T : Int) (n : Nat) (p : Int × Int) : Bool := decide (¬ (p.1 ≤ T ∧ 0 ≤ p.2 ∧ p.2 < (n : Int)))
set_option maxHeartbeats 2000000 in
theorem q14bad_c (T : Int) (T0 : 0 ≤ T) (T1 : T < 18446744073709551616) (A : Option Addr) (n c : Nat) (hn : n ≤ maxLen) (x y : Int) (x0 : 0 ≤ x) (x1 : x < 18446744073709551616) (y0 : -9223372036854775808 ≤ y) (y1 : y < 9223372036854775808) (w0 : World) (g : Nat) (w : World) (hS : TbS w0 g T A n c w) :
    Calls Tryd.prog 35 #[.agg #[.int .u64 x, .int .i64 y], .pointer (some ⟨g, 0, none⟩)] w fun e w' => e = .returned (.bool (badC T n (x, y))) ∧ Below w.heap.size w w' := by
  have HS := Lib.hid (hS.alloc (.cells #[.int .u64 x, .int .i64 y] 52))
  have c0 := HS.out.c0
  have c1 := HS.out.c1
  have HB := Lib.hid ((Below.refl w.heap.size w).alloc (Nat.le_refl _) (.cells #[.int .u64 x, .int .i64 y] 52))
  have hcl := fun W => q14col_c T A n c hn y y0 y1 W
  clear hS
  by_cases h1 : x ≤ T
  · by_cases h2 : 0 ≤ y ∧ y < (n : Int)
    · have HV : Hid (badC T n (x, y) = false) := Lib.hid (decide_eq_false (fun h => h ⟨h1, h2⟩))
      rw [decide_eq_true h2] at hcl
      have HCL := Lib.hid hcl
      clear hcl h2
      go_enter Tryd.func35, Tryd.ntmps35
      go_wp2_with (first
        | (go_at_call 36; (with_reducible refine (HCL.out _).mono ?_); rintro e w1 ⟨rfl, hb1⟩; have HB1 := Lib.hid (HB.out.trans (hb1.mono HB.out.size))))
      go_ret
      exact ⟨ret_bool (by first | exact HV.out.symm | (rw [HV.out]; simp; omega) | (simp; omega)), HB1.out⟩
    · have HV : Hid (badC T n (x, y) = true) := Lib.hid (decide_eq_true (fun h => h2 h.2))
      rw [decide_eq_false h2] at hcl
      have HCL := Lib.hid hcl
      clear hcl h2
      go_enter Tryd.func35, Tryd.ntmps35
      go_wp2_with (first
        | (go_at_call 36; (with_reducible refine (HCL.out _).mono ?_); rintro e w1 ⟨rfl, hb1⟩; have HB1 := Lib.hid (HB.out.trans (hb1.mono HB.out.size))))
      go_ret
      exact ⟨ret_bool (by first | exact HV.out.symm | (rw [HV.out]; simp; omega) | (simp; omega)), HB1.out⟩
  · have HV : Hid (badC T n (x, y) = true) := Lib.hid (decide_eq_true (fun h => h1 h.1))
    clear hcl
    go_enter Tryd.func35, Tryd.ntmps35
    go_wp2
    go_ret
    exact ⟨ret_bool (by first | exact HV.out.symm | (rw [HV.out]; simp; omega) | (simp; omega)), HB.out⟩
end Go.Proofs.YtomkidgmpbjgeaaDoor
/-
  What the landed alias tells of a table: whether it may be, its size, a lookup.
  Conditions: the numbers lie in their types' ranges; the cells read as pairs.
-/
set_option maxRecDepth 100000
set_option linter.unusedVariables false
set_option linter.unusedSimpArgs false
namespace Go.Proofs.YtomkidgmpbjgeaaDoor
open Go.ChangeShapes Go.WideShapes Go.ChangeAt Go.RowKit
set_option maxHeartbeats 2000000 in
theorem q14ix_c (T : Int) (T0 : 0 ≤ T) (T1 : T < 18446744073709551616) (ts : List (Int × Int)) (hts : PrOk ts) (A : Option Addr) (n c : Nat) (hn : n ≤ maxLen) (w0 : World) (hrd : RdPr .u64 .i64 w0 w0.heap.size A n ts) (g : Nat) (w : World) (hS : TbS w0 g T A n c w) :
    Calls Tryd.prog 46 #[.slice A n c, .func (.func 35) #[] #[.pointer (some ⟨g, 0, none⟩)]] w fun e w' => (∃ r : Int, e = .returned (.int .i64 r) ∧ (r < 0 ↔ ∀ k, k < n → badC T n (cellL ts k) = false)) ∧ Below w.heap.size w w' := by
  have hlen := hrd.len
  have hnm : (n : Int) ≤ 9223372036854775807 := by unfold maxLen at hn; omega
  have HB := Lib.hid (fun W hW x y x0 x1 y0 y1 => q14bad_c T T0 T1 A n c hn x y x0 x1 y0 y1 w0 g W hW)
  have HR := Lib.hid hrd
  have HTS := Lib.hid hts
  have HS := Lib.hid hS
  clear hrd hts hS hn T0 T1
  go_enter Tryd.func46, Tryd.ntmps46
  go_wp2
  go_loopw [8] (fun i wr => ∃ k : Nat, k ≤ n ∧ i = .int .i64 (k : Int) ∧ (∀ j, j < k → badC T n (cellL ts j) = false) ∧ TbS w0 g T A n c wr ∧ Below w.heap.size w wr) (fun i _ => n - (intOf i).toNat)
  case atStart => exact ⟨0, by omega, rfl, fun j h => absurd h (by omega), HS.out, Below.refl _ _⟩
  case round =>
    obtain ⟨k, hk, rfl, hall, hS, hW⟩ := hrel
    have HSS := Lib.hid hS
    have HAL := Lib.hid hall
    have HWW := Lib.hid hW
    clear hall hS hW
    by_cases hlt : k < n
    · obtain ⟨b, off, rfl, hb, hcc⟩ := (HSS.out.pr HR.out).cells (by omega)
      obtain ⟨hc0, hc1⟩ := hcc k hlt
      have hz := HTS.out.at_ (k := k) (by omega)
      have HC0 := Lib.hid (HB.out _ HSS.out _ _ hz.1 hz.2.1 hz.2.2.1 hz.2.2.2)
      have HNX : Hid (badC T n ((cellL ts k).1, (cellL ts k).2) = false → ∀ j, j < k + 1 → badC T n (cellL ts j) = false) := Lib.hid (fun h j hj => by
        by_cases e : j = k
        · rw [e]; exact h
        · exact HAL.out j (by omega))
      have HNO : Hid (badC T n ((cellL ts k).1, (cellL ts k).2) = true → ¬ ∀ j, j < n → badC T n (cellL ts j) = false) := Lib.hid (fun h h2 => by
        have h3 := h2 k hlt
        rw [show cellL ts k = ((cellL ts k).1, (cellL ts k).2) from rfl, h] at h3
        cases h3)
      obtain ⟨x, hx⟩ : ∃ x, (cellL ts k).1 = x := ⟨_, rfl⟩
      obtain ⟨y, hy⟩ : ∃ x, (cellL ts k).2 = x := ⟨_, rfl⟩
      rw [hx, hy] at HC0 HNX HNO
      rw [hx] at hc0
      rw [hy] at hc1
      have i0 : (0 : Int) ≤ (k : Int) := by omega
      have i1 : (k : Int) < (n : Int) := by omega
      clear hcc hb hx hy hz
      cases hbd : badC T n (x, y)
      · rw [hbd] at HC0
        have HNN := Lib.hid (HNX.out hbd)
        clear hbd HNX HNO HAL
        go_wp2_with (first
          | (go_at_call 35; (with_reducible refine HC0.out.mono ?_); rintro e w1 ⟨rfl, hb1⟩; have HS1 := Lib.hid (HSS.out.below hb1); have HW1 := Lib.hid (HWW.out.trans (hb1.mono HWW.out.size))))
        go_roundw
        case rel => exact ⟨k + 1, by omega, by go_num, HNN.out, HS1.out, HW1.out⟩
        case measure => simp [intOf]; omega
      · rw [hbd] at HC0
        have HNN := Lib.hid (HNO.out hbd)
        clear hbd HNX HNO HAL
        go_wp2_with (first
          | (go_at_call 35; (with_reducible refine HC0.out.mono ?_); rintro e w1 ⟨rfl, hb1⟩; have HS1 := Lib.hid (HSS.out.below hb1); have HW1 := Lib.hid (HWW.out.trans (hb1.mono HWW.out.size))))
        go_ret
        exact ⟨⟨_, rfl, fun h => absurd h (by omega), fun h => absurd h HNN.out⟩, HW1.out⟩
    · obtain rfl : k = n := by omega
      go_wp2
      go_ret
      exact ⟨⟨_, rfl, fun _ => HAL.out, fun _ => by decide⟩, HWW.out⟩
theorem q14has_c (T : Int) (T0 : 0 ≤ T) (T1 : T < 18446744073709551616) (ts : List (Int × Int)) (hts : PrOk ts) (A : Option Addr) (n c : Nat) (hn : n ≤ maxLen) (w0 : World) (hrd : RdPr .u64 .i64 w0 w0.heap.size A n ts) (g : Nat) (w : World) (hS : TbS w0 g T A n c w) (p : Bool) (hp : p = false ↔ ∀ k, k < n → badC T n (cellL ts k) = false) :
    Calls Tryd.prog 34 #[.slice A n c, .func (.func 35) #[] #[.pointer (some ⟨g, 0, none⟩)]] w fun e w' => e = .returned (.bool p) ∧ Below w.heap.size w w' := by
  have HI := Lib.hid (q14ix_c T T0 T1 ts hts A n c hn w0 hrd g w hS)
  have HP := Lib.hid hp
  clear hts hrd hS hn hp
  go_enter Tryd.func34, Tryd.ntmps34
  go_wp2_with (first
    | (go_at_call 46; (with_reducible refine HI.out.mono ?_); rintro e w1 ⟨⟨r, rfl, hr⟩, hb1⟩; have HB1 := Lib.hid hb1; have HRR := Lib.hid hr; clear hb1 hr))
  go_ret
  refine ⟨ret_bool ?_, HB1.out⟩
  have h := HRR.out.trans HP.out.symm
  cases p
  · have := h.2 rfl
    simp; omega
  · have : ¬ r < 0 := fun h2 => by have := h.1 h2; cases this
    simp; omega
section
variable (T : Int) (T0 : 0 ≤ T) (T1 : T < 18446744073709551616) (ts : List (Int × Int)) (hts : PrOk ts) (A : Option Addr) (n c : Nat) (hn : n ≤ 1000) (hc : n ≤ c) (hcm : c ≤ maxLen) (w : World) (hrd : RdPr .u64 .i64 w w.heap.size A n ts)
include T0 T1 hts hn hrd
set_option maxHeartbeats 2000000 in
theorem q14rightB_c : Calls Tryd.prog 24 #[.agg #[.int .u64 T, .slice A n c]] w fun e w' => e = .returned (.bool (tabR T ts)) ∧ Below w.heap.size w w' := by
  have hlen := hrd.len
  have hmx : n ≤ maxLen := by unfold maxLen; omega
  have HM := Lib.hid (fun W => q9mul_c (n : Int) T (by omega) (by omega) T0 T1 W)
  have HS := Lib.hid (TbS.new w T A n c)
  have c0 := HS.out.c0
  have c1 := HS.out.c1
  by_cases h1 : (n : Int) * T < 9223372036854775808
  · rw [(mulV_ok h1).1, (mulV_ok h1).2] at HM
    by_cases h2 : (n : Int) * T = 0
    · have HT := Lib.hid (tabR_no (T := T) (ts := ts) (by
        rw [hlen]
        rintro ⟨a, b, -⟩
        have := Int.mul_pos (show (0 : Int) < (n : Int) by omega) b
        omega))
      rw [h2] at HM
      have hnm : (n : Int) ≤ 1000 := by omega
      clear h1 h2 hrd hts
      go_enter Tryd.func24, Tryd.ntmps24
      go_wp2_with (first
        | (go_at_call 31; (with_reducible refine (HM.out _).mono ?_); rintro e _ ⟨rfl, rfl⟩))
      go_ret
      exact ⟨ret_bool HT.out.symm, HS.out.bel⟩
    · have hT0 : 0 < T := by
        rcases Int.lt_or_le 0 T with h | h
        · exact h
        · exact absurd (show (n : Int) * T = 0 by rw [show T = 0 by omega]; simp) h2
      have hn0 : 0 < n := by
        rcases Nat.eq_zero_or_pos n with h | h
        · exact absurd (show (n : Int) * T = 0 by rw [h]; simp) h2
        · exact h
      have HH := Lib.hid (fun p hp => q14has_c T T0 T1 ts hts A n c hmx w hrd w.heap.size _ HS.out p hp)
      have hT : tabR T ts = !(tabR T ts == false) := by cases tabR T ts <;> rfl
      have HHP : Hid ((!tabR T ts) = false ↔ ∀ k, k < n → badC T n (cellL ts k) = false) := Lib.hid (by
        constructor
        · intro h k hk
          have h3 : tabR T ts = true := by simpa using h
          have h4 := (tabR_iff.1 h3).2.2.2 k (by omega)
          rw [hlen] at h4
          exact decide_eq_false (fun h5 => h5 h4)
        · intro h
          rw [tabR_all (T := T) (ts := ts) (by rw [hlen]; exact ⟨hn0, hT0, h1⟩) (fun k hk => by
            rw [hlen]
            exact Decidable.not_not.1 (of_decide_eq_false (h k (by omega))))]
          rfl)
      have HH2 := Lib.hid (HH.out _ HHP.out)
      clear HH HHP hT
      have hnm : (n : Int) ≤ 1000 := by omega
      have t1 : ((n : Int) * T == 0) = false := by rw [beq_eq_false_iff_ne]; exact h2
      obtain ⟨m, hm⟩ : ∃ m, (n : Int) * T = m := ⟨_, rfl⟩
      rw [hm] at HM t1
      obtain ⟨q, hq⟩ : ∃ q, tabR T ts = q := ⟨_, rfl⟩
      rw [hq] at HH2 ⊢
      clear h1 h2 hrd hts hm hq
      go_enter Tryd.func24, Tryd.ntmps24
      go_wp2_with (first
        | (go_at_call 31; (with_reducible refine (HM.out _).mono ?_); rintro e _ ⟨rfl, rfl⟩)
        | (go_at_call 34; (with_reducible refine HH2.out.mono ?_); rintro e w1 ⟨rfl, hb1⟩; have HS1 := Lib.hid (HS.out.below hb1)))
      go_ret
      exact ⟨ret_bool (by cases q <;> rfl), HS1.out.bel⟩
  · rw [(mulV_no h1).1, (mulV_no h1).2] at HM
    have HT := Lib.hid (tabR_no (T := T) (ts := ts) (by rw [hlen]; exact fun h => h1 h.2.2))
    have hnm : (n : Int) ≤ 1000 := by omega
    clear h1 hrd hts
    go_enter Tryd.func24, Tryd.ntmps24
    go_wp2_with (first
      | (go_at_call 31; (with_reducible refine (HM.out _).mono ?_); rintro e _ ⟨rfl, rfl⟩))
    go_ret
    exact ⟨ret_bool HT.out.symm, HS.out.bel⟩
set_option maxHeartbeats 2000000 in
theorem q14sizeB_c : Calls Tryd.prog 19 #[.agg #[.int .u64 T, .slice A n c]] w fun e w' => e = .returned (.int .u64 (tabZ T ts)) ∧ Below w.heap.size w w' := by
  have hlen := hrd.len
  have HC := Lib.hid (fun W h => q14rightB_c T T0 T1 ts hts A n c hn W h)
  have HR := Lib.hid hrd
  have HS := Lib.hid (TbS.new w T A n c)
  have c00 := HS.out.c0
  have c01 := HS.out.c1
  cases hr : tabR T ts
  · rw [hr] at HC
    have HZ : Hid (tabZ T ts = 0) := Lib.hid (if_neg (by rw [hr]; simp))
    clear hrd hts hr
    go_enter Tryd.func19, Tryd.ntmps19
    go_wp2_with (first
      | (go_at_call 24; (with_reducible refine (HC.out _ (HS.out.pr HR.out)).mono ?_); rintro e w1 ⟨rfl, hb1⟩; have HS1 := Lib.hid (HS.out.below hb1)))
    go_ret
    exact ⟨ret_u64v HZ.out.symm, HS1.out.bel⟩
  · rw [hr] at HC
    have HZ : Hid (tabZ T ts = (n : Int) * T) := Lib.hid (by unfold tabZ; rw [if_pos hr, hlen])
    have hm := (tabR_iff.1 hr).2.2.1
    have hm0 := Int.mul_nonneg (show 0 ≤ (n : Int) by omega) T0
    rw [hlen] at hm
    clear hrd hts hr
    have hnm : (n : Int) ≤ 9223372036854775807 := by omega
    have hw : IntKind.u64.wrap ((n : Int) * T) = (n : Int) * T := by rw [IntKind.wrap_u64]; omega
    clear hm hm0
    go_enter Tryd.func19, Tryd.ntmps19
    go_wp2_with (first
      | (go_at_call 24; (with_reducible refine (HC.out _ (HS.out.pr HR.out)).mono ?_); rintro e w1 ⟨rfl, hb1⟩; have HS1 := Lib.hid (HS.out.below hb1); have c0 := HS1.out.c0; have c1 := HS1.out.c1))
    go_ret
    exact ⟨ret_u64v HZ.out.symm, HS1.out.bel⟩
end
end Go.Proofs.YtomkidgmpbjgeaaDoor
/-
  What the landed alias tells of a table: an owner, how many a place owns, whether two are the same.
  Conditions: the numbers lie in their types' ranges; the cells read as pairs; there are at most 1000.
-/
set_option maxRecDepth 100000
set_option linter.unusedVariables false
set_option linter.unusedSimpArgs false
namespace Go.Proofs.YtomkidgmpbjgeaaDoor
open Go.ChangeShapes Go.WideShapes Go.ChangeAt Go.RowKit
theorem size_tabE : (Tryd.prog.info? 28).map (·.size) = some 2 := by kernel_rfl
/-- What the columns give to the place as their other one. -/
def alN (T : Int) (ts : List (Int × Int)) (i : Int) : Nat → Int
  | 0 => 0
  | k + 1 => alN T ts i k + (if (cellL ts k).2 = i then T - (cellL ts k).1 else 0)
theorem own_al {T i : Int} {ts : List (Int × Int)} (i0 : 0 ≤ i) : ∀ k : Nat, ownsN T ts i k = (if i < (k : Int) then (cellL ts i.toNat).1 else 0) + alN T ts i k
  | 0 => by rw [if_neg (by omega)]; rfl
  | k + 1 => by
    show ownsN T ts i k + ownK T i k (cellL ts k) = _ + (alN T ts i k + _)
    rw [own_al i0 k]
    unfold ownK
    by_cases h : (k : Int) = i
    · rw [if_neg (show ¬ i < (k : Int) by omega), if_pos h, if_pos (show i < ((k + 1 : Nat) : Int) by omega), show i.toNat = k by omega]; omega
    · by_cases h2 : i < (k : Int)
      · rw [if_pos h2, if_neg h, if_pos (show i < ((k + 1 : Nat) : Int) by omega)]; omega
      · rw [if_neg h2, if_neg h, if_neg (show ¬ i < ((k + 1 : Nat) : Int) by omega)]; omega
theorem al_in {T i : Int} {ts : List (Int × Int)} (T0 : 0 ≤ T) : ∀ k : Nat, (∀ j, j < k → 0 ≤ (cellL ts j).1 ∧ (cellL ts j).1 ≤ T) → 0 ≤ alN T ts i k ∧ alN T ts i k ≤ (k : Int) * T
  | 0, _ => by simp [alN]
  | k + 1, h => by
    have h1 := al_in (i := i) T0 k (fun j hj => h j (by omega))
    have h2 := h k (by omega)
    have h3 : ((k + 1 : Nat) : Int) * T = (k : Int) * T + T := by rw [Int.natCast_add, Int.add_mul]; simp
    show 0 ≤ alN T ts i k + _ ∧ alN T ts i k + _ ≤ _
    split <;> omega
section
variable (T : Int) (T0 : 0 ≤ T) (T1 : T < 18446744073709551616) (ts : List (Int × Int)) (hts : PrOk ts) (A : Option Addr) (n c : Nat) (hn : n ≤ 1000) (w : World) (hrd : RdPr .u64 .i64 w w.heap.size A n ts)
include T0 T1 hts hn hrd
set_option maxHeartbeats 4000000 in
theorem q14ownerB_c (u : Int) (u0 : 0 ≤ u) (u1 : u < 18446744073709551616) : Calls Tryd.prog 21 #[.agg #[.int .u64 T, .slice A n c], .int .u64 u] w fun e w' => e = .returned (.tuple #[.int .i64 (owV T ts u), .int .i64 (owE T ts u)]) ∧ Below w.heap.size w w' := by
  have hlen := hrd.len
  have hmx : n ≤ maxLen := by unfold maxLen; omega
  have HZ := Lib.hid (fun W h => q14sizeB_c T T0 T1 ts hts A n c hn W h)
  have HR := Lib.hid hrd
  have HS := Lib.hid (TbS.new w T A n c)
  have c00 := HS.out.c0
  have c01 := HS.out.c1
  cases hr : tabR T ts
  · have hz : tabZ T ts = 0 := by unfold tabZ; rw [if_neg (by rw [hr]; simp)]
    rw [hz] at HZ
    have HE := Lib.hid (ow_no (T := T) (u := u) hr)
    clear hrd hts hr hz
    go_enter Tryd.func21, Tryd.ntmps21
    go_wp2_with (first
      | (go_at_call 19; (with_reducible refine (HZ.out _ (HS.out.pr HR.out)).mono ?_); rintro e w1 ⟨rfl, hb1⟩; have HS1 := Lib.hid (HS.out.below hb1); clear hb1))
    go_ret2
    exact ⟨ret_iiT HE.out.2.symm HE.out.1.symm, HS1.out.bel⟩
  have hz : tabZ T ts = (ts.length : Int) * T := by unfold tabZ; rw [if_pos hr]
  rw [hz] at HZ
  have hzp : 0 < (ts.length : Int) * T := Int.mul_pos (by have := (tabR_iff.1 hr).1; omega) (tabR_iff.1 hr).2.1
  have tz : ((ts.length : Int) * T == 0) = false := by rw [beq_eq_false_iff_ne]; omega
  by_cases hu : u < (ts.length : Int) * T
  · obtain ⟨h1, h2, h3, q0, q1, r0, r1⟩ := ow_ok hr u0 hu
    have hT := (tabR_iff.1 hr).2.1
    obtain ⟨q, hq⟩ : ∃ q : Nat, u / T = (q : Int) := Int.eq_ofNat_of_zero_le q0
    obtain ⟨r, hr2⟩ : ∃ r, u % T = r := ⟨_, rfl⟩
    have e1 : u.tdiv T = (q : Int) := (Int.tdiv_eq_ediv_of_nonneg u0).trans hq
    have e2 : u.tmod T = r := (Int.tmod_eq_emod_of_nonneg u0).trans hr2
    rw [hq, hr2] at h2 h3
    rw [hq] at q0 q1
    rw [hr2] at r0 r1
    have hl : lkV T ts (q : Int) r = lkC ts q r := by unfold lkV; rw [if_pos h3]; rfl
    have HL := Lib.hid (fun W h => q14of_c T ts hts A n c hmx W h q (by omega) r r0 (by omega))
    have tN : T ≠ 0 := by omega
    have HV : Hid (lkC ts q r = owV T ts u ∧ (0 : Int) = owE T ts u) := Lib.hid ⟨hl.symm.trans h2.symm, h1.symm⟩
    obtain ⟨V, hV⟩ : ∃ V, lkC ts q r = V := ⟨_, rfl⟩
    rw [hV] at HL HV
    have e3 : IntKind.i64.wrap (q : Int) = (q : Int) := by rw [IntKind.wrap_i64]; omega
    have e4 : IntKind.u64.wrap (q : Int) = (q : Int) := by rw [IntKind.wrap_u64]; omega
    have e5 : IntKind.u64.wrap r = r := by rw [IntKind.wrap_u64]; omega
    obtain ⟨Z, hZ⟩ : ∃ Z, (ts.length : Int) * T = Z := ⟨_, rfl⟩
    rw [hZ] at hu HZ tz
    clear hrd hts hr h1 h2 h3 hq hr2 hz hZ hV hl hzp hn hmx
    go_enter Tryd.func21, Tryd.ntmps21
    go_wp2_with (first
      | (go_at_call 19; (with_reducible refine (HZ.out _ (HS.out.pr HR.out)).mono ?_); rintro e w1 ⟨rfl, hb1⟩; have HS1 := Lib.hid (HS.out.below hb1); clear hb1))
    have hD := HS1.out.drew
    refine wp_region_held_drew (S := (TbS w w.heap.size T A n c)) (by kernel_rfl) hD (fun hH => ?_)
    refine wpAnyH_letter #[false, false, false, false, false, false, false, false, false, false, false, false, false] (by kernel_rfl) (fun _ _ d _ _ h => by cases d <;> exact h) (fun QL HQ1 HQ2 => ?_)
    refine held_row 0 (some 14) rfl (by kernel_rfl) (by kernel_rfl) (by kernel_rfl) (by kernel_rfl) (fun c a v w h => HQ2.out c a _ v w h) (by kernel_rfl) 28 (.tmp 2) rfl w.heap.size (by kernel_rfl) 28 #[.int .u64 T, .slice A n c] (fun _ h => h.b) _ Tryd.underlying28 rfl size_tabE hD ?_
    try simp only [Act.put, List.setIfInBounds_toArray, List.set_cons_zero, List.set_cons_succ]
    refine held_v 1 (some 15) rfl (by kernel_rfl) (by kernel_rfl) (by kernel_rfl) (by kernel_rfl) (fun c a v w h => HQ2.out c a _ v w h) (by kernel_rfl) (.int .u64 u) (fun W h => by kernel_rfl) hD ?_
    try simp only [Act.put, List.setIfInBounds_toArray, List.set_cons_zero, List.set_cons_succ]
    refine held_v 2 (some 16) rfl (by kernel_rfl) (by kernel_rfl) (by kernel_rfl) (by kernel_rfl) (fun c a v w h => HQ2.out c a _ v w h) (by kernel_rfl) (.pointer (some ⟨w.heap.size, 0, none⟩)) (fun W h => by kernel_rfl) hD ?_
    try simp only [Act.put, List.setIfInBounds_toArray, List.set_cons_zero, List.set_cons_succ]
    refine held_v 3 (some 17) rfl (by kernel_rfl) (by kernel_rfl) (by kernel_rfl) (by kernel_rfl) (fun c a v w h => HQ2.out c a _ v w h) (by kernel_rfl) (.int .u64 T) (fun W h => by have p := h.c0; go_simp) hD ?_
    try simp only [Act.put, List.setIfInBounds_toArray, List.set_cons_zero, List.set_cons_succ]
    refine held_v 4 (some 18) rfl (by kernel_rfl) (by kernel_rfl) (by kernel_rfl) (by kernel_rfl) (fun c a v w h => HQ2.out c a _ v w h) (by kernel_rfl) (.int .u64 (q : Int)) (fun W h => by have p := e1; have p2 := tN; have p3 := e4; go_simp) hD ?_
    try simp only [Act.put, List.setIfInBounds_toArray, List.set_cons_zero, List.set_cons_succ]
    refine held_v 5 (some 19) rfl (by kernel_rfl) (by kernel_rfl) (by kernel_rfl) (by kernel_rfl) (fun c a v w h => HQ2.out c a _ v w h) (by kernel_rfl) (.int .i64 (q : Int)) (fun W h => by have p := e3; go_simp) hD ?_
    try simp only [Act.put, List.setIfInBounds_toArray, List.set_cons_zero, List.set_cons_succ]
    refine held_v 6 (some 20) rfl (by kernel_rfl) (by kernel_rfl) (by kernel_rfl) (by kernel_rfl) (fun c a v w h => HQ2.out c a _ v w h) (by kernel_rfl) (.int .u64 u) (fun W h => by kernel_rfl) hD ?_
    try simp only [Act.put, List.setIfInBounds_toArray, List.set_cons_zero, List.set_cons_succ]
    refine held_v 7 (some 21) rfl (by kernel_rfl) (by kernel_rfl) (by kernel_rfl) (by kernel_rfl) (fun c a v w h => HQ2.out c a _ v w h) (by kernel_rfl) (.pointer (some ⟨w.heap.size, 0, none⟩)) (fun W h => by kernel_rfl) hD ?_
    try simp only [Act.put, List.setIfInBounds_toArray, List.set_cons_zero, List.set_cons_succ]
    refine held_v 8 (some 22) rfl (by kernel_rfl) (by kernel_rfl) (by kernel_rfl) (by kernel_rfl) (fun c a v w h => HQ2.out c a _ v w h) (by kernel_rfl) (.int .u64 T) (fun W h => by have p := h.c0; go_simp) hD ?_
    try simp only [Act.put, List.setIfInBounds_toArray, List.set_cons_zero, List.set_cons_succ]
    refine held_v 9 (some 23) rfl (by kernel_rfl) (by kernel_rfl) (by kernel_rfl) (by kernel_rfl) (fun c a v w h => HQ2.out c a _ v w h) (by kernel_rfl) (.int .u64 r) (fun W h => by have p := e2; have p2 := tN; have p3 := e5; go_simp) hD ?_
    try simp only [Act.put, List.setIfInBounds_toArray, List.set_cons_zero, List.set_cons_succ]
    refine wpAnyH_ready (rs := [10]) (by kernel_rfl) (by decide) ?_
    refine AllReadyH.cons rfl (fun K hK => ?_) AllReadyH.nil
    refine step_call (some 24) (by kernel_rfl) (by kernel_rfl) _ _ (by kernel_rfl) _ (HL.out _ (hD.pr HR.out)) ?_
    rintro e w41 ⟨rfl, hbw41⟩
    refine ⟨_, rfl, ?_⟩
    refine hK.out _ _ (hD.below hbw41) (fun hw41 => ?_)
    clear hK K
    try simp only [Act.put, List.setIfInBounds_toArray, List.set_cons_zero, List.set_cons_succ]
    refine held_v 11 (some 4) rfl (by kernel_rfl) (by kernel_rfl) (by kernel_rfl) (by kernel_rfl) (fun c a v w h => HQ2.out c a _ v w h) (by kernel_rfl) (.int .i64 V) (fun W h => by kernel_rfl) hw41 ?_
    try simp only [Act.put, List.setIfInBounds_toArray, List.set_cons_zero, List.set_cons_succ]
    refine held_v 12 (some 5) rfl (by kernel_rfl) (by kernel_rfl) (by kernel_rfl) (by kernel_rfl) (fun c a v w h => HQ2.out c a _ v w h) (by kernel_rfl) (.int .i64 0) (fun W h => by kernel_rfl) hw41 ?_
    try simp only [Act.put, List.setIfInBounds_toArray, List.set_cons_zero, List.set_cons_succ]
    refine wpAnyH_done (by kernel_rfl) ?_ _
    refine HQ1.out _ _ ?_
    clear HQ1 HQ2
    go_wp2_with fail
    go_ret2
    exact ⟨ret_iiT HV.out.1 HV.out.2, hw41.bel⟩
  · have HE := Lib.hid (ow_big hr hu)
    obtain ⟨Z, hZ⟩ : ∃ Z, (ts.length : Int) * T = Z := ⟨_, rfl⟩
    rw [hZ] at hu HZ tz
    clear hrd hts hr hz hZ hzp
    go_enter Tryd.func21, Tryd.ntmps21
    go_wp2_with (first
      | (go_at_call 19; (with_reducible refine (HZ.out _ (HS.out.pr HR.out)).mono ?_); rintro e w1 ⟨rfl, hb1⟩; have HS1 := Lib.hid (HS.out.below hb1); clear hb1))
    go_ret2
    exact ⟨ret_iiT HE.out.2.symm HE.out.1.symm, HS1.out.bel⟩
end
end Go.Proofs.YtomkidgmpbjgeaaDoor
/-
  A table that the landed alias builds, in memory: a block of five cells (the table, what each place still has, the small and the large ones); what is taken off a list, and put behind one.
  Conditions: those that each theorem names.
-/
set_option maxRecDepth 100000
set_option linter.unusedVariables false
set_option linter.unusedSimpArgs false
namespace Go.Proofs.YtomkidgmpbjgeaaDoor
open Go.ChangeShapes Go.WideShapes Go.ChangeAt Go.RowKit
theorem OwnI.cell1 {w : World} {base : Nat} {e : TypeId} {k : IntKind} {v : Value} {zs : List Int} (h : OwnI w base e k v zs) : v.cells = #[v] ∧ v.oneCell' = true := by
  obtain ⟨A, c, rfl, _, _⟩ := h.form
  exact ⟨rfl, rfl⟩
/-- The table that is built lies at g, what places have at gH, its cells at gC; small and large places in rows of the call's own. -/
structure LayS (w0 : World) (g gH gC n : Nat) (T : Int) (hs : List Int) (ts : List (Int × Int)) (vS vL : Value) (sm lg : List Int) (w : World) : Prop where
  bY : Blk w g 70 #[.int .u64 T, .slice (some ⟨gC, 0, none⟩) n n, .slice (some ⟨gH, 0, none⟩) n n, vS, vL]
  bH : Blk w gH 24 (intsA .u64 hs)
  bC : Blk w gC 52 (cellsA ts)
  oS : OwnI w w0.heap.size 3 .i64 vS sm
  oL : OwnI w w0.heap.size 3 .i64 vL lg
  ap : ∀ g, vS.ownBlock = some g → vL.ownBlock ≠ some g
  bel : Below w0.heap.size w0 w
  leY : w0.heap.size ≤ g
  leH : w0.heap.size ≤ gH
  leC : w0.heap.size ≤ gC
section
variable {w0 w w' w'' : World} {g gH gC n c j k : Nat} {T : Int} {hs sm lg : List Int} {ts : List (Int × Int)} {vS vL v' : Value} {A : Option Addr} {x y : Int}
theorem LayS.below (h : LayS w0 g gH gC n T hs ts vS vL sm lg w) (hb : Below w.heap.size w w') : LayS w0 g gH gC n T hs ts vS vL sm lg w' :=
  ⟨h.bY.below hb h.bY.lt, h.bH.below hb h.bH.lt, h.bC.below hb h.bC.lt, h.oS.below hb, h.oL.below hb, h.ap, h.bel.trans (hb.mono h.bel.size), h.leY, h.leH, h.leC⟩
theorem LayS.alloc (h : LayS w0 g gH gC n T hs ts vS vL sm lg w) (o : Obj) : LayS w0 g gH gC n T hs ts vS vL sm lg (w.alloc o) := h.below ((Below.refl _ _).alloc (Nat.le_refl _) _)
theorem LayS.drew (h : LayS w0 g gH gC n T hs ts vS vL sm lg w) : LayS w0 g gH gC n T hs ts vS vL sm lg w.drew := h.below (Below.refl _ _).drew
theorem LayS.drewN (h : LayS w0 g gH gC n T hs ts vS vL sm lg w) (m : Nat) : LayS w0 g gH gC n T hs ts vS vL sm lg (w.drewN m) := h.below (below_drewN (Below.refl _ _) _)
theorem LayS.size (h : LayS w0 g gH gC n T hs ts vS vL sm lg w) : w0.heap.size ≤ w.heap.size := h.bel.size
theorem LayS.rd (h : LayS w0 g gH gC n T hs ts vS vL sm lg w) {l : List Int} {m : Nat} (hr : Rd .u64 w0 w0.heap.size A m l) : Rd .u64 w w.heap.size A m l := (hr.below h.bel).mono h.size
theorem LayS.c0 (h : LayS w0 g gH gC n T hs ts vS vL sm lg w) : w.cell? ⟨g, 0, none⟩ = some (.int .u64 T) := by rw [h.bY.cell]; rfl
theorem LayS.c1 (h : LayS w0 g gH gC n T hs ts vS vL sm lg w) : w.cell? ⟨g, 1, none⟩ = some (.slice (some ⟨gC, 0, none⟩) n n) := by rw [h.bY.cell]; rfl
theorem LayS.c2 (h : LayS w0 g gH gC n T hs ts vS vL sm lg w) : w.cell? ⟨g, 2, none⟩ = some (.slice (some ⟨gH, 0, none⟩) n n) := by rw [h.bY.cell]; rfl
theorem LayS.c3 (h : LayS w0 g gH gC n T hs ts vS vL sm lg w) : w.cell? ⟨g, 3, none⟩ = some vS := by rw [h.bY.cell]; rfl
theorem LayS.c4 (h : LayS w0 g gH gC n T hs ts vS vL sm lg w) : w.cell? ⟨g, 4, none⟩ = some vL := by rw [h.bY.cell]; rfl
theorem LayS.atH (h : LayS w0 g gH gC n T hs ts vS vL sm lg w) (hk : k < hs.length) : w.cell? ⟨gH, k, none⟩ = some (.int .u64 (hs.getD k 0)) := by
  rw [h.bH.cell]
  simp [intsA, hk]
theorem LayS.putH (h : LayS w0 g gH gC n T hs ts vS vL sm lg w) (hk : Blk w' gH 24 ((intsA .u64 hs).setIfInBounds k (.int .u64 x))) (ho : Only gH w w') : LayS w0 g gH gC n T (hs.set k x) ts vS vL sm lg w' := by
  have nY : g ≠ gH := h.bY.ne h.bH (by decide)
  have nC : gC ≠ gH := h.bC.ne h.bH (by decide)
  refine ⟨h.bY.only ho nY, ?_, h.bC.only ho nC, h.oS.only h.bH (by decide) ho, h.oL.only h.bH (by decide) ho, h.ap, h.bel.trans (ho.below h.leH h.size), h.leY, h.leH, h.leC⟩
  have e : (intsA .u64 hs).setIfInBounds k (.int .u64 x) = intsA .u64 (hs.set k x) := by
    apply Array.ext'
    simp [intsA, List.map_set]
  rw [← e]
  exact hk
theorem LayS.putC (h : LayS w0 g gH gC n T hs ts vS vL sm lg w) (hk : Blk w' gC 52 (putAll (cellsA ts) (k * 2) [.int .u64 x, .int .i64 y])) (ho : Only gC w w') : LayS w0 g gH gC n T hs (ts.set k (x, y)) vS vL sm lg w' := by
  have nY : g ≠ gC := h.bY.ne h.bC (by decide)
  have nH : gH ≠ gC := h.bH.ne h.bC (by decide)
  refine ⟨h.bY.only ho nY, h.bH.only ho nH, ?_, h.oS.only h.bC (by decide) ho, h.oL.only h.bC (by decide) ho, h.ap, h.bel.trans (ho.below h.leC h.size), h.leY, h.leH, h.leC⟩
  rw [← cellsA_put]
  exact hk
/-- The small ones grow, and their slice is stored. -/
theorem LayS.growS (h : LayS w0 g gH gC n T hs ts vS vL sm lg w) (hg : w.grownBy w' vS.ownBlock) (ho : OwnI w' w0.heap.size 3 .i64 v' (sm ++ [x])) (hat : v'.ownBlock = vS.ownBlock ∨ v'.ownBlock = some w.heap.size)
    (hk : Blk w'' g 70 (#[.int .u64 T, .slice (some ⟨gC, 0, none⟩) n n, .slice (some ⟨gH, 0, none⟩) n n, vS, vL].setIfInBounds 3 v')) (h2 : Only g w' w'') : LayS w0 g gH gC n T hs ts v' vL (sm ++ [x]) lg w'' := by
  have bY := h.bY.grown h.oS (by decide) hg
  have bH := h.bH.grown h.oS (by decide) hg
  have bC := h.bC.grown h.oS (by decide) hg
  have oL := h.oL.other_row (fun g e1 e2 => h.ap g e2 e1) hg
  have be := h.oS.below_ h.bel h.size hg
  refine ⟨hk, bH.only h2 (bH.ne bY (by decide)), bC.only h2 (bC.ne bY (by decide)), ho.only bY (by decide) h2, oL.only bY (by decide) h2, fun g e => ?_, be.trans (h2.below h.leY be.size), h.leY, h.leH, h.leC⟩
  rcases hat with e2 | e2
  · exact h.ap g (by rw [← e2]; exact e)
  · intro e3
    have := h.oL.block_lt g e3
    rw [e] at e2
    injection e2 with e2
    omega
theorem LayS.growL (h : LayS w0 g gH gC n T hs ts vS vL sm lg w) (hg : w.grownBy w' vL.ownBlock) (ho : OwnI w' w0.heap.size 3 .i64 v' (lg ++ [x])) (hat : v'.ownBlock = vL.ownBlock ∨ v'.ownBlock = some w.heap.size)
    (hk : Blk w'' g 70 (#[.int .u64 T, .slice (some ⟨gC, 0, none⟩) n n, .slice (some ⟨gH, 0, none⟩) n n, vS, vL].setIfInBounds 4 v')) (h2 : Only g w' w'') : LayS w0 g gH gC n T hs ts vS v' sm (lg ++ [x]) w'' := by
  have bY := h.bY.grown h.oL (by decide) hg
  have bH := h.bH.grown h.oL (by decide) hg
  have bC := h.bC.grown h.oL (by decide) hg
  have oS := h.oS.other_row h.ap hg
  have be := h.oL.below_ h.bel h.size hg
  refine ⟨hk, bH.only h2 (bH.ne bY (by decide)), bC.only h2 (bC.ne bY (by decide)), oS.only bY (by decide) h2, ho.only bY (by decide) h2, fun g e1 e => ?_, be.trans (h2.below h.leY be.size), h.leY, h.leH, h.leC⟩
  rcases hat with e2 | e2
  · exact h.ap g e1 (by rw [← e2]; exact e)
  · have := h.oS.block_lt g e1
    rw [e] at e2
    injection e2 with e2
    omega
theorem LayS.cutS (h : LayS w0 g gH gC n T hs ts (.slice A k c) vL sm lg w) (hj : j ≤ sm.length)
    (hk : Blk w' g 70 (#[.int .u64 T, .slice (some ⟨gC, 0, none⟩) n n, .slice (some ⟨gH, 0, none⟩) n n, .slice A k c, vL].setIfInBounds 3 (.slice A j c))) (h2 : Only g w w') : LayS w0 g gH gC n T hs ts (.slice A j c) vL (sm.take j) lg w' :=
  ⟨hk, h.bH.only h2 (h.bH.ne h.bY (by decide)), h.bC.only h2 (h.bC.ne h.bY (by decide)), (h.oS.cut hj).only h.bY (by decide) h2, h.oL.only h.bY (by decide) h2, fun g e => h.ap g (by rw [own_slice A k j c c]; exact e), h.bel.trans (h2.below h.leY h.size), h.leY, h.leH, h.leC⟩
theorem LayS.cutL (h : LayS w0 g gH gC n T hs ts vS (.slice A k c) sm lg w) (hj : j ≤ lg.length)
    (hk : Blk w' g 70 (#[.int .u64 T, .slice (some ⟨gC, 0, none⟩) n n, .slice (some ⟨gH, 0, none⟩) n n, vS, .slice A k c].setIfInBounds 4 (.slice A j c))) (h2 : Only g w w') : LayS w0 g gH gC n T hs ts vS (.slice A j c) sm (lg.take j) w' :=
  ⟨hk, h.bH.only h2 (h.bH.ne h.bY (by decide)), h.bC.only h2 (h.bC.ne h.bY (by decide)), h.oS.only h.bY (by decide) h2, (h.oL.cut hj).only h.bY (by decide) h2, fun g e => by rw [own_slice A j k c c]; exact h.ap g e, h.bel.trans (h2.below h.leY h.size), h.leY, h.leH, h.leC⟩
end
theorem size_sli : (Tryd.prog.info? 50).map (·.size) = some 1 := by kernel_rfl
theorem info_intF : (Tryd.prog.info? 3).map (fun i => (i.zero, i.size, i.bytes)) = some (some (.int .i64 0), 1, 8) := by kernel_rfl
/-- The last one is taken off a list whose slice lies in a cell of a block. -/
theorem q14last_c (g k gS p c : Nat) (hp : p < 1000000) (hpc : p + 1 ≤ c) (hcm : c ≤ maxLen) (x : Int) (t : TypeId) (cs : Array Value) (hk : k < cs.size) (w : World) (hb : Blk w g t cs) (hv : cs[k]? = some (.slice (some ⟨gS, 0, none⟩) (p + 1) c)) (hx : w.cell? ⟨gS, p, none⟩ = some (.int .i64 x)) :
    Calls Tryd.prog 45 #[.pointer (some ⟨g, k, none⟩)] w fun e w' => e = .returned (.int .i64 x) ∧ Blk w' g t (cs.setIfInBounds k (.slice (some ⟨gS, 0, none⟩) p c)) ∧ Only g w w' := by
  have HB := Lib.hid hb
  have HK := Lib.hid hk
  have c0 : w.cell? ⟨g, k, none⟩ = some (.slice (some ⟨gS, 0, none⟩) (p + 1) c) := by rw [hb.cell]; exact hv
  have i0 : (0 : Int) ≤ (p : Int) := by omega
  have i1 : (p : Int) < 1000000 := by omega
  have i2 : ((p + 1 : Nat) : Int) - 1 = (p : Int) := by omega
  have i3 : (c : Int) ≤ 9223372036854775807 := by unfold maxLen at hcm; omega
  have i4 : (p : Int) + 1 ≤ (c : Int) := by omega
  clear hb hk hv hcm hp hpc
  go_enter Tryd.func45, Tryd.ntmps45
  go_wp2_with (first
    | (with_reducible refine at_any ?_; refine at_store 22 rfl ?_; refine wpList_store_cell rfl 50 (.tmp 22) (.tmp 21) rfl g k rfl t cs HB.out (.slice (some ⟨gS, 0, none⟩) p c) rfl HK.out size_sli rfl rfl ?_; intro w1 hk1 ho1; have HK1 := Lib.hid hk1.out; have HO1 := Lib.hid ho1))
  go_ret
  exact ⟨rfl, HK1.out, HO1.out⟩
theorem lay3 (a b c d e : Value) : 3 < (#[a, b, c, d, e] : Array Value).size := by simp
theorem lay4 (a b c d e : Value) : 4 < (#[a, b, c, d, e] : Array Value).size := by simp
/-- A place comes to the end of the small ones, or of the large ones. -/
theorem q14sort_c {w0 : World} {g gH gC n : Nat} {T : Int} {hs sm lg : List Int} {ts : List (Int × Int)} {vS vL : Value} (k : Nat) (hk : k < n) (hn : n ≤ 1000) (hl : hs.length = n) (hx0 : 0 ≤ hs.getD k 0) (hx1 : hs.getD k 0 < 18446744073709551616) (T0 : 0 ≤ T) (T1 : T < 18446744073709551616) (hsm : sm.length ≤ 1000) (hlg : lg.length ≤ 1000) (w : World) (hY : LayS w0 g gH gC n T hs ts vS vL sm lg w) :
    Calls Tryd.prog 44 #[.pointer (some ⟨g, 0, none⟩), .int .i64 (k : Int)] w fun e w' => e = .returned (.tuple #[]) ∧ ∃ vS' vL', LayS w0 g gH gC n T hs ts vS' vL' (if hs.getD k 0 < T then sm ++ [(k : Int)] else sm) (if hs.getD k 0 < T then lg else lg ++ [(k : Int)]) w' := by
  obtain ⟨ti, hti, hz0, hz1, hzb⟩ := info_parts info_intF
  obtain ⟨AS, cS, rfl, hcS, hmS⟩ := hY.oS.form
  obtain ⟨AL, cL, rfl, hcL, hmL⟩ := hY.oL.form
  have HYN := Lib.hid (fun M => hY.drewN M)
  have c0 := hY.c0
  have c2 := hY.c2
  have cx := hY.atH (k := k) (by omega)
  have HC3 := Lib.hid (fun M => (hY.drewN M).c3)
  have HC4 := Lib.hid (fun M => (hY.drewN M).c4)
  have HSN := Lib.hid hsm
  have HLN := Lib.hid hlg
  obtain ⟨x, hx⟩ : ∃ x, hs.getD k 0 = x := ⟨_, rfl⟩
  rw [hx] at hx0 hx1 cx ⊢
  obtain ⟨p, hp⟩ : ∃ p, sm.length = p := ⟨_, rfl⟩
  obtain ⟨q, hq⟩ : ∃ q, lg.length = q := ⟨_, rfl⟩
  rw [hp] at HYN HC3 HSN hcS
  rw [hq] at HYN HC4 HLN hcL
  have HPL := Lib.hid hp
  have HQL := Lib.hid hq
  have i0 : (0 : Int) ≤ (k : Int) := by omega
  have i1 : (k : Int) < (n : Int) := by omega
  have i2 : (n : Int) ≤ 1000 := by omega
  clear hY hx hp hq hcS hmS hcL hmL hsm hlg hl hk hn
  by_cases hlt : x < T
  · simp only [if_pos hlt]
    go_enter Tryd.func44, Tryd.ntmps44
    go_wp2
    go_quiet (fail)
    have c3 := HC3.out nq
    have HQ := Lib.hid (HYN.out nq)
    go_wp2_with (first
      | (at_builtin; refine wpList_append_ints _ rfl (.tmp 21) (.tmp 23) 50 rfl w0.heap.size 3 ti _ 8 .i64 Tryd.underlying50 hti hz0 hz1 hzb rfl (.slice AS p cS) sm rfl (HQ.out.alloc _).oS _ _ 1 1 [(k : Int)] rfl (rd_one _ 3 .i64 (k : Int)) (by have := HSN.out; have := HPL.out; simp only [maxLen]; omega) (by have := HSN.out; have := HPL.out; omega) (HQ.out.alloc _).size ?_; intro v4 w4 ho4 hg4 hat4; have B4 := Lib.hid ((HQ.out.alloc _).bY.grown (HQ.out.alloc _).oS (by decide) hg4); have K4 := Lib.hid (fun W h1 h2 => LayS.growS (w'' := W) (HQ.out.alloc _) hg4 ho4 hat4 h1 h2); have C4 := Lib.hid ho4.cell1; clear hg4 ho4 hat4)
      | (with_reducible refine at_any ?_; refine at_store 26 rfl ?_; refine wpList_store_cell rfl 50 (.tmp 26) (.tmp 24) rfl g 3 rfl 70 _ B4.out v4 rfl (lay3 _ _ _ _ _) size_sli C4.out.1 C4.out.2 ?_; intro w5 hk5 ho5; have HY5 := Lib.hid (K4.out _ hk5.out ho5)))
    go_end0
    exact ⟨rfl, _, _, HY5.out⟩
  · simp only [if_neg hlt]
    go_enter Tryd.func44, Tryd.ntmps44
    go_wp2
    go_quiet (fail)
    have c3 := HC4.out nq
    have HQ := Lib.hid (HYN.out nq)
    go_wp2_with (first
      | (at_builtin; refine wpList_append_ints _ rfl (.tmp 31) (.tmp 33) 50 rfl w0.heap.size 3 ti _ 8 .i64 Tryd.underlying50 hti hz0 hz1 hzb rfl (.slice AL q cL) lg rfl (HQ.out.alloc _).oL _ _ 1 1 [(k : Int)] rfl (rd_one _ 3 .i64 (k : Int)) (by have := HLN.out; have := HQL.out; simp only [maxLen]; omega) (by have := HLN.out; have := HQL.out; omega) (HQ.out.alloc _).size ?_; intro v4 w4 ho4 hg4 hat4; have B4 := Lib.hid ((HQ.out.alloc _).bY.grown (HQ.out.alloc _).oL (by decide) hg4); have K4 := Lib.hid (fun W h1 h2 => LayS.growL (w'' := W) (HQ.out.alloc _) hg4 ho4 hat4 h1 h2); have C4 := Lib.hid ho4.cell1; clear hg4 ho4 hat4)
      | (with_reducible refine at_any ?_; refine at_store 36 rfl ?_; refine wpList_store_cell rfl 50 (.tmp 36) (.tmp 34) rfl g 4 rfl 70 _ B4.out v4 rfl (lay4 _ _ _ _ _) size_sli C4.out.1 C4.out.2 ?_; intro w5 hk5 ho5; have HY5 := Lib.hid (K4.out _ hk5.out ho5)))
    go_end0
    exact ⟨rfl, _, _, HY5.out⟩
/-- What is read while a cell is laid. -/
structure LayR (g gH gC n : Nat) (T : Int) (hs : List Int) (vS vL : Value) (w : World) : Prop where
  bY : Blk w g 70 #[.int .u64 T, .slice (some ⟨gC, 0, none⟩) n n, .slice (some ⟨gH, 0, none⟩) n n, vS, vL]
  bH : Blk w gH 24 (intsA .u64 hs)
/-- What is read while what a place has is changed. -/
structure LayG (g gH gC n : Nat) (T : Int) (vS vL : Value) (w : World) : Prop where
  bY : Blk w g 70 #[.int .u64 T, .slice (some ⟨gC, 0, none⟩) n n, .slice (some ⟨gH, 0, none⟩) n n, vS, vL]
section
variable {w0 w : World} {g gH gC n k : Nat} {T : Int} {hs sm lg : List Int} {ts : List (Int × Int)} {vS vL : Value}
theorem LayS.toR (h : LayS w0 g gH gC n T hs ts vS vL sm lg w) : LayR g gH gC n T hs vS vL w := ⟨h.bY, h.bH⟩
theorem LayS.toG (h : LayS w0 g gH gC n T hs ts vS vL sm lg w) : LayG g gH gC n T vS vL w := ⟨h.bY⟩
theorem LayR.c0 (h : LayR g gH gC n T hs vS vL w) : w.cell? ⟨g, 0, none⟩ = some (.int .u64 T) := by rw [h.bY.cell]; rfl
theorem LayR.c1 (h : LayR g gH gC n T hs vS vL w) : w.cell? ⟨g, 1, none⟩ = some (.slice (some ⟨gC, 0, none⟩) n n) := by rw [h.bY.cell]; rfl
theorem LayR.c2 (h : LayR g gH gC n T hs vS vL w) : w.cell? ⟨g, 2, none⟩ = some (.slice (some ⟨gH, 0, none⟩) n n) := by rw [h.bY.cell]; rfl
theorem LayR.atH (h : LayR g gH gC n T hs vS vL w) (hk : k < hs.length) : w.cell? ⟨gH, k, none⟩ = some (.int .u64 (hs.getD k 0)) := by
  rw [h.bH.cell]
  simp [intsA, hk]
theorem LayG.c0 (h : LayG g gH gC n T vS vL w) : w.cell? ⟨g, 0, none⟩ = some (.int .u64 T) := by rw [h.bY.cell]; rfl
theorem LayG.c1 (h : LayG g gH gC n T vS vL w) : w.cell? ⟨g, 1, none⟩ = some (.slice (some ⟨gC, 0, none⟩) n n) := by rw [h.bY.cell]; rfl
theorem LayG.c2 (h : LayG g gH gC n T vS vL w) : w.cell? ⟨g, 2, none⟩ = some (.slice (some ⟨gH, 0, none⟩) n n) := by rw [h.bY.cell]; rfl
end
section
variable {P : Program} {w : World} {ops : Array Oper} {o : Oper} {a : Act} {Q : Exit → Act → World → Prop}
/-- A struct is stored into a part of a block, where it comes up. -/
theorem step_store_mid {K : Act → World → Prop} {E : Prop} (d : Option Tmp) (hd : o.dst = d) (hw : Region.wanted o (yielded ops a.tmps) = true) (ty : TypeId) (x y : Operand) (ho : o.op = .store ty x y) (g off : Nat) (hx : a.eval x = .pointer (some ⟨g, off, none⟩)) (t : TypeId) (cs ys : Array Value) (hb : Blk w g t cs)
    (hy : a.eval y = .agg ys) (hl : off + ys.size ≤ cs.size) (hz : (P.info? ty).map (·.size) = some ys.size) (h1 : ys.all (·.oneCell') = true)
    (h : ∀ w', Hid (Blk w' g t (putAll cs off ys.toList)) → Only g w w' → K (a.put d undef) w') :
    if Region.wanted o (yielded ops a.tmps) = true then Oper.wp P o a w K Q else E := by
  subst hd
  rw [if_pos hw]
  exact wp_store_mid ty x y ho g off ys hx hy (hb.there off ys.size hl) hz h1 (h _ (Blk.setCells _ _ hb) (Only.setCells g _ _ _))
end
theorem size_cellF (u v : Value) : (Tryd.prog.info? 52).map (·.size) = some (#[u, v] : Array Value).size := by kernel_rfl
theorem cell_onesF (x y : Int) : (#[.int .u64 x, .int .i64 y] : Array Value).all (·.oneCell') = true := by simp [Value.oneCell']
theorem size_u64F : (Tryd.prog.info? 24).map (·.size) = some 1 := by kernel_rfl
section
variable {w0 w : World} {g gH gC gS n p c : Nat} {T : Int} {hs sm lg : List Int} {ts : List (Int × Int)} {vS vL : Value} {x : Int}
theorem LayS.lastS (hx : topL sm = x) (hp : sm.length = p + 1) (hp1 : p < 1000000) (h : LayS w0 g gH gC n T hs ts (.slice (some ⟨gS, 0, none⟩) (p + 1) c) vL sm lg w) :
    Calls Tryd.prog 45 #[.pointer (some ⟨g, 3, none⟩)] w fun e w' => e = .returned (.int .i64 x) ∧ LayS w0 g gH gC n T hs ts (.slice (some ⟨gS, 0, none⟩) p c) vL (sm.take p) lg w' := by
  obtain ⟨g', c', e, h1, h2, h3⟩ := h.oS.last (by omega)
  injection e with e1 e2 e3
  injection e1 with e1
  injection e1 with e1
  subst e1 e3
  rw [hp, hx, Nat.add_sub_cancel] at h3
  rw [hp] at h1
  refine (q14last_c g 3 gS p c hp1 h1 h2 x _ _ (lay3 _ _ _ _ _) w h.bY rfl h3).mono ?_
  rintro e w' ⟨rfl, hk, ho⟩
  exact ⟨rfl, h.cutS (by omega) hk ho⟩
theorem LayS.lastL (hx : topL lg = x) (hp : lg.length = p + 1) (hp1 : p < 1000000) (h : LayS w0 g gH gC n T hs ts vS (.slice (some ⟨gS, 0, none⟩) (p + 1) c) sm lg w) :
    Calls Tryd.prog 45 #[.pointer (some ⟨g, 4, none⟩)] w fun e w' => e = .returned (.int .i64 x) ∧ LayS w0 g gH gC n T hs ts vS (.slice (some ⟨gS, 0, none⟩) p c) sm (lg.take p) w' := by
  obtain ⟨g', c', e, h1, h2, h3⟩ := h.oL.last (by omega)
  injection e with e1 e2 e3
  injection e1 with e1
  injection e1 with e1
  subst e1 e3
  rw [hp, hx, Nat.add_sub_cancel] at h3
  rw [hp] at h1
  refine (q14last_c g 4 gS p c hp1 h1 h2 x _ _ (lay4 _ _ _ _ _) w h.bY rfl h3).mono ?_
  rintro e w' ⟨rfl, hk, ho⟩
  exact ⟨rfl, h.cutL (by omega) hk ho⟩
end
end Go.Proofs.YtomkidgmpbjgeaaDoor
/-
  What the landed alias's pair does to a table that is built: one step of the document's, in memory.
  Conditions: there are small and large places; the table is one that is built of at most 1000 stakes.
-/
set_option maxRecDepth 100000
set_option linter.unusedVariables false
set_option linter.unusedSimpArgs false
namespace Go.Proofs.YtomkidgmpbjgeaaDoor
open Go.ChangeShapes Go.WideShapes Go.ChangeAt Go.RowKit
set_option maxHeartbeats 8000000 in
theorem q14pair_c {w0 : World} {g gH gC n : Nat} {T : Int} (l : List Int) (s : AB) (hI : ABI T l s) (hlen : l.length = n) (hn : n ≤ 1000) (T0 : 0 ≤ T) (T1 : T < 9223372036854775808) (hg1 : s.sm.length ≠ 0) (hg2 : s.lg.length ≠ 0) (vS vL : Value) (w : World) (hY : LayS w0 g gH gC n T s.has s.ts vS vL s.sm s.lg w) :
    Calls Tryd.prog 33 #[.pointer (some ⟨g, 0, none⟩)] w fun e w' => e = .returned (.tuple #[]) ∧ ∃ vS' vL', LayS w0 g gH gC n T (abStep T s).has (abStep T s).ts vS' vL' (abStep T s).sm (abStep T s).lg w' := by
  obtain ⟨ia, ib, ha, hb, a1, b1, x0, x1, y0, y1, q1, q2, q3, q4⟩ := hI.tops hg1 hg2
  have hnd := hI.nd_len
  obtain ⟨gS, cS, rfl, hcS, hmS, e1⟩ := hY.oS.last hg1
  obtain ⟨gL, cL, rfl, hcL, hmL, e2⟩ := hY.oL.last hg2
  obtain ⟨p, hp⟩ : ∃ p, s.sm.length = p + 1 := ⟨s.sm.length - 1, by omega⟩
  obtain ⟨q, hq⟩ : ∃ p, s.lg.length = p + 1 := ⟨s.lg.length - 1, by omega⟩
  have HHL : Hid (s.has.length = n) := Lib.hid (by rw [hI.hn, hlen])
  have HTL : Hid (s.ts.length = n) := Lib.hid (by rw [hI.tn, hlen])
  rw [hp] at q3 hY
  rw [hq] at q4 hY
  rw [Nat.add_sub_cancel] at q3 q4
  obtain ⟨H, hH⟩ : ∃ H, s.has = H := ⟨_, rfl⟩
  obtain ⟨C, hC⟩ : ∃ H, s.ts = H := ⟨_, rfl⟩
  obtain ⟨sm, hsm⟩ : ∃ H, s.sm = H := ⟨_, rfl⟩
  obtain ⟨lg, hlg⟩ : ∃ H, s.lg = H := ⟨_, rfl⟩
  obtain ⟨x, hx⟩ : ∃ x, H.getD ia 0 = x := ⟨_, rfl⟩
  obtain ⟨y, hy⟩ : ∃ x, H.getD ib 0 = x := ⟨_, rfl⟩
  rw [hH] at HHL x0 x1 y0 y1 q1 q2 q3 q4 hY
  rw [hC] at HTL q2 hY
  rw [hsm] at q3 hp ha hY hnd
  rw [hlg] at q4 hq hb hY hnd
  rw [hx] at x0 x1 q1 q2 q3 q4
  rw [hy] at y0 y1 q1 q3 q4
  obtain ⟨z, hz⟩ : ∃ z, y - (T - x) = z := ⟨_, rfl⟩
  rw [hz] at q1 q3 q4
  have z0 : 0 ≤ z := by omega
  have z1 : z < 9223372036854775808 := by omega
  have hgz : (H.set ib z).getD ib 0 = z := by rw [getD_setT (by rw [HHL.out]; omega), if_pos rfl]
  have HSO : Hid (∀ vS vL W, LayS w0 g gH gC n T (H.set ib z) (C.set ia (x, (ib : Int))) vS vL (sm.take p) (lg.take q) W → Calls Tryd.prog 44 #[.pointer (some ⟨g, 0, none⟩), .int .i64 (ib : Int)] W fun e w' => e = .returned (.tuple #[]) ∧ ∃ vS' vL', LayS w0 g gH gC n T (abStep T s).has (abStep T s).ts vS' vL' (abStep T s).sm (abStep T s).lg w') := Lib.hid (fun vS vL W h => by
    have h2 := q14sort_c ib (by omega) hn (by rw [List.length_set]; exact HHL.out) (by rw [hgz]; exact z0) (by rw [hgz]; omega) T0 (by omega) (by rw [List.length_take]; omega) (by rw [List.length_take]; omega) W h
    rw [hgz] at h2
    rw [q1, q2, q3, q4]
    exact h2)
  have HA := Lib.hid ha
  have HB := Lib.hid hb
  have HPP := Lib.hid hp
  have HQQ := Lib.hid hq
  have HP6 := Lib.hid (show p < 1000000 by omega)
  have HQ6 := Lib.hid (show q < 1000000 by omega)
  have HAN := Lib.hid (show ia < n by omega)
  have HBN := Lib.hid (show ib < n by omega)
  have i2 : (0 : Int) ≤ (ia : Int) := by omega
  have i3 : (0 : Int) ≤ (ib : Int) := by omega
  have i6 : (ia : Int) < (n : Int) := by omega
  have i7 : (ib : Int) < (n : Int) := by omega
  have i8 : (n : Int) ≤ 1000 := by omega
  have w1 : IntKind.u64.wrap (T - x) = T - x := by rw [IntKind.wrap_u64]; omega
  have w2 : IntKind.u64.wrap (y - (T - x)) = z := by rw [hz, IntKind.wrap_u64]; omega
  have W1 := Lib.hid w1
  have W2 := Lib.hid w2
  have HYH := Lib.hid hy
  have HXH := Lib.hid hx
  have HY0 := hY.drew
  clear hY hp hq hH hC hsm hlg hx hy hz ha hb hI q1 q2 q3 q4 hgz hg1 hg2 hcS hmS hcL hmL e1 e2 a1 b1 w1 w2 hnd hlen hn
  go_enter Tryd.func33, Tryd.ntmps33
  go_wp2
  refine wp_region_held_drew (S := (fun _ => True)) (by kernel_rfl) trivial (fun hH => ?_)
  refine wpAnyH_letter #[false, false, false, false, false, false, false, false, false, false] (by kernel_rfl) (fun _ _ d _ _ h => by cases d <;> exact h) (fun QL HQ1 HQ2 => ?_)
  refine held_v 0 (some 4) rfl (by kernel_rfl) (by kernel_rfl) (by kernel_rfl) (by kernel_rfl) (fun c a v w h => HQ2.out c a _ v w h) (by kernel_rfl) (.pointer (some ⟨g, 0, none⟩)) (fun W h => by kernel_rfl) trivial ?_
  try simp only [Act.put, List.setIfInBounds_toArray, List.set_cons_zero, List.set_cons_succ]
  refine held_v 1 (some 5) rfl (by kernel_rfl) (by kernel_rfl) (by kernel_rfl) (by kernel_rfl) (fun c a v w h => HQ2.out c a _ v w h) (by kernel_rfl) (.pointer (some ⟨g, 0, none⟩)) (fun W h => by go_simp) trivial ?_
  try simp only [Act.put, List.setIfInBounds_toArray, List.set_cons_zero, List.set_cons_succ]
  refine held_v 2 (some 6) rfl (by kernel_rfl) (by kernel_rfl) (by kernel_rfl) (by kernel_rfl) (fun c a v w h => HQ2.out c a _ v w h) (by kernel_rfl) (.pointer (some ⟨g, 3, none⟩)) (fun W h => by kernel_rfl) trivial ?_
  try simp only [Act.put, List.setIfInBounds_toArray, List.set_cons_zero, List.set_cons_succ]
  refine held_v 4 (some 8) rfl (by kernel_rfl) (by kernel_rfl) (by kernel_rfl) (by kernel_rfl) (fun c a v w h => HQ2.out c a _ v w h) (by kernel_rfl) (.pointer (some ⟨g, 0, none⟩)) (fun W h => by kernel_rfl) trivial ?_
  try simp only [Act.put, List.setIfInBounds_toArray, List.set_cons_zero, List.set_cons_succ]
  refine held_v 5 (some 9) rfl (by kernel_rfl) (by kernel_rfl) (by kernel_rfl) (by kernel_rfl) (fun c a v w h => HQ2.out c a _ v w h) (by kernel_rfl) (.pointer (some ⟨g, 0, none⟩)) (fun W h => by go_simp) trivial ?_
  try simp only [Act.put, List.setIfInBounds_toArray, List.set_cons_zero, List.set_cons_succ]
  refine held_v 6 (some 10) rfl (by kernel_rfl) (by kernel_rfl) (by kernel_rfl) (by kernel_rfl) (fun c a v w h => HQ2.out c a _ v w h) (by kernel_rfl) (.pointer (some ⟨g, 4, none⟩)) (fun W h => by kernel_rfl) trivial ?_
  try simp only [Act.put, List.setIfInBounds_toArray, List.set_cons_zero, List.set_cons_succ]
  refine wpAnyH_ready (rs := [3]) (by kernel_rfl) (by decide) ?_
  refine AllReadyH.cons rfl (fun K hK => ?_) AllReadyH.nil
  refine step_call (some 7) (by kernel_rfl) (by kernel_rfl) _ _ (by kernel_rfl) _ (LayS.lastS HA.out HPP.out HP6.out HY0) ?_
  rintro e w41 ⟨rfl, trw41⟩
  refine ⟨_, rfl, ?_⟩
  refine hK.out _ _ trivial (fun _ => ?_)
  clear hK K
  try simp only [Act.put, List.setIfInBounds_toArray, List.set_cons_zero, List.set_cons_succ]
  refine wpAnyH_ready (rs := [7]) (by kernel_rfl) (by decide) ?_
  refine AllReadyH.cons rfl (fun K hK => ?_) AllReadyH.nil
  refine step_call (some 11) (by kernel_rfl) (by kernel_rfl) _ _ (by kernel_rfl) _ (LayS.lastL HB.out HQQ.out HQ6.out trw41) ?_
  rintro e w42 ⟨rfl, trw42⟩
  refine ⟨_, rfl, ?_⟩
  refine hK.out _ _ trivial (fun _ => ?_)
  clear hK K
  try simp only [Act.put, List.setIfInBounds_toArray, List.set_cons_zero, List.set_cons_succ]
  refine held_v 8 (some 2) rfl (by kernel_rfl) (by kernel_rfl) (by kernel_rfl) (by kernel_rfl) (fun c a v w h => HQ2.out c a _ v w h) (by kernel_rfl) (.int .i64 (ia : Int)) (fun W h => by kernel_rfl) trivial ?_
  try simp only [Act.put, List.setIfInBounds_toArray, List.set_cons_zero, List.set_cons_succ]
  refine held_v 9 (some 3) rfl (by kernel_rfl) (by kernel_rfl) (by kernel_rfl) (by kernel_rfl) (fun c a v w h => HQ2.out c a _ v w h) (by kernel_rfl) (.int .i64 (ib : Int)) (fun W h => by kernel_rfl) trivial ?_
  try simp only [Act.put, List.setIfInBounds_toArray, List.set_cons_zero, List.set_cons_succ]
  refine wpAnyH_done (by kernel_rfl) ?_ _
  refine HQ1.out _ _ ?_
  clear HQ1 HQ2
  have HY1 := (trw42).drew
  go_wp2
  refine wp_region_held_drew (S := (LayR g gH gC n T H (.slice (some ⟨gS, 0, none⟩) p cS) (.slice (some ⟨gL, 0, none⟩) q cL))) (by kernel_rfl) HY1.toR (fun hH => ?_)
  refine wpAnyH_letter #[false, false, false, false, false, false, false, false, false, false, false, false, false, false, false, false, false] (by kernel_rfl) (fun _ _ d _ _ h => by cases d <;> exact h) (fun QL HQ1 HQ2 => ?_)
  refine held_v 0 (some 12) rfl (by kernel_rfl) (by kernel_rfl) (by kernel_rfl) (by kernel_rfl) (fun c a v w h => HQ2.out c a _ v w h) (by kernel_rfl) (.pointer (some ⟨g, 0, none⟩)) (fun W h => by kernel_rfl) HY1.toR ?_
  try simp only [Act.put, List.setIfInBounds_toArray, List.set_cons_zero, List.set_cons_succ]
  refine held_v 1 (some 13) rfl (by kernel_rfl) (by kernel_rfl) (by kernel_rfl) (by kernel_rfl) (fun c a v w h => HQ2.out c a _ v w h) (by kernel_rfl) (.pointer (some ⟨g, 0, none⟩)) (fun W h => by go_simp) HY1.toR ?_
  try simp only [Act.put, List.setIfInBounds_toArray, List.set_cons_zero, List.set_cons_succ]
  refine held_v 2 (some 14) rfl (by kernel_rfl) (by kernel_rfl) (by kernel_rfl) (by kernel_rfl) (fun c a v w h => HQ2.out c a _ v w h) (by kernel_rfl) (.pointer (some ⟨g, 0, none⟩)) (fun W h => by kernel_rfl) HY1.toR ?_
  try simp only [Act.put, List.setIfInBounds_toArray, List.set_cons_zero, List.set_cons_succ]
  refine held_v 3 (some 15) rfl (by kernel_rfl) (by kernel_rfl) (by kernel_rfl) (by kernel_rfl) (fun c a v w h => HQ2.out c a _ v w h) (by kernel_rfl) (.pointer (some ⟨g, 1, none⟩)) (fun W h => by kernel_rfl) HY1.toR ?_
  try simp only [Act.put, List.setIfInBounds_toArray, List.set_cons_zero, List.set_cons_succ]
  refine held_v 4 (some 16) rfl (by kernel_rfl) (by kernel_rfl) (by kernel_rfl) (by kernel_rfl) (fun c a v w h => HQ2.out c a _ v w h) (by kernel_rfl) (.slice (some ⟨gC, 0, none⟩) n n) (fun W h => by have p := h.c1; go_simp) HY1.toR ?_
  try simp only [Act.put, List.setIfInBounds_toArray, List.set_cons_zero, List.set_cons_succ]
  refine held_v 5 (some 17) rfl (by kernel_rfl) (by kernel_rfl) (by kernel_rfl) (by kernel_rfl) (fun c a v w h => HQ2.out c a _ v w h) (by kernel_rfl) (.int .i64 (ia : Int)) (fun W h => by kernel_rfl) HY1.toR ?_
  try simp only [Act.put, List.setIfInBounds_toArray, List.set_cons_zero, List.set_cons_succ]
  refine held_v 6 (some 18) rfl (by kernel_rfl) (by kernel_rfl) (by kernel_rfl) (by kernel_rfl) (fun c a v w h => HQ2.out c a _ v w h) (by kernel_rfl) (.pointer (some ⟨g, 0, none⟩)) (fun W h => by kernel_rfl) HY1.toR ?_
  try simp only [Act.put, List.setIfInBounds_toArray, List.set_cons_zero, List.set_cons_succ]
  refine held_v 7 (some 19) rfl (by kernel_rfl) (by kernel_rfl) (by kernel_rfl) (by kernel_rfl) (fun c a v w h => HQ2.out c a _ v w h) (by kernel_rfl) (.pointer (some ⟨g, 0, none⟩)) (fun W h => by go_simp) HY1.toR ?_
  try simp only [Act.put, List.setIfInBounds_toArray, List.set_cons_zero, List.set_cons_succ]
  refine held_v 8 (some 20) rfl (by kernel_rfl) (by kernel_rfl) (by kernel_rfl) (by kernel_rfl) (fun c a v w h => HQ2.out c a _ v w h) (by kernel_rfl) (.pointer (some ⟨g, 2, none⟩)) (fun W h => by kernel_rfl) HY1.toR ?_
  try simp only [Act.put, List.setIfInBounds_toArray, List.set_cons_zero, List.set_cons_succ]
  refine held_v 9 (some 21) rfl (by kernel_rfl) (by kernel_rfl) (by kernel_rfl) (by kernel_rfl) (fun c a v w h => HQ2.out c a _ v w h) (by kernel_rfl) (.slice (some ⟨gH, 0, none⟩) n n) (fun W h => by have p := h.c2; go_simp) HY1.toR ?_
  try simp only [Act.put, List.setIfInBounds_toArray, List.set_cons_zero, List.set_cons_succ]
  refine held_v 10 (some 22) rfl (by kernel_rfl) (by kernel_rfl) (by kernel_rfl) (by kernel_rfl) (fun c a v w h => HQ2.out c a _ v w h) (by kernel_rfl) (.int .i64 (ia : Int)) (fun W h => by kernel_rfl) HY1.toR ?_
  try simp only [Act.put, List.setIfInBounds_toArray, List.set_cons_zero, List.set_cons_succ]
  refine held_v 11 (some 23) rfl (by kernel_rfl) (by kernel_rfl) (by kernel_rfl) (by kernel_rfl) (fun c a v w h => HQ2.out c a _ v w h) (by kernel_rfl) (.pointer (some ⟨gH, ia, none⟩)) (fun W h => by go_simp) HY1.toR ?_
  try simp only [Act.put, List.setIfInBounds_toArray, List.set_cons_zero, List.set_cons_succ]
  refine held_v 12 (some 24) rfl (by kernel_rfl) (by kernel_rfl) (by kernel_rfl) (by kernel_rfl) (fun c a v w h => HQ2.out c a _ v w h) (by kernel_rfl) (.int .u64 x) (fun W h => by have p := h.atH (k := ia) (by rw [HHL.out]; exact HAN.out); rw [HXH.out] at p; go_simp) HY1.toR ?_
  try simp only [Act.put, List.setIfInBounds_toArray, List.set_cons_zero, List.set_cons_succ]
  refine held_v 13 (some 25) rfl (by kernel_rfl) (by kernel_rfl) (by kernel_rfl) (by kernel_rfl) (fun c a v w h => HQ2.out c a _ v w h) (by kernel_rfl) (.int .i64 (ib : Int)) (fun W h => by kernel_rfl) HY1.toR ?_
  try simp only [Act.put, List.setIfInBounds_toArray, List.set_cons_zero, List.set_cons_succ]
  refine held_v 14 (some 26) rfl (by kernel_rfl) (by kernel_rfl) (by kernel_rfl) (by kernel_rfl) (fun c a v w h => HQ2.out c a _ v w h) (by kernel_rfl) (.agg #[.int .u64 x, .int .i64 (ib : Int)]) (fun W h => by go_simp) HY1.toR ?_
  try simp only [Act.put, List.setIfInBounds_toArray, List.set_cons_zero, List.set_cons_succ]
  refine held_v 15 (some 27) rfl (by kernel_rfl) (by kernel_rfl) (by kernel_rfl) (by kernel_rfl) (fun c a v w h => HQ2.out c a _ v w h) (by kernel_rfl) (.pointer (some ⟨gC, ia * 2, none⟩)) (fun W h => by go_simp) HY1.toR ?_
  try simp only [Act.put, List.setIfInBounds_toArray, List.set_cons_zero, List.set_cons_succ]
  refine wpAnyH_ready (rs := [16]) (by kernel_rfl) (by decide) ?_
  refine AllReadyH.cons rfl (fun K hK => ?_) AllReadyH.nil
  refine step_store_mid none (by kernel_rfl) (by kernel_rfl) 52 (.tmp 27) (.tmp 26) rfl gC (ia * 2) (by kernel_rfl) 52 _ #[.int .u64 x, .int .i64 (ib : Int)] HY1.bC (by kernel_rfl) (by have := HTL.out; rw [cellsA_size, this]; have := HAN.out; simp; omega) (size_cellF _ _) (cell_onesF _ _) ?_
  intro w101 hkw101 how101
  have trw101 := HY1.putC hkw101.out how101
  refine hK.out _ _ trw101.toR (fun hw101 => ?_)
  clear hK K
  try simp only [Act.put, List.setIfInBounds_toArray, List.set_cons_zero, List.set_cons_succ]
  refine wpAnyH_done (by kernel_rfl) ?_ _
  refine HQ1.out _ _ ?_
  clear HQ1 HQ2
  have HY2 := (trw101).drew
  go_wp2
  refine wp_region_held_drew (S := (LayG g gH gC n T (.slice (some ⟨gS, 0, none⟩) p cS) (.slice (some ⟨gL, 0, none⟩) q cL))) (by kernel_rfl) HY2.toG (fun hH => ?_)
  refine wpAnyH_letter #[false, false, false, false, false, false, false, false, false, false, false, false, false, false, false, false, false, false, false, false, false, false, false] (by kernel_rfl) (fun _ _ d _ _ h => by cases d <;> exact h) (fun QL HQ1 HQ2 => ?_)
  refine held_v 0 (some 28) rfl (by kernel_rfl) (by kernel_rfl) (by kernel_rfl) (by kernel_rfl) (fun c a v w h => HQ2.out c a _ v w h) (by kernel_rfl) (.pointer (some ⟨g, 0, none⟩)) (fun W h => by kernel_rfl) HY2.toG ?_
  try simp only [Act.put, List.setIfInBounds_toArray, List.set_cons_zero, List.set_cons_succ]
  refine held_v 1 (some 29) rfl (by kernel_rfl) (by kernel_rfl) (by kernel_rfl) (by kernel_rfl) (fun c a v w h => HQ2.out c a _ v w h) (by kernel_rfl) (.pointer (some ⟨g, 0, none⟩)) (fun W h => by go_simp) HY2.toG ?_
  try simp only [Act.put, List.setIfInBounds_toArray, List.set_cons_zero, List.set_cons_succ]
  refine held_v 2 (some 30) rfl (by kernel_rfl) (by kernel_rfl) (by kernel_rfl) (by kernel_rfl) (fun c a v w h => HQ2.out c a _ v w h) (by kernel_rfl) (.pointer (some ⟨g, 2, none⟩)) (fun W h => by kernel_rfl) HY2.toG ?_
  try simp only [Act.put, List.setIfInBounds_toArray, List.set_cons_zero, List.set_cons_succ]
  refine held_v 3 (some 31) rfl (by kernel_rfl) (by kernel_rfl) (by kernel_rfl) (by kernel_rfl) (fun c a v w h => HQ2.out c a _ v w h) (by kernel_rfl) (.slice (some ⟨gH, 0, none⟩) n n) (fun W h => by have p := h.c2; go_simp) HY2.toG ?_
  try simp only [Act.put, List.setIfInBounds_toArray, List.set_cons_zero, List.set_cons_succ]
  refine held_v 4 (some 32) rfl (by kernel_rfl) (by kernel_rfl) (by kernel_rfl) (by kernel_rfl) (fun c a v w h => HQ2.out c a _ v w h) (by kernel_rfl) (.int .i64 (ib : Int)) (fun W h => by kernel_rfl) HY2.toG ?_
  try simp only [Act.put, List.setIfInBounds_toArray, List.set_cons_zero, List.set_cons_succ]
  refine held_v 5 (some 33) rfl (by kernel_rfl) (by kernel_rfl) (by kernel_rfl) (by kernel_rfl) (fun c a v w h => HQ2.out c a _ v w h) (by kernel_rfl) (.pointer (some ⟨gH, ib, none⟩)) (fun W h => by go_simp) HY2.toG ?_
  try simp only [Act.put, List.setIfInBounds_toArray, List.set_cons_zero, List.set_cons_succ]
  refine held_v 7 (some 35) rfl (by kernel_rfl) (by kernel_rfl) (by kernel_rfl) (by kernel_rfl) (fun c a v w h => HQ2.out c a _ v w h) (by kernel_rfl) (.pointer (some ⟨g, 0, none⟩)) (fun W h => by kernel_rfl) HY2.toG ?_
  try simp only [Act.put, List.setIfInBounds_toArray, List.set_cons_zero, List.set_cons_succ]
  refine held_v 8 (some 36) rfl (by kernel_rfl) (by kernel_rfl) (by kernel_rfl) (by kernel_rfl) (fun c a v w h => HQ2.out c a _ v w h) (by kernel_rfl) (.pointer (some ⟨g, 0, none⟩)) (fun W h => by go_simp) HY2.toG ?_
  try simp only [Act.put, List.setIfInBounds_toArray, List.set_cons_zero, List.set_cons_succ]
  refine held_v 9 (some 37) rfl (by kernel_rfl) (by kernel_rfl) (by kernel_rfl) (by kernel_rfl) (fun c a v w h => HQ2.out c a _ v w h) (by kernel_rfl) (.pointer (some ⟨g, 0, none⟩)) (fun W h => by kernel_rfl) HY2.toG ?_
  try simp only [Act.put, List.setIfInBounds_toArray, List.set_cons_zero, List.set_cons_succ]
  refine held_v 10 (some 38) rfl (by kernel_rfl) (by kernel_rfl) (by kernel_rfl) (by kernel_rfl) (fun c a v w h => HQ2.out c a _ v w h) (by kernel_rfl) (.pointer (some ⟨g, 0, none⟩)) (fun W h => by kernel_rfl) HY2.toG ?_
  try simp only [Act.put, List.setIfInBounds_toArray, List.set_cons_zero, List.set_cons_succ]
  refine held_v 11 (some 39) rfl (by kernel_rfl) (by kernel_rfl) (by kernel_rfl) (by kernel_rfl) (fun c a v w h => HQ2.out c a _ v w h) (by kernel_rfl) (.int .u64 T) (fun W h => by have p := h.c0; go_simp) HY2.toG ?_
  try simp only [Act.put, List.setIfInBounds_toArray, List.set_cons_zero, List.set_cons_succ]
  refine held_v 12 (some 40) rfl (by kernel_rfl) (by kernel_rfl) (by kernel_rfl) (by kernel_rfl) (fun c a v w h => HQ2.out c a _ v w h) (by kernel_rfl) (.pointer (some ⟨g, 0, none⟩)) (fun W h => by kernel_rfl) HY2.toG ?_
  try simp only [Act.put, List.setIfInBounds_toArray, List.set_cons_zero, List.set_cons_succ]
  refine held_v 13 (some 41) rfl (by kernel_rfl) (by kernel_rfl) (by kernel_rfl) (by kernel_rfl) (fun c a v w h => HQ2.out c a _ v w h) (by kernel_rfl) (.pointer (some ⟨g, 0, none⟩)) (fun W h => by go_simp) HY2.toG ?_
  try simp only [Act.put, List.setIfInBounds_toArray, List.set_cons_zero, List.set_cons_succ]
  refine held_v 14 (some 42) rfl (by kernel_rfl) (by kernel_rfl) (by kernel_rfl) (by kernel_rfl) (fun c a v w h => HQ2.out c a _ v w h) (by kernel_rfl) (.pointer (some ⟨g, 2, none⟩)) (fun W h => by kernel_rfl) HY2.toG ?_
  try simp only [Act.put, List.setIfInBounds_toArray, List.set_cons_zero, List.set_cons_succ]
  refine held_v 15 (some 43) rfl (by kernel_rfl) (by kernel_rfl) (by kernel_rfl) (by kernel_rfl) (fun c a v w h => HQ2.out c a _ v w h) (by kernel_rfl) (.slice (some ⟨gH, 0, none⟩) n n) (fun W h => by have p := h.c2; go_simp) HY2.toG ?_
  try simp only [Act.put, List.setIfInBounds_toArray, List.set_cons_zero, List.set_cons_succ]
  refine held_v 16 (some 44) rfl (by kernel_rfl) (by kernel_rfl) (by kernel_rfl) (by kernel_rfl) (fun c a v w h => HQ2.out c a _ v w h) (by kernel_rfl) (.int .i64 (ia : Int)) (fun W h => by kernel_rfl) HY2.toG ?_
  try simp only [Act.put, List.setIfInBounds_toArray, List.set_cons_zero, List.set_cons_succ]
  refine held_v 17 (some 45) rfl (by kernel_rfl) (by kernel_rfl) (by kernel_rfl) (by kernel_rfl) (fun c a v w h => HQ2.out c a _ v w h) (by kernel_rfl) (.pointer (some ⟨gH, ia, none⟩)) (fun W h => by go_simp) HY2.toG ?_
  try simp only [Act.put, List.setIfInBounds_toArray, List.set_cons_zero, List.set_cons_succ]
  refine wpAnyH_ready (rs := [6, 18]) (by kernel_rfl) (by decide) ?_
  refine AllReadyH.cons rfl (fun K hK => ?_) (AllReadyH.cons rfl (fun K hK => ?_) AllReadyH.nil)
  · refine step_v (some 34) (by kernel_rfl) (by kernel_rfl) (.int .u64 y) (by have p := (HY2).atH (k := ib) (by rw [HHL.out]; exact HBN.out); rw [HYH.out] at p; go_simp) ?_
    refine hK.out _ _ HY2.toG (fun _ => ?_)
    clear hK K
    try simp only [Act.put, List.setIfInBounds_toArray, List.set_cons_zero, List.set_cons_succ]
    refine wpAnyH_ready (rs := [18]) (by kernel_rfl) (by decide) ?_
    refine AllReadyH.cons rfl (fun K hK => ?_) AllReadyH.nil
    refine step_v (some 46) (by kernel_rfl) (by kernel_rfl) (.int .u64 x) (by have p := (HY2).atH (k := ia) (by rw [HHL.out]; exact HAN.out); rw [HXH.out] at p; go_simp) ?_
    refine hK.out _ _ HY2.toG (fun _ => ?_)
    clear hK K
    try simp only [Act.put, List.setIfInBounds_toArray, List.set_cons_zero, List.set_cons_succ]
    refine held_v 19 (some 47) rfl (by kernel_rfl) (by kernel_rfl) (by kernel_rfl) (by kernel_rfl) (fun c a v w h => HQ2.out c a _ v w h) (by kernel_rfl) (.int .u64 (T - x)) (fun W h => by have p := W1.out; go_simp) HY2.toG ?_
    try simp only [Act.put, List.setIfInBounds_toArray, List.set_cons_zero, List.set_cons_succ]
    refine held_v 20 (some 48) rfl (by kernel_rfl) (by kernel_rfl) (by kernel_rfl) (by kernel_rfl) (fun c a v w h => HQ2.out c a _ v w h) (by kernel_rfl) (.int .u64 z) (fun W h => by have p := W2.out; go_simp) HY2.toG ?_
    try simp only [Act.put, List.setIfInBounds_toArray, List.set_cons_zero, List.set_cons_succ]
    refine held_v 21 (some 49) rfl (by kernel_rfl) (by kernel_rfl) (by kernel_rfl) (by kernel_rfl) (fun c a v w h => HQ2.out c a _ v w h) (by kernel_rfl) (.pointer (some ⟨gH, ib, none⟩)) (fun W h => by go_simp) HY2.toG ?_
    try simp only [Act.put, List.setIfInBounds_toArray, List.set_cons_zero, List.set_cons_succ]
    refine wpAnyH_ready (rs := [22]) (by kernel_rfl) (by decide) ?_
    refine AllReadyH.cons rfl (fun K hK => ?_) AllReadyH.nil
    refine step_store_cell none (by kernel_rfl) (by kernel_rfl) 24 (.tmp 49) (.tmp 48) rfl gH ib (by kernel_rfl) 24 _ HY2.bH (.int .u64 z) (by kernel_rfl) (by have := HHL.out; rw [intsA_size, this]; exact HBN.out) size_u64F rfl rfl ?_
    intro w203 hkw203 how203
    have trw203 := HY2.putH hkw203.out how203
    refine hK.out _ _ trw203.toG (fun hw203 => ?_)
    clear hK K
    try simp only [Act.put, List.setIfInBounds_toArray, List.set_cons_zero, List.set_cons_succ]
    refine wpAnyH_done (by kernel_rfl) ?_ _
    refine HQ1.out _ _ ?_
    clear HQ1 HQ2
    have HY3 := Lib.hid trw203
    go_wp2_with (first
      | (go_at_call 44; (with_reducible refine (HSO.out _ _ _ HY3.out).mono ?_); rintro e w9 ⟨rfl, hfin⟩; have HF := Lib.hid hfin))
    go_end0
    exact ⟨rfl, HF.out⟩
  · refine step_v (some 46) (by kernel_rfl) (by kernel_rfl) (.int .u64 x) (by have p := (HY2).atH (k := ia) (by rw [HHL.out]; exact HAN.out); rw [HXH.out] at p; go_simp) ?_
    refine hK.out _ _ HY2.toG (fun _ => ?_)
    clear hK K
    try simp only [Act.put, List.setIfInBounds_toArray, List.set_cons_zero, List.set_cons_succ]
    refine held_v 19 (some 47) rfl (by kernel_rfl) (by kernel_rfl) (by kernel_rfl) (by kernel_rfl) (fun c a v w h => HQ2.out c a _ v w h) (by kernel_rfl) (.int .u64 (T - x)) (fun W h => by have p := W1.out; go_simp) HY2.toG ?_
    try simp only [Act.put, List.setIfInBounds_toArray, List.set_cons_zero, List.set_cons_succ]
    refine wpAnyH_ready (rs := [6]) (by kernel_rfl) (by decide) ?_
    refine AllReadyH.cons rfl (fun K hK => ?_) AllReadyH.nil
    refine step_v (some 34) (by kernel_rfl) (by kernel_rfl) (.int .u64 y) (by have p := (HY2).atH (k := ib) (by rw [HHL.out]; exact HBN.out); rw [HYH.out] at p; go_simp) ?_
    refine hK.out _ _ HY2.toG (fun _ => ?_)
    clear hK K
    try simp only [Act.put, List.setIfInBounds_toArray, List.set_cons_zero, List.set_cons_succ]
    refine held_v 20 (some 48) rfl (by kernel_rfl) (by kernel_rfl) (by kernel_rfl) (by kernel_rfl) (fun c a v w h => HQ2.out c a _ v w h) (by kernel_rfl) (.int .u64 z) (fun W h => by have p := W2.out; go_simp) HY2.toG ?_
    try simp only [Act.put, List.setIfInBounds_toArray, List.set_cons_zero, List.set_cons_succ]
    refine held_v 21 (some 49) rfl (by kernel_rfl) (by kernel_rfl) (by kernel_rfl) (by kernel_rfl) (fun c a v w h => HQ2.out c a _ v w h) (by kernel_rfl) (.pointer (some ⟨gH, ib, none⟩)) (fun W h => by go_simp) HY2.toG ?_
    try simp only [Act.put, List.setIfInBounds_toArray, List.set_cons_zero, List.set_cons_succ]
    refine wpAnyH_ready (rs := [22]) (by kernel_rfl) (by decide) ?_
    refine AllReadyH.cons rfl (fun K hK => ?_) AllReadyH.nil
    refine step_store_cell none (by kernel_rfl) (by kernel_rfl) 24 (.tmp 49) (.tmp 48) rfl gH ib (by kernel_rfl) 24 _ HY2.bH (.int .u64 z) (by kernel_rfl) (by have := HHL.out; rw [intsA_size, this]; exact HBN.out) size_u64F rfl rfl ?_
    intro w206 hkw206 how206
    have trw206 := HY2.putH hkw206.out how206
    refine hK.out _ _ trw206.toG (fun hw206 => ?_)
    clear hK K
    try simp only [Act.put, List.setIfInBounds_toArray, List.set_cons_zero, List.set_cons_succ]
    refine wpAnyH_done (by kernel_rfl) ?_ _
    refine HQ1.out _ _ ?_
    clear HQ1 HQ2
    have HY3 := Lib.hid trw206
    go_wp2_with (first
      | (go_at_call 44; (with_reducible refine (HSO.out _ _ _ HY3.out).mono ?_); rintro e w9 ⟨rfl, hfin⟩; have HF := Lib.hid hfin))
    go_end0
    exact ⟨rfl, HF.out⟩
end Go.Proofs.YtomkidgmpbjgeaaDoor
/-
  What the landed alias's lay and Build return: the table of stakes, or why there is none; memory is left as it was.
  Conditions: the stakes lie in their type's range; there are at most 1000.
-/
set_option maxRecDepth 100000
set_option linter.unusedVariables false
set_option linter.unusedSimpArgs false
namespace Go.Proofs.YtomkidgmpbjgeaaDoor
open Go.ChangeShapes Go.WideShapes Go.ChangeAt Go.RowKit
section
variable {P : Program} {w : World} {ops : Array Oper} {o : Oper} {a : Act} {Q : Exit → Act → World → Prop}
/-- A row is made, where it comes up. -/
theorem step_makeH {K : Act → World → Prop} {E : Prop} (d : Option Tmp) (hd : o.dst = d) (hw : Region.wanted o (yielded ops a.tmps) = true) (n : Nat) (t : TypeId) (cs : Array Value)
    (hv : (execOp a.eval o).run P w = .ok (.value (.slice (some ⟨w.heap.size, 0, none⟩) n n)) (w.alloc (.cells cs t)))
    (h : ∀ g w', Blk w' g t cs → Below w.heap.size w w' → w.heap.size ≤ g → K (a.put d (.slice (some ⟨g, 0, none⟩) n n)) w') :
    if Region.wanted o (yielded ops a.tmps) = true then Oper.wp P o a w K Q else E := by
  subst hd
  rw [if_pos hw]
  unfold Oper.wp
  simp only [hv]
  exact h _ _ (Blk.new w t cs) ((Below.refl _ _).alloc (Nat.le_refl _) _) (Nat.le_refl _)
/-- A struct is boxed, where it comes up. -/
theorem step_boxH {K : Act → World → Prop} {E : Prop} (d : Option Tmp) (hd : o.dst = d) (hw : Region.wanted o (yielded ops a.tmps) = true) (ty : TypeId) (x : Operand) (ho : o.op = .box ty x) (cs : Array Value) (hx : a.eval x = .agg cs)
    (h : ∀ g w', Blk w' g ty cs → Below w.heap.size w w' → w.heap.size ≤ g → K (a.put d (.pointer (some ⟨g, 0, none⟩))) w') :
    if Region.wanted o (yielded ops a.tmps) = true then Oper.wp P o a w K Q else E := by
  subst hd
  rw [if_pos hw]
  unfold Oper.wp execOp
  simp only [ho, hx, Instr.box, newVar, newRow, Value.cells]
  exact h _ _ (Blk.new w ty cs) ((Below.refl _ _).alloc (Nat.le_refl _) _) (Nat.le_refl _)
end
theorem exec_cells {a : Act} {o : Oper} (n : Nat) (hn : n ≤ 100000) (w : World) (x : Operand) (ho : o.op = .makeSlice 26 x x) (hx : a.eval x = .int .i64 (n : Int)) : (execOp a.eval o).run Tryd.prog w = .ok (.value (.slice (some ⟨w.heap.size, 0, none⟩) n n)) (w.alloc (.cells (cellsA (List.replicate n (0, 0))) 52)) := by
  unfold execOp
  simp only [ho, hx]
  change ((Instr.makeSlice 26 (.int .i64 (n : Int)) (.int .i64 (n : Int))) >>= fun v => pure (Next.value v)).run Tryd.prog w = _
  simp only [Sem.run_bind, run_make_cells n hn, Result.andThen_ok, Sem.run_pure]
theorem exec_u64 {a : Act} {o : Oper} (n : Nat) (hn : n ≤ 100000) (w : World) (x : Operand) (ho : o.op = .makeSlice 22 x x) (hx : a.eval x = .int .i64 (n : Int)) : (execOp a.eval o).run Tryd.prog w = .ok (.value (.slice (some ⟨w.heap.size, 0, none⟩) n n)) (w.alloc (.cells (intsA .u64 (List.replicate n 0)) 24)) := by
  unfold execOp
  simp only [ho, hx]
  change ((Instr.makeSlice 22 (.int .i64 (n : Int)) (.int .i64 (n : Int))) >>= fun v => pure (Next.value v)).run Tryd.prog w = _
  simp only [Sem.run_bind, run_make_u64 n hn, Result.andThen_ok, Sem.run_pure]
/-- What a build begins with. -/
theorem LayS.start {w0 w1 w2 w3 : World} {g gH gC n : Nat} {T : Int} {vs : List Int} {ts : List (Int × Int)} (kH : Blk w3 gH 24 (intsA .u64 vs)) (kC : Blk w3 gC 52 (cellsA ts)) (kY : Blk w3 g 70 #[.int .u64 T, .slice (some ⟨gC, 0, none⟩) n n, .slice (some ⟨gH, 0, none⟩) n n, .slice none 0 0, .slice none 0 0]) (hb : Below w0.heap.size w0 w3) (lY : w0.heap.size ≤ g) (lH : w0.heap.size ≤ gH) (lC : w0.heap.size ≤ gC) : LayS w0 g gH gC n T vs ts (.slice none 0 0) (.slice none 0 0) [] [] w3 :=
  ⟨kY, kH, kC, own_nil _ _ _, own_nil _ _ _, fun g e => (by simp [Value.ownBlock] at e), hb, lY, lH, lC⟩
/-- How many places are left, as the lists in memory say. -/
def layM (g : Nat) (w : World) : Nat := lenV ((w.cell? ⟨g, 3, none⟩).getD undef) + lenV ((w.cell? ⟨g, 4, none⟩).getD undef)
theorem LayS.meas {w0 w : World} {g gH gC n : Nat} {T : Int} {hs sm lg : List Int} {ts : List (Int × Int)} {vS vL : Value} (h : LayS w0 g gH gC n T hs ts vS vL sm lg w) : layM g w = sm.length + lg.length := by
  unfold layM
  rw [h.c3, h.c4]
  show lenV vS + lenV vL = _
  rw [h.oS.lenV, h.oL.lenV]
set_option maxHeartbeats 8000000 in
theorem q14lay_c (l : List Int) (T : Int) (T0 : 0 ≤ T) (T1 : T < 9223372036854775808) (A : Option Addr) (n c : Nat) (hn : n ≤ 1000) (hz : ∀ k, k < n → 0 ≤ l.getD k 0 ∧ l.getD k 0 < 18446744073709551616 ∧ 0 ≤ (n : Int) * l.getD k 0 ∧ (n : Int) * l.getD k 0 < 9223372036854775808) (w : World) (hrd : Rd .u64 w w.heap.size A n l) :
    Calls Tryd.prog 32 #[.int .u64 T, .slice A n c] w fun e w' => ∃ (g gH gC : Nat) (vS vL : Value), e = .returned (.pointer (some ⟨g, 0, none⟩)) ∧ LayS w g gH gC n T (abInit T l).has (abInit T l).ts vS vL (abInit T l).sm (abInit T l).lg w' := by
  have HR := Lib.hid hrd
  have hlen := hrd.len
  have HZ := Lib.hid hz
  have HNEXT : Hid (∀ g gH gC k, k < n → ∀ vS vL W, LayS w g gH gC n T ((fillT (hasL l) 0 k).set k ((n : Int) * l.getD k 0)) ((fillT (cellsL T n) (0, 0) k).set k (T, (k : Int))) vS vL (smL T (hasL l) k) (lgL T (hasL l) k) W → Calls Tryd.prog 44 #[.pointer (some ⟨g, 0, none⟩), .int .i64 (k : Int)] W fun e w' => e = .returned (.tuple #[]) ∧ ∃ vS' vL', LayS w g gH gC n T (fillT (hasL l) 0 (k + 1)) (fillT (cellsL T n) (0, 0) (k + 1)) vS' vL' (smL T (hasL l) (k + 1)) (lgL T (hasL l) (k + 1)) w') := Lib.hid (fun g gH gC k hk vS vL W h => by
    have q1 : (fillT (hasL l) 0 k).set k ((n : Int) * l.getD k 0) = fillT (hasL l) 0 (k + 1) := by
      have := fill_next (hasL l) 0 k (by rw [hasL_len]; omega)
      rw [← this]
      congr 1
      have h9 := hasL_at (l := l) (i := k) (by omega)
      rw [hlen] at h9
      rw [← h9, List.getD_eq_getElem?_getD, List.getElem?_eq_getElem (by rw [hasL_len]; omega)]
      rfl
    have q2 : (fillT (cellsL T n) (0, 0) k).set k (T, (k : Int)) = fillT (cellsL T n) (0, 0) (k + 1) := by
      have := fill_next (cellsL T n) (0, 0) k (by rw [cells_len]; omega)
      rw [← this]
      congr 1
      simp [cellsL]
    have h9 := hasL_at (l := l) (i := k) (by omega)
    rw [hlen] at h9
    have hll : (fillT (hasL l) 0 k).length = n := by rw [fill_len _ _ _ (by rw [hasL_len]; omega), hasL_len, hlen]
    have hg : ((fillT (hasL l) 0 k).set k ((n : Int) * l.getD k 0)).getD k 0 = (n : Int) * l.getD k 0 := by rw [getD_setT (by omega), if_pos rfl]
    have hx := hz k hk
    have hsl := sl_len T (hasL l) k
    have h2 := q14sort_c k hk hn (by rw [List.length_set]; exact hll) (by rw [hg]; exact hx.2.2.1) (by rw [hg]; have := hx.2.2.2; omega) T0 (by omega) (by omega) (by omega) W h
    rw [hg, q1, q2] at h2
    rw [smL_succ, lgL_succ, h9]
    exact h2)
  have HFIN : Hid (∀ g gH gC vS vL W, LayS w g gH gC n T (fillT (hasL l) 0 n) (fillT (cellsL T n) (0, 0) n) vS vL (smL T (hasL l) n) (lgL T (hasL l) n) W → ∃ (g' gH' gC' : Nat) (vS' vL' : Value), Ending.returned (.pointer (some ⟨g, 0, none⟩)) = .returned (.pointer (some ⟨g', 0, none⟩)) ∧ LayS w g' gH' gC' n T (abInit T l).has (abInit T l).ts vS' vL' (abInit T l).sm (abInit T l).lg W) := Lib.hid (fun g gH gC vS vL W h => by
    have h1 := fill_all (hasL l) 0
    have h2 := fill_all (cellsL T n) (0, 0)
    rw [hasL_len, hlen] at h1
    rw [cells_len] at h2
    rw [h1, h2] at h
    refine ⟨g, gH, gC, vS, vL, rfl, ?_⟩
    unfold abInit
    rw [hlen]
    exact h)
  have HN5 := Lib.hid (show n ≤ 100000 by omega)
  have HB0 : Below w.heap.size w w.drew := (Below.refl _ _).drew
  have i2 : (n : Int) ≤ 1000 := by omega
  have i3 : (0 : Int) ≤ (n : Int) := by omega
  clear hz hrd
  go_enter Tryd.func32, Tryd.ntmps32
  go_wp2
  refine wp_region_held_drew (S := (fun _ => True)) (by kernel_rfl) trivial (fun hH => ?_)
  refine wpAnyH_letter #[false, false, false, false, false, false, false, false, false] (by kernel_rfl) (fun _ _ d _ _ h => by cases d <;> exact h) (fun QL HQ1 HQ2 => ?_)
  refine held_v 0 (some 11) rfl (by kernel_rfl) (by kernel_rfl) (by kernel_rfl) (by kernel_rfl) (fun c a v w h => HQ2.out c a _ v w h) (by kernel_rfl) (.int .u64 T) (fun W h => by kernel_rfl) trivial ?_
  try simp only [Act.put, List.setIfInBounds_toArray, List.set_cons_zero, List.set_cons_succ]
  refine held_v 1 (some 12) rfl (by kernel_rfl) (by kernel_rfl) (by kernel_rfl) (by kernel_rfl) (fun c a v w h => HQ2.out c a _ v w h) (by kernel_rfl) (.int .i64 (n : Int)) (fun W h => by kernel_rfl) trivial ?_
  try simp only [Act.put, List.setIfInBounds_toArray, List.set_cons_zero, List.set_cons_succ]
  refine held_v 4 (some 15) rfl (by kernel_rfl) (by kernel_rfl) (by kernel_rfl) (by kernel_rfl) (fun c a v w h => HQ2.out c a _ v w h) (by kernel_rfl) (.int .i64 (n : Int)) (fun W h => by kernel_rfl) trivial ?_
  try simp only [Act.put, List.setIfInBounds_toArray, List.set_cons_zero, List.set_cons_succ]
  refine wpAnyH_ready (rs := [2, 5]) (by kernel_rfl) (by decide) ?_
  refine AllReadyH.cons rfl (fun K hK => ?_) (AllReadyH.cons rfl (fun K hK => ?_) AllReadyH.nil)
  · refine step_makeH (some 13) (by kernel_rfl) (by kernel_rfl) n 52 (cellsA (List.replicate n (0, 0))) (exec_cells n HN5.out _ (.tmp 12) (by kernel_rfl) (by kernel_rfl)) ?_
    intro gw41 w41 kw41 bw41 lw41
    have e42 := (HB0).trans (bw41.mono (HB0).size)
    have llw41 := Nat.le_trans (HB0).size lw41
    refine hK.out _ _ trivial (fun _ => ?_)
    clear hK K
    try simp only [Act.put, List.setIfInBounds_toArray, List.set_cons_zero, List.set_cons_succ]
    refine held_v 3 (some 14) rfl (by kernel_rfl) (by kernel_rfl) (by kernel_rfl) (by kernel_rfl) (fun c a v w h => HQ2.out c a _ v w h) (by kernel_rfl) (.agg #[.int .u64 T, .slice (some ⟨gw41, 0, none⟩) n n]) (fun W h => by go_simp) trivial ?_
    try simp only [Act.put, List.setIfInBounds_toArray, List.set_cons_zero, List.set_cons_succ]
    refine wpAnyH_ready (rs := [5]) (by kernel_rfl) (by decide) ?_
    refine AllReadyH.cons rfl (fun K hK => ?_) AllReadyH.nil
    refine step_makeH (some 16) (by kernel_rfl) (by kernel_rfl) n 24 (intsA .u64 (List.replicate n 0)) (exec_u64 n HN5.out _ (.tmp 15) (by kernel_rfl) (by kernel_rfl)) ?_
    intro gw43 w43 kw43 bw43 lw43
    have e44 := (e42).trans (bw43.mono (e42).size)
    have e45 := (kw41).below bw43 (kw41).lt
    have e46 := llw41
    have llw43 := Nat.le_trans (e42).size lw43
    refine hK.out _ _ trivial (fun _ => ?_)
    clear hK K
    try simp only [Act.put, List.setIfInBounds_toArray, List.set_cons_zero, List.set_cons_succ]
    refine held_v 6 (some 17) rfl (by kernel_rfl) (by kernel_rfl) (by kernel_rfl) (by kernel_rfl) (fun c a v w h => HQ2.out c a _ v w h) (by kernel_rfl) (.agg #[.int .u64 T, .slice (some ⟨gw41, 0, none⟩) n n, .slice (some ⟨gw43, 0, none⟩) n n, .slice none 0 0, .slice none 0 0]) (fun W h => by go_simp) trivial ?_
    try simp only [Act.put, List.setIfInBounds_toArray, List.set_cons_zero, List.set_cons_succ]
    refine wpAnyH_ready (rs := [7]) (by kernel_rfl) (by decide) ?_
    refine AllReadyH.cons rfl (fun K hK => ?_) AllReadyH.nil
    refine step_boxH (some 18) (by kernel_rfl) (by kernel_rfl) 70 (.tmp 17) (by kernel_rfl) #[.int .u64 T, .slice (some ⟨gw41, 0, none⟩) n n, .slice (some ⟨gw43, 0, none⟩) n n, .slice none 0 0, .slice none 0 0] (by kernel_rfl) ?_
    intro gw47 w47 kw47 bw47 lw47
    have e48 := (e44).trans (bw47.mono (e44).size)
    have e49 := (e45).below bw47 (e45).lt
    have e50 := e46
    have e51 := (kw43).below bw47 (kw43).lt
    have e52 := llw43
    have llw47 := Nat.le_trans (e44).size lw47
    refine hK.out _ _ trivial (fun _ => ?_)
    clear hK K
    try simp only [Act.put, List.setIfInBounds_toArray, List.set_cons_zero, List.set_cons_succ]
    refine held_v 8 (some 6) rfl (by kernel_rfl) (by kernel_rfl) (by kernel_rfl) (by kernel_rfl) (fun c a v w h => HQ2.out c a _ v w h) (by kernel_rfl) (.pointer (some ⟨gw47, 0, none⟩)) (fun W h => by kernel_rfl) trivial ?_
    try simp only [Act.put, List.setIfInBounds_toArray, List.set_cons_zero, List.set_cons_succ]
    refine wpAnyH_done (by kernel_rfl) ?_ _
    refine HQ1.out _ _ ?_
    clear HQ1 HQ2
    have HST : Hid (LayS w gw47 gw43 gw41 n T (fillT (hasL l) 0 0) (fillT (cellsL T n) (0, 0) 0) (.slice none 0 0) (.slice none 0 0) (smL T (hasL l) 0) (lgL T (hasL l) 0) _) := Lib.hid (by
      rw [fill_zero, fill_zero, hasL_len, cells_len, hlen]
      exact LayS.start (w1 := w) (w2 := w) e51 e49 kw47 e48 llw47 e52 e50)
    have HNX0 := Lib.hid (fun k hk => HNEXT.out gw47 gw43 gw41 k hk)
    have HEND := Lib.hid (fun vS vL W h => HFIN.out gw47 gw43 gw41 vS vL W h)
    clear HNEXT HFIN
    clear e48 e49 e51 kw47
    go_wp2
    go_loopw [21] (fun iv wr => ∃ (k : Nat) (vS vL : Value), k ≤ n ∧ iv = .int .i64 (k : Int) ∧ LayS w gw47 gw43 gw41 n T (fillT (hasL l) 0 k) (fillT (cellsL T n) (0, 0) k) vS vL (smL T (hasL l) k) (lgL T (hasL l) k) wr) (fun iv _ => n - (intOf iv).toNat)
    case atStart => exact ⟨0, _, _, by omega, rfl, HST.out⟩
    case round =>
      obtain ⟨k, vS, vL, hk, rfl, hB⟩ := hrel
      have B1 := Lib.hid hB
      by_cases hlt : k < n
      · obtain ⟨b, off, rfl, _, hcc⟩ := (hB.rd HR.out).at_ (by omega)
        have hck := hcc k hlt
        have hx := HZ.out k hlt
        have HTL : Hid ((fillT (cellsL T n) (0, 0) k).length = n) := Lib.hid (by rw [fill_len _ _ _ (by rw [cells_len]; omega), cells_len])
        have HHL : Hid ((fillT (hasL l) 0 k).length = n) := Lib.hid (by rw [fill_len _ _ _ (by rw [hasL_len]; omega), hasL_len, hlen])
        have HNX := Lib.hid (HNX0.out k hlt)
        obtain ⟨x, hxx⟩ : ∃ x, l.getD k 0 = x := ⟨_, rfl⟩
        rw [hxx] at hck hx HNX
        obtain ⟨p, hp⟩ : ∃ p, (n : Int) * x = p := ⟨_, rfl⟩
        rw [hp] at hx HNX
        obtain ⟨x0, x1, p0, p1⟩ := hx
        obtain ⟨H, hH⟩ : ∃ p, fillT (hasL l) 0 k = p := ⟨_, rfl⟩
        obtain ⟨C, hC⟩ : ∃ p, fillT (cellsL T n) (0, 0) k = p := ⟨_, rfl⟩
        rw [hH] at B1 HHL HNX
        rw [hC] at B1 HTL HNX
        have i0 : (0 : Int) ≤ (k : Int) := by omega
        have i1 : (k : Int) < (n : Int) := by omega
        have hw : IntKind.u64.wrap ((n : Int) * x) = p := by rw [hp, IntKind.wrap_u64]; omega
        have d1 := B1.out.c1
        clear hcc hB hxx hp hH hC HST HEND HNX0
        go_wp2_with (first
          | (with_reducible refine at_any ?_; refine at_store 35 rfl ?_; refine wpList_store_mid rfl 52 (.tmp 35) (.tmp 34) rfl gw41 (k * 2) rfl 52 (cellsA C) #[.int .u64 T, .int .i64 (k : Int)] B1.out.bC rfl (by have := HTL.out; rw [cellsA_size, this]; simp; omega) (size_cellF _ _) (cell_onesF _ _) ?_; intro w2 hk2 ho2; have B2 := Lib.hid (B1.out.putC hk2.out ho2); have d2 := B2.out.c2; clear hk2 ho2)
          | (with_reducible refine at_any ?_; refine at_store 45 rfl ?_; refine wpList_store_cell rfl 24 (.tmp 45) (.tmp 44) rfl gw43 k rfl 24 (intsA .u64 H) B2.out.bH (.int .u64 p) rfl (by have := HHL.out; rw [intsA_size, this]; exact hlt) size_u64F rfl rfl ?_; intro w3 hk3 ho3; have B3 := Lib.hid (B2.out.putH hk3.out ho3); clear hk3 ho3)
          | (go_at_call 44; (with_reducible refine (HNX.out _ _ _ B3.out).mono ?_); rintro e w4 ⟨rfl, hfin⟩; have HF := Lib.hid hfin; clear hfin))
        go_roundw
        case rel =>
          obtain ⟨v1, v2, hF⟩ := HF.out
          exact ⟨k + 1, v1, v2, by omega, by go_num, hF⟩
        case measure => simp [intOf]; omega
      · obtain rfl : k = n := by omega
        go_wp2
        go_ret
        exact HEND.out _ _ _ B1.out
  · refine step_makeH (some 16) (by kernel_rfl) (by kernel_rfl) n 24 (intsA .u64 (List.replicate n 0)) (exec_u64 n HN5.out _ (.tmp 15) (by kernel_rfl) (by kernel_rfl)) ?_
    intro gw53 w53 kw53 bw53 lw53
    have e54 := (HB0).trans (bw53.mono (HB0).size)
    have llw53 := Nat.le_trans (HB0).size lw53
    refine hK.out _ _ trivial (fun _ => ?_)
    clear hK K
    try simp only [Act.put, List.setIfInBounds_toArray, List.set_cons_zero, List.set_cons_succ]
    refine wpAnyH_ready (rs := [2]) (by kernel_rfl) (by decide) ?_
    refine AllReadyH.cons rfl (fun K hK => ?_) AllReadyH.nil
    refine step_makeH (some 13) (by kernel_rfl) (by kernel_rfl) n 52 (cellsA (List.replicate n (0, 0))) (exec_cells n HN5.out _ (.tmp 12) (by kernel_rfl) (by kernel_rfl)) ?_
    intro gw55 w55 kw55 bw55 lw55
    have e56 := (e54).trans (bw55.mono (e54).size)
    have e57 := (kw53).below bw55 (kw53).lt
    have e58 := llw53
    have llw55 := Nat.le_trans (e54).size lw55
    refine hK.out _ _ trivial (fun _ => ?_)
    clear hK K
    try simp only [Act.put, List.setIfInBounds_toArray, List.set_cons_zero, List.set_cons_succ]
    refine held_v 3 (some 14) rfl (by kernel_rfl) (by kernel_rfl) (by kernel_rfl) (by kernel_rfl) (fun c a v w h => HQ2.out c a _ v w h) (by kernel_rfl) (.agg #[.int .u64 T, .slice (some ⟨gw55, 0, none⟩) n n]) (fun W h => by go_simp) trivial ?_
    try simp only [Act.put, List.setIfInBounds_toArray, List.set_cons_zero, List.set_cons_succ]
    refine held_v 6 (some 17) rfl (by kernel_rfl) (by kernel_rfl) (by kernel_rfl) (by kernel_rfl) (fun c a v w h => HQ2.out c a _ v w h) (by kernel_rfl) (.agg #[.int .u64 T, .slice (some ⟨gw55, 0, none⟩) n n, .slice (some ⟨gw53, 0, none⟩) n n, .slice none 0 0, .slice none 0 0]) (fun W h => by go_simp) trivial ?_
    try simp only [Act.put, List.setIfInBounds_toArray, List.set_cons_zero, List.set_cons_succ]
    refine wpAnyH_ready (rs := [7]) (by kernel_rfl) (by decide) ?_
    refine AllReadyH.cons rfl (fun K hK => ?_) AllReadyH.nil
    refine step_boxH (some 18) (by kernel_rfl) (by kernel_rfl) 70 (.tmp 17) (by kernel_rfl) #[.int .u64 T, .slice (some ⟨gw55, 0, none⟩) n n, .slice (some ⟨gw53, 0, none⟩) n n, .slice none 0 0, .slice none 0 0] (by kernel_rfl) ?_
    intro gw59 w59 kw59 bw59 lw59
    have e60 := (e56).trans (bw59.mono (e56).size)
    have e61 := (e57).below bw59 (e57).lt
    have e62 := e58
    have e63 := (kw55).below bw59 (kw55).lt
    have e64 := llw55
    have llw59 := Nat.le_trans (e56).size lw59
    refine hK.out _ _ trivial (fun _ => ?_)
    clear hK K
    try simp only [Act.put, List.setIfInBounds_toArray, List.set_cons_zero, List.set_cons_succ]
    refine held_v 8 (some 6) rfl (by kernel_rfl) (by kernel_rfl) (by kernel_rfl) (by kernel_rfl) (fun c a v w h => HQ2.out c a _ v w h) (by kernel_rfl) (.pointer (some ⟨gw59, 0, none⟩)) (fun W h => by kernel_rfl) trivial ?_
    try simp only [Act.put, List.setIfInBounds_toArray, List.set_cons_zero, List.set_cons_succ]
    refine wpAnyH_done (by kernel_rfl) ?_ _
    refine HQ1.out _ _ ?_
    clear HQ1 HQ2
    have HST : Hid (LayS w gw59 gw53 gw55 n T (fillT (hasL l) 0 0) (fillT (cellsL T n) (0, 0) 0) (.slice none 0 0) (.slice none 0 0) (smL T (hasL l) 0) (lgL T (hasL l) 0) _) := Lib.hid (by
      rw [fill_zero, fill_zero, hasL_len, cells_len, hlen]
      exact LayS.start (w1 := w) (w2 := w) e61 e63 kw59 e60 llw59 e62 e64)
    have HNX0 := Lib.hid (fun k hk => HNEXT.out gw59 gw53 gw55 k hk)
    have HEND := Lib.hid (fun vS vL W h => HFIN.out gw59 gw53 gw55 vS vL W h)
    clear HNEXT HFIN
    clear e60 e61 e63 kw59
    go_wp2
    go_loopw [21] (fun iv wr => ∃ (k : Nat) (vS vL : Value), k ≤ n ∧ iv = .int .i64 (k : Int) ∧ LayS w gw59 gw53 gw55 n T (fillT (hasL l) 0 k) (fillT (cellsL T n) (0, 0) k) vS vL (smL T (hasL l) k) (lgL T (hasL l) k) wr) (fun iv _ => n - (intOf iv).toNat)
    case atStart => exact ⟨0, _, _, by omega, rfl, HST.out⟩
    case round =>
      obtain ⟨k, vS, vL, hk, rfl, hB⟩ := hrel
      have B1 := Lib.hid hB
      by_cases hlt : k < n
      · obtain ⟨b, off, rfl, _, hcc⟩ := (hB.rd HR.out).at_ (by omega)
        have hck := hcc k hlt
        have hx := HZ.out k hlt
        have HTL : Hid ((fillT (cellsL T n) (0, 0) k).length = n) := Lib.hid (by rw [fill_len _ _ _ (by rw [cells_len]; omega), cells_len])
        have HHL : Hid ((fillT (hasL l) 0 k).length = n) := Lib.hid (by rw [fill_len _ _ _ (by rw [hasL_len]; omega), hasL_len, hlen])
        have HNX := Lib.hid (HNX0.out k hlt)
        obtain ⟨x, hxx⟩ : ∃ x, l.getD k 0 = x := ⟨_, rfl⟩
        rw [hxx] at hck hx HNX
        obtain ⟨p, hp⟩ : ∃ p, (n : Int) * x = p := ⟨_, rfl⟩
        rw [hp] at hx HNX
        obtain ⟨x0, x1, p0, p1⟩ := hx
        obtain ⟨H, hH⟩ : ∃ p, fillT (hasL l) 0 k = p := ⟨_, rfl⟩
        obtain ⟨C, hC⟩ : ∃ p, fillT (cellsL T n) (0, 0) k = p := ⟨_, rfl⟩
        rw [hH] at B1 HHL HNX
        rw [hC] at B1 HTL HNX
        have i0 : (0 : Int) ≤ (k : Int) := by omega
        have i1 : (k : Int) < (n : Int) := by omega
        have hw : IntKind.u64.wrap ((n : Int) * x) = p := by rw [hp, IntKind.wrap_u64]; omega
        have d1 := B1.out.c1
        clear hcc hB hxx hp hH hC HST HEND HNX0
        go_wp2_with (first
          | (with_reducible refine at_any ?_; refine at_store 35 rfl ?_; refine wpList_store_mid rfl 52 (.tmp 35) (.tmp 34) rfl gw55 (k * 2) rfl 52 (cellsA C) #[.int .u64 T, .int .i64 (k : Int)] B1.out.bC rfl (by have := HTL.out; rw [cellsA_size, this]; simp; omega) (size_cellF _ _) (cell_onesF _ _) ?_; intro w2 hk2 ho2; have B2 := Lib.hid (B1.out.putC hk2.out ho2); have d2 := B2.out.c2; clear hk2 ho2)
          | (with_reducible refine at_any ?_; refine at_store 45 rfl ?_; refine wpList_store_cell rfl 24 (.tmp 45) (.tmp 44) rfl gw53 k rfl 24 (intsA .u64 H) B2.out.bH (.int .u64 p) rfl (by have := HHL.out; rw [intsA_size, this]; exact hlt) size_u64F rfl rfl ?_; intro w3 hk3 ho3; have B3 := Lib.hid (B2.out.putH hk3.out ho3); clear hk3 ho3)
          | (go_at_call 44; (with_reducible refine (HNX.out _ _ _ B3.out).mono ?_); rintro e w4 ⟨rfl, hfin⟩; have HF := Lib.hid hfin; clear hfin))
        go_roundw
        case rel =>
          obtain ⟨v1, v2, hF⟩ := HF.out
          exact ⟨k + 1, v1, v2, by omega, by go_num, hF⟩
        case measure => simp [intOf]; omega
      · obtain rfl : k = n := by omega
        go_wp2
        go_ret
        exact HEND.out _ _ _ B1.out
end Go.Proofs.YtomkidgmpbjgeaaDoor
/-
  What the landed alias's Build returns: the table of stakes, or why there is none; memory is left as it was.
  Conditions: the stakes lie in their type's range; there are at most 1000.
-/
set_option maxRecDepth 100000
set_option linter.unusedVariables false
set_option linter.unusedSimpArgs false
namespace Go.Proofs.YtomkidgmpbjgeaaDoor
open Go.ChangeShapes Go.WideShapes Go.ChangeAt Go.RowKit
theorem range_two {w : World} {b : Nat} {u v : Value} (h : w.cell? ⟨b, 0, none⟩ = some u) (h2 : w.cell? ⟨b, 1, none⟩ = some v) : w.rangeAt b 0 [u, v] := by
  intro j z hz
  match j, hz with
  | 0, hz => injection hz with hz; subst hz; exact h
  | 1, hz => injection hz with hz; subst hz; exact h2
  | j + 2, hz => simp at hz
theorem size_tabH (u v : Value) : (Tryd.prog.info? 28).map (·.size) = some [u, v].length := by kernel_rfl
set_option maxHeartbeats 8000000 in
theorem q14build_c (l : List Int) (hz : ∀ z ∈ l, 0 ≤ z ∧ z < 18446744073709551616) (A : Option Addr) (n c : Nat) (hn : n ≤ 1000) (w : World) (hrd : Rd .u64 w w.heap.size A n l) : Calls Tryd.prog 22 #[.slice A n c] w (RetTab w (tbT l) (tbC l).length (tbC l) (tbE l)) := by
  have HR := Lib.hid hrd
  have hlen := hrd.len
  have HTO := Lib.hid (fun W h => q9total_c l hz A n c (by simp only [maxLen]; omega) W h)
  have HEMP : Hid (∀ er w', tbE l = er → er ≠ 0 → Below w.heap.size w w' → RetTab w (tbT l) (tbC l).length (tbC l) (tbE l) (.returned (.tuple #[.agg #[.int .u64 0, .slice none 0 0], .int .i64 er])) w') := Lib.hid (fun er w' h h0 hb => by
    obtain ⟨e1, e2⟩ := tb_no (l := l) (by rw [h]; exact h0)
    rw [e1, e2, h]
    exact ⟨none, 0, rfl, RdPr.nil _ _ _ _ _, Nat.le_refl _, by simp [maxLen], hb⟩)
  have hz' : ∀ z ∈ l, 0 ≤ z := fun z h => (hz z h).1
  have hs0 := sumL_nn hz'
  by_cases h1 : sumL l < 9223372036854775808
  case neg =>
    obtain ⟨e1, e2⟩ := sumV_no h1
    have n0 : l.length ≠ 0 := fun h => h1 (by rw [List.eq_nil_of_length_eq_zero h]; decide)
    have HE := Lib.hid (tbE_big n0 h1)
    rw [e1, e2] at HTO
    clear hrd hz hlen hz' hs0 h1 e1 e2 n0
    go_enter Tryd.func22, Tryd.ntmps22
    go_wp2_with (first
      | (with_reducible refine at_any ?_; refine at_dst 2 rfl ?_; refine wpList_alloc_any rfl 28 rfl #[.int .u64 0, .slice none 0 0] zero_tab ?_; intro w1 hk1 hs1 hb1; have HB1 := Lib.hid hb1; have HK1 := Lib.hid hk1.out)
      | (go_at_call 30; (with_reducible refine (HTO.out _ ((HR.out.below HB1.out).mono HB1.out.size)).mono ?_); rintro e _ ⟨rfl, rfl⟩)
      | (with_reducible refine at_any ?_; refine at_dst 16 rfl ?_; refine wpList_val rfl (.agg #[.int .u64 0, .slice none 0 0]) (build_tab0 _ rfl) ?_)
      | (with_reducible refine at_any ?_; refine at_store 2 rfl ?_; refine wpList_store_any rfl 28 (.tmp 2) (.tmp 16) rfl w.heap.size rfl 28 #[.int .u64 0, .slice none 0 0] #[.int .u64 0, .slice none 0 0] hk1.out rfl (size2T _ _ _ _) (size_tabB _ _) (tab_ones _ _ _ _) ?_; intro w9 hk9 hs9 hb9 ho9; have HB9 := Lib.hid (HB1.out.trans (hb9 _ (Nat.le_refl _))))
      | (refine bodyPost_any2 2 3 28 rfl w.heap.size rfl (.int .i64 11) rfl 28 #[.int .u64 0, .slice none 0 0] hk9.out _ Tryd.underlying28 rfl (size_tabB _ _) rfl ?_))
    exact HEMP.out 11 _ HE.out (by decide) HB9.out
  obtain ⟨e1, e2⟩ := sumV_ok h1
  rw [e1, e2] at HTO
  by_cases h2 : sumL l = 0
  · have HE : Hid (tbE l = 10) := Lib.hid (by
      by_cases h : l.length = 0
      · rw [List.eq_nil_of_length_eq_zero h]; rfl
      · exact tbE_zero h h1 h2)
    rw [h2] at HTO
    clear hrd hz hlen hz' hs0 h1 e1 e2 h2
    go_enter Tryd.func22, Tryd.ntmps22
    go_wp2_with (first
      | (with_reducible refine at_any ?_; refine at_dst 2 rfl ?_; refine wpList_alloc_any rfl 28 rfl #[.int .u64 0, .slice none 0 0] zero_tab ?_; intro w1 hk1 hs1 hb1; have HB1 := Lib.hid hb1; have HK1 := Lib.hid hk1.out)
      | (go_at_call 30; (with_reducible refine (HTO.out _ ((HR.out.below HB1.out).mono HB1.out.size)).mono ?_); rintro e _ ⟨rfl, rfl⟩)
      | (with_reducible refine at_any ?_; refine at_dst 19 rfl ?_; refine wpList_val rfl (.agg #[.int .u64 0, .slice none 0 0]) (build_tab0 _ rfl) ?_)
      | (with_reducible refine at_any ?_; refine at_store 2 rfl ?_; refine wpList_store_any rfl 28 (.tmp 2) (.tmp 19) rfl w.heap.size rfl 28 #[.int .u64 0, .slice none 0 0] #[.int .u64 0, .slice none 0 0] hk1.out rfl (size2T _ _ _ _) (size_tabB _ _) (tab_ones _ _ _ _) ?_; intro w9 hk9 hs9 hb9 ho9; have HB9 := Lib.hid (HB1.out.trans (hb9 _ (Nat.le_refl _))))
      | (refine bodyPost_any2 2 3 28 rfl w.heap.size rfl (.int .i64 10) rfl 28 #[.int .u64 0, .slice none 0 0] hk9.out _ Tryd.underlying28 rfl (size_tabB _ _) rfl ?_))
    exact HEMP.out 10 _ HE.out (by decide) HB9.out
  have n0 : 0 < n := by
    rcases Nat.eq_zero_or_pos n with h | h
    · exact absurd (by rw [List.eq_nil_of_length_eq_zero (hlen.trans h)]; rfl) h2
    · exact h
  have HM := Lib.hid (fun W => q9mul_c (n : Int) (sumL l) (by omega) (by omega) hs0 (by omega) W)
  have tT : (sumL l == 0) = false := by rw [beq_eq_false_iff_ne]; exact h2
  have i2 : (n : Int) ≤ 1000 := by omega
  by_cases h3 : (n : Int) * sumL l < 9223372036854775808
  case neg =>
    obtain ⟨e3, e4⟩ := mulV_no h3
    rw [e3, e4] at HM
    have HE := Lib.hid (tbE_mul (by omega) h1 h2 (by rw [hlen]; exact h3))
    obtain ⟨T, hT⟩ : ∃ T, sumL l = T := ⟨_, rfl⟩
    rw [hT] at HTO HM hs0 h1 tT
    clear hrd hz hlen hz' e1 e2 e3 e4 h2 h3 hT
    go_enter Tryd.func22, Tryd.ntmps22
    go_wp2_with (first
      | (with_reducible refine at_any ?_; refine at_dst 2 rfl ?_; refine wpList_alloc_any rfl 28 rfl #[.int .u64 0, .slice none 0 0] zero_tab ?_; intro w1 hk1 hs1 hb1; have HB1 := Lib.hid hb1; have HK1 := Lib.hid hk1.out)
      | (go_at_call 30; (with_reducible refine (HTO.out _ ((HR.out.below HB1.out).mono HB1.out.size)).mono ?_); rintro e _ ⟨rfl, rfl⟩)
      | (go_at_call 31; (with_reducible refine (HM.out _).mono ?_); rintro e _ ⟨rfl, rfl⟩)
      | (with_reducible refine at_any ?_; refine at_dst 30 rfl ?_; refine wpList_val rfl (.agg #[.int .u64 0, .slice none 0 0]) (build_tab0 _ rfl) ?_)
      | (with_reducible refine at_any ?_; refine at_store 2 rfl ?_; refine wpList_store_any rfl 28 (.tmp 2) (.tmp 30) rfl w.heap.size rfl 28 #[.int .u64 0, .slice none 0 0] #[.int .u64 0, .slice none 0 0] hk1.out rfl (size2T _ _ _ _) (size_tabB _ _) (tab_ones _ _ _ _) ?_; intro w9 hk9 hs9 hb9 ho9; have HB9 := Lib.hid (HB1.out.trans (hb9 _ (Nat.le_refl _))))
      | (refine bodyPost_any2 2 3 28 rfl w.heap.size rfl (.int .i64 11) rfl 28 #[.int .u64 0, .slice none 0 0] hk9.out _ Tryd.underlying28 rfl (size_tabB _ _) rfl ?_))
    exact HEMP.out 11 _ HE.out (by decide) HB9.out
  · obtain ⟨e3, e4⟩ := mulV_ok h3
    rw [e3, e4] at HM
    have HOK := tbE_ok (l := l) (by omega) h1 h2 (by rw [hlen]; exact h3)
    obtain ⟨E1, EI, E2, EF⟩ := tb_abi hz' HOK
    have hI := ABI.init hz' (by omega) (by rw [hlen]; exact h3)
    have hZZ : ∀ k, k < n → 0 ≤ l.getD k 0 ∧ l.getD k 0 < 18446744073709551616 ∧ 0 ≤ (n : Int) * l.getD k 0 ∧ (n : Int) * l.getD k 0 < 9223372036854775808 := fun k hk => by
      have g1 := getD_le hz' (i := k) (by omega)
      have g2 := mul_le_of (n := (n : Int)) (by omega) g1.2
      have g3 := Int.mul_nonneg (show (0 : Int) ≤ (n : Int) by omega) g1.1
      exact ⟨g1.1, by omega, g3, by omega⟩
    obtain ⟨T, hT⟩ : ∃ T, sumL l = T := ⟨_, rfl⟩
    rw [hT] at HTO HM hs0 h1 tT h2 EI E1 E2 EF h3 hI
    have HLY := Lib.hid (fun W h => q14lay_c l T hs0 h1 A n c hn hZZ W h)
    have HPA := Lib.hid (fun (w0 : World) (g gH gC : Nat) (s : AB) hI h1' h2' vS vL W h => q14pair_c (w0 := w0) (g := g) (gH := gH) (gC := gC) l s hI hlen hn hs0 h1 h1' h2' vS vL W h)
    have HE2 := Lib.hid E2
    have HE1 := Lib.hid E1
    have HII := Lib.hid hI
    have HOK2 := Lib.hid HOK
    have i3 : (0 : Int) < (n : Int) := by omega
    obtain ⟨m, hm⟩ : ∃ m, (n : Int) * T = m := ⟨_, rfl⟩
    rw [hm] at HM h3
    clear hrd hz hz' e1 e2 e3 e4 hT EI E1 E2 EF hI HOK HEMP hZZ hm
    go_enter Tryd.func22, Tryd.ntmps22
    go_wp2_with (first
      | (with_reducible refine at_any ?_; refine at_dst 2 rfl ?_; refine wpList_alloc_any rfl 28 rfl #[.int .u64 0, .slice none 0 0] zero_tab ?_; intro w1 hk1 hs1 hb1; have HB1 := Lib.hid hb1; have HK1 := Lib.hid hk1.out)
      | (go_at_call 30; (with_reducible refine (HTO.out _ ((HR.out.below HB1.out).mono HB1.out.size)).mono ?_); rintro e _ ⟨rfl, rfl⟩)
      | (go_at_call 31; (with_reducible refine (HM.out _).mono ?_); rintro e _ ⟨rfl, rfl⟩)
      | (go_at_call 32; (with_reducible refine (HLY.out _ ((HR.out.below HB1.out).mono HB1.out.size)).mono ?_); rintro e w2 ⟨g, gH, gC, vS, vL, rfl, hB⟩; have HB2 := Lib.hid hB; clear hB))
    obtain ⟨g2, hg2⟩ : ∃ g, w.heap.size = g := ⟨_, rfl⟩
    have hg2le : w.heap.size ≤ g2 := Nat.le_of_eq hg2
    rw [hg2] at HK1 ⊢
    clear hk1 hs1 hb1 hg2
    go_loopw [] (fun wr => ∃ (f : Nat) (s : AB) (vS vL : Value), abRun T f s = abRun T l.length (abInit T l) ∧ s.sm.length + s.lg.length ≤ f ∧ ABI T l s ∧ LayS w1 g gH gC n T s.has s.ts vS vL s.sm s.lg wr) (fun wr => layM g wr)
    case atStart => exact ⟨l.length, abInit T l, _, _, rfl, Nat.le_of_eq (sl_len T (hasL l) l.length), HII.out, HB2.out⟩
    case round =>
      obtain ⟨f, s, vS, vL, hrun, hf, hI, hB⟩ := hrel
      have hme := hB.meas
      by_cases hgo : s.sm.length ≠ 0 ∧ s.lg.length ≠ 0
      · have hIN := hI.step hgo.1 hgo.2
        have hln := abStep_len (T := T) hgo.1 hgo.2
        obtain ⟨f', rfl⟩ : ∃ f', f = f' + 1 := ⟨f - 1, by omega⟩
        rw [abRun_go hgo.1 hgo.2] at hrun
        have HRUN := Lib.hid hrun
        have HIN := Lib.hid hIN
        have HLN2 : Hid ((abStep T s).sm.length + (abStep T s).lg.length ≤ f') := Lib.hid (by omega)
        have HME : Hid (∀ W vS vL, LayS w1 g gH gC n T (abStep T s).has (abStep T s).ts vS vL (abStep T s).sm (abStep T s).lg W → layM g W < layM g wr) := Lib.hid (fun W vS vL h => by rw [h.meas, hme]; omega)
        have HPR := Lib.hid (HPA.out w1 g gH gC s hI hgo.1 hgo.2 vS vL _ hB)
        obtain ⟨A1, d1, rfl, -, -⟩ := hB.oS.form
        obtain ⟨A2, d2, rfl, -, -⟩ := hB.oL.form
        have c3 := hB.c3
        have c4 := hB.c4
        have hnd := hI.nd_len
        obtain ⟨p, hp⟩ : ∃ p, s.sm.length = p := ⟨_, rfl⟩
        obtain ⟨q, hq⟩ : ∃ p, s.lg.length = p := ⟨_, rfl⟩
        rw [hp] at c3 hgo hnd
        rw [hq] at c4 hgo hnd
        have j0 : (0 : Int) < (p : Int) := by omega
        have j1 : (0 : Int) < (q : Int) := by omega
        have j2 : (p : Int) ≤ 1000 := by omega
        have j3 : (q : Int) ≤ 1000 := by omega
        clear hrun hIN hf hI hB hgo hln hme hp hq hnd
        go_wp2_with (first
          | (go_at_call 33; (with_reducible refine HPR.out.mono ?_); rintro e w4 ⟨rfl, hfin⟩; have HF := Lib.hid hfin; clear hfin))
        go_roundw
        case rel =>
          obtain ⟨v1, v2, hF⟩ := HF.out
          exact ⟨f', abStep T s, v1, v2, HRUN.out, HLN2.out, HIN.out, hF⟩
        case measure =>
          obtain ⟨v1, v2, hF⟩ := HF.out
          exact HME.out _ v1 v2 hF
      · have hfin : s = abRun T l.length (abInit T l) := by rw [← hrun, abRun_stop (by omega)]
        have hts : tbC l = s.ts := by rw [HE2.out, ← hfin]
        have hTL : s.ts.length = n := by rw [hI.tn, hlen]
        obtain ⟨A1, d1, rfl, -, -⟩ := hB.oS.form
        obtain ⟨A2, d2, rfl, -, -⟩ := hB.oL.form
        have B7 := Lib.hid hB
        have c3 := hB.c3
        have c4 := hB.c4
        have HEND : Hid (∀ w', Blk w' gC 52 (cellsA s.ts) → Below w.heap.size w w' → RetTab w (tbT l) (tbC l).length (tbC l) (tbE l) (.returned (.tuple #[.agg #[.int .u64 T, .slice (some ⟨gC, 0, none⟩) n n], .int .i64 0])) w') := Lib.hid (fun w' h1 h2 => by
          rw [HE1.out, hts, HOK2.out, hTL]
          have h3 := RdPr.of_blk h1
          rw [hTL] at h3
          exact ⟨some ⟨gC, 0, none⟩, n, rfl, h3, Nat.le_refl _, by simp only [maxLen]; omega, h2⟩)
        have HG2 := Lib.hid (HK1.out.below hB.bel HK1.out.lt)
        have HG2L := Lib.hid hg2le
        have HBW := Lib.hid (HB1.out.trans (hB.bel.mono HB1.out.size))
        have HRG := Lib.hid (range_two hB.c0 hB.c1)
        obtain ⟨P, hP⟩ : ∃ P, s.sm.length = P := ⟨_, rfl⟩
        obtain ⟨Q, hQ⟩ : ∃ P, s.lg.length = P := ⟨_, rfl⟩
        rw [hP] at c3 hgo
        rw [hQ] at c4 hgo
        have hPQ : P = 0 ∨ Q = 0 := by omega
        have hPQ2 := hI.nd_len
        rw [hP, hQ] at hPQ2
        have j0 : (P : Int) ≤ 1000 := by omega
        have j1 : (Q : Int) ≤ 1000 := by omega
        clear hfin hts hTL hrun hf hI hB hP hQ hgo hPQ2 hme
        by_cases hP0 : P = 0
        · subst hP0
          clear hPQ
          go_wp2_with (first
            | (with_reducible refine at_any ?_; refine at_dst 53 rfl ?_; refine wpList_load_any rfl 28 (.tmp 52) rfl g 0 rfl [.int .u64 T, .slice (some ⟨gC, 0, none⟩) n n] HRG.out _ Tryd.underlying28 rfl (size_tabH _ _) ?_)
            | (with_reducible refine at_any ?_; refine at_store 2 rfl ?_; refine wpList_store_any rfl 28 (.tmp 2) (.tmp 53) rfl g2 rfl 28 #[.int .u64 0, .slice none 0 0] #[.int .u64 T, .slice (some ⟨gC, 0, none⟩) n n] HG2.out rfl (size2T _ _ _ _) (size_tabB _ _) (tab_ones _ _ _ _) ?_; intro w9 hk9 hs9 hb9 ho9; have HB9 := Lib.hid (HBW.out.trans (hb9 _ HG2L.out)); have HC9 := Lib.hid (B7.out.bC.other ho9 (B7.out.bC.ne HG2.out (by decide))))
            | (refine bodyPost_any2 2 3 28 rfl g2 rfl (.int .i64 0) rfl 28 #[.int .u64 T, .slice (some ⟨gC, 0, none⟩) n n] hk9.out _ Tryd.underlying28 rfl (size_tabB _ _) rfl ?_))
          exact HEND.out _ HC9.out HB9.out
        · have hQ0 : Q = 0 := by omega
          subst hQ0
          have j2 : (0 : Int) < (P : Int) := by omega
          clear hPQ hP0
          go_wp2_with (first
            | (with_reducible refine at_any ?_; refine at_dst 53 rfl ?_; refine wpList_load_any rfl 28 (.tmp 52) rfl g 0 rfl [.int .u64 T, .slice (some ⟨gC, 0, none⟩) n n] HRG.out _ Tryd.underlying28 rfl (size_tabH _ _) ?_)
            | (with_reducible refine at_any ?_; refine at_store 2 rfl ?_; refine wpList_store_any rfl 28 (.tmp 2) (.tmp 53) rfl g2 rfl 28 #[.int .u64 0, .slice none 0 0] #[.int .u64 T, .slice (some ⟨gC, 0, none⟩) n n] HG2.out rfl (size2T _ _ _ _) (size_tabB _ _) (tab_ones _ _ _ _) ?_; intro w9 hk9 hs9 hb9 ho9; have HB9 := Lib.hid (HBW.out.trans (hb9 _ HG2L.out)); have HC9 := Lib.hid (B7.out.bC.other ho9 (B7.out.bC.ne HG2.out (by decide))))
            | (refine bodyPost_any2 2 3 28 rfl g2 rfl (.int .i64 0) rfl 28 #[.int .u64 T, .slice (some ⟨gC, 0, none⟩) n n] hk9.out _ Tryd.underlying28 rfl (size_tabB _ _) rfl ?_))
          exact HEND.out _ HC9.out HB9.out
end Go.Proofs.YtomkidgmpbjgeaaDoor
/-
  What the landed alias's calls return, and that memory is left as it was.
  Conditions: the arguments lie in their types' ranges; there are at most 1000 stakes or cells.
-/
set_option maxRecDepth 100000
set_option linter.unusedVariables false
set_option linter.unusedSimpArgs false
set_option linter.unusedSectionVars false
namespace Go.Proofs.YtomkidgmpbjgeaaDoor
open Go.ChangeShapes Go.WideShapes Go.ChangeAt Go.RowKit
section
variable (T : Int) (T0 : 0 ≤ T) (T1 : T < 18446744073709551616) (ts : List (Int × Int)) (hts : PrOk ts) (A : Option Addr) (n c : Nat) (hn : n ≤ 1000) (hc : n ≤ c) (hcm : c ≤ maxLen) (w : World) (hrd : RdPr .u64 .i64 w w.heap.size A n ts)
include T0 T1 hts hn hc hcm hrd
theorem q14right_c : Calls Tryd.prog 24 #[.agg #[.int .u64 T, .slice A n c]] w fun e w' => e = .returned (.bool (tabR T ts)) ∧ Below w.heap.size w w' := q14rightB_c T T0 T1 ts hts A n c hn w hrd
theorem q14size_c : Calls Tryd.prog 19 #[.agg #[.int .u64 T, .slice A n c]] w fun e w' => e = .returned (.int .u64 (tabZ T ts)) ∧ Below w.heap.size w w' := q14sizeB_c T T0 T1 ts hts A n c hn w hrd
theorem q14owner_c (u : Int) (u0 : 0 ≤ u) (u1 : u < 18446744073709551616) : Calls Tryd.prog 21 #[.agg #[.int .u64 T, .slice A n c], .int .u64 u] w fun e w' => e = .returned (.tuple #[.int .i64 (owV T ts u), .int .i64 (owE T ts u)]) ∧ Below w.heap.size w w' := q14ownerB_c T T0 T1 ts hts A n c hn w hrd u u0 u1
end
end Go.Proofs.YtomkidgmpbjgeaaDoor
