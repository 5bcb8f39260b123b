/-
  Texts of this claim, joined: UniB. What each shows, and its conditions, stand at its own head.
-/
import Derived.Test.YtmeefnhmkffdlaaDoorGd
/-
  What drawlotref08.Pow and Bytes return: powers; a number as a tape.
  Conditions: the power stays below 2^64; the number below 2^32, at most 31 bits.
-/
set_option maxRecDepth 100000
set_option linter.unusedSimpArgs false
namespace Go.Proofs.YtmeefnhmkffdlaaDoor
open Go.ChangeShapes Go.WideShapes Go.ChangeAt Go.RowKit
set_option linter.unusedVariables false
theorem r8pow_c (x n : Nat) (hb : ∀ i, i ≤ n → x ^ i < 18446744073709551616) (hn : n ≤ 1000) (w : World) : Calls Tryd.prog 13 #[.int .u64 (x : Int), .int .i64 (n : Int)] w fun e w' => e = .returned (.int .u64 ((x ^ n : Nat) : Int)) ∧ w = w' := by
  have HB := Lib.hid hb
  clear hb
  go_enter Tryd.func13, Tryd.ntmps13
  go_wp2
  go_loop [5, 6] (fun v cc => ∃ i : Nat, i ≤ n ∧ v = .int .u64 ((x ^ i : Nat) : Int) ∧ cc = .int .i64 (i : Int)) (fun _ cc => n - (intOf cc).toNat)
  case atStart => exact ⟨0, by omega, rfl, rfl⟩
  case round =>
    obtain ⟨i, hi, rfl, rfl⟩ := hrel
    by_cases hlt : i < n
    · have hp := HB.out (i + 1) (by omega)
      rw [Nat.pow_succ] at hp
      have HS := Lib.hid (Nat.pow_succ (m := i) (n := x))
      obtain ⟨P, hP⟩ : ∃ P, x ^ i = P := ⟨_, rfl⟩
      rw [hP] at hp HS ⊢
      have hm : ((P : Int)) * (x : Int) = ((P * x : Nat) : Int) := by push_cast; rfl
      obtain ⟨M, hM⟩ : ∃ M, P * x = M := ⟨_, rfl⟩
      rw [hM] at hp hm HS
      have e1 : IntKind.u64.wrap ((P : Int) * (x : Int)) = (M : Int) := by rw [hm, IntKind.wrap_u64]; omega
      have HM := Lib.hid hm
      clear hP hM hm
      go_wp2
      go_round
      case rel => exact ⟨i + 1, by omega, by rw [HS.out], by go_num⟩
      case measure => simp [intOf]; omega
    · obtain rfl : i = n := by omega
      go_wp2
      go_ret
      exact ⟨rfl, rfl⟩
theorem size_u8s : (Tryd.prog.info? 5).map (·.size) = some 1 := by kernel_rfl
theorem blk_drew8 {w : World} {g : Nat} {t : TypeId} {cs : Array Value} (h : Blk w g t cs) : Blk w.drew g t cs := h
def AnyB (_ : World) : Prop := True
def RetSl (w : World) (zs : List Int) (e : Ending) (w' : World) : Prop := ∃ A c, e = .returned (.slice A zs.length c) ∧ zs.length ≤ c ∧ c ≤ maxLen ∧ Rd .u8 w' w'.heap.size A zs.length zs ∧ Below w.heap.size w w'
theorem right_at (x n : Nat) (hn : n ≤ 31) : Wd.right (x : Int) (n : Int) = ((x / 2 ^ n : Nat) : Int) := by
  unfold Wd.right
  rcases Nat.eq_zero_or_pos n with h0 | h0
  · subst h0
    simp
  · rw [if_neg (by omega), if_neg (by omega), Int.toNat_natCast, Int.natCast_ediv, Int.natCast_pow]
    rfl
theorem left_one (q : Nat) (hq : q ≤ 7) : Wd.left 1 (q : Int) = 2 ^ q := by
  have : q = 0 ∨ q = 1 ∨ q = 2 ∨ q = 3 ∨ q = 4 ∨ q = 5 ∨ q = 6 ∨ q = 7 := by omega
  rcases this with rfl | rfl | rfl | rfl | rfl | rfl | rfl | rfl <;> rfl
set_option maxHeartbeats 8000000 in
theorem r8bytes_c (x bits : Nat) (hx : x < 4294967296) (hb : bits ≤ 31) (w : World) : Calls Tryd.prog 15 #[.int .u64 (x : Int), .int .i64 (bits : Int)] w (RetSl w (bytesB x bits bits)) := by
  obtain ⟨i0, hi0, hz0, hz1, hzb⟩ := info_parts info_u8'
  have e1 : (x : Int) % 4294967296 = (x : Int) := by omega
  have e2 : IntKind.u32.wrap (x : Int) = (x : Int) := by rw [IntKind.wrap_u32]; omega
  have HEND : Hid (∀ v W, OwnI W w.heap.size 5 .u8 v (bytesB x bits bits) → Below w.heap.size w W → RetSl w (bytesB x bits bits) (.returned v) W) := Lib.hid (fun v W h hb => by
    obtain ⟨A, c, rfl, h1, h2⟩ := h.form
    exact ⟨A, c, rfl, h1, h2, h.rd rfl, hb⟩)
  obtain ⟨F, hF⟩ : ∃ F, RetSl w (bytesB x bits bits) = F := ⟨_, rfl⟩
  rw [hF] at HEND ⊢
  clear hF
  go_enter Tryd.func15, Tryd.ntmps15
  go_wp2
  go_loopw [5, 6] (fun v cc wr => ∃ i : Nat, i ≤ bits ∧ cc = .int .i64 (i : Int) ∧ OwnI wr w.heap.size 5 .u8 v (bytesB x bits i) ∧ Below w.heap.size w wr) (fun _ cc _ => bits - (intOf cc).toNat)
  case atStart => exact ⟨0, by omega, rfl, ⟨by simp [bytesB], .inl ⟨rfl, by simp [bytesB]⟩⟩, Below.refl _ _⟩
  case round =>
    obtain ⟨i, hi, rfl, hown, hbq⟩ := hrel
    by_cases hlt : i < bits
    · have hnx := byteB_next x bits i
      have hlb := bytesB_len x bits i
      have hlc := bytesC_len x bits i
      have hcv := bytesC_at x bits i
      have hyi := byteB_in x bits i (i / 8)
      have hrt := fun W => rright_c (x : Int) ((bits - 1 - i : Nat) : Int) (by omega) (by omega) (by omega) (by omega) W
      rw [right_at _ _ (by omega)] at hrt
      have hba := bitB_at x bits i
      have hyb : x / 2 ^ (bits - 1 - i) < 4294967296 := Nat.lt_of_le_of_lt (Nat.div_le_self _ _) hx
      obtain ⟨Y, hY⟩ : ∃ Y, x / 2 ^ (bits - 1 - i) = Y := ⟨_, rfl⟩
      rw [hY] at hrt hba hyb
      have e3 : IntKind.i64.wrap ((bits : Int) - 1 - (i : Int)) = ((bits - 1 - i : Nat) : Int) := by rw [IntKind.wrap_i64]; omega
      have e4 : (bits : Int) - 1 - (i : Int) = ((bits - 1 - i : Nat) : Int) := by omega
      obtain ⟨u, hu⟩ : ∃ u, bits - 1 - i = u := ⟨_, rfl⟩
      rw [hu] at hrt e3 e4
      have HRT := Lib.hid hrt
      obtain ⟨j, hj⟩ : ∃ j, i / 8 = j := ⟨_, rfl⟩
      obtain ⟨r, hr⟩ : ∃ r, i % 8 = r := ⟨_, rfl⟩
      have hr8 : r < 8 := by omega
      rw [hj] at hlc hcv hyi hnx
      rw [hr] at hnx
      obtain ⟨y, hy⟩ : ∃ y, byteB x bits i j = y := ⟨_, rfl⟩
      rw [hy] at hcv hyi hnx
      have hp0 : (0 : Int) < 2 ^ (7 - r) := Wd.pow_pos2 _
      have hlf := fun W => rleft_c 1 ((7 - r : Nat) : Int) (by omega) (by omega) (by omega) (by omega) W
      rw [left_one _ (by omega)] at hlf
      have hone : bitB x bits (i + 1) i = 1 → bytesB x bits (i + 1) = (bytesC x bits i).set j (y + 2 ^ (7 - r)) := fun h => by rw [bytesB_one x bits i h, hj, hr, hy]
      obtain ⟨p, hp⟩ : ∃ p : Int, 2 ^ (7 - r) = p := ⟨_, rfl⟩
      rw [hp] at hlf hnx hp0 hone
      have HLF := Lib.hid hlf
      have HJI := Lib.hid hj
      have HRI := Lib.hid hr
      have hpl := hnx.2
      have hzero := bytesB_zero x bits i
      clear hrt hnx hY hu hp hlf
      -- the row with room for one bit more
      have hjb : j ≤ 4 := by omega
      by_cases h8 : r = 0
      · have t8 : ((i : Int) % 8 == 0) = true := by rw [beq_iff_eq]; omega
        have hcn := bytesC_new x bits i (by omega)
        have HCN := Lib.hid hcn
        have hl8 : (bytesB x bits i).length ≤ 4 := by omega
        have HOW := Lib.hid hown
        have HBQ := Lib.hid hbq
        have hsz := hbq.size
        have HL8 := Lib.hid hl8
        have H8 := Lib.hid h8
        clear h8
        clear hcn hown hbq hj hr hy  e4
        by_cases hbit : Y % 2 = 1
        · have tb : ((Y : Int) % 2 == 1) = true := by rw [beq_iff_eq]; omega
          have HON1 := Lib.hid (hone (by rw [hba]; omega))
          have HLC := Lib.hid hlc
          have HCV := Lib.hid hcv
          clear hzero hone hba hcv hlc hlb
          go_wp2_with (first
            | (at_builtin; refine wpList_append_ints _ rfl (.tmp 15) (.tmp 16) 22 rfl w.heap.size 5 i0 _ 1 .u8 Tryd.underlying22 hi0 hz0 hz1 hzb rfl _ (bytesB x bits i) rfl (HOW.out.alloc _) (wr.heap.size + 1) (some ⟨wr.heap.size, 0, none⟩) 1 1 [0] rfl (rd_one wr 5 .u8 0) (by have := HL8.out; simp [maxLen]; omega) (by have := HL8.out; omega) (by simp; omega) ?_; intro v6 w6 hown6 hg6 hat6; have hb6 : Below w.heap.size w w6 := (HOW.out.alloc _).below_ (HBQ.out.alloc hsz _) (by simp; omega) hg6; rw [HCN.out] at hown6; have HOC := Lib.hid hown6; have HBQ := Lib.hid hb6; clear hown6 hg6 hat6 hb6)
            | (go_at_call 23; (with_reducible refine (HRT.out _).mono ?_); rintro e _ ⟨rfl, rfl⟩))
          have hoc := HOC.out
          obtain ⟨A8, c, hv8, hc1, hc2⟩ := hoc.form
          rw [hv8] at hoc
          obtain ⟨g, cur, hA8, hge, hB8, hcs, hcc⟩ := hoc.whole (by rw [HLC.out]; omega)
          have hcj := hcc j (by rw [HLC.out]; omega)
          rw [HCV.out] at hcj
          rw [HLC.out] at hv8 hcs
          rw [hA8] at hv8 hoc
          rw [HLC.out] at hoc
          subst hv8
          have HB8 : Hid (Blk w6.drew g 5 cur) := Lib.hid (blk_drew8 hB8)
          have HNW : Hid (∀ W, Blk W g 5 (cur.setIfInBounds j (.int .u8 (y + p))) → Only g w6.drew W → OwnI W w.heap.size 5 .u8 (.slice (some ⟨g, 0, none⟩) (j + 1) c) (bytesB x bits (i + 1)) ∧ Below w.heap.size w W) := Lib.hid (fun W h1 h2 => ⟨by rw [HON1.out]; exact hoc.put hB8 (by rw [HLC.out]; omega) h1, HBQ.out.trans (h2.of_drew.below hge HBQ.out.size)⟩)
          have HCJ : Hid (w6.drew.cell? ⟨g, j, none⟩ = some (.int .u8 y)) := Lib.hid (by rw [HB8.out.cell]; exact hcj)
          have HJL : Hid (j < cur.size) := Lib.hid (by omega)
          have HIX := Lib.hid (show (j : Int) < (j : Int) + 1 by omega)
          have HZ1 := Lib.hid (show ((i : Nat) : Int).tdiv 8 = (j : Int) by rw [Int.tdiv_eq_ediv_of_nonneg (by omega)]; have := HJI.out; omega)
          have HZ2 := Lib.hid (show IntKind.i64.wrap (j : Int) = (j : Int) by rw [IntKind.wrap_i64]; omega)
          have HR1 := Lib.hid (show ((i : Nat) : Int).tmod 8 = (r : Int) by rw [Int.tmod_eq_emod_of_nonneg (by omega)]; have := HRI.out; omega)
          have HR2 := Lib.hid (show IntKind.i64.wrap (r : Int) = (r : Int) by rw [IntKind.wrap_i64]; omega)
          have HS1 := Lib.hid (show IntKind.i64.wrap (7 - (r : Int)) = ((7 - r : Nat) : Int) by rw [IntKind.wrap_i64]; omega)
          have HP1 := Lib.hid (show IntKind.u8.wrap p = p by rw [IntKind.wrap_u8]; omega)
          have HP2 := Lib.hid (show IntKind.u8.wrap (y + p) = y + p by rw [IntKind.wrap_u8]; omega)
          clear hoc hA8 hge hB8 hcs hcc hcj hc1 hc2
          refine wp_region_held_drew (S := AnyB) (by kernel_rfl) trivial (fun _ => ?_)
          refine wpAnyH_letter #[false, false, false, false, false, false, false, false, false, false, false, false, false, false, false, false] (by kernel_rfl) (fun _ _ d _ _ h => by cases d <;> exact h) (fun QL HQ1 HQ2 => ?_)
          refine held_v 0 (some 28) rfl (by kernel_rfl) (by kernel_rfl) (by kernel_rfl) (by kernel_rfl) (fun c a v w h => HQ2.out c a _ v w h) (by kernel_rfl) (.slice (some ⟨g, 0, none⟩) (j + 1) c) (fun W h => by kernel_rfl) trivial ?_
          try simp only [Act.put, List.setIfInBounds_toArray, List.set_cons_zero, List.set_cons_succ]
          refine held_v 1 (some 29) rfl (by kernel_rfl) (by kernel_rfl) (by kernel_rfl) (by kernel_rfl) (fun c a v w h => HQ2.out c a _ v w h) (by kernel_rfl) (.int .i64 (i : Int)) (fun W h => by kernel_rfl) trivial ?_
          try simp only [Act.put, List.setIfInBounds_toArray, List.set_cons_zero, List.set_cons_succ]
          refine held_v 2 (some 30) rfl (by kernel_rfl) (by kernel_rfl) (by kernel_rfl) (by kernel_rfl) (fun c a v w h => HQ2.out c a _ v w h) (by kernel_rfl) (.int .i64 (j : Int)) (fun W h => by have p := HZ1.out; have p2 := HZ2.out; go_simp) trivial ?_
          try simp only [Act.put, List.setIfInBounds_toArray, List.set_cons_zero, List.set_cons_succ]
          refine held_v 3 (some 31) rfl (by kernel_rfl) (by kernel_rfl) (by kernel_rfl) (by kernel_rfl) (fun c a v w h => HQ2.out c a _ v w h) (by kernel_rfl) (.slice (some ⟨g, 0, none⟩) (j + 1) c) (fun W h => by kernel_rfl) trivial ?_
          try simp only [Act.put, List.setIfInBounds_toArray, List.set_cons_zero, List.set_cons_succ]
          refine held_v 4 (some 32) rfl (by kernel_rfl) (by kernel_rfl) (by kernel_rfl) (by kernel_rfl) (fun c a v w h => HQ2.out c a _ v w h) (by kernel_rfl) (.int .i64 (i : Int)) (fun W h => by kernel_rfl) trivial ?_
          try simp only [Act.put, List.setIfInBounds_toArray, List.set_cons_zero, List.set_cons_succ]
          refine held_v 5 (some 33) rfl (by kernel_rfl) (by kernel_rfl) (by kernel_rfl) (by kernel_rfl) (fun c a v w h => HQ2.out c a _ v w h) (by kernel_rfl) (.int .i64 (j : Int)) (fun W h => by have p := HZ1.out; have p2 := HZ2.out; go_simp) trivial ?_
          try simp only [Act.put, List.setIfInBounds_toArray, List.set_cons_zero, List.set_cons_succ]
          refine held_v 6 (some 34) rfl (by kernel_rfl) (by kernel_rfl) (by kernel_rfl) (by kernel_rfl) (fun c a v w h => HQ2.out c a _ v w h) (by kernel_rfl) (.pointer (some ⟨g, j, none⟩)) (fun W h => by have p := HIX.out; go_simp) trivial ?_
          try simp only [Act.put, List.setIfInBounds_toArray, List.set_cons_zero, List.set_cons_succ]
          refine held_v 8 (some 36) rfl (by kernel_rfl) (by kernel_rfl) (by kernel_rfl) (by kernel_rfl) (fun c a v w h => HQ2.out c a _ v w h) (by kernel_rfl) (.int .i64 (i : Int)) (fun W h => by kernel_rfl) trivial ?_
          try simp only [Act.put, List.setIfInBounds_toArray, List.set_cons_zero, List.set_cons_succ]
          refine held_v 9 (some 37) rfl (by kernel_rfl) (by kernel_rfl) (by kernel_rfl) (by kernel_rfl) (fun c a v w h => HQ2.out c a _ v w h) (by kernel_rfl) (.int .i64 (r : Int)) (fun W h => by have p := HR1.out; have p2 := HR2.out; go_simp) trivial ?_
          try simp only [Act.put, List.setIfInBounds_toArray, List.set_cons_zero, List.set_cons_succ]
          refine held_v 10 (some 38) rfl (by kernel_rfl) (by kernel_rfl) (by kernel_rfl) (by kernel_rfl) (fun c a v w h => HQ2.out c a _ v w h) (by kernel_rfl) (.int .i64 ((7 - r : Nat) : Int)) (fun W h => by have p := HS1.out; go_simp) trivial ?_
          try simp only [Act.put, List.setIfInBounds_toArray, List.set_cons_zero, List.set_cons_succ]
          refine wpAnyH_ready (rs := [7, 11]) (by kernel_rfl) (by decide) ?_
          refine AllReadyH.cons rfl (fun K hK => ?_) (AllReadyH.cons rfl (fun K hK => ?_) AllReadyH.nil)
          · refine step_v (some 35) (by kernel_rfl) (by kernel_rfl) (.int .u8 y) (by have p := HCJ.out; go_simp) ?_
            refine hK.out _ _ trivial (fun _ => ?_)
            clear hK K
            try simp only [Act.put, List.setIfInBounds_toArray, List.set_cons_zero, List.set_cons_succ]
            refine wpAnyH_ready (rs := [11]) (by kernel_rfl) (by decide) ?_
            refine AllReadyH.cons rfl (fun K hK => ?_) AllReadyH.nil
            refine step_call (some 39) (by kernel_rfl) (by kernel_rfl) _ _ (by kernel_rfl) _ (HLF.out _) ?_
            rintro e _ ⟨rfl, rfl⟩
            refine ⟨_, rfl, ?_⟩
            refine hK.out _ _ trivial (fun _ => ?_)
            clear hK K
            try simp only [Act.put, List.setIfInBounds_toArray, List.set_cons_zero, List.set_cons_succ]
            refine held_v 12 (some 40) rfl (by kernel_rfl) (by kernel_rfl) (by kernel_rfl) (by kernel_rfl) (fun c a v w h => HQ2.out c a _ v w h) (by kernel_rfl) (.int .u8 p) (fun W h => by have p := HP1.out; go_simp) trivial ?_
            try simp only [Act.put, List.setIfInBounds_toArray, List.set_cons_zero, List.set_cons_succ]
            refine held_v 13 (some 41) rfl (by kernel_rfl) (by kernel_rfl) (by kernel_rfl) (by kernel_rfl) (fun c a v w h => HQ2.out c a _ v w h) (by kernel_rfl) (.int .u8 (y + p)) (fun W h => by have p := HP2.out; go_simp) trivial ?_
            try simp only [Act.put, List.setIfInBounds_toArray, List.set_cons_zero, List.set_cons_succ]
            refine held_v 14 (some 42) rfl (by kernel_rfl) (by kernel_rfl) (by kernel_rfl) (by kernel_rfl) (fun c a v w h => HQ2.out c a _ v w h) (by kernel_rfl) (.pointer (some ⟨g, j, none⟩)) (fun W h => by have p := HIX.out; go_simp) trivial ?_
            try simp only [Act.put, List.setIfInBounds_toArray, List.set_cons_zero, List.set_cons_succ]
            refine wpAnyH_ready (rs := [15]) (by kernel_rfl) (by decide) ?_
            refine AllReadyH.cons rfl (fun K hK => ?_) AllReadyH.nil
            refine step_store_cell none (by kernel_rfl) (by kernel_rfl) 5 (.tmp 42) (.tmp 41) rfl g j (by kernel_rfl) 5 cur HB8.out (.int .u8 (y + p)) (by kernel_rfl) HJL.out size_u8s rfl rfl ?_
            intro w42 hkw42 how42
            have HKN := Lib.hid hkw42.out
            have HON := Lib.hid how42
            refine hK.out _ _ trivial (fun _ => ?_)
            clear hK K
            try simp only [Act.put, List.setIfInBounds_toArray, List.set_cons_zero, List.set_cons_succ]
            refine wpAnyH_done (by kernel_rfl) ?_ _
            refine HQ1.out _ _ ?_
            clear HQ1 HQ2
            have HF := Lib.hid (HNW.out _ HKN.out HON.out)
            clear HKN HON
            go_wp2
            go_roundw
            case rel => exact ⟨i + 1, by omega, by go_num, HF.out.1, HF.out.2⟩
            case measure => simp [intOf]; omega
          · refine step_call (some 39) (by kernel_rfl) (by kernel_rfl) _ _ (by kernel_rfl) _ (HLF.out _) ?_
            rintro e _ ⟨rfl, rfl⟩
            refine ⟨_, rfl, ?_⟩
            refine hK.out _ _ trivial (fun _ => ?_)
            clear hK K
            try simp only [Act.put, List.setIfInBounds_toArray, List.set_cons_zero, List.set_cons_succ]
            refine held_v 12 (some 40) rfl (by kernel_rfl) (by kernel_rfl) (by kernel_rfl) (by kernel_rfl) (fun c a v w h => HQ2.out c a _ v w h) (by kernel_rfl) (.int .u8 p) (fun W h => by have p := HP1.out; go_simp) trivial ?_
            try simp only [Act.put, List.setIfInBounds_toArray, List.set_cons_zero, List.set_cons_succ]
            refine wpAnyH_ready (rs := [7]) (by kernel_rfl) (by decide) ?_
            refine AllReadyH.cons rfl (fun K hK => ?_) AllReadyH.nil
            refine step_v (some 35) (by kernel_rfl) (by kernel_rfl) (.int .u8 y) (by have p := HCJ.out; go_simp) ?_
            refine hK.out _ _ trivial (fun _ => ?_)
            clear hK K
            try simp only [Act.put, List.setIfInBounds_toArray, List.set_cons_zero, List.set_cons_succ]
            refine held_v 13 (some 41) rfl (by kernel_rfl) (by kernel_rfl) (by kernel_rfl) (by kernel_rfl) (fun c a v w h => HQ2.out c a _ v w h) (by kernel_rfl) (.int .u8 (y + p)) (fun W h => by have p := HP2.out; go_simp) trivial ?_
            try simp only [Act.put, List.setIfInBounds_toArray, List.set_cons_zero, List.set_cons_succ]
            refine held_v 14 (some 42) rfl (by kernel_rfl) (by kernel_rfl) (by kernel_rfl) (by kernel_rfl) (fun c a v w h => HQ2.out c a _ v w h) (by kernel_rfl) (.pointer (some ⟨g, j, none⟩)) (fun W h => by have p := HIX.out; go_simp) trivial ?_
            try simp only [Act.put, List.setIfInBounds_toArray, List.set_cons_zero, List.set_cons_succ]
            refine wpAnyH_ready (rs := [15]) (by kernel_rfl) (by decide) ?_
            refine AllReadyH.cons rfl (fun K hK => ?_) AllReadyH.nil
            refine step_store_cell none (by kernel_rfl) (by kernel_rfl) 5 (.tmp 42) (.tmp 41) rfl g j (by kernel_rfl) 5 cur HB8.out (.int .u8 (y + p)) (by kernel_rfl) HJL.out size_u8s rfl rfl ?_
            intro w44 hkw44 how44
            have HKN := Lib.hid hkw44.out
            have HON := Lib.hid how44
            refine hK.out _ _ trivial (fun _ => ?_)
            clear hK K
            try simp only [Act.put, List.setIfInBounds_toArray, List.set_cons_zero, List.set_cons_succ]
            refine wpAnyH_done (by kernel_rfl) ?_ _
            refine HQ1.out _ _ ?_
            clear HQ1 HQ2
            have HF := Lib.hid (HNW.out _ HKN.out HON.out)
            clear HKN HON
            go_wp2
            go_roundw
            case rel => exact ⟨i + 1, by omega, by go_num, HF.out.1, HF.out.2⟩
            case measure => simp [intOf]; omega

        · have tb : ((Y : Int) % 2 == 1) = false := by rw [beq_eq_false_iff_ne]; omega
          have tb2 : ((Y : Int) % 2 = 1) = False := by rw [eq_iff_iff]; exact ⟨fun h => by omega, False.elim⟩
          have HZE := Lib.hid (hzero (by rw [hba]; omega))
          clear hzero hone hba hcv hlc hlb
          go_wp2_with (first
            | (at_builtin; refine wpList_append_ints _ rfl (.tmp 15) (.tmp 16) 22 rfl w.heap.size 5 i0 _ 1 .u8 Tryd.underlying22 hi0 hz0 hz1 hzb rfl _ (bytesB x bits i) rfl (HOW.out.alloc _) (wr.heap.size + 1) (some ⟨wr.heap.size, 0, none⟩) 1 1 [0] rfl (rd_one wr 5 .u8 0) (by have := HL8.out; simp [maxLen]; omega) (by have := HL8.out; omega) (by simp; omega) ?_; intro v6 w6 hown6 hg6 hat6; have hb6 : Below w.heap.size w w6 := (HOW.out.alloc _).below_ (HBQ.out.alloc hsz _) (by simp; omega) hg6; rw [HCN.out] at hown6; have HOC := Lib.hid hown6; have HBQ := Lib.hid hb6; clear hown6 hg6 hat6 hb6)
            | (go_at_call 23; (with_reducible refine (HRT.out _).mono ?_); rintro e _ ⟨rfl, rfl⟩))
          go_roundw
          case rel => exact ⟨i + 1, by omega, by go_num, by rw [HZE.out]; exact HOC.out, HBQ.out⟩
          case measure => simp [intOf]; omega

      · have t8 : ((i : Int) % 8 == 0) = false := by rw [beq_eq_false_iff_ne]; omega
        have hco := bytesC_old x bits i (by omega)
        rw [hco] at hown
        have HOC := Lib.hid hown
        have HBQ := Lib.hid hbq
        clear hco hown hbq hj hr hy  e4
        by_cases hbit : Y % 2 = 1
        · have tb : ((Y : Int) % 2 == 1) = true := by rw [beq_iff_eq]; omega
          have HON1 := Lib.hid (hone (by rw [hba]; omega))
          have HLC := Lib.hid hlc
          have HCV := Lib.hid hcv
          clear hzero hone hba hcv hlc hlb
          go_wp2_with (first
            | (go_at_call 23; (with_reducible refine (HRT.out _).mono ?_); rintro e _ ⟨rfl, rfl⟩))
          have hoc := HOC.out
          obtain ⟨A8, c, hv8, hc1, hc2⟩ := hoc.form
          rw [hv8] at hoc
          obtain ⟨g, cur, hA8, hge, hB8, hcs, hcc⟩ := hoc.whole (by rw [HLC.out]; omega)
          have hcj := hcc j (by rw [HLC.out]; omega)
          rw [HCV.out] at hcj
          rw [HLC.out] at hv8 hcs
          rw [hA8] at hv8 hoc
          rw [HLC.out] at hoc
          subst hv8
          have HB8 : Hid (Blk wr.drew g 5 cur) := Lib.hid (blk_drew8 hB8)
          have HNW : Hid (∀ W, Blk W g 5 (cur.setIfInBounds j (.int .u8 (y + p))) → Only g wr.drew W → OwnI W w.heap.size 5 .u8 (.slice (some ⟨g, 0, none⟩) (j + 1) c) (bytesB x bits (i + 1)) ∧ Below w.heap.size w W) := Lib.hid (fun W h1 h2 => ⟨by rw [HON1.out]; exact hoc.put hB8 (by rw [HLC.out]; omega) h1, HBQ.out.trans (h2.of_drew.below hge HBQ.out.size)⟩)
          have HCJ : Hid (wr.drew.cell? ⟨g, j, none⟩ = some (.int .u8 y)) := Lib.hid (by rw [HB8.out.cell]; exact hcj)
          have HJL : Hid (j < cur.size) := Lib.hid (by omega)
          have HIX := Lib.hid (show (j : Int) < (j : Int) + 1 by omega)
          have HZ1 := Lib.hid (show ((i : Nat) : Int).tdiv 8 = (j : Int) by rw [Int.tdiv_eq_ediv_of_nonneg (by omega)]; have := HJI.out; omega)
          have HZ2 := Lib.hid (show IntKind.i64.wrap (j : Int) = (j : Int) by rw [IntKind.wrap_i64]; omega)
          have HR1 := Lib.hid (show ((i : Nat) : Int).tmod 8 = (r : Int) by rw [Int.tmod_eq_emod_of_nonneg (by omega)]; have := HRI.out; omega)
          have HR2 := Lib.hid (show IntKind.i64.wrap (r : Int) = (r : Int) by rw [IntKind.wrap_i64]; omega)
          have HS1 := Lib.hid (show IntKind.i64.wrap (7 - (r : Int)) = ((7 - r : Nat) : Int) by rw [IntKind.wrap_i64]; omega)
          have HP1 := Lib.hid (show IntKind.u8.wrap p = p by rw [IntKind.wrap_u8]; omega)
          have HP2 := Lib.hid (show IntKind.u8.wrap (y + p) = y + p by rw [IntKind.wrap_u8]; omega)
          clear hoc hA8 hge hB8 hcs hcc hcj hc1 hc2
          refine wp_region_held_drew (S := AnyB) (by kernel_rfl) trivial (fun _ => ?_)
          refine wpAnyH_letter #[false, false, false, false, false, false, false, false, false, false, false, false, false, false, false, false] (by kernel_rfl) (fun _ _ d _ _ h => by cases d <;> exact h) (fun QL HQ1 HQ2 => ?_)
          refine held_v 0 (some 28) rfl (by kernel_rfl) (by kernel_rfl) (by kernel_rfl) (by kernel_rfl) (fun c a v w h => HQ2.out c a _ v w h) (by kernel_rfl) (.slice (some ⟨g, 0, none⟩) (j + 1) c) (fun W h => by kernel_rfl) trivial ?_
          try simp only [Act.put, List.setIfInBounds_toArray, List.set_cons_zero, List.set_cons_succ]
          refine held_v 1 (some 29) rfl (by kernel_rfl) (by kernel_rfl) (by kernel_rfl) (by kernel_rfl) (fun c a v w h => HQ2.out c a _ v w h) (by kernel_rfl) (.int .i64 (i : Int)) (fun W h => by kernel_rfl) trivial ?_
          try simp only [Act.put, List.setIfInBounds_toArray, List.set_cons_zero, List.set_cons_succ]
          refine held_v 2 (some 30) rfl (by kernel_rfl) (by kernel_rfl) (by kernel_rfl) (by kernel_rfl) (fun c a v w h => HQ2.out c a _ v w h) (by kernel_rfl) (.int .i64 (j : Int)) (fun W h => by have p := HZ1.out; have p2 := HZ2.out; go_simp) trivial ?_
          try simp only [Act.put, List.setIfInBounds_toArray, List.set_cons_zero, List.set_cons_succ]
          refine held_v 3 (some 31) rfl (by kernel_rfl) (by kernel_rfl) (by kernel_rfl) (by kernel_rfl) (fun c a v w h => HQ2.out c a _ v w h) (by kernel_rfl) (.slice (some ⟨g, 0, none⟩) (j + 1) c) (fun W h => by kernel_rfl) trivial ?_
          try simp only [Act.put, List.setIfInBounds_toArray, List.set_cons_zero, List.set_cons_succ]
          refine held_v 4 (some 32) rfl (by kernel_rfl) (by kernel_rfl) (by kernel_rfl) (by kernel_rfl) (fun c a v w h => HQ2.out c a _ v w h) (by kernel_rfl) (.int .i64 (i : Int)) (fun W h => by kernel_rfl) trivial ?_
          try simp only [Act.put, List.setIfInBounds_toArray, List.set_cons_zero, List.set_cons_succ]
          refine held_v 5 (some 33) rfl (by kernel_rfl) (by kernel_rfl) (by kernel_rfl) (by kernel_rfl) (fun c a v w h => HQ2.out c a _ v w h) (by kernel_rfl) (.int .i64 (j : Int)) (fun W h => by have p := HZ1.out; have p2 := HZ2.out; go_simp) trivial ?_
          try simp only [Act.put, List.setIfInBounds_toArray, List.set_cons_zero, List.set_cons_succ]
          refine held_v 6 (some 34) rfl (by kernel_rfl) (by kernel_rfl) (by kernel_rfl) (by kernel_rfl) (fun c a v w h => HQ2.out c a _ v w h) (by kernel_rfl) (.pointer (some ⟨g, j, none⟩)) (fun W h => by have p := HIX.out; go_simp) trivial ?_
          try simp only [Act.put, List.setIfInBounds_toArray, List.set_cons_zero, List.set_cons_succ]
          refine held_v 8 (some 36) rfl (by kernel_rfl) (by kernel_rfl) (by kernel_rfl) (by kernel_rfl) (fun c a v w h => HQ2.out c a _ v w h) (by kernel_rfl) (.int .i64 (i : Int)) (fun W h => by kernel_rfl) trivial ?_
          try simp only [Act.put, List.setIfInBounds_toArray, List.set_cons_zero, List.set_cons_succ]
          refine held_v 9 (some 37) rfl (by kernel_rfl) (by kernel_rfl) (by kernel_rfl) (by kernel_rfl) (fun c a v w h => HQ2.out c a _ v w h) (by kernel_rfl) (.int .i64 (r : Int)) (fun W h => by have p := HR1.out; have p2 := HR2.out; go_simp) trivial ?_
          try simp only [Act.put, List.setIfInBounds_toArray, List.set_cons_zero, List.set_cons_succ]
          refine held_v 10 (some 38) rfl (by kernel_rfl) (by kernel_rfl) (by kernel_rfl) (by kernel_rfl) (fun c a v w h => HQ2.out c a _ v w h) (by kernel_rfl) (.int .i64 ((7 - r : Nat) : Int)) (fun W h => by have p := HS1.out; go_simp) trivial ?_
          try simp only [Act.put, List.setIfInBounds_toArray, List.set_cons_zero, List.set_cons_succ]
          refine wpAnyH_ready (rs := [7, 11]) (by kernel_rfl) (by decide) ?_
          refine AllReadyH.cons rfl (fun K hK => ?_) (AllReadyH.cons rfl (fun K hK => ?_) AllReadyH.nil)
          · refine step_v (some 35) (by kernel_rfl) (by kernel_rfl) (.int .u8 y) (by have p := HCJ.out; go_simp) ?_
            refine hK.out _ _ trivial (fun _ => ?_)
            clear hK K
            try simp only [Act.put, List.setIfInBounds_toArray, List.set_cons_zero, List.set_cons_succ]
            refine wpAnyH_ready (rs := [11]) (by kernel_rfl) (by decide) ?_
            refine AllReadyH.cons rfl (fun K hK => ?_) AllReadyH.nil
            refine step_call (some 39) (by kernel_rfl) (by kernel_rfl) _ _ (by kernel_rfl) _ (HLF.out _) ?_
            rintro e _ ⟨rfl, rfl⟩
            refine ⟨_, rfl, ?_⟩
            refine hK.out _ _ trivial (fun _ => ?_)
            clear hK K
            try simp only [Act.put, List.setIfInBounds_toArray, List.set_cons_zero, List.set_cons_succ]
            refine held_v 12 (some 40) rfl (by kernel_rfl) (by kernel_rfl) (by kernel_rfl) (by kernel_rfl) (fun c a v w h => HQ2.out c a _ v w h) (by kernel_rfl) (.int .u8 p) (fun W h => by have p := HP1.out; go_simp) trivial ?_
            try simp only [Act.put, List.setIfInBounds_toArray, List.set_cons_zero, List.set_cons_succ]
            refine held_v 13 (some 41) rfl (by kernel_rfl) (by kernel_rfl) (by kernel_rfl) (by kernel_rfl) (fun c a v w h => HQ2.out c a _ v w h) (by kernel_rfl) (.int .u8 (y + p)) (fun W h => by have p := HP2.out; go_simp) trivial ?_
            try simp only [Act.put, List.setIfInBounds_toArray, List.set_cons_zero, List.set_cons_succ]
            refine held_v 14 (some 42) rfl (by kernel_rfl) (by kernel_rfl) (by kernel_rfl) (by kernel_rfl) (fun c a v w h => HQ2.out c a _ v w h) (by kernel_rfl) (.pointer (some ⟨g, j, none⟩)) (fun W h => by have p := HIX.out; go_simp) trivial ?_
            try simp only [Act.put, List.setIfInBounds_toArray, List.set_cons_zero, List.set_cons_succ]
            refine wpAnyH_ready (rs := [15]) (by kernel_rfl) (by decide) ?_
            refine AllReadyH.cons rfl (fun K hK => ?_) AllReadyH.nil
            refine step_store_cell none (by kernel_rfl) (by kernel_rfl) 5 (.tmp 42) (.tmp 41) rfl g j (by kernel_rfl) 5 cur HB8.out (.int .u8 (y + p)) (by kernel_rfl) HJL.out size_u8s rfl rfl ?_
            intro w42 hkw42 how42
            have HKN := Lib.hid hkw42.out
            have HON := Lib.hid how42
            refine hK.out _ _ trivial (fun _ => ?_)
            clear hK K
            try simp only [Act.put, List.setIfInBounds_toArray, List.set_cons_zero, List.set_cons_succ]
            refine wpAnyH_done (by kernel_rfl) ?_ _
            refine HQ1.out _ _ ?_
            clear HQ1 HQ2
            have HF := Lib.hid (HNW.out _ HKN.out HON.out)
            clear HKN HON
            go_wp2
            go_roundw
            case rel => exact ⟨i + 1, by omega, by go_num, HF.out.1, HF.out.2⟩
            case measure => simp [intOf]; omega
          · refine step_call (some 39) (by kernel_rfl) (by kernel_rfl) _ _ (by kernel_rfl) _ (HLF.out _) ?_
            rintro e _ ⟨rfl, rfl⟩
            refine ⟨_, rfl, ?_⟩
            refine hK.out _ _ trivial (fun _ => ?_)
            clear hK K
            try simp only [Act.put, List.setIfInBounds_toArray, List.set_cons_zero, List.set_cons_succ]
            refine held_v 12 (some 40) rfl (by kernel_rfl) (by kernel_rfl) (by kernel_rfl) (by kernel_rfl) (fun c a v w h => HQ2.out c a _ v w h) (by kernel_rfl) (.int .u8 p) (fun W h => by have p := HP1.out; go_simp) trivial ?_
            try simp only [Act.put, List.setIfInBounds_toArray, List.set_cons_zero, List.set_cons_succ]
            refine wpAnyH_ready (rs := [7]) (by kernel_rfl) (by decide) ?_
            refine AllReadyH.cons rfl (fun K hK => ?_) AllReadyH.nil
            refine step_v (some 35) (by kernel_rfl) (by kernel_rfl) (.int .u8 y) (by have p := HCJ.out; go_simp) ?_
            refine hK.out _ _ trivial (fun _ => ?_)
            clear hK K
            try simp only [Act.put, List.setIfInBounds_toArray, List.set_cons_zero, List.set_cons_succ]
            refine held_v 13 (some 41) rfl (by kernel_rfl) (by kernel_rfl) (by kernel_rfl) (by kernel_rfl) (fun c a v w h => HQ2.out c a _ v w h) (by kernel_rfl) (.int .u8 (y + p)) (fun W h => by have p := HP2.out; go_simp) trivial ?_
            try simp only [Act.put, List.setIfInBounds_toArray, List.set_cons_zero, List.set_cons_succ]
            refine held_v 14 (some 42) rfl (by kernel_rfl) (by kernel_rfl) (by kernel_rfl) (by kernel_rfl) (fun c a v w h => HQ2.out c a _ v w h) (by kernel_rfl) (.pointer (some ⟨g, j, none⟩)) (fun W h => by have p := HIX.out; go_simp) trivial ?_
            try simp only [Act.put, List.setIfInBounds_toArray, List.set_cons_zero, List.set_cons_succ]
            refine wpAnyH_ready (rs := [15]) (by kernel_rfl) (by decide) ?_
            refine AllReadyH.cons rfl (fun K hK => ?_) AllReadyH.nil
            refine step_store_cell none (by kernel_rfl) (by kernel_rfl) 5 (.tmp 42) (.tmp 41) rfl g j (by kernel_rfl) 5 cur HB8.out (.int .u8 (y + p)) (by kernel_rfl) HJL.out size_u8s rfl rfl ?_
            intro w44 hkw44 how44
            have HKN := Lib.hid hkw44.out
            have HON := Lib.hid how44
            refine hK.out _ _ trivial (fun _ => ?_)
            clear hK K
            try simp only [Act.put, List.setIfInBounds_toArray, List.set_cons_zero, List.set_cons_succ]
            refine wpAnyH_done (by kernel_rfl) ?_ _
            refine HQ1.out _ _ ?_
            clear HQ1 HQ2
            have HF := Lib.hid (HNW.out _ HKN.out HON.out)
            clear HKN HON
            go_wp2
            go_roundw
            case rel => exact ⟨i + 1, by omega, by go_num, HF.out.1, HF.out.2⟩
            case measure => simp [intOf]; omega

        · have tb : ((Y : Int) % 2 == 1) = false := by rw [beq_eq_false_iff_ne]; omega
          have tb2 : ((Y : Int) % 2 = 1) = False := by rw [eq_iff_iff]; exact ⟨fun h => by omega, False.elim⟩
          have HZE := Lib.hid (hzero (by rw [hba]; omega))
          clear hzero hone hba hcv hlc hlb
          go_wp2_with (first
            | (go_at_call 23; (with_reducible refine (HRT.out _).mono ?_); rintro e _ ⟨rfl, rfl⟩))
          go_roundw
          case rel => exact ⟨i + 1, by omega, by go_num, by rw [HZE.out]; exact HOC.out, HBQ.out⟩
          case measure => simp [intOf]; omega

    · obtain rfl : i = bits := by omega
      have HO := Lib.hid hown
      have HB := Lib.hid hbq
      clear hown hbq
      go_wp2
      exact HEND.out _ _ HO.out HB.out
end Go.Proofs.YtmeefnhmkffdlaaDoor
