/-
  What the reference's calls of stage 11 that make lists and trees return (Tree, Build, Set, Same), and that memory is left as it was.
  Conditions: the arguments lie in their types' ranges; a list has at most 1,048,576 numbers where a tree is made of it.
-/
import Derived.Test.YtdpjambejmlppaaDoorFenM
import Derived.Test.YtdpjambejmlppaaDoorRefX
import Derived.Test.YtdpjambejmlppaaDoorRefP
set_option maxRecDepth 100000
set_option linter.unusedVariables false
set_option linter.unusedSimpArgs false
namespace Go.Proofs.YtdpjambejmlppaaDoor
open Go.ChangeShapes Go.WideShapes Go.ChangeAt Go.RowKit
set_option maxHeartbeats 4000000 in
theorem r11tree_c (l : List Int) (hz : ∀ z ∈ l, 0 ≤ z) (hs : sumL l < 9223372036854775808) (A : Option Addr) (n c : Nat) (hn : n ≤ 1048576) (w : World) (hrd : Rd .u64 w w.heap.size A n l) : Calls Tryd.prog 24 #[.slice A n c] w (RetTree w l) := by
  obtain ⟨ti, hti, hz0, hz1, hzb⟩ := info_parts info_u64d
  have HR := Lib.hid hrd
  have hlen := hrd.len
  have hnm : n ≤ maxLen := by simp only [maxLen]; omega
  have HSM := Lib.hid (fun a b h h2 W h3 => r11sum_c l hz hs A n c hnm a b h h2 W h3)
  have HAT := Lib.hid (fun i (h : i < n) => treeL_at (l := l) (i := i) (by omega))
  have HTK := Lib.hid (fun i (h : i < n) => tree_take (l := l) (i := i) (by omega))
  have HAL : Hid ((treeL l).take n = treeL l) := Lib.hid (List.take_of_length_le (by rw [treeL_len]; omega))
  have HEND : Hid (∀ A' c' w', Rd .u64 w' w'.heap.size A' n (treeL l) → n ≤ c' → c' ≤ maxLen → Below w.heap.size w w' → RetTree w l (.returned (.agg #[.slice A' n c'])) w') := Lib.hid (fun A' c' w' h1 h2 h3 h4 => ⟨A', c', by rw [hlen], by rw [hlen]; exact h1, by rw [hlen]; exact h2, h3, h4⟩)
  have HLN : Hid (∀ i, i ≤ n → ((treeL l).take i).length = i) := Lib.hid (fun i h => by rw [List.length_take, treeL_len]; omega)
  clear hrd hz hs
  go_enter Tryd.func24, Tryd.ntmps24
  go_wp2_with (first
    | (with_reducible refine at_any ?_; refine at_dst 2 rfl ?_; refine wpList_alloc_any rfl 25 rfl #[.slice none 0 0] zero_fen ?_; intro w1 hk1 hs1 hb1)
    | (with_reducible refine at_any ?_; refine at_dst 3 rfl ?_; refine wpList_alloc_any rfl 25 rfl #[.slice none 0 0] zero_fen ?_; intro w2 hk2 hs2 hb2))
  have HT : TreS w w.heap.size w1.heap.size (.slice none 0 0) [] w2 := ⟨hk1.out.below hb2 hk1.out.lt, hk2.out, OwnI.none _ _ _ _, hb1.trans (hb2.mono hb1.size), Nat.le_refl _, hk1.out.lt⟩
  obtain ⟨g2, hg2⟩ : ∃ g, w.heap.size = g := ⟨_, rfl⟩
  obtain ⟨g3, hg3⟩ : ∃ g, w1.heap.size = g := ⟨_, rfl⟩
  have HTH : Hid (TreS w g2 g3 (.slice none 0 0) [] w2) := Lib.hid (by rw [← hg2, ← hg3]; exact HT)
  rw [hg2, hg3]
  clear hg2 hg3 hk1 hs1 hb1 hk2 hs2 hb2 HT
  go_loopw [4] (fun ii wr => ∃ (i : Nat) (v : Value), i ≤ n ∧ ii = .int .i64 (i : Int) ∧ TreS w g2 g3 v ((treeL l).take i) wr) (fun ii _ => n - (intOf ii).toNat)
  case atStart => exact ⟨0, _, by omega, rfl, HTH.out⟩
  case round =>
    clear HTH
    obtain ⟨i, v, hi, rfl, HT⟩ := hrel
    by_cases hlt : i < n
    · obtain ⟨m, hm⟩ : ∃ m : Nat, i + 1 = m := ⟨_, rfl⟩
      have hlo := lowN_le m
      have HLOW := Lib.hid (fun W => r11low_c m (by omega) (by omega) W)
      have hat := HAT.out i hlt
      have htk := HTK.out i hlt
      rw [hm] at hat htk
      obtain ⟨lo, hl⟩ : ∃ x, lowN m = x := ⟨_, rfl⟩
      rw [hl] at hlo HLOW hat
      obtain ⟨q, hq⟩ : ∃ q : Nat, m - lo = q := ⟨_, rfl⟩
      rw [hq] at hat
      have HSUM := Lib.hid (fun W h => HSM.out q m (by omega) (by omega) W h)
      obtain ⟨x, hx⟩ : ∃ x, preL l m - preL l q = x := ⟨_, rfl⟩
      rw [hx] at hat HSUM
      rw [hat] at htk
      have HNX : Hid (∀ v' W, TreS w g2 g3 v' ((treeL l).take i ++ [x]) W → TreS w g2 g3 v' ((treeL l).take (i + 1)) W) := Lib.hid (fun v' W h => by rw [hm, htk]; exact h)
      have HLT : Hid (((treeL l).take i).length + 1 ≤ 1048577) := Lib.hid (by rw [HLN.out i (by omega)]; omega)
      obtain ⟨ts, hts⟩ : ∃ x, (treeL l).take i = x := ⟨_, rfl⟩
      rw [hts] at HT HLT HNX
      have e1 : Hid (IntKind.i64.wrap ((i : Int) + 1) = (m : Int)) := Lib.hid (by rw [IntKind.wrap_i64]; omega)
      have e2 : Hid (IntKind.i64.wrap ((m : Int) - (lo : Int)) = (q : Int)) := Lib.hid (by rw [IntKind.wrap_i64]; omega)
      have hlt2 : (i : Int) < (n : Int) := by omega
      clear hlo hat htk hl hq hx hts hm hi
      go_wp2_with fail
      have HT0 := HT.drew
      refine wp_region_held_drew (S := (fun _ => True)) (by kernel_rfl) trivial (fun hH => ?_)
      refine wpAnyH_letter #[false, false, false, false, false, false, false, false, false, false, false, false, false, false, false, false] (by kernel_rfl) (fun _ _ d _ _ h => by cases d <;> exact h) (fun QL HQ1 HQ2 => ?_)
      refine held_v 0 (some 11) rfl (by kernel_rfl) (by kernel_rfl) (by kernel_rfl) (by kernel_rfl) (fun c a v w h => HQ2.out c a _ v w h) (by kernel_rfl) (.pointer (some ⟨g3, 0, none⟩)) (fun W h => by kernel_rfl) trivial ?_
      try simp only [Act.put, List.setIfInBounds_toArray, List.set_cons_zero, List.set_cons_succ]
      refine held_v 2 (some 13) rfl (by kernel_rfl) (by kernel_rfl) (by kernel_rfl) (by kernel_rfl) (fun c a v w h => HQ2.out c a _ v w h) (by kernel_rfl) (.slice A n c) (fun W h => by kernel_rfl) trivial ?_
      try simp only [Act.put, List.setIfInBounds_toArray, List.set_cons_zero, List.set_cons_succ]
      refine held_v 3 (some 14) rfl (by kernel_rfl) (by kernel_rfl) (by kernel_rfl) (by kernel_rfl) (fun c a v w h => HQ2.out c a _ v w h) (by kernel_rfl) (.int .i64 (i : Int)) (fun W h => by kernel_rfl) trivial ?_
      try simp only [Act.put, List.setIfInBounds_toArray, List.set_cons_zero, List.set_cons_succ]
      refine held_v 4 (some 15) rfl (by kernel_rfl) (by kernel_rfl) (by kernel_rfl) (by kernel_rfl) (fun c a v w h => HQ2.out c a _ v w h) (by kernel_rfl) (.int .i64 (m : Int)) (fun W h => by have p := e1.out; go_simp) trivial ?_
      try simp only [Act.put, List.setIfInBounds_toArray, List.set_cons_zero, List.set_cons_succ]
      refine held_v 5 (some 16) rfl (by kernel_rfl) (by kernel_rfl) (by kernel_rfl) (by kernel_rfl) (fun c a v w h => HQ2.out c a _ v w h) (by kernel_rfl) (.int .i64 (i : Int)) (fun W h => by kernel_rfl) trivial ?_
      try simp only [Act.put, List.setIfInBounds_toArray, List.set_cons_zero, List.set_cons_succ]
      refine held_v 6 (some 17) rfl (by kernel_rfl) (by kernel_rfl) (by kernel_rfl) (by kernel_rfl) (fun c a v w h => HQ2.out c a _ v w h) (by kernel_rfl) (.int .i64 (m : Int)) (fun W h => by have p := e1.out; go_simp) trivial ?_
      try simp only [Act.put, List.setIfInBounds_toArray, List.set_cons_zero, List.set_cons_succ]
      refine held_v 9 (some 20) rfl (by kernel_rfl) (by kernel_rfl) (by kernel_rfl) (by kernel_rfl) (fun c a v w h => HQ2.out c a _ v w h) (by kernel_rfl) (.int .i64 (i : Int)) (fun W h => by kernel_rfl) trivial ?_
      try simp only [Act.put, List.setIfInBounds_toArray, List.set_cons_zero, List.set_cons_succ]
      refine held_v 10 (some 21) rfl (by kernel_rfl) (by kernel_rfl) (by kernel_rfl) (by kernel_rfl) (fun c a v w h => HQ2.out c a _ v w h) (by kernel_rfl) (.int .i64 (m : Int)) (fun W h => by have p := e1.out; go_simp) trivial ?_
      try simp only [Act.put, List.setIfInBounds_toArray, List.set_cons_zero, List.set_cons_succ]
      refine wpAnyH_ready (rs := [1, 7]) (by kernel_rfl) (by decide) ?_
      refine AllReadyH.cons rfl (fun K hK => ?_) (AllReadyH.cons rfl (fun K hK => ?_) AllReadyH.nil)
      · refine step_v (some 12) (by kernel_rfl) (by kernel_rfl) (v) (by have p := HT0.cell; go_simp) ?_
        refine hK.out _ _ trivial (fun _ => ?_)
        clear hK K
        try simp only [Act.put, List.setIfInBounds_toArray, List.set_cons_zero, List.set_cons_succ]
        refine wpAnyH_ready (rs := [7]) (by kernel_rfl) (by decide) ?_
        refine AllReadyH.cons rfl (fun K hK => ?_) AllReadyH.nil
        refine step_call (some 18) (by kernel_rfl) (by kernel_rfl) _ _ (by kernel_rfl) _ (HLOW.out _) ?_
        rintro e _ ⟨rfl, rfl⟩
        refine ⟨_, rfl, ?_⟩
        refine hK.out _ _ trivial (fun _ => ?_)
        clear hK K
        try simp only [Act.put, List.setIfInBounds_toArray, List.set_cons_zero, List.set_cons_succ]
        refine held_v 8 (some 19) rfl (by kernel_rfl) (by kernel_rfl) (by kernel_rfl) (by kernel_rfl) (fun c a v w h => HQ2.out c a _ v w h) (by kernel_rfl) (.int .i64 (q : Int)) (fun W h => by have p := e2.out; go_simp) trivial ?_
        try simp only [Act.put, List.setIfInBounds_toArray, List.set_cons_zero, List.set_cons_succ]
        refine wpAnyH_ready (rs := [11]) (by kernel_rfl) (by decide) ?_
        refine AllReadyH.cons rfl (fun K hK => ?_) AllReadyH.nil
        refine step_call (some 22) (by kernel_rfl) (by kernel_rfl) _ _ (by kernel_rfl) _ (HSUM.out _ (HT0.rd HR.out)) ?_
        rintro e _ ⟨rfl, rfl⟩
        refine ⟨_, rfl, ?_⟩
        refine hK.out _ _ trivial (fun _ => ?_)
        clear hK K
        try simp only [Act.put, List.setIfInBounds_toArray, List.set_cons_zero, List.set_cons_succ]
        refine wpAnyH_ready (rs := [12]) (by kernel_rfl) (by decide) ?_
        refine AllReadyH.cons rfl (fun K hK => ?_) AllReadyH.nil
        refine step_build_u64 (some 23) (by kernel_rfl) (by kernel_rfl) (.tmp 22) rfl (x) (by kernel_rfl) ?_
        intro gr45 w44 hrw44 hbw44
        have ex46 := HT0.below hbw44
        refine hK.out _ _ trivial (fun _ => ?_)
        clear hK K
        try simp only [Act.put, List.setIfInBounds_toArray, List.set_cons_zero, List.set_cons_succ]
        refine wpAnyH_ready (rs := [13]) (by kernel_rfl) (by decide) ?_
        refine AllReadyH.cons rfl (fun K hK => ?_) AllReadyH.nil
        refine step_append_d w44 (some 24) rfl rfl (.tmp 12) (.tmp 23) 22 rfl w.heap.size 32 ti _ 8 .u64 Tryd.underlying22 hti hz0 hz1 hzb rfl (v) (ts) (by kernel_rfl) ex46.own w44.heap.size (some ⟨gr45, 0, none⟩) 1 1 [x] (by kernel_rfl) hrw44 (by have p := HLT.out; simp only [maxLen]; omega) (by have p := HLT.out; omega) ex46.size ?_
        intro vw47 w47 how47 hgw47 hatw47
        have hTw47 := ex46.grown hgw47
        obtain ⟨Aw47, cw47, rfl, -, -⟩ := how47.form
        refine hK.out _ _ trivial (fun _ => ?_)
        clear hK K
        try simp only [Act.put, List.setIfInBounds_toArray, List.set_cons_zero, List.set_cons_succ]
        refine held_v 14 (some 25) rfl (by kernel_rfl) (by kernel_rfl) (by kernel_rfl) (by kernel_rfl) (fun c a v w h => HQ2.out c a _ v w h) (by kernel_rfl) (.pointer (some ⟨g3, 0, none⟩)) (fun W h => by kernel_rfl) trivial ?_
        try simp only [Act.put, List.setIfInBounds_toArray, List.set_cons_zero, List.set_cons_succ]
        refine wpAnyH_ready (rs := [15]) (by kernel_rfl) (by decide) ?_
        refine AllReadyH.cons rfl (fun K hK => ?_) AllReadyH.nil
        refine step_store_cell none (by kernel_rfl) (by kernel_rfl) 22 (.tmp 25) (.tmp 24) rfl g3 0 (by kernel_rfl) 25 #[v] hTw47.2.1 (.slice Aw47 (ts ++ [x]).length cw47) (by kernel_rfl) (by simp) (by kernel_rfl) rfl rfl ?_
        intro w48 hkw48 how48
        have trw48 := ex46.put hTw47 how47 hkw48.out how48
        refine hK.out _ _ trivial (fun _ => ?_)
        clear hK K
        try simp only [Act.put, List.setIfInBounds_toArray, List.set_cons_zero, List.set_cons_succ]
        refine wpAnyH_done (by kernel_rfl) ?_ _
        refine HQ1.out _ _ ?_
        clear HQ1 HQ2
        have HF := Lib.hid (HNX.out _ _ trw48)
        go_wp2_with fail
        go_roundw
        case rel => exact ⟨i + 1, _, by omega, by go_num, HF.out⟩
        case measure => simp [intOf]; omega
      · refine step_call (some 18) (by kernel_rfl) (by kernel_rfl) _ _ (by kernel_rfl) _ (HLOW.out _) ?_
        rintro e _ ⟨rfl, rfl⟩
        refine ⟨_, rfl, ?_⟩
        refine hK.out _ _ trivial (fun _ => ?_)
        clear hK K
        try simp only [Act.put, List.setIfInBounds_toArray, List.set_cons_zero, List.set_cons_succ]
        refine held_v 8 (some 19) rfl (by kernel_rfl) (by kernel_rfl) (by kernel_rfl) (by kernel_rfl) (fun c a v w h => HQ2.out c a _ v w h) (by kernel_rfl) (.int .i64 (q : Int)) (fun W h => by have p := e2.out; go_simp) trivial ?_
        try simp only [Act.put, List.setIfInBounds_toArray, List.set_cons_zero, List.set_cons_succ]
        refine wpAnyH_ready (rs := [1, 11]) (by kernel_rfl) (by decide) ?_
        refine AllReadyH.cons rfl (fun K hK => ?_) (AllReadyH.cons rfl (fun K hK => ?_) AllReadyH.nil)
        · refine step_v (some 12) (by kernel_rfl) (by kernel_rfl) (v) (by have p := HT0.cell; go_simp) ?_
          refine hK.out _ _ trivial (fun _ => ?_)
          clear hK K
          try simp only [Act.put, List.setIfInBounds_toArray, List.set_cons_zero, List.set_cons_succ]
          refine wpAnyH_ready (rs := [11]) (by kernel_rfl) (by decide) ?_
          refine AllReadyH.cons rfl (fun K hK => ?_) AllReadyH.nil
          refine step_call (some 22) (by kernel_rfl) (by kernel_rfl) _ _ (by kernel_rfl) _ (HSUM.out _ (HT0.rd HR.out)) ?_
          rintro e _ ⟨rfl, rfl⟩
          refine ⟨_, rfl, ?_⟩
          refine hK.out _ _ trivial (fun _ => ?_)
          clear hK K
          try simp only [Act.put, List.setIfInBounds_toArray, List.set_cons_zero, List.set_cons_succ]
          refine wpAnyH_ready (rs := [12]) (by kernel_rfl) (by decide) ?_
          refine AllReadyH.cons rfl (fun K hK => ?_) AllReadyH.nil
          refine step_build_u64 (some 23) (by kernel_rfl) (by kernel_rfl) (.tmp 22) rfl (x) (by kernel_rfl) ?_
          intro gr53 w52 hrw52 hbw52
          have ex54 := HT0.below hbw52
          refine hK.out _ _ trivial (fun _ => ?_)
          clear hK K
          try simp only [Act.put, List.setIfInBounds_toArray, List.set_cons_zero, List.set_cons_succ]
          refine wpAnyH_ready (rs := [13]) (by kernel_rfl) (by decide) ?_
          refine AllReadyH.cons rfl (fun K hK => ?_) AllReadyH.nil
          refine step_append_d w52 (some 24) rfl rfl (.tmp 12) (.tmp 23) 22 rfl w.heap.size 32 ti _ 8 .u64 Tryd.underlying22 hti hz0 hz1 hzb rfl (v) (ts) (by kernel_rfl) ex54.own w52.heap.size (some ⟨gr53, 0, none⟩) 1 1 [x] (by kernel_rfl) hrw52 (by have p := HLT.out; simp only [maxLen]; omega) (by have p := HLT.out; omega) ex54.size ?_
          intro vw55 w55 how55 hgw55 hatw55
          have hTw55 := ex54.grown hgw55
          obtain ⟨Aw55, cw55, rfl, -, -⟩ := how55.form
          refine hK.out _ _ trivial (fun _ => ?_)
          clear hK K
          try simp only [Act.put, List.setIfInBounds_toArray, List.set_cons_zero, List.set_cons_succ]
          refine held_v 14 (some 25) rfl (by kernel_rfl) (by kernel_rfl) (by kernel_rfl) (by kernel_rfl) (fun c a v w h => HQ2.out c a _ v w h) (by kernel_rfl) (.pointer (some ⟨g3, 0, none⟩)) (fun W h => by kernel_rfl) trivial ?_
          try simp only [Act.put, List.setIfInBounds_toArray, List.set_cons_zero, List.set_cons_succ]
          refine wpAnyH_ready (rs := [15]) (by kernel_rfl) (by decide) ?_
          refine AllReadyH.cons rfl (fun K hK => ?_) AllReadyH.nil
          refine step_store_cell none (by kernel_rfl) (by kernel_rfl) 22 (.tmp 25) (.tmp 24) rfl g3 0 (by kernel_rfl) 25 #[v] hTw55.2.1 (.slice Aw55 (ts ++ [x]).length cw55) (by kernel_rfl) (by simp) (by kernel_rfl) rfl rfl ?_
          intro w56 hkw56 how56
          have trw56 := ex54.put hTw55 how55 hkw56.out how56
          refine hK.out _ _ trivial (fun _ => ?_)
          clear hK K
          try simp only [Act.put, List.setIfInBounds_toArray, List.set_cons_zero, List.set_cons_succ]
          refine wpAnyH_done (by kernel_rfl) ?_ _
          refine HQ1.out _ _ ?_
          clear HQ1 HQ2
          have HF := Lib.hid (HNX.out _ _ trw56)
          go_wp2_with fail
          go_roundw
          case rel => exact ⟨i + 1, _, by omega, by go_num, HF.out⟩
          case measure => simp [intOf]; omega
        · refine step_call (some 22) (by kernel_rfl) (by kernel_rfl) _ _ (by kernel_rfl) _ (HSUM.out _ (HT0.rd HR.out)) ?_
          rintro e _ ⟨rfl, rfl⟩
          refine ⟨_, rfl, ?_⟩
          refine hK.out _ _ trivial (fun _ => ?_)
          clear hK K
          try simp only [Act.put, List.setIfInBounds_toArray, List.set_cons_zero, List.set_cons_succ]
          refine wpAnyH_ready (rs := [1, 12]) (by kernel_rfl) (by decide) ?_
          refine AllReadyH.cons rfl (fun K hK => ?_) (AllReadyH.cons rfl (fun K hK => ?_) AllReadyH.nil)
          · refine step_v (some 12) (by kernel_rfl) (by kernel_rfl) (v) (by have p := HT0.cell; go_simp) ?_
            refine hK.out _ _ trivial (fun _ => ?_)
            clear hK K
            try simp only [Act.put, List.setIfInBounds_toArray, List.set_cons_zero, List.set_cons_succ]
            refine wpAnyH_ready (rs := [12]) (by kernel_rfl) (by decide) ?_
            refine AllReadyH.cons rfl (fun K hK => ?_) AllReadyH.nil
            refine step_build_u64 (some 23) (by kernel_rfl) (by kernel_rfl) (.tmp 22) rfl (x) (by kernel_rfl) ?_
            intro gr60 w59 hrw59 hbw59
            have ex61 := HT0.below hbw59
            refine hK.out _ _ trivial (fun _ => ?_)
            clear hK K
            try simp only [Act.put, List.setIfInBounds_toArray, List.set_cons_zero, List.set_cons_succ]
            refine wpAnyH_ready (rs := [13]) (by kernel_rfl) (by decide) ?_
            refine AllReadyH.cons rfl (fun K hK => ?_) AllReadyH.nil
            refine step_append_d w59 (some 24) rfl rfl (.tmp 12) (.tmp 23) 22 rfl w.heap.size 32 ti _ 8 .u64 Tryd.underlying22 hti hz0 hz1 hzb rfl (v) (ts) (by kernel_rfl) ex61.own w59.heap.size (some ⟨gr60, 0, none⟩) 1 1 [x] (by kernel_rfl) hrw59 (by have p := HLT.out; simp only [maxLen]; omega) (by have p := HLT.out; omega) ex61.size ?_
            intro vw62 w62 how62 hgw62 hatw62
            have hTw62 := ex61.grown hgw62
            obtain ⟨Aw62, cw62, rfl, -, -⟩ := how62.form
            refine hK.out _ _ trivial (fun _ => ?_)
            clear hK K
            try simp only [Act.put, List.setIfInBounds_toArray, List.set_cons_zero, List.set_cons_succ]
            refine held_v 14 (some 25) rfl (by kernel_rfl) (by kernel_rfl) (by kernel_rfl) (by kernel_rfl) (fun c a v w h => HQ2.out c a _ v w h) (by kernel_rfl) (.pointer (some ⟨g3, 0, none⟩)) (fun W h => by kernel_rfl) trivial ?_
            try simp only [Act.put, List.setIfInBounds_toArray, List.set_cons_zero, List.set_cons_succ]
            refine wpAnyH_ready (rs := [15]) (by kernel_rfl) (by decide) ?_
            refine AllReadyH.cons rfl (fun K hK => ?_) AllReadyH.nil
            refine step_store_cell none (by kernel_rfl) (by kernel_rfl) 22 (.tmp 25) (.tmp 24) rfl g3 0 (by kernel_rfl) 25 #[v] hTw62.2.1 (.slice Aw62 (ts ++ [x]).length cw62) (by kernel_rfl) (by simp) (by kernel_rfl) rfl rfl ?_
            intro w63 hkw63 how63
            have trw63 := ex61.put hTw62 how62 hkw63.out how63
            refine hK.out _ _ trivial (fun _ => ?_)
            clear hK K
            try simp only [Act.put, List.setIfInBounds_toArray, List.set_cons_zero, List.set_cons_succ]
            refine wpAnyH_done (by kernel_rfl) ?_ _
            refine HQ1.out _ _ ?_
            clear HQ1 HQ2
            have HF := Lib.hid (HNX.out _ _ trw63)
            go_wp2_with fail
            go_roundw
            case rel => exact ⟨i + 1, _, by omega, by go_num, HF.out⟩
            case measure => simp [intOf]; omega
          · refine step_build_u64 (some 23) (by kernel_rfl) (by kernel_rfl) (.tmp 22) rfl (x) (by kernel_rfl) ?_
            intro gr65 w64 hrw64 hbw64
            have ex66 := HT0.below hbw64
            refine hK.out _ _ trivial (fun _ => ?_)
            clear hK K
            try simp only [Act.put, List.setIfInBounds_toArray, List.set_cons_zero, List.set_cons_succ]
            refine wpAnyH_ready (rs := [1]) (by kernel_rfl) (by decide) ?_
            refine AllReadyH.cons rfl (fun K hK => ?_) AllReadyH.nil
            refine step_v (some 12) (by kernel_rfl) (by kernel_rfl) (v) (by have p := ex66.cell; go_simp) ?_
            refine hK.out _ _ trivial (fun _ => ?_)
            clear hK K
            try simp only [Act.put, List.setIfInBounds_toArray, List.set_cons_zero, List.set_cons_succ]
            refine wpAnyH_ready (rs := [13]) (by kernel_rfl) (by decide) ?_
            refine AllReadyH.cons rfl (fun K hK => ?_) AllReadyH.nil
            refine step_append_d w64 (some 24) rfl rfl (.tmp 12) (.tmp 23) 22 rfl w.heap.size 32 ti _ 8 .u64 Tryd.underlying22 hti hz0 hz1 hzb rfl (v) (ts) (by kernel_rfl) ex66.own w64.heap.size (some ⟨gr65, 0, none⟩) 1 1 [x] (by kernel_rfl) hrw64 (by have p := HLT.out; simp only [maxLen]; omega) (by have p := HLT.out; omega) ex66.size ?_
            intro vw68 w68 how68 hgw68 hatw68
            have hTw68 := ex66.grown hgw68
            obtain ⟨Aw68, cw68, rfl, -, -⟩ := how68.form
            refine hK.out _ _ trivial (fun _ => ?_)
            clear hK K
            try simp only [Act.put, List.setIfInBounds_toArray, List.set_cons_zero, List.set_cons_succ]
            refine held_v 14 (some 25) rfl (by kernel_rfl) (by kernel_rfl) (by kernel_rfl) (by kernel_rfl) (fun c a v w h => HQ2.out c a _ v w h) (by kernel_rfl) (.pointer (some ⟨g3, 0, none⟩)) (fun W h => by kernel_rfl) trivial ?_
            try simp only [Act.put, List.setIfInBounds_toArray, List.set_cons_zero, List.set_cons_succ]
            refine wpAnyH_ready (rs := [15]) (by kernel_rfl) (by decide) ?_
            refine AllReadyH.cons rfl (fun K hK => ?_) AllReadyH.nil
            refine step_store_cell none (by kernel_rfl) (by kernel_rfl) 22 (.tmp 25) (.tmp 24) rfl g3 0 (by kernel_rfl) 25 #[v] hTw68.2.1 (.slice Aw68 (ts ++ [x]).length cw68) (by kernel_rfl) (by simp) (by kernel_rfl) rfl rfl ?_
            intro w69 hkw69 how69
            have trw69 := ex66.put hTw68 how68 hkw69.out how69
            refine hK.out _ _ trivial (fun _ => ?_)
            clear hK K
            try simp only [Act.put, List.setIfInBounds_toArray, List.set_cons_zero, List.set_cons_succ]
            refine wpAnyH_done (by kernel_rfl) ?_ _
            refine HQ1.out _ _ ?_
            clear HQ1 HQ2
            have HF := Lib.hid (HNX.out _ _ trw69)
            go_wp2_with fail
            go_roundw
            case rel => exact ⟨i + 1, _, by omega, by go_num, HF.out⟩
            case measure => simp [intOf]; omega
    · obtain rfl : i = n := by omega
      have ho := HT.own
      have HOT : Hid (∀ w9, (∀ j, j ≠ g2 → w9.heap[j]? = wr.heap[j]?) → OwnI w9 w.heap.size 32 .u64 v ((treeL l).take i)) := Lib.hid (fun w9 h => HT.own.other HT.b2 (by decide) h)
      obtain ⟨A', c', rfl, hc1, hc2⟩ := ho.form
      rw [HLN.out _ (Nat.le_refl _)] at hc1 HT HOT
      rw [HAL.out] at HOT
      clear ho
      go_wp2_with (first
        | (with_reducible refine at_any ?_; refine at_dst 26 rfl ?_; refine wpList_load_blk rfl 25 (.tmp 3) rfl g3 rfl 25 #[.slice A' i c'] HT.b3 _ Tryd.underlying25 rfl (sizedF _) ?_)
        | (with_reducible refine at_any ?_; refine at_store 2 rfl ?_; refine wpList_store_any rfl 25 (.tmp 2) (.tmp 26) rfl g2 rfl 25 #[.slice none 0 0] #[.slice A' i c'] HT.b2 rfl (size1 _ _) (sizedF _) (fen_ones _ _ _) ?_; intro w9 hk9 hs9 hb9 ho9; have HO9 := Lib.hid (HOT.out _ ho9); have HB9 := Lib.hid (HT.bel.trans (hb9 _ HT.le)))
        | (refine bodyPost_any 2 25 rfl g2 rfl 25 #[.slice A' i c'] hk9.out _ Tryd.underlying25 rfl (sizedF _) rfl ?_))
      exact HEND.out _ _ _ (OwnI.rd HO9.out (by rw [treeL_len]; exact hlen)) hc1 hc2 HB9.out
set_option maxHeartbeats 4000000 in
theorem r11build_c (l : List Int) (hz : ∀ z ∈ l, 0 ≤ z ∧ z < 18446744073709551616) (A : Option Addr) (n c : Nat) (hn : n ≤ maxLen) (w : World) (hrd : Rd .u64 w w.heap.size A n l) : Calls Tryd.prog 10 #[.slice A n c] w (RetFen w (bldL l) (bldE l)) := by
  have HR := Lib.hid hrd
  have hlen := hrd.len
  have hnm : (n : Int) ≤ 9223372036854775807 := by unfold maxLen at hn; omega
  have HTO := Lib.hid (fun W h => r9total_c l hz A n c hn W h)
  have HEMP : Hid (∀ er w', bldE l = er ∧ bldL l = [] → Below w.heap.size w w' → RetFen w (bldL l) (bldE l) (.returned (.tuple #[.agg #[.slice none 0 0], .int .i64 er])) w') := Lib.hid (fun er w' h hb => by rw [h.1, h.2]; exact ⟨none, 0, rfl, rd_nil _ _ _ _, Nat.le_refl _, by simp [maxLen], hb⟩)
  by_cases hm : 1048576 < n
  · have hm2 : (1048576 : Int) < (n : Int) := by omega
    have HE := Lib.hid (bldE_many (l := l) (by omega))
    clear hrd hz hm HTO hlen
    go_enter Tryd.func10, Tryd.ntmps10
    go_wp2_with (first
        | (with_reducible refine at_any ?_; refine at_dst 2 rfl ?_; refine wpList_alloc_any rfl 25 rfl #[.slice none 0 0] zero_fen ?_; intro w1 hk1 hs1 hb1; have HB1 := Lib.hid hb1)
        | (with_reducible refine at_any ?_; refine at_dst 9 rfl ?_; refine wpList_val rfl (.agg #[.slice none 0 0]) (build_fen0 _ rfl) ?_)
        | (with_reducible refine at_any ?_; refine at_store 2 rfl ?_; refine wpList_store_any rfl 25 (.tmp 2) (.tmp 9) rfl w.heap.size rfl 25 #[.slice none 0 0] #[.slice none 0 0] hk1.out rfl (size1 _ _) (sizedF _) (fen_ones _ _ _) ?_; intro w9 hk9 hs9 hb9 ho9; have HB9 := Lib.hid (HB1.out.trans (hb9 _ (Nat.le_refl _))))
        | (refine bodyPost_any2 2 3 25 rfl w.heap.size rfl (.int .i64 14) rfl 25 #[.slice none 0 0] hk9.out _ Tryd.underlying25 rfl (sizedF _) rfl ?_))
    exact HEMP.out _ _ HE.out HB9.out
  · have hm2 : (n : Int) ≤ 1048576 := by omega
    by_cases hs : sumL l < 9223372036854775808
    · obtain ⟨e1, e2⟩ := sumV_ok hs
      have HE := Lib.hid (bldE_ok (l := l) (by omega) hs)
      rw [e2] at HTO
      obtain ⟨x, hx⟩ : ∃ x, sumV l = x := ⟨_, rfl⟩
      rw [hx] at HTO
      have HTR := Lib.hid (fun W h => r11tree_c l (fun z h => (hz z h).1) hs A n c (by omega) W h)
      have HEND : Hid (∀ A' c' w', Rd .u64 w' w'.heap.size A' l.length (treeL l) → l.length ≤ c' → c' ≤ maxLen → Below w.heap.size w w' → RetFen w (bldL l) (bldE l) (.returned (.tuple #[.agg #[.slice A' l.length c'], .int .i64 0])) w') := Lib.hid (fun A' c' w' h1 h2 h3 h4 => by rw [HE.out.1, HE.out.2]; refine ⟨A', c', by rw [treeL_len], ?_⟩; rw [treeL_len]; exact ⟨h1, h2, h3, h4⟩)
      clear hrd hz hm hs e1 e2 hx HEMP HE hlen
      go_enter Tryd.func10, Tryd.ntmps10
      go_wp2_with (first
        | (with_reducible refine at_any ?_; refine at_dst 2 rfl ?_; refine wpList_alloc_any rfl 25 rfl #[.slice none 0 0] zero_fen ?_; intro w1 hk1 hs1 hb1; have HB1 := Lib.hid hb1)
        | (go_at_call 13; (with_reducible refine (HTO.out _ (HR1 HR.out HB1.out)).mono ?_); rintro e _ ⟨rfl, rfl⟩)
        | (go_at_call 24; (with_reducible refine (HTR.out _ (HR1 HR.out HB1.out)).mono ?_); rintro e w5 ⟨A5, c5, rfl, hr5, hc5, hm5, hb5⟩; have HK5 := Lib.hid (hk1.out.below hb5 hk1.out.lt); have HB5 := Lib.hid (HB1.out.trans (hb5.mono HB1.out.size)))
        | (with_reducible refine at_any ?_; refine at_store 2 rfl ?_; refine wpList_store_any rfl 25 (.tmp 2) (.tmp 19) rfl w.heap.size rfl 25 #[.slice none 0 0] #[.slice A5 l.length c5] HK5.out rfl (size1 _ _) (sizedF _) (fen_ones _ _ _) ?_; intro w9 hk9 hs9 hb9 ho9; have HB9 := Lib.hid (HB5.out.trans (hb9 _ (Nat.le_refl _))); have HR9 := Lib.hid (rd_past hr5 HK5.out hs9.out ho9))
        | (refine bodyPost_any2 2 3 25 rfl w.heap.size rfl (.int .i64 0) rfl 25 #[.slice A5 l.length c5] hk9.out _ Tryd.underlying25 rfl (sizedF _) rfl ?_))
      exact HEND.out _ _ _ HR9.out hc5 hm5 HB9.out
    · obtain ⟨e1, e2⟩ := sumV_no hs
      have HE := Lib.hid (bldE_big (l := l) (by omega) hs)
      rw [e1, e2] at HTO
      clear hrd hz hm hs e1 e2 hlen
      go_enter Tryd.func10, Tryd.ntmps10
      go_wp2_with (first
        | (with_reducible refine at_any ?_; refine at_dst 2 rfl ?_; refine wpList_alloc_any rfl 25 rfl #[.slice none 0 0] zero_fen ?_; intro w1 hk1 hs1 hb1; have HB1 := Lib.hid hb1)
        | (go_at_call 13; (with_reducible refine (HTO.out _ (HR1 HR.out HB1.out)).mono ?_); rintro e _ ⟨rfl, rfl⟩)
        | (with_reducible refine at_any ?_; refine at_dst 17 rfl ?_; refine wpList_val rfl (.agg #[.slice none 0 0]) (build_fen0 _ rfl) ?_)
        | (with_reducible refine at_any ?_; refine at_store 2 rfl ?_; refine wpList_store_any rfl 25 (.tmp 2) (.tmp 17) rfl w.heap.size rfl 25 #[.slice none 0 0] #[.slice none 0 0] hk1.out rfl (size1 _ _) (sizedF _) (fen_ones _ _ _) ?_; intro w9 hk9 hs9 hb9 ho9; have HB9 := Lib.hid (HB1.out.trans (hb9 _ (Nat.le_refl _))))
        | (refine bodyPost_any2 2 3 25 rfl w.heap.size rfl (.int .i64 11) rfl 25 #[.slice none 0 0] hk9.out _ Tryd.underlying25 rfl (sizedF _) rfl ?_))
      exact HEMP.out _ _ HE.out HB9.out
set_option maxHeartbeats 4000000 in
theorem r11set_c (l : List Int) (hz : ∀ z ∈ l, 0 ≤ z ∧ z < 18446744073709551616) (i v : Int) (i0 : -9223372036854775808 ≤ i) (i1 : i < 9223372036854775808) (v0 : 0 ≤ v) (v1 : v < 18446744073709551616) (A : Option Addr) (n c : Nat) (hn : n ≤ 100000000) (w : World) (hrd : Rd .u64 w w.heap.size A n l) : Calls Tryd.prog 23 #[.slice A n c, .int .i64 i, .int .u64 v] w (RetLst w (setL l i v) (setE l i v)) := by
  have HR := Lib.hid hrd
  have hlen := hrd.len
  have hnm : n ≤ maxLen := by simp only [maxLen]; omega
  have hn2 : (n : Int) ≤ 100000000 := by omega
  have HEMP : Hid (∀ er w', setE l i v = er ∧ setL l i v = [] → Below w.heap.size w w' → RetLst w (setL l i v) (setE l i v) (.returned (.tuple #[.slice none 0 0, .int .i64 er])) w') := Lib.hid (fun er w' h hb => by rw [h.1, h.2]; exact ⟨none, 0, rfl, rd_nil _ _ _ _, Nat.le_refl _, by simp [maxLen], hb⟩)
  by_cases hin : 0 ≤ i ∧ i < n
  · obtain ⟨j0, j1⟩ := hin
    obtain ⟨k, rfl⟩ := Int.eq_ofNat_of_zero_le j0
    have hk : k < n := by omega
    have hz2 : ∀ z ∈ l.set k v, 0 ≤ z ∧ z < 18446744073709551616 := fun z h => by
      rcases List.mem_or_eq_of_mem_set h with h | h
      · exact hz z h
      · rw [h]; exact ⟨v0, v1⟩
    have hl2 : (l.set k v).length = n := by rw [List.length_set]; exact hlen
    have HTO := Lib.hid (fun A c W (h : Rd .u64 W W.heap.size A n (l.set k v)) => r9total_c (l.set k v) hz2 A n c hnm W h)
    have HN := Lib.hid hn
    have HLK : Hid (k < l.length) := Lib.hid (by omega)
    have HLN := Lib.hid hlen
    by_cases hs : sumL (l.set k v) < 9223372036854775808
    · obtain ⟨e1, e2⟩ := sumV_ok hs
      have HE := Lib.hid (setE_ok (l := l) (i := k) (v := v) ⟨by omega, by rw [hlen]; exact j1⟩ hs)
      rw [e2] at HTO
      obtain ⟨x, hx⟩ : ∃ x, sumV (l.set k v) = x := ⟨_, rfl⟩
      rw [hx] at HTO
      have HEND : Hid (∀ A' c' w', Rd .u64 w' w'.heap.size A' n (l.set k v) → n ≤ c' → c' ≤ maxLen → Below w.heap.size w w' → RetLst w (setL l k v) (setE l k v) (.returned (.tuple #[.slice A' n c', .int .i64 0])) w') := Lib.hid (fun A' c' w' h1 h2 h3 h4 => by rw [HE.out.1, HE.out.2]; refine ⟨A', c', by rw [Int.toNat_natCast, hl2], ?_⟩; rw [Int.toNat_natCast, hl2]; exact ⟨h1, h2, h3, h4⟩)
      clear hrd hz hz2 hs e1 e2 hx HEMP HE hlen hl2 hn hnm i0 i1
      go_enter Tryd.func23, Tryd.ntmps23
      go_wp2_with (first
        | (with_reducible refine at_any ?_; refine at_dst 21 rfl ?_; refine wpList_own_copy8o w rfl (.tmp 19) (.tmp 20) rfl rfl A n c l rfl HR.out HN.out ?_; intro v7 w7 hb7 ho7; obtain ⟨A7, c7, rfl, hc7, hm7⟩ := ho7.form; obtain ⟨g7, cur, rfl, hg7, hk7, hsz7, hat7⟩ := ho7.whole (Nat.lt_of_le_of_lt (Nat.zero_le _) HLK.out); rw [HLN.out] at ho7 hc7 hsz7; rw [HLN.out]; have HO7 := Lib.hid ho7; have HB7 := Lib.hid hb7; have HG7 := Lib.hid hg7; have HK7 := Lib.hid hk7; have HC7 := Lib.hid hc7; have HM7 := Lib.hid hm7; have HS7 := Lib.hid hsz7; clear ho7 hb7 hg7 hk7 hc7 hm7 hsz7 hat7)
        | (with_reducible refine at_any ?_; refine at_store 25 rfl ?_; refine wpList_store_cell rfl 32 (.tmp 25) (.tmp 24) rfl g7 k rfl 32 cur HK7.out (.int .u64 v) rfl (Nat.lt_of_lt_of_le hk HS7.out) size_u64f rfl rfl ?_; intro w9 hk9 ho9; have HO9 := Lib.hid (own_set HO7.out HK7.out HLK.out HB7.out HG7.out hk9.out ho9); have HR9 := Lib.hid (OwnI.rd HO9.out.1 (len_set _ _ _ HLN.out)))
        | (go_at_call 13; (with_reducible refine (HTO.out _ _ _ HR9.out).mono ?_); rintro e _ ⟨rfl, rfl⟩))
      go_ret2
      exact HEND.out _ _ _ HR9.out HC7.out HM7.out HO9.out.2
    · obtain ⟨e1, e2⟩ := sumV_no hs
      have HE := Lib.hid (setE_big (l := l) (i := k) (v := v) ⟨by omega, by rw [hlen]; exact j1⟩ hs)
      rw [e1, e2] at HTO
      clear hrd hz hz2 hs e1 e2 hlen hl2 hn hnm i0 i1
      go_enter Tryd.func23, Tryd.ntmps23
      go_wp2_with (first
        | (with_reducible refine at_any ?_; refine at_dst 21 rfl ?_; refine wpList_own_copy8o w rfl (.tmp 19) (.tmp 20) rfl rfl A n c l rfl HR.out HN.out ?_; intro v7 w7 hb7 ho7; obtain ⟨A7, c7, rfl, hc7, hm7⟩ := ho7.form; obtain ⟨g7, cur, rfl, hg7, hk7, hsz7, hat7⟩ := ho7.whole (Nat.lt_of_le_of_lt (Nat.zero_le _) HLK.out); rw [HLN.out] at ho7 hc7 hsz7; rw [HLN.out]; have HO7 := Lib.hid ho7; have HB7 := Lib.hid hb7; have HG7 := Lib.hid hg7; have HK7 := Lib.hid hk7; have HC7 := Lib.hid hc7; have HM7 := Lib.hid hm7; have HS7 := Lib.hid hsz7; clear ho7 hb7 hg7 hk7 hc7 hm7 hsz7 hat7)
        | (with_reducible refine at_any ?_; refine at_store 25 rfl ?_; refine wpList_store_cell rfl 32 (.tmp 25) (.tmp 24) rfl g7 k rfl 32 cur HK7.out (.int .u64 v) rfl (Nat.lt_of_lt_of_le hk HS7.out) size_u64f rfl rfl ?_; intro w9 hk9 ho9; have HO9 := Lib.hid (own_set HO7.out HK7.out HLK.out HB7.out HG7.out hk9.out ho9); have HR9 := Lib.hid (OwnI.rd HO9.out.1 (len_set _ _ _ HLN.out)))
        | (go_at_call 13; (with_reducible refine (HTO.out _ _ _ HR9.out).mono ?_); rintro e _ ⟨rfl, rfl⟩))
      go_ret2
      exact HEMP.out _ _ HE.out HO9.out.2
  · have HE := Lib.hid (setE_no (l := l) (i := i) v (by rw [hlen]; exact hin))
    clear hrd hz hlen hnm
    by_cases hi0 : i < 0
    · clear hin
      go_enter Tryd.func23, Tryd.ntmps23
      go_wp2
      go_ret2
      exact HEMP.out _ _ HE.out (Below.refl _ _)
    · have hi2 : (n : Int) ≤ i := by omega
      have hi3 : 0 ≤ i := by omega
      clear hin
      go_enter Tryd.func23, Tryd.ntmps23
      go_wp2
      go_ret2
      exact HEMP.out _ _ HE.out (Below.refl _ _)
set_option maxHeartbeats 2000000 in
theorem r11same_c (xs ys : List Int) (A B : Option Addr) (n m c d : Nat) (hn : n ≤ maxLen) (hm : m ≤ maxLen) (w : World) (hra : Rd .u64 w w.heap.size A n xs) (hrb : Rd .u64 w w.heap.size B m ys) : Calls Tryd.prog 11 #[.agg #[.slice A n c], .agg #[.slice B m d]] w fun e w' => e = .returned (.bool (decide (xs = ys))) ∧ Below w.heap.size w w' := by
  have HA := Lib.hid hra
  have HB := Lib.hid hrb
  have HSA := Lib.hid (fun W h1 h2 => r9same_c xs ys A B n m c d hn hm W h1 h2)
  obtain ⟨bb, hbb⟩ : ∃ b, decide (xs = ys) = b := ⟨_, rfl⟩
  rw [hbb] at HSA ⊢
  clear hra hrb hbb
  go_enter Tryd.func11, Tryd.ntmps11
  go_wp2_with (first
    | (with_reducible refine at_any ?_; refine at_dst 2 rfl ?_; refine wpList_box_any rfl 25 (.tmp 0) rfl #[.slice A n c] rfl ?_; intro w1 hk1 hs1 hb1)
    | (with_reducible refine at_any ?_; refine at_dst 3 rfl ?_; refine wpList_box_any rfl 25 (.tmp 1) rfl #[.slice B m d] rfl ?_; intro w2 hk2 hs2 hb2; have HB2 := Lib.hid (hb1.trans (hb2.mono hb1.size)); have c1 := (hk1.out.below hb2 hk1.out.lt).cell 0; have c2 := hk2.out.cell 0; have f1 := (hk1.out.below hb2 hk1.out.lt).frozen 0; have f2 := hk2.out.frozen 0)
    | (go_at_call 12; (with_reducible refine (HSA.out _ (HR1 HA.out HB2.out) (HR1 HB.out HB2.out)).mono ?_); rintro e w5 ⟨rfl, hb5⟩; have HB5 := Lib.hid (HB2.out.trans (hb5.mono HB2.out.size))))
  go_ret
  exact ⟨rfl, HB5.out⟩
end Go.Proofs.YtdpjambejmlppaaDoor
