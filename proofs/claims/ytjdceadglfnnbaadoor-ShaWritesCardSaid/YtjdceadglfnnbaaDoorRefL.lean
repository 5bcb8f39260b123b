/-
  What the document's answers for layer 5 return (Parse), and that they leave memory as it was.
  Conditions: the text is small.
-/
import Derived.Test.YtjdceadglfnnbaaDoorRefK
import Derived.Test.YtjdceadglfnnbaaDoorRefJ
set_option linter.unusedSimpArgs false
namespace Go.Proofs.YtjdceadglfnnbaaDoor
open Go.ChangeShapes Go.WideShapes Go.ChangeAt Go.RowKit
set_option linter.unusedVariables false
def bytesI (s : ByteArray) : List Int := s.data.toList.map fun u => (u.toNat : Int)
theorem bytesI_len (s : ByteArray) : (bytesI s).length = s.size := by simp [bytesI]
theorem bytesI_in (s : ByteArray) : ∀ z ∈ bytesI s, 0 ≤ z ∧ z < 256 := by
  intro z hz
  obtain ⟨u, _, rfl⟩ := List.mem_map.1 hz
  have := u.toNat_lt
  omega
theorem bytesI_at (s : ByteArray) (m : Nat) (hm : m < s.size) : ((s[m]'hm).toNat : Int) = (bytesI s).getD m 0 := by
  have h : m < s.data.toList.length := by simpa using hm
  unfold bytesI
  rw [List.getD_eq_getElem?_getD, List.getElem?_map, List.getElem?_eq_getElem h]
  simp
  rfl
theorem bytesI_strB (s : ByteArray) : strB (bytesI s) = s := by
  have h : (strB (bytesI s)).data.toList = s.data.toList := by
    rw [strB_list]
    unfold bytesI
    rw [List.map_map]
    conv => rhs; rw [← List.map_id s.data.toList]
    apply List.map_congr_left
    intro u _
    simp
  rw [← toL_eq5, ByteArray.toList_eq, ByteArray.toList_eq]
  exact h
theorem strB_bytesI (zs : List Int) (hz : ∀ z ∈ zs, 0 ≤ z ∧ z < 256) : bytesI (strB zs) = zs := strB_inj (bytesI_in _) hz (bytesI_strB _)
theorem run_index_str (s : ByteArray) (m : Nat) (hm : m < s.size) (w : World) : (Instr.index 9 (.string s) (.int .i64 (m : Int))).run Tryd.prog w = .ok (.int .u8 ((bytesI s).getD m 0)) w := by
  rw [← bytesI_at s m hm]
  have h1 : (0 : Int) ≤ (m : Int) := by omega
  have h2 : (m : Int) < (s.size : Int) := by omega
  go_simp
/-- What Parse keeps. -/
def Ps (w : World) (g2 g4 : Nat) (Z z : List Int) (w' : World) : Prop := BlkI w' g2 26 .u8 Z ∧ BlkI w' g4 26 .u8 z ∧ Below w.heap.size w w' ∧ w.heap.size ≤ g2 ∧ w.heap.size ≤ g4 ∧ g2 ≠ g4
theorem Ps.drew {w w' : World} {g2 g4 : Nat} {Z z : List Int} (h : Ps w g2 g4 Z z w') : Ps w g2 g4 Z z w'.drew := ⟨h.1, h.2.1, h.2.2.1.drew, h.2.2.2⟩
theorem Ps.set_ {w w' : World} {g2 g4 : Nat} {Z z : List Int} (h : Ps w g2 g4 Z z w') (i : Nat) (x : Int) : Ps w g2 g4 Z (z.set i x) (w'.setCell ⟨g4, i, none⟩ (.int .u8 x)) := by
  obtain ⟨h1, h2, h3, h4, h5, h6⟩ := h
  exact ⟨h1.far h6 _, h2.set_ i x, h3.setCell (p := ⟨g4, i, none⟩) h5 _, h4, h5, h6⟩
def RetH (w : World) (h : List Int) (k : Int) (e : Ending) (w' : World) : Prop := e = .returned (.tuple #[.agg (intsA .u8 h), .int .i64 k]) ∧ Below w.heap.size w w'
set_option maxHeartbeats 2000000 in
theorem rparse_c (s : ByteArray) (hs : s.size ≤ 1000000) (w : World) :
    Calls Tryd.prog 23 #[.string s] w (RetH w (if parseOk (bytesI s) then parseTo (bytesI s) 32 else List.replicate 32 0) (if parseOk (bytesI s) then 0 else 2)) := by
  obtain ⟨zs, hzs⟩ : ∃ zs, bytesI s = zs := ⟨_, rfl⟩
  have hzl := bytesI_len s
  have hzi := bytesI_in s
  have hix := fun m hm W => run_index_str s m hm W
  rw [hzs] at hzl hzi hix ⊢
  obtain ⟨Z, hZ⟩ : ∃ Z : List Int, List.replicate 32 0 = Z := ⟨_, rfl⟩
  have HZ0 := Lib.hid zero_hash
  have HB0 := Lib.hid (fun (a : Act) (o : Oper) W => build_hash (a := a) (o := o) W)
  have SZI := Lib.hid (hash_size (List.replicate 32 0) (by simp))
  have SZ := Lib.hid (show (Tryd.prog.info? 26).map (·.size) = some Z.length by rw [← hZ, List.length_replicate]; exact size_hash)
  have hF0 := parseF_zero zs
  rw [hZ] at HZ0 HB0 SZI hF0 ⊢
  obtain ⟨R, hR⟩ : ∃ R, (if parseOk zs then parseTo zs 32 else Z) = R := ⟨_, rfl⟩
  obtain ⟨kk, hkk⟩ : ∃ k : Int, (if parseOk zs then (0 : Int) else 2) = k := ⟨_, rfl⟩
  rw [hR, hkk]
  have HRK := Lib.hid (And.intro hR hkk)
  clear hR hkk
  have HZL := Lib.hid (show Z.length = 32 by rw [← hZ]; simp)
  by_cases hl : s.size = 64
  · have HIX := Lib.hid hix
    have hl2 : zs.length = 64 := by rw [hzl, hl]
    have HL := Lib.hid hl
    have HZI := Lib.hid (fun j => (show 0 ≤ zs.getD j 0 ∧ zs.getD j 0 < 256 by
      rcases Nat.lt_or_ge j zs.length with h1 | h1
      · simp [h1]; exact hzi _ (List.getElem_mem h1)
      · simp [h1]))
    have HOK := Lib.hid (show parseOk zs = digits zs 32 by unfold parseOk; rw [hl2]; rfl)
    have hne : ((s.size : Int) != 64) = false := by rw [hl]; rfl
    have SP := Lib.hid (show (Tryd.prog.info? 26).map (·.size) = some (parseTo zs 32).length by rw [parseTo_len]; exact size_hash)
    have SPI := Lib.hid (hash_size (parseTo zs 32) (parseTo_len zs 32))
    have LP := Lib.hid (show Z.length = (parseTo zs 32).length by rw [parseTo_len, HZL.out])
    have HF0 := Lib.hid hF0
    clear hzs hzl hzi hix hZ hl hl2 hF0
    go_enter Tryd.func23, Tryd.ntmps23
    go_wp2_with (first
      | (with_reducible refine at_any ?_; refine at_dst 2 rfl ?_; refine wpList_alloc_ints rfl 26 rfl .u8 Z HZ0.out ?_; intro w1 hk1 hs1 hb1)
      | (with_reducible refine at_any ?_; refine at_dst 4 rfl ?_; refine wpList_alloc_ints rfl 26 rfl .u8 Z HZ0.out ?_; intro w2 hk2 hs2 hb2))
    have HP : Ps w w.heap.size w1.heap.size Z (parseF zs 0) w2 := by
      have q1 := hs1.out
      rw [HF0.out]
      exact ⟨hk1.out.below hb2 hk1.out.lt, hk2.out, hb1.trans (hb2.mono hb1.size), Nat.le_refl _, hb1.size, by omega⟩
    obtain ⟨g2, hg2⟩ : ∃ g, w.heap.size = g := ⟨_, rfl⟩
    obtain ⟨g4, hg4⟩ : ∃ g, w1.heap.size = g := ⟨_, rfl⟩
    rw [hg2, hg4] at HP
    rw [hg2, hg4]
    clear hk1 hs1 hb1 hk2 hs2 hb2 hg2 hg4
    go_loopw [5] (fun t wr => ∃ i : Nat, i ≤ 32 ∧ t = .int .i64 i ∧ Ps w g2 g4 Z (parseF zs i) wr ∧ Hid (digits zs i = true)) (fun t _ => 32 - (intOf t).toNat)
    case atStart => exact ⟨0, by omega, rfl, HP, Lib.hid rfl⟩
    case round =>
      clear HP
      obtain ⟨i, hi, rfl, HP, HD⟩ := hrel
      by_cases hlt : i < 32
      · obtain ⟨m, hm⟩ : ∃ m, 2 * i = m := ⟨_, rfl⟩
        obtain ⟨m1, hm1⟩ : ∃ m1, 2 * i + 1 = m1 := ⟨_, rfl⟩
        have i1 := fun W => HIX.out m (by rw [HL.out]; omega) W
        have i2 := fun W => HIX.out m1 (by rw [HL.out]; omega) W
        have r1 := HZI.out m
        have r2 := HZI.out m1
        have hdn := digits_next zs i
        have hpn := parseF_set zs i hlt
        rw [hm1, hm] at hdn hpn
        obtain ⟨x, hx⟩ : ∃ x, zs.getD m 0 = x := ⟨_, rfl⟩
        obtain ⟨y, hy⟩ : ∃ y, zs.getD m1 0 = y := ⟨_, rfl⟩
        rw [hx] at i1 r1 hdn hpn
        rw [hy] at i2 r2 hdn hpn
        have V1 := Lib.hid (fun W => rvalue_c x r1.1 r1.2 W)
        have V2 := Lib.hid (fun W => rvalue_c y r2.1 r2.2 W)
        have a1 := valN_in x
        have a2 := valN_in y
        obtain ⟨a, ha⟩ : ∃ a, valN x = a := ⟨_, rfl⟩
        obtain ⟨b, hb⟩ : ∃ b, valN y = b := ⟨_, rfl⟩
        rw [ha] at V1 a1 hdn hpn
        rw [hb] at V2 a2 hdn hpn
        rw [HD.out, Bool.true_and] at hdn
        have e0 : IntKind.i64.wrap (2 * (i : Int)) = (m : Int) := by rw [IntWalk.i64_in _ (by omega)]; omega
        have e1 : IntKind.i64.wrap ((m : Int) + 1) = (m1 : Int) := by rw [IntWalk.i64_in _ (by omega)]; omega
        have HPL := Lib.hid (parseF_len zs i (by omega))
        have HPd := HP.drew
        have HDN := Lib.hid hdn
        have HPN := Lib.hid hpn
        clear hdn hpn hx hy ha hb hm hm1
        go_wp2
        refine wp_region_held_drew (S := Ps w g2 g4 Z (parseF zs i)) (by kernel_rfl) (HPd) (fun hH => ?_)
        refine held_val 0 rfl (by kernel_rfl) (by kernel_rfl) (by kernel_rfl) (fun _ _ _ _ h => h) (by rfl) (.string s) (fun W h => by go_simp) hH ?_
        try simp only [Act.put, List.setIfInBounds_toArray, List.set_cons_zero, List.set_cons_succ]
        refine held_val 1 rfl (by kernel_rfl) (by kernel_rfl) (by kernel_rfl) (fun _ _ _ _ h => h) (by rfl) (.int .i64 (i : Int)) (fun W h => by go_simp) hH ?_
        try simp only [Act.put, List.setIfInBounds_toArray, List.set_cons_zero, List.set_cons_succ]
        refine held_val 2 rfl (by kernel_rfl) (by kernel_rfl) (by kernel_rfl) (fun _ _ _ _ h => h) (by rfl) (.int .i64 (m : Int)) (fun W h => by go_simp) hH ?_
        try simp only [Act.put, List.setIfInBounds_toArray, List.set_cons_zero, List.set_cons_succ]
        refine held_val 3 rfl (by kernel_rfl) (by kernel_rfl) (by kernel_rfl) (fun _ _ _ _ h => h) (by rfl) (.int .u8 x) (fun W h => by have q := i1 W; go_simp) hH ?_
        try simp only [Act.put, List.setIfInBounds_toArray, List.set_cons_zero, List.set_cons_succ]
        refine held_val 5 rfl (by kernel_rfl) (by kernel_rfl) (by kernel_rfl) (fun _ _ _ _ h => h) (by rfl) (.string s) (fun W h => by go_simp) hH ?_
        try simp only [Act.put, List.setIfInBounds_toArray, List.set_cons_zero, List.set_cons_succ]
        refine held_val 6 rfl (by kernel_rfl) (by kernel_rfl) (by kernel_rfl) (fun _ _ _ _ h => h) (by rfl) (.int .i64 (i : Int)) (fun W h => by go_simp) hH ?_
        try simp only [Act.put, List.setIfInBounds_toArray, List.set_cons_zero, List.set_cons_succ]
        refine held_val 7 rfl (by kernel_rfl) (by kernel_rfl) (by kernel_rfl) (fun _ _ _ _ h => h) (by rfl) (.int .i64 (m : Int)) (fun W h => by go_simp) hH ?_
        try simp only [Act.put, List.setIfInBounds_toArray, List.set_cons_zero, List.set_cons_succ]
        refine held_val 8 rfl (by kernel_rfl) (by kernel_rfl) (by kernel_rfl) (fun _ _ _ _ h => h) (by rfl) (.int .i64 (m1 : Int)) (fun W h => by go_simp) hH ?_
        try simp only [Act.put, List.setIfInBounds_toArray, List.set_cons_zero, List.set_cons_succ]
        refine held_val 9 rfl (by kernel_rfl) (by kernel_rfl) (by kernel_rfl) (fun _ _ _ _ h => h) (by rfl) (.int .u8 y) (fun W h => by have q := i2 W; go_simp) hH ?_
        try simp only [Act.put, List.setIfInBounds_toArray, List.set_cons_zero, List.set_cons_succ]
        refine wpAnyH_ready (rs := [4]) (by kernel_rfl) (by decide) ?_
        refine AllReadyH.cons rfl (fun K hK => ?_) AllReadyH.nil
        go_simp
        refine (V1.out _).mono ?_
        rintro e _ ⟨rfl, rfl⟩
        refine hK.out _ _ hH (fun _ => ?_)
        clear hK K
        try simp only [Act.put, List.setIfInBounds_toArray, List.set_cons_zero, List.set_cons_succ]
        refine wpAnyH_ready (rs := [10]) (by kernel_rfl) (by decide) ?_
        refine AllReadyH.cons rfl (fun K hK => ?_) AllReadyH.nil
        go_simp
        refine (V2.out _).mono ?_
        rintro e _ ⟨rfl, rfl⟩
        refine hK.out _ _ hH (fun _ => ?_)
        clear hK K
        try simp only [Act.put, List.setIfInBounds_toArray, List.set_cons_zero, List.set_cons_succ]
        refine held_val 11 rfl (by kernel_rfl) (by kernel_rfl) (by kernel_rfl) (fun _ _ _ _ h => h) (by rfl) (.int .i64 a) (fun W h => by go_simp) hH ?_
        try simp only [Act.put, List.setIfInBounds_toArray, List.set_cons_zero, List.set_cons_succ]
        refine held_val 12 rfl (by kernel_rfl) (by kernel_rfl) (by kernel_rfl) (fun _ _ _ _ h => h) (by rfl) (.int .i64 b) (fun W h => by go_simp) hH ?_
        try simp only [Act.put, List.setIfInBounds_toArray, List.set_cons_zero, List.set_cons_succ]
        refine wpAnyH_done (by kernel_rfl) ?_ _
        clear e0 e1 i1 i2
        by_cases hab : a ≤ 15 ∧ b ≤ 15
        · obtain ⟨ha, hb⟩ := hab
          have HDT := Lib.hid (show digits zs (i + 1) = true by rw [HDN.out]; simp [ha, hb])
          have c4 := HPd.2.1.cell (j := i) (by rw [HPL.out]; omega)
          have f4 := HPd.2.1.frozen i
          have HN := Lib.hid (HPd.set_ i (16 * a + b))
          rw [HPN.out] at HN
          go_wp2
          go_roundw
          case rel => exact ⟨i + 1, by omega, by go_num, HN.out, HDT⟩
          case measure => simp [intOf]; omega
        · have HDF := Lib.hid (show parseOk zs = false by
            rw [HOK.out]
            refine digits_no zs (i + 1) 32 ?_ (by omega)
            rw [HDN.out, Bool.and_eq_false_iff, decide_eq_false_iff_not, decide_eq_false_iff_not]
            omega)
          obtain ⟨hR, hkk⟩ := HRK.out
          rw [HDF.out] at hR hkk
          have HR1 := Lib.hid hR
          have HR2 := Lib.hid hkk
          clear hR hkk
          have hk2 := Lib.hid HPd.1
          have hbl := Lib.hid HPd.2.2.1
          have hle := Lib.hid HPd.2.2.2.1
          by_cases ha : a ≤ 15
          all_goals
            (try (have hb : ¬ b ≤ 15 := by omega))
            clear hab
            go_wp2_with (first
              | (with_reducible refine at_any ?_; refine at_dst 33 rfl ?_; refine wpList_val rfl (.agg (intsA .u8 Z)) (HB0.out _ _ _ rfl) ?_)
              | (with_reducible refine at_any ?_; refine at_store 2 rfl ?_; refine wpList_store_ints rfl 26 (.tmp 2) (.tmp 33) rfl g2 rfl 26 .u8 Z Z hk2.out rfl rfl SZ.out ?_; intro w9 hk9 hs9 hb9 ho9)
              | (refine bodyPost_any2 2 3 26 rfl g2 rfl (.int .i64 2) rfl 26 (intsA .u8 Z) hk9.out.blk _ Tryd.underlying26 rfl SZI.out rfl ?_))
            exact ⟨by rw [← HR1.out, ← HR2.out]; rfl, hbl.out.trans (hb9 _ hle.out)⟩
      · obtain rfl : i = 32 := by omega
        rw [parseF_full] at HP
        have HOT := Lib.hid (show parseOk zs = true by rw [HOK.out, HD.out])
        obtain ⟨hR, hkk⟩ := HRK.out
        rw [HOT.out] at hR hkk
        have HR1 := Lib.hid hR
        have HR2 := Lib.hid hkk
        clear hR hkk
        have hk2 := Lib.hid HP.1
        have hk4 := Lib.hid HP.2.1
        have hbl := Lib.hid HP.2.2.1
        have hle := Lib.hid HP.2.2.2.1
        clear HP
        rw [show ((32 : Nat) : Int) = 32 from rfl]
        go_wp2_with (first
          | (with_reducible refine at_any ?_; refine at_dst 41 rfl ?_; refine wpList_load_ints rfl 26 (.tmp 4) rfl g4 rfl 26 .u8 (parseTo zs 32) hk4.out _ Tryd.underlying26 rfl SP.out ?_)
          | (with_reducible refine at_any ?_; refine at_store 2 rfl ?_; refine wpList_store_ints rfl 26 (.tmp 2) (.tmp 41) rfl g2 rfl 26 .u8 Z (parseTo zs 32) hk2.out rfl LP.out SP.out ?_; intro w9 hk9 hs9 hb9 ho9)
          | (refine bodyPost_any2 2 3 26 rfl g2 rfl (.int .i64 0) rfl 26 (intsA .u8 (parseTo zs 32)) hk9.out.blk _ Tryd.underlying26 rfl SPI.out rfl ?_))
        exact ⟨by rw [← HR1.out, ← HR2.out]; rfl, hbl.out.trans (hb9 _ hle.out)⟩
  · have HNO := Lib.hid (show parseOk zs = false by unfold parseOk; rw [hzl, decide_eq_false hl]; rfl)
    obtain ⟨hR, hkk⟩ := HRK.out
    rw [HNO.out] at hR hkk
    have HR1 := Lib.hid hR
    have HR2 := Lib.hid hkk
    clear hR hkk
    have hne : ((s.size : Int) != 64) = true := by rw [bne_iff_ne]; omega
    clear hzs hzl hzi hix hZ hl hF0
    go_enter Tryd.func23, Tryd.ntmps23
    go_wp2_with (first
      | (with_reducible refine at_any ?_; refine at_dst 2 rfl ?_; refine wpList_alloc_ints rfl 26 rfl .u8 Z HZ0.out ?_; intro w1 hk1 hs1 hb1)
      | (with_reducible refine at_any ?_; refine at_dst 4 rfl ?_; refine wpList_alloc_ints rfl 26 rfl .u8 Z HZ0.out ?_; intro w2 hk2 hs2 hb2; have hk1b := Lib.hid (hk1.out.below hb2 hk1.out.lt); have bl2 := Lib.hid (hb1.trans (hb2.mono hb1.size)))
      | (with_reducible refine at_any ?_; refine at_dst 11 rfl ?_; refine wpList_load_ints rfl 26 (.tmp 4) rfl w1.heap.size rfl 26 .u8 Z hk2.out _ Tryd.underlying26 rfl SZ.out ?_)
      | (with_reducible refine at_any ?_; refine at_store 2 rfl ?_; refine wpList_store_ints rfl 26 (.tmp 2) (.tmp 11) rfl w.heap.size rfl 26 .u8 Z Z hk1b.out rfl rfl SZ.out ?_; intro w9 hk9 hs9 hb9 ho9)
      | (refine bodyPost_any2 2 3 26 rfl w.heap.size rfl (.int .i64 2) rfl 26 (intsA .u8 Z) hk9.out.blk _ Tryd.underlying26 rfl SZI.out rfl ?_))
    exact ⟨by rw [← HR1.out, ← HR2.out]; rfl, bl2.out.trans (hb9 _ (Nat.le_refl _))⟩
end Go.Proofs.YtjdceadglfnnbaaDoor
