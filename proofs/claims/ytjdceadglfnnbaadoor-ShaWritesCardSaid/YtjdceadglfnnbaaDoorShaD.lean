/-
  What the program's sha.digit and sha.Parse return, and that they leave memory as it was.
  Conditions: the arguments lie in their types' ranges.
-/
import Derived.Test.YtjdceadglfnnbaaDoorRefL
set_option linter.unusedSimpArgs false
namespace Go.Proofs.YtjdceadglfnnbaaDoor
open Go.ChangeShapes Go.WideShapes Go.ChangeAt Go.RowKit
set_option linter.unusedVariables false
/-- A digit's number (0 for what is none), and if it is one. -/
def digV (c : Int) : Int := if valN c ≤ 15 then valN c else 0
def digB (c : Int) : Bool := decide (valN c ≤ 15)
theorem digB_iff (c : Int) : digB c = true ↔ valN c ≤ 15 := by simp [digB]
theorem digV_yes (c : Int) (h : valN c ≤ 15) : digV c = valN c := by simp [digV, h]
theorem digV_in (c : Int) : 0 ≤ digV c ∧ digV c ≤ 15 := by
  have := valN_in c
  unfold digV
  split <;> omega
theorem dig_ret (c v : Int) (b : Bool) (hv : digV c = v) (hb : digB c = b) : Ending.returned (.tuple #[.int .u8 v, .bool b]) = .returned (.tuple #[.int .u8 (digV c), .bool (digB c)]) := by rw [hv, hb]
theorem digit_c (c : Int) (c0 : 0 ≤ c) (c1 : c < 256) (w : World) :
    Calls Tryd.prog 38 #[.int .u8 c] w fun e w' => e = .returned (.tuple #[.int .u8 (digV c), .bool (digB c)]) ∧ w' = w := by
  by_cases a1 : 48 ≤ c
  · by_cases a2 : c ≤ 57
    · have hv : valN c = c - 48 := by unfold valN; rw [if_pos ⟨a1, a2⟩]
      have H1 := Lib.hid (show digV c = c - 48 by unfold digV; rw [hv, if_pos (by omega)])
      have H2 := Lib.hid (show digB c = true by rw [digB_iff, hv]; omega)
      have wr : IntKind.u8.wrap (c - 48) = c - 48 := by rw [IntKind.wrap_u8]; omega
      clear hv
      go_enter Tryd.func38, Tryd.ntmps38
      go_wp2
      go_ret2
      exact ⟨dig_ret _ _ _ H1.out H2.out, rfl⟩
    · by_cases a3 : 97 ≤ c
      · by_cases a4 : c ≤ 102
        · have hv : valN c = c - 87 := by unfold valN; rw [if_neg (by omega), if_pos ⟨a3, a4⟩]
          have H1 := Lib.hid (show digV c = c - 87 by unfold digV; rw [hv, if_pos (by omega)])
          have H2 := Lib.hid (show digB c = true by rw [digB_iff, hv]; omega)
          have wr : IntKind.u8.wrap (c - 97) = c - 97 := by rw [IntKind.wrap_u8]; omega
          have wr2 : IntKind.u8.wrap (c - 97 + 10) = c - 87 := by rw [IntKind.wrap_u8]; omega
          clear hv
          go_enter Tryd.func38, Tryd.ntmps38
          go_wp2
          go_ret2
          exact ⟨dig_ret _ _ _ H1.out H2.out, rfl⟩
        · have hv : valN c = 16 := by unfold valN; rw [if_neg (by omega), if_neg (by omega)]
          have H1 := Lib.hid (show digV c = 0 by unfold digV; rw [hv, if_neg (by omega)])
          have H2 := Lib.hid (show digB c = false by simp [digB, hv])
          clear hv
          go_enter Tryd.func38, Tryd.ntmps38
          go_wp2
          go_ret2
          exact ⟨dig_ret _ _ _ H1.out H2.out, rfl⟩
      · have hv : valN c = 16 := by unfold valN; rw [if_neg (by omega), if_neg (by omega)]
        have H1 := Lib.hid (show digV c = 0 by unfold digV; rw [hv, if_neg (by omega)])
        have H2 := Lib.hid (show digB c = false by simp [digB, hv])
        clear hv
        go_enter Tryd.func38, Tryd.ntmps38
        go_wp2
        go_ret2
        exact ⟨dig_ret _ _ _ H1.out H2.out, rfl⟩
  · have hv : valN c = 16 := by unfold valN; rw [if_neg (by omega), if_neg (by omega)]
    have H1 := Lib.hid (show digV c = 0 by unfold digV; rw [hv, if_neg (by omega)])
    have H2 := Lib.hid (show digB c = false by simp [digB, hv])
    have a3 : ¬ 97 ≤ c := by omega
    clear hv
    go_enter Tryd.func38, Tryd.ntmps38
    go_wp2
    go_ret2
    exact ⟨dig_ret _ _ _ H1.out H2.out, rfl⟩
theorem or_u8 (a b : Int) (a0 : 0 ≤ a) (a1 : a ≤ 15) (b0 : 0 ≤ b) (b1 : b ≤ 15) : bits .or .u8 (a * 16) b = 16 * a + b := by
  have h : ∀ a b : Fin 16, bits .or .u8 (((a : Nat) : Int) * 16) ((b : Nat) : Int) = 16 * ((a : Nat) : Int) + ((b : Nat) : Int) := by decide +kernel
  have := h ⟨a.toNat, by omega⟩ ⟨b.toNat, by omega⟩
  simpa [Int.toNat_of_nonneg a0, Int.toNat_of_nonneg b0] using this
set_option maxHeartbeats 2000000 in
theorem qparse_c (s : ByteArray) (hs : s.size ≤ 1000000) (w : World) :
    Calls Tryd.prog 22 #[.string s] w (RetH w (if parseOk (bytesI s) then parseTo (bytesI s) 32 else List.replicate 32 0) (if parseOk (bytesI s) then 0 else 2)) := by
  obtain ⟨zs, hzs⟩ : ∃ zs, bytesI s = zs := ⟨_, rfl⟩
  have hzl := bytesI_len s
  have hzi := bytesI_in s
  have hix := fun m hm W => run_index_str s m hm W
  rw [hzs] at hzl hzi hix ⊢
  obtain ⟨Z, hZ⟩ : ∃ Z : List Int, List.replicate 32 0 = Z := ⟨_, rfl⟩
  have HZ0 := Lib.hid zero_hash
  have HB0 := Lib.hid (fun (a : Act) (o : Oper) W => build_hash (a := a) (o := o) W)
  have SZI := Lib.hid (hash_size (List.replicate 32 0) (by simp))
  have SZ := Lib.hid (show (Tryd.prog.info? 26).map (·.size) = some Z.length by rw [← hZ, List.length_replicate]; exact size_hash)
  have hF0 := parseF_zero zs
  rw [hZ] at HZ0 HB0 SZI hF0 ⊢
  obtain ⟨R, hR⟩ : ∃ R, (if parseOk zs then parseTo zs 32 else Z) = R := ⟨_, rfl⟩
  obtain ⟨kk, hkk⟩ : ∃ k : Int, (if parseOk zs then (0 : Int) else 2) = k := ⟨_, rfl⟩
  rw [hR, hkk]
  have HRK := Lib.hid (And.intro hR hkk)
  clear hR hkk
  have HZL := Lib.hid (show Z.length = 32 by rw [← hZ]; simp)
  have HDG := Lib.hid (fun c h0 h1 W => digit_c c h0 h1 W)
  by_cases hl : s.size = 64
  · have HIX := Lib.hid hix
    have hl2 : zs.length = 64 := by rw [hzl, hl]
    have HL := Lib.hid hl
    have HZI := Lib.hid (fun j => (show 0 ≤ zs.getD j 0 ∧ zs.getD j 0 < 256 by
      rcases Nat.lt_or_ge j zs.length with h1 | h1
      · simp [h1]; exact hzi _ (List.getElem_mem h1)
      · simp [h1]))
    have HOK := Lib.hid (show parseOk zs = digits zs 32 by unfold parseOk; rw [hl2]; rfl)
    have hne : ((s.size : Int) != 64) = false := by rw [hl]; rfl
    have SP := Lib.hid (show (Tryd.prog.info? 26).map (·.size) = some (parseTo zs 32).length by rw [parseTo_len]; exact size_hash)
    have SPI := Lib.hid (hash_size (parseTo zs 32) (parseTo_len zs 32))
    have LP := Lib.hid (show Z.length = (parseTo zs 32).length by rw [parseTo_len, HZL.out])
    have HF0 := Lib.hid hF0
    clear hzs hzl hzi hix hZ hl hl2 hF0
    go_enter Tryd.func22, Tryd.ntmps22
    go_wp2_with (first
      | (with_reducible refine at_any ?_; refine at_dst 2 rfl ?_; refine wpList_alloc_ints rfl 26 rfl .u8 Z HZ0.out ?_; intro w1 hk1 hs1 hb1)
      | (with_reducible refine at_any ?_; refine at_dst 4 rfl ?_; refine wpList_alloc_ints rfl 26 rfl .u8 Z HZ0.out ?_; intro w2 hk2 hs2 hb2))
    have HP : Ps w w.heap.size w1.heap.size Z (parseF zs 0) w2 := by
      have q1 := hs1.out
      rw [HF0.out]
      exact ⟨hk1.out.below hb2 hk1.out.lt, hk2.out, hb1.trans (hb2.mono hb1.size), Nat.le_refl _, hb1.size, by omega⟩
    obtain ⟨g2, hg2⟩ : ∃ g, w.heap.size = g := ⟨_, rfl⟩
    obtain ⟨g4, hg4⟩ : ∃ g, w1.heap.size = g := ⟨_, rfl⟩
    rw [hg2, hg4] at HP
    rw [hg2, hg4]
    clear hk1 hs1 hb1 hk2 hs2 hb2 hg2 hg4
    go_loopw [14] (fun t wr => ∃ i : Nat, i ≤ 32 ∧ t = .int .i64 i ∧ Ps w g2 g4 Z (parseF zs i) wr ∧ Hid (digits zs i = true)) (fun t _ => 32 - (intOf t).toNat)
    case atStart => exact ⟨0, by omega, rfl, HP, Lib.hid rfl⟩
    case round =>
      clear HP
      obtain ⟨i, hi, rfl, HP, HD⟩ := hrel
      by_cases hlt : i < 32
      · obtain ⟨m, hm⟩ : ∃ m, 2 * i = m := ⟨_, rfl⟩
        obtain ⟨m1, hm1⟩ : ∃ m1, 2 * i + 1 = m1 := ⟨_, rfl⟩
        have i1 := fun W => HIX.out m (by rw [HL.out]; omega) W
        have i2 := fun W => HIX.out m1 (by rw [HL.out]; omega) W
        have r1 := HZI.out m
        have r2 := HZI.out m1
        have hdn := digits_next zs i
        have hpn := parseF_set zs i hlt
        rw [hm1, hm] at hdn hpn
        obtain ⟨x, hx⟩ : ∃ x, zs.getD m 0 = x := ⟨_, rfl⟩
        obtain ⟨y, hy⟩ : ∃ y, zs.getD m1 0 = y := ⟨_, rfl⟩
        rw [hx] at i1 r1 hdn hpn
        rw [hy] at i2 r2 hdn hpn
        have V1 := Lib.hid (fun W => HDG.out x r1.1 r1.2 W)
        have V2 := Lib.hid (fun W => HDG.out y r2.1 r2.2 W)
        have a1 := digV_in x
        have a2 := digV_in y
        have vx := digB_iff x
        have vy := digB_iff y
        have ux := digV_yes x
        have uy := digV_yes y
        obtain ⟨a, ha⟩ : ∃ a, digV x = a := ⟨_, rfl⟩
        obtain ⟨b, hb⟩ : ∃ b, digV y = b := ⟨_, rfl⟩
        obtain ⟨p, hp⟩ : ∃ p, digB x = p := ⟨_, rfl⟩
        obtain ⟨q, hq⟩ : ∃ q, digB y = q := ⟨_, rfl⟩
        rw [ha, hp] at V1
        rw [hb, hq] at V2
        rw [ha] at a1 ux
        rw [hb] at a2 uy
        rw [hp] at vx
        rw [hq] at vy
        rw [HD.out, Bool.true_and] at hdn
        have e0 : IntKind.i64.wrap (2 * (i : Int)) = (m : Int) := by rw [IntWalk.i64_in _ (by omega)]; omega
        have e1 : IntKind.i64.wrap ((m : Int) + 1) = (m1 : Int) := by rw [IntWalk.i64_in _ (by omega)]; omega
        have HPL := Lib.hid (parseF_len zs i (by omega))
        clear hx hy ha hb hp hq hm hm1
        by_cases hab : p = true ∧ q = true
        · obtain ⟨rfl, rfl⟩ := hab
          have x15 := vx.1 rfl
          have y15 := vy.1 rfl
          have HDT := Lib.hid (show digits zs (i + 1) = true by rw [hdn]; simp [x15, y15])
          have c4 := HP.2.1.cell (j := i) (by rw [HPL.out]; omega)
          have f4 := HP.2.1.frozen i
          have HN := Lib.hid (HP.set_ i (16 * a + b))
          rw [← ux x15, ← uy y15] at hpn
          rw [hpn] at HN
          have o1 := or_u8 a b a1.1 a1.2 a2.1 a2.2
          have s1 : a * 16 % 256 = a * 16 := by omega
          clear hpn hdn vx vy ux uy x15 y15
          go_wp2_with (first
            | (go_at_call 38; (with_reducible refine (V1.out _).mono ?_); rintro e _ ⟨rfl, rfl⟩)
            | (go_at_call 38; (with_reducible refine (V2.out _).mono ?_); rintro e _ ⟨rfl, rfl⟩))
          go_roundw
          case rel => exact ⟨i + 1, by omega, by go_num, HN.out, HDT⟩
          case measure => simp [intOf]; omega
        · have HDF := Lib.hid (show parseOk zs = false by
            rw [HOK.out]
            refine digits_no zs (i + 1) 32 ?_ (by omega)
            rw [hdn, Bool.and_eq_false_iff, decide_eq_false_iff_not, decide_eq_false_iff_not, ← vx, ← vy]
            rcases Bool.eq_false_or_eq_true p with h | h
            · right; intro h2; exact hab ⟨h, h2⟩
            · left; rw [h]; decide)
          obtain ⟨hR, hkk⟩ := HRK.out
          rw [HDF.out] at hR hkk
          have HR1 := Lib.hid hR
          have HR2 := Lib.hid hkk
          have hk2 := Lib.hid HP.1
          have hbl := Lib.hid HP.2.2.1
          have hle := Lib.hid HP.2.2.2.1
          have hpq : p = false ∨ (p = true ∧ q = false) := by
            rcases Bool.eq_false_or_eq_true p with h | h
            · right; refine ⟨h, ?_⟩
              rcases Bool.eq_false_or_eq_true q with h2 | h2
              · exact absurd ⟨h, h2⟩ hab
              · exact h2
            · left; exact h
          clear hR hkk hpn hdn vx vy ux uy hab HDF
          rcases hpq with rfl | ⟨rfl, rfl⟩
          all_goals
            go_wp2_with (first
              | (go_at_call 38; (with_reducible refine (V1.out _).mono ?_); rintro e _ ⟨rfl, rfl⟩)
              | (go_at_call 38; (with_reducible refine (V2.out _).mono ?_); rintro e _ ⟨rfl, rfl⟩)
              | (with_reducible refine at_any ?_; refine at_dst 40 rfl ?_; refine wpList_val rfl (.agg (intsA .u8 Z)) (HB0.out _ _ _ rfl) ?_)
              | (with_reducible refine at_any ?_; refine at_store 2 rfl ?_; refine wpList_store_ints rfl 26 (.tmp 2) (.tmp 40) rfl g2 rfl 26 .u8 Z Z hk2.out rfl rfl SZ.out ?_; intro w9 hk9 hs9 hb9 ho9)
              | (refine bodyPost_any2 2 3 26 rfl g2 rfl (.int .i64 2) rfl 26 (intsA .u8 Z) hk9.out.blk _ Tryd.underlying26 rfl SZI.out rfl ?_))
            exact ⟨by rw [← HR1.out, ← HR2.out]; rfl, hbl.out.trans (hb9 _ hle.out)⟩
      · obtain rfl : i = 32 := by omega
        obtain ⟨hR, hkk⟩ := HRK.out
        rw [HOK.out, HD.out] at hR hkk
        rw [parseF_full] at HP
        have HR1 := Lib.hid hR
        have HR2 := Lib.hid hkk
        have hk2 := Lib.hid HP.1
        have hk4 := Lib.hid HP.2.1
        have hbl := Lib.hid HP.2.2.1
        have hle := Lib.hid HP.2.2.2.1
        clear hR hkk HP
        rw [show ((32 : Nat) : Int) = 32 from rfl]
        go_wp2_with (first
          | (with_reducible refine at_any ?_; refine at_dst 48 rfl ?_; refine wpList_load_ints rfl 26 (.tmp 4) rfl g4 rfl 26 .u8 (parseTo zs 32) hk4.out _ Tryd.underlying26 rfl SP.out ?_)
          | (with_reducible refine at_any ?_; refine at_store 2 rfl ?_; refine wpList_store_ints rfl 26 (.tmp 2) (.tmp 48) rfl g2 rfl 26 .u8 Z (parseTo zs 32) hk2.out rfl LP.out SP.out ?_; intro w9 hk9 hs9 hb9 ho9)
          | (refine bodyPost_any2 2 3 26 rfl g2 rfl (.int .i64 0) rfl 26 (intsA .u8 (parseTo zs 32)) hk9.out.blk _ Tryd.underlying26 rfl SPI.out rfl ?_))
        exact ⟨by rw [← HR1.out, ← HR2.out]; rfl, hbl.out.trans (hb9 _ hle.out)⟩
  · have HDF := Lib.hid (show parseOk zs = false by unfold parseOk; rw [Bool.and_eq_false_iff, decide_eq_false_iff_not]; left; omega)
    obtain ⟨hR, hkk⟩ := HRK.out
    rw [HDF.out] at hR hkk
    have HR1 := Lib.hid hR
    have HR2 := Lib.hid hkk
    have hne : ((s.size : Int) != 64) = true := by rw [bne_iff_ne]; omega
    clear hR hkk hzs hzl hzi hix hZ hl
    go_enter Tryd.func22, Tryd.ntmps22
    go_wp2_with (first
      | (with_reducible refine at_any ?_; refine at_dst 2 rfl ?_; refine wpList_alloc_ints rfl 26 rfl .u8 Z HZ0.out ?_; intro w1 hk1 hs1 hb1)
      | (with_reducible refine at_any ?_; refine at_dst 4 rfl ?_; refine wpList_alloc_ints rfl 26 rfl .u8 Z HZ0.out ?_; intro w2 hk2 hs2 hb2; have hk1b := Lib.hid (hk1.out.below hb2 hk1.out.lt))
      | (with_reducible refine at_any ?_; refine at_dst 13 rfl ?_; refine wpList_val rfl (.agg (intsA .u8 Z)) (HB0.out _ _ _ rfl) ?_)
      | (with_reducible refine at_any ?_; refine at_store 2 rfl ?_; refine wpList_store_ints rfl 26 (.tmp 2) (.tmp 13) rfl w.heap.size rfl 26 .u8 Z Z hk1b.out rfl rfl SZ.out ?_; intro w9 hk9 hs9 hb9 ho9)
      | (refine bodyPost_any2 2 3 26 rfl w.heap.size rfl (.int .i64 2) rfl 26 (intsA .u8 Z) hk9.out.blk _ Tryd.underlying26 rfl SZI.out rfl ?_))
    exact ⟨by rw [← HR1.out, ← HR2.out]; rfl, (hb1.trans (hb2.mono hb1.size)).trans (hb9 _ (Nat.le_refl _))⟩
end Go.Proofs.YtjdceadglfnnbaaDoor
