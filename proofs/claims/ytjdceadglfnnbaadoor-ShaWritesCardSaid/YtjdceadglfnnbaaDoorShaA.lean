/-
  What the program's package sha returns (Sum, Write, Finish), and that it leaves memory as it was.
  Conditions: the arguments lie in their types' ranges; what is hashed is small; the table of constants holds what the program's text lays.
-/
import Derived.Test.YtjdceadglfnnbaaDoorShaW
import Derived.Test.YtjdceadglfnnbaaDoorShaB
import Derived.Test.YtjdceadglfnnbaaDoorShaD
set_option linter.unusedSimpArgs false
namespace Go.Proofs.YtjdceadglfnnbaaDoor
open Go.ChangeShapes Go.WideShapes Go.ChangeAt Go.RowKit
set_option linter.unusedVariables false
/-- Rows that are small, and of bytes. -/
def RowsOk (rs : List Row) : Prop := rs.length ≤ 20 ∧ ∀ r ∈ rs, r.zs.length ≤ 1000 ∧ ∀ z ∈ r.zs, 0 ≤ z ∧ z < 256
theorem joinL_in (rs : List Row) (h : RowsOk rs) (i : Nat) : ∀ z ∈ joinL (rs.take i), 0 ≤ z ∧ z < 256 := by
  intro z hz
  unfold joinL at hz
  obtain ⟨l, hl, hzl⟩ := List.mem_flatten.1 hz
  obtain ⟨r, hr, rfl⟩ := List.mem_map.1 hl
  exact (h.2 r (List.mem_of_mem_take hr)).2 z hzl
theorem joinL_take_le (rs : List Row) (i : Nat) : (joinL (rs.take i)).length ≤ (joinL rs).length := by
  have h : joinL rs = joinL (rs.take i) ++ joinL (rs.drop i) := by
    unfold joinL
    rw [← List.flatten_append, ← List.map_append, List.take_append_drop]
  rw [h, List.length_append]
  omega
theorem joinL_small (rs : List Row) (h : RowsOk rs) : (joinL rs).length ≤ 20000 := by
  have h1 := joinL_len rs 1000 fun r hr => (h.2 r hr).1
  have h2 := h.1
  omega
set_option maxHeartbeats 2000000 in
theorem qwa_c (w0 : World) (g : Nat) (A : Option Addr) (c : Nat) (s r : List Int) (n : Int) (hl : s.length = 8) (hs : WIn s) (hri : ∀ z ∈ r, 0 ≤ z ∧ z < 256) (hr : r.length ≤ 63) (n0 : 0 ≤ n) (Ar : Option Addr) (m cr : Nat) (rs : List Row) (hrr : RdRows w0 w0.heap.size Ar m rs) (hk : RowsOk rs)
    (n1 : n + (joinL rs).length < 2305843009213693952) (w : World) (hw : Wrt w0 g A c s r n w) (hkst : Kst w0) :
    Calls Tryd.prog 27 #[.pointer (some ⟨g, 0, none⟩), .slice Ar m cr] w (RetN w0 g (nextS s r (joinL rs)) (nextR r (joinL rs)) (n + (joinL rs).length)) := by
  have HR := Lib.hid hrr
  have hm20 : m ≤ 20 := by rw [← hrr.1]; exact hk.1
  have HM := Lib.hid hrr.1
  have HK := Lib.hid hk
  have HKS := Lib.hid hkst
  have HJ := Lib.hid (fun i => joinL_take_le rs i)
  have HJI := Lib.hid (fun i => joinL_in rs hk i)
  have HN1 := Lib.hid n1
  have HSL := Lib.hid (fun i => nextS_len s r (joinL (rs.take i)) hl)
  have HSI := Lib.hid (fun i => nextS_in s r (joinL (rs.take i)) hs)
  have HRL := Lib.hid (fun i => nextR_len r (joinL (rs.take i)))
  have HRI := Lib.hid (fun i => nextR_in r (joinL (rs.take i)) hri (joinL_in rs hk i))
  have HMO := Lib.hid (fun i b => And.intro (nextS_more s r (joinL (rs.take i)) b) (nextR_more r (joinL (rs.take i)) b))
  have HW0 : Wrt w0 g A c (nextS s r (joinL (rs.take 0))) (nextR r (joinL (rs.take 0))) (n + ((joinL (rs.take 0)).length : Int)) w := by
    rw [List.take_zero, show joinL [] = [] from rfl, nextS_nil s r (by omega), nextR_nil r (by omega), List.length_nil, Int.natCast_zero, Int.add_zero]
    exact hw
  clear hrr hk hkst n1 hw hl hs hri hr
  go_enter Tryd.func27, Tryd.ntmps27
  go_wp2
  go_loopw [8] (fun v wr => ∃ (i : Nat) (A' : Option Addr) (c' : Nat), i ≤ m ∧ v = .int .i64 i ∧ Wrt w0 g A' c' (nextS s r (joinL (rs.take i))) (nextR r (joinL (rs.take i))) (n + ((joinL (rs.take i)).length : Int)) wr) (fun v _ => m - (intOf v).toNat)
  case atStart => exact ⟨0, A, c, by omega, rfl, HW0⟩
  case round =>
    clear HW0
    obtain ⟨i, A', c', hi, rfl, hW⟩ := hrel
    by_cases hlt : i < m
    · obtain ⟨b0, off, hAr, hb0, hcell⟩ := (HR.out.below hW.bel).2.1 (by omega)
      obtain ⟨R, hRi⟩ : ∃ R, rs[i]? = some R := ⟨_, List.getElem?_eq_getElem (by rw [HM.out]; exact hlt)⟩
      have hmem := List.mem_of_getElem? hRi
      have c0 := hcell i R hRi
      obtain ⟨hrd, hcap⟩ := (HR.out.below hW.bel).2.2 R hmem
      obtain ⟨hzl, hzi⟩ := HK.out.2 R hmem
      have hnx := joinL_next rs i R hRi
      have hle := HJ.out (i + 1)
      have hsl := HSL.out i
      have hsi := HSI.out i
      have hrl := HRL.out i
      have hri := HRI.out i
      have hmo := HMO.out i R.zs
      rw [← hnx] at hmo
      have hn1 := HN1.out
      obtain ⟨J, hJ⟩ : ∃ J, joinL (rs.take i) = J := ⟨_, rfl⟩
      obtain ⟨J1, hJ1⟩ : ∃ J, joinL (rs.take (i + 1)) = J := ⟨_, rfl⟩
      rw [hJ] at hnx hsl hsi hrl hri hmo hW
      rw [hJ1] at hnx hle hmo
      obtain ⟨σ, hσ⟩ : ∃ x, nextS s r J = x := ⟨_, rfl⟩
      obtain ⟨ρ, hρ⟩ : ∃ x, nextR r J = x := ⟨_, rfl⟩
      rw [hσ] at hsl hsi hmo hW
      rw [hρ] at hrl hri hmo hW
      obtain ⟨N, hN⟩ : ∃ N, n + (J.length : Int) = N := ⟨_, rfl⟩
      rw [hN] at hW
      obtain ⟨⟨RA, Rn, Rc, Rz⟩, hre⟩ : ∃ X : Row, R = X := ⟨_, rfl⟩
      subst hre
      dsimp only at c0 hrd hcap hzl hzi hnx hmo
      have hrzl := hrd.len
      have hJl : J1.length = J.length + Rn := by rw [hnx, List.length_append, hrzl]
      have HWR := Lib.hid (fun W h1 h2 => qwr_c w0 g A' c' σ ρ Rz N hsl hsi hri (by omega) RA Rn Rc hzi (by omega) (by omega) W h1 h2 hcap (by omega) HKS.out)
      have HRD := Lib.hid hrd
      have HWk := Lib.hid hW
      have HMOk := Lib.hid hmo
      have HNE := Lib.hid (show N + (Rn : Int) = n + ((joinL (rs.take (i + 1))).length : Int) by rw [hJ1]; omega)
      have HJ1 := Lib.hid hJ1
      have q0 : (0 : Int) ≤ (i : Int) ∧ (i : Int) < (m : Int) := by omega
      subst hAr
      clear hrd hW hmo hnx hle hsl hsi hrl hri hσ hρ hN hJ hJ1 hJl hzl hzi hmem hRi hcell hrzl hn1
      go_wp2_with (go_at_call 40; (with_reducible refine (HWR.out _ HWk.out HRD.out).mono ?_); rintro e w1 ⟨rfl, A1, c1, hW1⟩; rw [← HMOk.out.1, ← HMOk.out.2, ← HJ1.out, HNE.out] at hW1; have HW1 := Lib.hid hW1; clear hW1)
      go_roundw
      case rel => exact ⟨i + 1, A1, c1, by omega, by go_num, HW1.out⟩
      case measure => simp [intOf]; omega
    · obtain rfl : i = m := by omega
      rw [List.take_of_length_le (by rw [HM.out]; exact Nat.le_refl _)] at hW
      have HWk := Lib.hid hW
      clear hW
      go_wp2
      go_end0
      exact ⟨rfl, A', c', HWk.out⟩
theorem qfits_c (n : Int) (n0 : 0 ≤ n) (n1 : n < 2305843009213693952) (Ar : Option Addr) (m cr : Nat) (rs : List Row) (w : World) (hrr : RdRows w w.heap.size Ar m rs) (hk : RowsOk rs) :
    Calls Tryd.prog 34 #[.int .u64 n, .slice Ar m cr] w fun e w' => e = .returned (.bool (decide (n + (joinL rs).length < 2305843009213693952))) ∧ w' = w := by
  have HR := Lib.hid hrr
  have hm20 : m ≤ 20 := by rw [← hrr.1]; exact hk.1
  have HM := Lib.hid hrr.1
  have HK := Lib.hid hk
  have HJ := Lib.hid (fun i => joinL_take_le rs i)
  have e0 : IntKind.u64.wrap (2305843009213693951 - n) = 2305843009213693951 - n := by rw [IntKind.wrap_u64]; omega
  clear hrr hk
  go_enter Tryd.func34, Tryd.ntmps34
  go_wp2
  go_loopw [5, 13] (fun l v wr => ∃ (i : Nat), i ≤ m ∧ v = .int .i64 i ∧ l = .int .u64 (2305843009213693951 - n - ((joinL (rs.take i)).length : Int)) ∧ n + ((joinL (rs.take i)).length : Int) < 2305843009213693952 ∧ wr = w) (fun _ v _ => m - (intOf v).toNat)
  case atStart => exact ⟨0, by omega, rfl, by rw [List.take_zero, show joinL [] = [] from rfl, List.length_nil, Int.natCast_zero, Int.sub_zero], by rw [List.take_zero, show joinL [] = [] from rfl, List.length_nil, Int.natCast_zero, Int.add_zero]; exact n1, rfl⟩
  case round =>
    obtain ⟨i, hi, rfl, rfl, hlt2, rfl⟩ := hrel
    by_cases hlt : i < m
    · obtain ⟨b0, off, hAr, hb0, hcell⟩ := HR.out.2.1 (by omega)
      obtain ⟨R, hRi⟩ : ∃ R, rs[i]? = some R := ⟨_, List.getElem?_eq_getElem (by rw [HM.out]; exact hlt)⟩
      have hmem := List.mem_of_getElem? hRi
      have c0 := hcell i R hRi
      obtain ⟨hrd, hcap⟩ := HR.out.2.2 R hmem
      obtain ⟨hzl, hzi⟩ := HK.out.2 R hmem
      have hnx := joinL_next rs i R hRi
      have hle := HJ.out (i + 1)
      obtain ⟨⟨RA, Rn, Rc, Rz⟩, hre⟩ : ∃ X : Row, R = X := ⟨_, rfl⟩
      subst hre
      dsimp only at c0 hrd hcap hzl hzi hnx
      have hrzl := hrd.len
      have hJl : (joinL (rs.take (i + 1))).length = (joinL (rs.take i)).length + Rn := by rw [hnx, List.length_append, hrzl]
      obtain ⟨L, hL⟩ : ∃ L : Int, 2305843009213693951 - n - ((joinL (rs.take i)).length : Int) = L := ⟨_, rfl⟩
      rw [hL]
      have L0 : 0 ≤ L := by omega
      have L1 : L < 2305843009213693952 := by omega
      have e1 : IntKind.u64.wrap (Rn : Int) = Rn := by rw [IntKind.wrap_u64]; omega
      have q0 : (0 : Int) ≤ (i : Int) ∧ (i : Int) < (m : Int) := by omega
      have HLi := Lib.hid hlt2
      subst hAr
      by_cases hfit : L < (Rn : Int)
      · have HF := Lib.hid (show decide (n + ((joinL rs).length : Int) < 2305843009213693952) = false by rw [decide_eq_false_iff_not]; omega)
        clear hrd hzl hzi hnx hle hmem hRi hcell hrzl hJl hL hlt2 e0 HR HJ
        go_wp2
        go_ret
        exact ⟨by rw [HF.out]; rfl, rfl⟩
      · have e2 : IntKind.u64.wrap (L - (Rn : Int)) = L - Rn := by rw [IntKind.wrap_u64]; omega
        have HA := Lib.hid (show L - (Rn : Int) = 2305843009213693951 - n - ((joinL (rs.take (i + 1))).length : Int) by rw [hJl]; omega)
        have HB := Lib.hid (show n + ((joinL (rs.take (i + 1))).length : Int) < 2305843009213693952 by rw [hJl]; omega)
        clear hrd hzl hzi hnx hle hmem hRi hcell hrzl hJl hL hlt2 e0
        go_wp2
        go_roundw
        case rel => exact ⟨i + 1, by omega, by go_num, by rw [HA.out], HB.out, by first | rfl | trivial⟩
        case measure => simp [intOf]; omega
    · obtain rfl : i = m := by omega
      rw [List.take_of_length_le (by rw [HM.out]; exact Nat.le_refl _)] at hlt2 ⊢
      have HF := Lib.hid (decide_eq_true hlt2)
      clear hlt2
      go_wp2
      go_ret
      exact ⟨by rw [HF.out]; rfl, rfl⟩
/-! ### Sum, Write, Finish -/
theorem sha_all (J : List Int) : finL (nextS startL [] J) (nextR [] J) (0 + (J.length : Int)) = shaL J := by
  rw [Int.zero_add]
  exact sha_fin J
set_option maxHeartbeats 1000000 in
theorem qsum_c (A : Option Addr) (n c : Nat) (rs : List Row) (w : World) (hr : RdRows w w.heap.size A n rs) (hnc : n ≤ c) (hk : RowsOk rs) (hkst : Kst w) :
    Calls Tryd.prog 9 #[.slice A n c] w fun e w' => e = .returned (.agg (intsA .u8 (shaL (joinL rs)))) ∧ Below w.heap.size w w' := by
  have hJl := joinL_small rs hk
  have hJi : ∀ z ∈ joinL rs, 0 ≤ z ∧ z < 256 := by
    have := joinL_in rs hk rs.length
    rwa [List.take_length] at this
  have HR := Lib.hid hr
  have HKS := Lib.hid hkst
  have HWA := Lib.hid (fun w0 g A3 c3 h W hw k => qwa_c w0 g A3 c3 startL [] 0 rfl startL_in (by simp) (by simp) (by omega) A n c rs h hk (by omega) W hw k)
  have HHA := Lib.hid (fun w0 g A4 c4 W hw k => qhash_c w0 g A4 c4 (nextS startL [] (joinL rs)) (nextR [] (joinL rs)) (0 + ((joinL rs).length : Int)) (nextS_len _ _ _ rfl) (nextS_in _ _ _ startL_in) (nextR_in _ _ (by simp) hJi) (by omega) (by omega) (by rw [nextR_len, List.length_nil, Nat.zero_add]; omega) W hw k)
  rw [sha_all] at HHA
  have HNW := Lib.hid (fun W => qnew_c W)
  have HBG := Lib.hid (fun W => qbegin_c startL [] rfl none 0 0 0 (by omega) (by omega) W Rd.none_)
  obtain ⟨Z, hZ⟩ : ∃ Z : List Int, List.replicate 32 0 = Z := ⟨_, rfl⟩
  have HZ0 := Lib.hid zero_hash
  rw [hZ] at HZ0
  have hRl := shaL_len (joinL rs)
  obtain ⟨R, hR⟩ : ∃ R, shaL (joinL rs) = R := ⟨_, rfl⟩
  rw [hR] at HHA hRl ⊢
  have SR := Lib.hid (show (Tryd.prog.info? 26).map (·.size) = some R.length by rw [hRl]; exact size_hash)
  have ZR := Lib.hid (show Z.length = R.length by rw [hRl, ← hZ]; simp)
  obtain ⟨σ, hσ⟩ : ∃ x, nextS startL [] (joinL rs) = x := ⟨_, rfl⟩
  obtain ⟨ρ, hρ⟩ : ∃ x, nextR [] (joinL rs) = x := ⟨_, rfl⟩
  obtain ⟨N, hN⟩ : ∃ x : Int, 0 + ((joinL rs).length : Int) = x := ⟨_, rfl⟩
  rw [hσ, hρ, hN] at HWA HHA
  obtain ⟨V, hV⟩ : ∃ V, wrV startL none 0 0 0 = V := ⟨_, rfl⟩
  rw [hV] at HNW HBG
  clear hr hk hkst hJl hJi hZ hR hRl hσ hρ hN hV
  go_enter Tryd.func9, Tryd.ntmps9
  go_wp2_with (first
    | (with_reducible refine at_any ?_; refine at_dst 2 rfl ?_; refine wpList_alloc_ints rfl 26 rfl .u8 Z HZ0.out ?_; intro w1 hk1 hs1 hb1)
    | (go_at_call 20; (with_reducible refine (HNW.out _).mono ?_); rintro e w2 ⟨rfl, hb2⟩; have hk2 := Lib.hid (hk1.out.below hb2 hk1.out.lt); have bl2 := Lib.hid (hb1.trans (hb2.mono hb1.size)))
    | (go_at_call 26; (with_reducible refine (HBG.out _).mono ?_); rintro e w3 ⟨g, A3, c3, rfl, hW3⟩; have HW3 := Lib.hid hW3; clear hW3)
    | (go_at_call 27; (with_reducible refine (HWA.out w2 g A3 c3 ((HR.out.below bl2.out).monoB bl2.out.size) w3 HW3.out (HKS.out.below bl2.out)).mono ?_); rintro e w4 ⟨rfl, A4, c4, hW4⟩; have HW4 := Lib.hid hW4; clear hW4)
    | (go_at_call 28; (with_reducible refine (HHA.out w2 g A4 c4 w4 HW4.out (HKS.out.below bl2.out)).mono ?_); rintro e w5 ⟨rfl, hb5⟩; have hk5 := Lib.hid (hk2.out.below hb5 hk2.out.lt); have bl5 := Lib.hid (bl2.out.trans (hb5.mono bl2.out.size)))
    | (with_reducible refine at_any ?_; refine at_store 2 rfl ?_; refine wpList_store_ints rfl 26 (.tmp 2) (.tmp 10) rfl w.heap.size rfl 26 .u8 Z R hk5.out rfl ZR.out SR.out ?_; intro w9 hk9 hs9 hb9 ho9)
    | (refine bodyPost_cell 2 26 rfl w.heap.size rfl 26 .u8 R hk9.out _ Tryd.underlying26 rfl SR.out rfl ?_))
  exact bl5.out.trans (hb9 _ (Nat.le_refl _))
set_option maxHeartbeats 1000000 in
theorem qwrite_no (s : List Int) (hl : s.length = 8) (A : Option Addr) (r c : Nat) (n : Int) (hr : r ≤ 1000000) (n0 : 0 ≤ n) (n1 : n < 18446744073709551616) (A' : Option Addr) (m c' : Nat) (rs : List Row) (hno : rightB r n = false) (w : World) (hrr : RdRows w w.heap.size A' m rs) (hmc : m ≤ c') (hk : RowsOk rs) :
    Calls Tryd.prog 12 #[.agg (wrV s A r c n), .slice A' m c'] w (RetWE w 1) := by
  have SV := Lib.hid (sizedW s hl A r c n)
  have SZ := Lib.hid (sizedW Z8 rfl none 0 0 0)
  have OZ := Lib.hid (wrV_ones Z8 none 0 0 0)
  have HRC := Lib.hid (fun W => qrightw_c s hl A r c n hr n0 n1 W)
  rw [hno] at HRC
  obtain ⟨V, hV⟩ : ∃ V, wrV s A r c n = V := ⟨_, rfl⟩
  rw [hV] at SV HRC ⊢
  clear hV hno hrr hk
  go_enter Tryd.func12, Tryd.ntmps12
  go_wp2_with (first
    | (with_reducible refine at_any ?_; refine at_dst 2 rfl ?_; refine wpList_box_any rfl 36 (.tmp 0) rfl V rfl ?_; intro w1 hk1 hs1 hb1)
    | (with_reducible refine at_any ?_; refine at_dst 4 rfl ?_; refine wpList_alloc_any rfl 36 rfl (wrV Z8 none 0 0 0) zero_wr ?_; intro w2 hk2 hs2 hb2; have hk1b := Lib.hid (hk1.out.below hb2 hk1.out.lt); have bl2 := Lib.hid (hb1.trans (hb2.mono hb1.size)))
    | (with_reducible refine at_any ?_; refine at_dst 7 rfl ?_; refine wpList_load_blk rfl 36 (.tmp 2) rfl w.heap.size rfl 36 V hk1b.out _ Tryd.underlying36 rfl SV.out ?_)
    | (go_at_call 17; (with_reducible refine (HRC.out _).mono ?_); rintro e w3 ⟨rfl, hb3⟩; have hk3 := Lib.hid (hk2.out.below hb3 hk2.out.lt); have bl3 := Lib.hid (bl2.out.trans (hb3.mono bl2.out.size)))
    | (with_reducible refine at_any ?_; refine at_dst 10 rfl ?_; refine wpList_val rfl (.agg (wrV Z8 none 0 0 0)) (build_zero _ rfl) ?_)
    | (with_reducible refine at_any ?_; refine at_store 4 rfl ?_; refine wpList_store_any rfl 36 (.tmp 4) (.tmp 10) rfl w1.heap.size rfl 36 (wrV Z8 none 0 0 0) (wrV Z8 none 0 0 0) hk3.out rfl rfl SZ.out OZ.out ?_; intro w9 hk9 hs9 hb9 ho9)
    | (refine bodyPost_any2 4 5 36 rfl w1.heap.size rfl (.int .i64 1) rfl 36 (wrV Z8 none 0 0 0) hk9.out _ Tryd.underlying36 rfl SZ.out rfl ?_))
  exact ⟨rfl, bl3.out.trans (hb9 _ hb1.size)⟩
set_option maxHeartbeats 1000000 in
theorem qwrite_big (s : List Int) (hl : s.length = 8) (A : Option Addr) (r c : Nat) (n : Int) (hr : r ≤ 1000000) (n0 : 0 ≤ n) (n1 : n < 18446744073709551616) (A' : Option Addr) (m c' : Nat) (rs : List Row) (hyes : rightB r n = true) (hbig : 2305843009213693952 ≤ n + (joinL rs).length) (w : World) (hrr : RdRows w w.heap.size A' m rs) (hmc : m ≤ c') (hk : RowsOk rs) :
    Calls Tryd.prog 12 #[.agg (wrV s A r c n), .slice A' m c'] w (RetWE w 11) := by
  have hn2 : n < 2305843009213693952 := by unfold rightB at hyes; have := of_decide_eq_true hyes; exact this.1
  have SV := Lib.hid (sizedW s hl A r c n)
  have SZ := Lib.hid (sizedW Z8 rfl none 0 0 0)
  have OZ := Lib.hid (wrV_ones Z8 none 0 0 0)
  have HC9 := Lib.hid (wrV_bytes s hl A r c n)
  have HRC := Lib.hid (fun W => qrightw_c s hl A r c n hr n0 n1 W)
  rw [hyes] at HRC
  have HFT := Lib.hid (fun W h => qfits_c n n0 hn2 A' m c' rs W h hk)
  rw [decide_eq_false (by omega)] at HFT
  have HR := Lib.hid hrr
  obtain ⟨V, hV⟩ : ∃ V, wrV s A r c n = V := ⟨_, rfl⟩
  rw [hV] at SV HRC HC9 ⊢
  clear hV hyes hrr hk hbig
  go_enter Tryd.func12, Tryd.ntmps12
  go_wp2_with (first
    | (with_reducible refine at_any ?_; refine at_dst 2 rfl ?_; refine wpList_box_any rfl 36 (.tmp 0) rfl V rfl ?_; intro w1 hk1 hs1 hb1)
    | (with_reducible refine at_any ?_; refine at_dst 4 rfl ?_; refine wpList_alloc_any rfl 36 rfl (wrV Z8 none 0 0 0) zero_wr ?_; intro w2 hk2 hs2 hb2; have hk1b := Lib.hid (hk1.out.below hb2 hk1.out.lt); have bl2 := Lib.hid (hb1.trans (hb2.mono hb1.size)))
    | (with_reducible refine at_any ?_; refine at_dst 7 rfl ?_; refine wpList_load_blk rfl 36 (.tmp 2) rfl w.heap.size rfl 36 V hk1b.out _ Tryd.underlying36 rfl SV.out ?_)
    | (go_at_call 17; (with_reducible refine (HRC.out _).mono ?_); rintro e w3 ⟨rfl, hb3⟩; have hk3 := Lib.hid (hk2.out.below hb3 hk2.out.lt); have bl3 := Lib.hid (bl2.out.trans (hb3.mono bl2.out.size)); have c9 := (hk1b.out.below hb3 hk1b.out.lt).cell 9; rw [HC9.out] at c9)
    | (go_at_call 34; (with_reducible refine (HFT.out _ ((HR.out.below bl3.out).monoB bl3.out.size)).mono ?_); rintro e _ ⟨rfl, rfl⟩)
    | (with_reducible refine at_any ?_; refine at_dst 16 rfl ?_; refine wpList_val rfl (.agg (wrV Z8 none 0 0 0)) (build_zero _ rfl) ?_)
    | (with_reducible refine at_any ?_; refine at_store 4 rfl ?_; refine wpList_store_any rfl 36 (.tmp 4) (.tmp 16) rfl w1.heap.size rfl 36 (wrV Z8 none 0 0 0) (wrV Z8 none 0 0 0) hk3.out rfl rfl SZ.out OZ.out ?_; intro w9 hk9 hs9 hb9 ho9)
    | (refine bodyPost_any2 4 5 36 rfl w1.heap.size rfl (.int .i64 11) rfl 36 (wrV Z8 none 0 0 0) hk9.out _ Tryd.underlying36 rfl SZ.out rfl ?_))
  exact ⟨rfl, bl3.out.trans (hb9 _ hb1.size)⟩
set_option maxHeartbeats 2000000 in
theorem qwrite_c (s rest : List Int) (hl : s.length = 8) (hs : WIn s) (A : Option Addr) (r c : Nat) (n : Int) (hr : r ≤ 63) (hrc : r ≤ c) (n0 : 0 ≤ n) (A' : Option Addr) (m c' : Nat) (rs : List Row) (hyes : rightB r n = true) (hbig : n + (joinL rs).length < 2305843009213693952) (w : World)
    (hrd : Rd .u8 w w.heap.size A r rest) (hri : ∀ z ∈ rest, 0 ≤ z ∧ z < 256) (hrr : RdRows w w.heap.size A' m rs) (hmc : m ≤ c') (hk : RowsOk rs) (hkst : Kst w) :
    Calls Tryd.prog 12 #[.agg (wrV s A r c n), .slice A' m c'] w (RetW w (nextS s rest (joinL rs)) (nextR rest (joinL rs)) (n + (joinL rs).length)) := by
  have hn2 : n < 2305843009213693952 := by unfold rightB at hyes; have := of_decide_eq_true hyes; exact this.1
  have hrl := hrd.len
  have SV := Lib.hid (sizedW s hl A r c n)
  have HC9 := Lib.hid (wrV_bytes s hl A r c n)
  have HRC := Lib.hid (fun W => qrightw_c s hl A r c n (by omega) n0 (by omega) W)
  rw [hyes] at HRC
  have HFT := Lib.hid (fun W h => qfits_c n n0 hn2 A' m c' rs W h hk)
  rw [decide_eq_true hbig] at HFT
  have HBG := Lib.hid (fun W h => qbegin_c s rest hl A r c n (by omega) hrc W h)
  have HWA := Lib.hid (fun w0 g A3 c3 h W hw k => qwa_c w0 g A3 c3 s rest n hl hs hri (by omega) n0 A' m c' rs h hk hbig W hw k)
  have hsl := nextS_len s rest (joinL rs) hl
  obtain ⟨σ, hσ⟩ : ∃ x, nextS s rest (joinL rs) = x := ⟨_, rfl⟩
  obtain ⟨ρ, hρ⟩ : ∃ x, nextR rest (joinL rs) = x := ⟨_, rfl⟩
  obtain ⟨N, hN⟩ : ∃ x : Int, n + ((joinL rs).length : Int) = x := ⟨_, rfl⟩
  rw [hσ, hρ, hN] at HWA ⊢
  rw [hσ] at hsl
  have SX := Lib.hid (fun A4 c4 => sizedW σ hsl A4 ρ.length c4 N)
  have OX := Lib.hid (fun A4 c4 => wrV_ones σ A4 ρ.length c4 N)
  have ZX := Lib.hid (fun A4 c4 => (show (wrV Z8 none 0 0 0).size = (wrV σ A4 ρ.length c4 N).size by rw [wrV_size _ rfl, wrV_size _ hsl]))
  have HR := Lib.hid hrr
  have HRD := Lib.hid hrd
  have HKS := Lib.hid hkst
  obtain ⟨V, hV⟩ : ∃ V, wrV s A r c n = V := ⟨_, rfl⟩
  rw [hV] at SV HRC HC9 HBG ⊢
  clear hV hyes hrr hk hbig hσ hρ hN hsl hrd hkst hri hs hl
  go_enter Tryd.func12, Tryd.ntmps12
  go_wp2_with (first
    | (with_reducible refine at_any ?_; refine at_dst 2 rfl ?_; refine wpList_box_any rfl 36 (.tmp 0) rfl V rfl ?_; intro w1 hk1 hs1 hb1)
    | (with_reducible refine at_any ?_; refine at_dst 4 rfl ?_; refine wpList_alloc_any rfl 36 rfl (wrV Z8 none 0 0 0) zero_wr ?_; intro w2 hk2 hs2 hb2; have hk1b := Lib.hid (hk1.out.below hb2 hk1.out.lt); have bl2 := Lib.hid (hb1.trans (hb2.mono hb1.size)))
    | (with_reducible refine at_any ?_; refine at_dst 7 rfl ?_; refine wpList_load_blk rfl 36 (.tmp 2) rfl w.heap.size rfl 36 V hk1b.out _ Tryd.underlying36 rfl SV.out ?_)
    | (go_at_call 17; (with_reducible refine (HRC.out _).mono ?_); rintro e w3 ⟨rfl, hb3⟩; have hk3 := Lib.hid (hk2.out.below hb3 hk2.out.lt); have hk1c := Lib.hid (hk1b.out.below hb3 hk1b.out.lt); have bl3 := Lib.hid (bl2.out.trans (hb3.mono bl2.out.size)); have c9 := hk1c.out.cell 9; rw [HC9.out] at c9)
    | (go_at_call 34; (with_reducible refine (HFT.out _ ((HR.out.below bl3.out).monoB bl3.out.size)).mono ?_); rintro e w3 ⟨rfl, rfl⟩)
    | (with_reducible refine at_any ?_; refine at_dst 17 rfl ?_; refine wpList_load_blk rfl 36 (.tmp 2) rfl w.heap.size rfl 36 V hk1c.out _ Tryd.underlying36 rfl SV.out ?_)
    | (go_at_call 26; (with_reducible refine (HBG.out w3 ((HRD.out.below bl3.out).mono bl3.out.size)).mono ?_); rintro e w4 ⟨g, A4, c4, rfl, hW4⟩; have HW4 := Lib.hid hW4; clear hW4)
    | (go_at_call 27; (with_reducible refine (HWA.out w3 g A4 c4 ((HR.out.below bl3.out).monoB bl3.out.size) w4 HW4.out (HKS.out.below bl3.out)).mono ?_); rintro e w5 ⟨rfl, A5, c5, hW5⟩; have HW5 := Lib.hid hW5; have hk5 := Lib.hid (hk3.out.below hW5.bel hk3.out.lt); have bl5 := Lib.hid (bl3.out.trans (hW5.bel.mono bl3.out.size)); clear hW5)
    | (with_reducible refine at_any ?_; refine at_dst 25 rfl ?_; refine wpList_load_blk rfl 36 (.tmp 24) rfl g rfl 66 (wrV σ A5 ρ.length c5 N) HW5.out.blk _ Tryd.underlying36 rfl (SX.out _ _) ?_)
    | (with_reducible refine at_any ?_; refine at_store 4 rfl ?_; refine wpList_store_any rfl 36 (.tmp 4) (.tmp 25) rfl w1.heap.size rfl 36 (wrV Z8 none 0 0 0) (wrV σ A5 ρ.length c5 N) hk5.out rfl (ZX.out _ _) (SX.out _ _) (OX.out _ _) ?_; intro w9 hk9 hs9 hb9 ho9)
    | (refine bodyPost_any2 4 5 36 rfl w1.heap.size rfl (.int .i64 0) rfl 36 (wrV σ A5 ρ.length c5 N) hk9.out _ Tryd.underlying36 rfl (SX.out _ _) rfl ?_))
  exact ⟨A5, c5, rfl, (HW5.out.rd.other ho9 (HW5.out.rd.apart hk5.out)).fit, HW5.out.cap, bl5.out.trans (hb9 _ hb1.size)⟩
set_option maxHeartbeats 1000000 in
theorem qfin_no (s : List Int) (hl : s.length = 8) (A : Option Addr) (r c : Nat) (n : Int) (hr : r ≤ 1000000) (n0 : 0 ≤ n) (n1 : n < 18446744073709551616) (hno : rightB r n = false) (w : World) :
    Calls Tryd.prog 14 #[.agg (wrV s A r c n)] w fun e w' => e = .returned (.tuple #[.agg (intsA .u8 (List.replicate 32 0)), .int .i64 1]) ∧ Below w.heap.size w w' := by
  have SV := Lib.hid (sizedW s hl A r c n)
  have HRC := Lib.hid (fun W => qrightw_c s hl A r c n hr n0 n1 W)
  rw [hno] at HRC
  have SZ := Lib.hid (hash_size (List.replicate 32 0) (by simp))
  obtain ⟨V, hV⟩ : ∃ V, wrV s A r c n = V := ⟨_, rfl⟩
  obtain ⟨Z, hZ⟩ : ∃ Z : List Int, List.replicate 32 0 = Z := ⟨_, rfl⟩
  have HZ0 := Lib.hid zero_hash
  have HB0 := Lib.hid (fun (a : Act) (o : Oper) W => build_hash (a := a) (o := o) W)
  have LZ := Lib.hid (show (Tryd.prog.info? 26).map (·.size) = some Z.length by rw [← hZ, List.length_replicate]; exact size_hash)
  rw [hV] at SV HRC ⊢
  rw [hZ] at SZ HZ0 HB0 ⊢
  clear hV hno hZ
  go_enter Tryd.func14, Tryd.ntmps14
  go_wp2_with (first
    | (with_reducible refine at_any ?_; refine at_dst 1 rfl ?_; refine wpList_box_any rfl 36 (.tmp 0) rfl V rfl ?_; intro w1 hk1 hs1 hb1)
    | (with_reducible refine at_any ?_; refine at_dst 2 rfl ?_; refine wpList_alloc_ints rfl 26 rfl .u8 Z HZ0.out ?_; intro w2 hk2 hs2 hb2; have hk1b := Lib.hid (hk1.out.below hb2 hk1.out.lt); have bl2 := Lib.hid (hb1.trans (hb2.mono hb1.size)))
    | (with_reducible refine at_any ?_; refine at_dst 4 rfl ?_; refine wpList_load_blk rfl 36 (.tmp 1) rfl w.heap.size rfl 36 V hk1b.out _ Tryd.underlying36 rfl SV.out ?_)
    | (go_at_call 17; (with_reducible refine (HRC.out _).mono ?_); rintro e w3 ⟨rfl, hb3⟩; have hk3 := Lib.hid (hk2.out.below hb3 hk2.out.lt); have bl3 := Lib.hid (bl2.out.trans (hb3.mono bl2.out.size)))
    | (with_reducible refine at_any ?_; refine at_dst 7 rfl ?_; refine wpList_val rfl (.agg (intsA .u8 Z)) (HB0.out _ _ _ rfl) ?_)
    | (with_reducible refine at_any ?_; refine at_store 2 rfl ?_; refine wpList_store_ints rfl 26 (.tmp 2) (.tmp 7) rfl w1.heap.size rfl 26 .u8 Z Z hk3.out rfl rfl LZ.out ?_; intro w9 hk9 hs9 hb9 ho9)
    | (refine bodyPost_any2 2 3 26 rfl w1.heap.size rfl (.int .i64 1) rfl 26 (intsA .u8 Z) hk9.out.blk _ Tryd.underlying26 rfl SZ.out rfl ?_))
  exact bl3.out.trans (hb9 _ hb1.size)
set_option maxHeartbeats 1000000 in
theorem qfin_c (s rest : List Int) (hl : s.length = 8) (hs : WIn s) (A : Option Addr) (r c : Nat) (n : Int) (hr : r ≤ 63) (hrc : r ≤ c) (n0 : 0 ≤ n) (hyes : rightB r n = true) (w : World)
    (hrd : Rd .u8 w w.heap.size A r rest) (hri : ∀ z ∈ rest, 0 ≤ z ∧ z < 256) (hkst : Kst w) :
    Calls Tryd.prog 14 #[.agg (wrV s A r c n)] w fun e w' => e = .returned (.tuple #[.agg (intsA .u8 (finL s rest n)), .int .i64 0]) ∧ Below w.heap.size w w' := by
  obtain ⟨n2, hn⟩ : n < 2305843009213693952 ∧ (r : Int) = n % 64 := by unfold rightB at hyes; exact of_decide_eq_true hyes
  have hrl := hrd.len
  have SV := Lib.hid (sizedW s hl A r c n)
  have HRC := Lib.hid (fun W => qrightw_c s hl A r c n (by omega) n0 (by omega) W)
  rw [hyes] at HRC
  have HBG := Lib.hid (fun W h => qbegin_c s rest hl A r c n (by omega) hrc W h)
  have HHA := Lib.hid (fun w0 g A4 c4 W hw k => qhash_c w0 g A4 c4 s rest n hl hs hri n0 n2 (by rw [hrl]; exact hn) W hw k)
  have hRl : (finL s rest n).length = 32 := hashL_len _
  obtain ⟨R, hR⟩ : ∃ R, finL s rest n = R := ⟨_, rfl⟩
  rw [hR] at HHA hRl ⊢
  obtain ⟨Z, hZ⟩ : ∃ Z : List Int, List.replicate 32 0 = Z := ⟨_, rfl⟩
  have HZ0 := Lib.hid zero_hash
  rw [hZ] at HZ0
  have SR := Lib.hid (show (Tryd.prog.info? 26).map (·.size) = some R.length by rw [hRl]; exact size_hash)
  have SRI := Lib.hid (hash_size R hRl)
  have ZR := Lib.hid (show Z.length = R.length by rw [hRl, ← hZ]; simp)
  have HRD := Lib.hid hrd
  have HKS := Lib.hid hkst
  obtain ⟨V, hV⟩ : ∃ V, wrV s A r c n = V := ⟨_, rfl⟩
  rw [hV] at SV HRC HBG ⊢
  clear hV hyes hn hrl hR hRl hZ hrd hkst hri hs hl
  go_enter Tryd.func14, Tryd.ntmps14
  go_wp2_with (first
    | (with_reducible refine at_any ?_; refine at_dst 1 rfl ?_; refine wpList_box_any rfl 36 (.tmp 0) rfl V rfl ?_; intro w1 hk1 hs1 hb1)
    | (with_reducible refine at_any ?_; refine at_dst 2 rfl ?_; refine wpList_alloc_ints rfl 26 rfl .u8 Z HZ0.out ?_; intro w2 hk2 hs2 hb2; have hk1b := Lib.hid (hk1.out.below hb2 hk1.out.lt); have bl2 := Lib.hid (hb1.trans (hb2.mono hb1.size)))
    | (with_reducible refine at_any ?_; refine at_dst 4 rfl ?_; refine wpList_load_blk rfl 36 (.tmp 1) rfl w.heap.size rfl 36 V hk1b.out _ Tryd.underlying36 rfl SV.out ?_)
    | (go_at_call 17; (with_reducible refine (HRC.out _).mono ?_); rintro e w3 ⟨rfl, hb3⟩; have hk3 := Lib.hid (hk2.out.below hb3 hk2.out.lt); have hk1c := Lib.hid (hk1b.out.below hb3 hk1b.out.lt); have bl3 := Lib.hid (bl2.out.trans (hb3.mono bl2.out.size)))
    | (with_reducible refine at_any ?_; refine at_dst 8 rfl ?_; refine wpList_load_blk rfl 36 (.tmp 1) rfl w.heap.size rfl 36 V hk1c.out _ Tryd.underlying36 rfl SV.out ?_)
    | (go_at_call 26; (with_reducible refine (HBG.out w3 ((HRD.out.below bl3.out).mono bl3.out.size)).mono ?_); rintro e w4 ⟨g, A4, c4, rfl, hW4⟩; have HW4 := Lib.hid hW4; clear hW4)
    | (go_at_call 28; (with_reducible refine (HHA.out w3 g A4 c4 w4 HW4.out (HKS.out.below bl3.out)).mono ?_); rintro e w5 ⟨rfl, hb5⟩; have hk5 := Lib.hid (hk3.out.below hb5 hk3.out.lt); have bl5 := Lib.hid (bl3.out.trans (hb5.mono bl3.out.size)))
    | (with_reducible refine at_any ?_; refine at_store 2 rfl ?_; refine wpList_store_ints rfl 26 (.tmp 2) (.tmp 10) rfl w1.heap.size rfl 26 .u8 Z R hk5.out rfl ZR.out SR.out ?_; intro w9 hk9 hs9 hb9 ho9)
    | (refine bodyPost_any2 2 3 26 rfl w1.heap.size rfl (.int .i64 0) rfl 26 (intsA .u8 R) hk9.out.blk _ Tryd.underlying26 rfl SRI.out rfl ?_))
  exact bl5.out.trans (hb9 _ hb1.size)
end Go.Proofs.YtjdceadglfnnbaaDoor
