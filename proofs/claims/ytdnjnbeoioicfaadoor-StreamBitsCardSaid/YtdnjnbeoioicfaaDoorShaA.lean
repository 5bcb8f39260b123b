/-
  What the program's package sha returns (Sum, Write, Finish), and that it leaves memory as it was.
  Conditions: the arguments lie in their types' ranges; what is hashed is small; the table of constants holds what the program's text lays.
-/
import Derived.Test.YtdnjnbeoioicfaaDoorShaW
import Derived.Test.YtdnjnbeoioicfaaDoorShaB
set_option linter.unusedSimpArgs false
namespace Go.Proofs.YtdnjnbeoioicfaaDoor
open Go.ChangeShapes Go.WideShapes Go.ChangeAt Go.RowKit
set_option linter.unusedVariables false
/-- Rows that are small, and of bytes. -/
def RowsOk (rs : List Row) : Prop := rs.length ≤ 20 ∧ ∀ r ∈ rs, r.zs.length ≤ 1000 ∧ ∀ z ∈ r.zs, 0 ≤ z ∧ z < 256
theorem joinL_in (rs : List Row) (h : RowsOk rs) (i : Nat) : ∀ z ∈ joinL (rs.take i), 0 ≤ z ∧ z < 256 := by
  intro z hz
  unfold joinL at hz
  obtain ⟨l, hl, hzl⟩ := List.mem_flatten.1 hz
  obtain ⟨r, hr, rfl⟩ := List.mem_map.1 hl
  exact (h.2 r (List.mem_of_mem_take hr)).2 z hzl
theorem joinL_take_le (rs : List Row) (i : Nat) : (joinL (rs.take i)).length ≤ (joinL rs).length := by
  have h : joinL rs = joinL (rs.take i) ++ joinL (rs.drop i) := by
    unfold joinL
    rw [← List.flatten_append, ← List.map_append, List.take_append_drop]
  rw [h, List.length_append]
  omega
theorem joinL_small (rs : List Row) (h : RowsOk rs) : (joinL rs).length ≤ 20000 := by
  have h1 := joinL_len rs 1000 fun r hr => (h.2 r hr).1
  have h2 := h.1
  omega
set_option maxHeartbeats 2000000 in
theorem qwa_c (w0 : World) (g : Nat) (A : Option Addr) (c : Nat) (s r : List Int) (n : Int) (hl : s.length = 8) (hs : WIn s) (hri : ∀ z ∈ r, 0 ≤ z ∧ z < 256) (hr : r.length ≤ 63) (n0 : 0 ≤ n) (Ar : Option Addr) (m cr : Nat) (rs : List Row) (hrr : RdRows w0 w0.heap.size Ar m rs) (hk : RowsOk rs)
    (n1 : n + (joinL rs).length < 2305843009213693952) (w : World) (hw : Wrt w0 g A c s r n w) (hkst : Kst w0) :
    Calls Tryd.prog 30 #[.pointer (some ⟨g, 0, none⟩), .slice Ar m cr] w (RetN w0 g (nextS s r (joinL rs)) (nextR r (joinL rs)) (n + (joinL rs).length)) := by
  have HR := Lib.hid hrr
  have hm20 : m ≤ 20 := by rw [← hrr.1]; exact hk.1
  have HM := Lib.hid hrr.1
  have HK := Lib.hid hk
  have HKS := Lib.hid hkst
  have HJ := Lib.hid (fun i => joinL_take_le rs i)
  have HJI := Lib.hid (fun i => joinL_in rs hk i)
  have HN1 := Lib.hid n1
  have HSL := Lib.hid (fun i => nextS_len s r (joinL (rs.take i)) hl)
  have HSI := Lib.hid (fun i => nextS_in s r (joinL (rs.take i)) hs)
  have HRL := Lib.hid (fun i => nextR_len r (joinL (rs.take i)))
  have HRI := Lib.hid (fun i => nextR_in r (joinL (rs.take i)) hri (joinL_in rs hk i))
  have HMO := Lib.hid (fun i b => And.intro (nextS_more s r (joinL (rs.take i)) b) (nextR_more r (joinL (rs.take i)) b))
  have HW0 : Wrt w0 g A c (nextS s r (joinL (rs.take 0))) (nextR r (joinL (rs.take 0))) (n + ((joinL (rs.take 0)).length : Int)) w := by
    rw [List.take_zero, show joinL [] = [] from rfl, nextS_nil s r (by omega), nextR_nil r (by omega), List.length_nil, Int.natCast_zero, Int.add_zero]
    exact hw
  clear hrr hk hkst n1 hw hl hs hri hr
  go_enter Tryd.func30, Tryd.ntmps30
  go_wp2
  go_loopw [8] (fun v wr => ∃ (i : Nat) (A' : Option Addr) (c' : Nat), i ≤ m ∧ v = .int .i64 i ∧ Wrt w0 g A' c' (nextS s r (joinL (rs.take i))) (nextR r (joinL (rs.take i))) (n + ((joinL (rs.take i)).length : Int)) wr) (fun v _ => m - (intOf v).toNat)
  case atStart => exact ⟨0, A, c, by omega, rfl, HW0⟩
  case round =>
    clear HW0
    obtain ⟨i, A', c', hi, rfl, hW⟩ := hrel
    by_cases hlt : i < m
    · obtain ⟨b0, off, hAr, hb0, hcell⟩ := (HR.out.below hW.bel).2.1 (by omega)
      obtain ⟨R, hRi⟩ : ∃ R, rs[i]? = some R := ⟨_, List.getElem?_eq_getElem (by rw [HM.out]; exact hlt)⟩
      have hmem := List.mem_of_getElem? hRi
      have c0 := hcell i R hRi
      obtain ⟨hrd, hcap⟩ := (HR.out.below hW.bel).2.2 R hmem
      obtain ⟨hzl, hzi⟩ := HK.out.2 R hmem
      have hnx := joinL_next rs i R hRi
      have hle := HJ.out (i + 1)
      have hsl := HSL.out i
      have hsi := HSI.out i
      have hrl := HRL.out i
      have hri := HRI.out i
      have hmo := HMO.out i R.zs
      rw [← hnx] at hmo
      have hn1 := HN1.out
      obtain ⟨J, hJ⟩ : ∃ J, joinL (rs.take i) = J := ⟨_, rfl⟩
      obtain ⟨J1, hJ1⟩ : ∃ J, joinL (rs.take (i + 1)) = J := ⟨_, rfl⟩
      rw [hJ] at hnx hsl hsi hrl hri hmo hW
      rw [hJ1] at hnx hle hmo
      obtain ⟨σ, hσ⟩ : ∃ x, nextS s r J = x := ⟨_, rfl⟩
      obtain ⟨ρ, hρ⟩ : ∃ x, nextR r J = x := ⟨_, rfl⟩
      rw [hσ] at hsl hsi hmo hW
      rw [hρ] at hrl hri hmo hW
      obtain ⟨N, hN⟩ : ∃ N, n + (J.length : Int) = N := ⟨_, rfl⟩
      rw [hN] at hW
      obtain ⟨⟨RA, Rn, Rc, Rz⟩, hre⟩ : ∃ X : Row, R = X := ⟨_, rfl⟩
      subst hre
      dsimp only at c0 hrd hcap hzl hzi hnx hmo
      have hrzl := hrd.len
      have hJl : J1.length = J.length + Rn := by rw [hnx, List.length_append, hrzl]
      have HWR := Lib.hid (fun W h1 h2 => qwr_c w0 g A' c' σ ρ Rz N hsl hsi hri (by omega) RA Rn Rc hzi (by omega) (by omega) W h1 h2 hcap (by omega) HKS.out)
      have HRD := Lib.hid hrd
      have HWk := Lib.hid hW
      have HMOk := Lib.hid hmo
      have HNE := Lib.hid (show N + (Rn : Int) = n + ((joinL (rs.take (i + 1))).length : Int) by rw [hJ1]; omega)
      have HJ1 := Lib.hid hJ1
      have q0 : (0 : Int) ≤ (i : Int) ∧ (i : Int) < (m : Int) := by omega
      subst hAr
      clear hrd hW hmo hnx hle hsl hsi hrl hri hσ hρ hN hJ hJ1 hJl hzl hzi hmem hRi hcell hrzl hn1
      go_wp2_with (go_at_call 36; (with_reducible refine (HWR.out _ HWk.out HRD.out).mono ?_); rintro e w1 ⟨rfl, A1, c1, hW1⟩; rw [← HMOk.out.1, ← HMOk.out.2, ← HJ1.out, HNE.out] at hW1; have HW1 := Lib.hid hW1; clear hW1)
      go_roundw
      case rel => exact ⟨i + 1, A1, c1, by omega, by go_num, HW1.out⟩
      case measure => simp [intOf]; omega
    · obtain rfl : i = m := by omega
      rw [List.take_of_length_le (by rw [HM.out]; exact Nat.le_refl _)] at hW
      have HWk := Lib.hid hW
      clear hW
      go_wp2
      go_end0
      exact ⟨rfl, A', c', HWk.out⟩
/-! ### Sum, Write, Finish -/
theorem sha_all (J : List Int) : finL (nextS startL [] J) (nextR [] J) (0 + (J.length : Int)) = shaL J := by
  rw [Int.zero_add]
  exact sha_fin J
set_option maxHeartbeats 1000000 in
theorem qsum_c (A : Option Addr) (n c : Nat) (rs : List Row) (w : World) (hr : RdRows w w.heap.size A n rs) (hnc : n ≤ c) (hk : RowsOk rs) (hkst : Kst w) :
    Calls Tryd.prog 20 #[.slice A n c] w fun e w' => e = .returned (.agg (intsA .u8 (shaL (joinL rs)))) ∧ Below w.heap.size w w' := by
  have hJl := joinL_small rs hk
  have hJi : ∀ z ∈ joinL rs, 0 ≤ z ∧ z < 256 := by
    have := joinL_in rs hk rs.length
    rwa [List.take_length] at this
  have HR := Lib.hid hr
  have HKS := Lib.hid hkst
  have HWA := Lib.hid (fun w0 g A3 c3 h W hw k => qwa_c w0 g A3 c3 startL [] 0 rfl startL_in (by simp) (by simp) (by omega) A n c rs h hk (by omega) W hw k)
  have HHA := Lib.hid (fun w0 g A4 c4 W hw k => qhash_c w0 g A4 c4 (nextS startL [] (joinL rs)) (nextR [] (joinL rs)) (0 + ((joinL rs).length : Int)) (nextS_len _ _ _ rfl) (nextS_in _ _ _ startL_in) (nextR_in _ _ (by simp) hJi) (by omega) (by omega) (by rw [nextR_len, List.length_nil, Nat.zero_add]; omega) W hw k)
  rw [sha_all] at HHA
  have HNW := Lib.hid (fun W => qnew_c W)
  have HBG := Lib.hid (fun W => qbegin_c startL [] rfl none 0 0 0 (by omega) (by omega) W Rd.none_)
  obtain ⟨Z, hZ⟩ : ∃ Z : List Int, List.replicate 32 0 = Z := ⟨_, rfl⟩
  have HZ0 := Lib.hid zero_hash
  rw [hZ] at HZ0
  have hRl := shaL_len (joinL rs)
  obtain ⟨R, hR⟩ : ∃ R, shaL (joinL rs) = R := ⟨_, rfl⟩
  rw [hR] at HHA hRl ⊢
  have SR := Lib.hid (show (Tryd.prog.info? 23).map (·.size) = some R.length by rw [hRl]; exact size_hash)
  have ZR := Lib.hid (show Z.length = R.length by rw [hRl, ← hZ]; simp)
  obtain ⟨σ, hσ⟩ : ∃ x, nextS startL [] (joinL rs) = x := ⟨_, rfl⟩
  obtain ⟨ρ, hρ⟩ : ∃ x, nextR [] (joinL rs) = x := ⟨_, rfl⟩
  obtain ⟨N, hN⟩ : ∃ x : Int, 0 + ((joinL rs).length : Int) = x := ⟨_, rfl⟩
  rw [hσ, hρ, hN] at HWA HHA
  obtain ⟨V, hV⟩ : ∃ V, wrV startL none 0 0 0 = V := ⟨_, rfl⟩
  rw [hV] at HNW HBG
  clear hr hk hkst hJl hJi hZ hR hRl hσ hρ hN hV
  go_enter Tryd.func20, Tryd.ntmps20
  go_wp2_with (first
    | (with_reducible refine at_any ?_; refine at_dst 2 rfl ?_; refine wpList_alloc_ints rfl 23 rfl .u8 Z HZ0.out ?_; intro w1 hk1 hs1 hb1)
    | (go_at_call 29; (with_reducible refine (HNW.out _).mono ?_); rintro e w2 ⟨rfl, hb2⟩; have hk2 := Lib.hid (hk1.out.below hb2 hk1.out.lt); have bl2 := Lib.hid (hb1.trans (hb2.mono hb1.size)))
    | (go_at_call 28; (with_reducible refine (HBG.out _).mono ?_); rintro e w3 ⟨g, A3, c3, rfl, hW3⟩; have HW3 := Lib.hid hW3; clear hW3)
    | (go_at_call 30; (with_reducible refine (HWA.out w2 g A3 c3 ((HR.out.below bl2.out).monoB bl2.out.size) w3 HW3.out (HKS.out.below bl2.out)).mono ?_); rintro e w4 ⟨rfl, A4, c4, hW4⟩; have HW4 := Lib.hid hW4; clear hW4)
    | (go_at_call 31; (with_reducible refine (HHA.out w2 g A4 c4 w4 HW4.out (HKS.out.below bl2.out)).mono ?_); rintro e w5 ⟨rfl, hb5⟩; have hk5 := Lib.hid (hk2.out.below hb5 hk2.out.lt); have bl5 := Lib.hid (bl2.out.trans (hb5.mono bl2.out.size)))
    | (with_reducible refine at_any ?_; refine at_store 2 rfl ?_; refine wpList_store_ints rfl 23 (.tmp 2) (.tmp 10) rfl w.heap.size rfl 23 .u8 Z R hk5.out rfl ZR.out SR.out ?_; intro w9 hk9 hs9 hb9 ho9)
    | (refine bodyPost_cell 2 23 rfl w.heap.size rfl 23 .u8 R hk9.out _ Tryd.underlying23 rfl SR.out rfl ?_))
  exact bl5.out.trans (hb9 _ (Nat.le_refl _))
end Go.Proofs.YtdnjnbeoioicfaaDoor
