/-
  What any writer makes of any bytes, and its hash, are the document's, or refused, for their reason; of up to 20 pieces of 500 bytes.
  Conditions: the program's table of constants reads, when the call begins, as its text lays it (the card ties that).
-/
import Derived.Test.YtjdceadglfnnbaaDoorLawH
import Derived.Test.YtjdceadglfnnbaaDoorLawG
import Derived.Test.YtjdceadglfnnbaaDoorFact
import Derived.Deep.Cut
import Derived.ShutString
import Derived.Test.YtjdceadglfnnbaaDoorCompK
import Derived.Test.YtjdceadglfnnbaaDoorTie
import Derived.Test.YtjdceadglfnnbaaDoorCards
import Derived.SevenTiedAt
import Derived.ChangeOld
set_option linter.unusedSimpArgs false
namespace Go.Proofs.YtjdceadglfnnbaaDoor.shaWrites
open Go.ChangeShapes Go.WideShapes Go.ChangeAt Go.RowKit
set_option linter.unusedVariables false

theorem own : ownKnob Tryd.prog.godebug = none := by kernel_rfl
theorem laidOut : laidOutB Tryd.prog = true := by kernel_rfl

/-- A writer of this state and rest, that has taken N bytes; or the empty one, and the error's number. -/
def RetX (w : World) (S R : List Int) (N k : Int) (e : Ending) (w' : World) : Prop :=
  ∃ A c, e = .returned (.tuple #[.agg (wrV S A R.length c N), .int .i64 k]) ∧ Rd .u8 w' w'.heap.size A R.length R ∧ R.length ≤ c ∧ Below w.heap.size w w'
theorem RetX.of_no {w w' : World} {k : Int} {e : Ending} (h : RetWE w k e w') : RetX w Z8 [] 0 k e w' := by
  obtain ⟨rfl, hb⟩ := h
  exact ⟨none, 0, rfl, Rd.none_, Nat.le_refl _, hb⟩
theorem nextR_ok (r b : List Int) (hr : ∀ z ∈ r, 0 ≤ z ∧ z < 256) (hb : ∀ z ∈ b, 0 ≤ z ∧ z < 256) : (nextR r b).length ≤ 63 ∧ ∀ z ∈ nextR r b, 0 ≤ z ∧ z < 256 := by
  refine ⟨by unfold nextR; rw [List.length_drop]; omega, fun z hz => ?_⟩
  have h1 := List.mem_of_mem_drop hz
  rcases List.mem_append.1 h1 with h | h
  · exact hr z h
  · exact hb z h
/-- Both Writes, whatever comes: one answer. -/
theorem writes_x (s rest : List Int) (hl : s.length = 8) (hs : WIn s) (A : Option Addr) (r c : Nat) (n : Int) (hrc : r ≤ c) (hr : r ≤ 200) (hlr : rest.length = r) (n0 : 0 ≤ n) (n1 : n < 18446744073709551616) (hri : ∀ z ∈ rest, 0 ≤ z ∧ z < 256)
    (A' : Option Addr) (m c' : Nat) (rs : List Row) (hmc : m ≤ c') (hk : RowsOk rs) (hj : (joinL rs).length ≤ 10000) :
    ∃ (S R : List Int) (N k : Int), S.length = 8 ∧ R.length ≤ 63 ∧ (∀ z ∈ R, 0 ≤ z ∧ z < 256) ∧
      (∀ W, Rd .u8 W W.heap.size A r rest → RdRows W W.heap.size A' m rs → Kst W → Calls Tryd.prog 12 #[.agg (wrV s A r c n), .slice A' m c'] W (RetX W S R N k)) ∧
      (∀ W A2 c2, Rd .u8 W W.heap.size A r rest → Rd .u8 W W.heap.size A2 (joinL rs).length (joinL rs) → Calls Tryd.prog 13 #[.agg (wrV s A r c n), .slice A2 (joinL rs).length c2] W (RetX W S R N k)) := by
  by_cases hyes : rightB r n = true
  · have hn : n < 2305843009213693952 ∧ (r : Int) = n % 64 := by unfold rightB at hyes; exact of_decide_eq_true hyes
    by_cases hbig : 2305843009213693952 ≤ n + (joinL rs).length
    · exact ⟨Z8, [], 0, 11, rfl, by simp, (fun _ h => by cases h), fun W h1 h2 _ => (qwrite_big s hl A r c n (by omega) n0 n1 A' m c' rs hyes hbig W h2 hmc hk).mono fun _ _ => RetX.of_no, fun W A2 c2 h1 h2 => (rwrite_big s hl A r c n (by omega) n0 n1 A2 _ c2 (by omega) hyes hbig W).mono fun _ _ => RetX.of_no⟩
    · obtain ⟨p1, p2⟩ := nextR_ok rest (joinL rs) hri (join_in hk)
      exact ⟨nextS s rest (joinL rs), nextR rest (joinL rs), n + (joinL rs).length, 0, takesL_len _ _ hl, p1, p2, fun W h1 h2 h3 => qwrite_c s rest hl hs A r c n (by omega) hrc n0 A' m c' rs hyes (by omega) W h1 hri h2 hmc hk h3, fun W A2 c2 h1 h2 => rwrite_c s rest (joinL rs) hl hs A r c n (by omega) n0 A2 _ c2 (by omega) hyes (by omega) W h1 h2 hri (join_in hk)⟩
  · have hno : rightB r n = false := by simpa using hyes
    exact ⟨Z8, [], 0, 1, rfl, by simp, (fun _ h => by cases h), fun W h1 h2 _ => (qwrite_no s hl A r c n (by omega) n0 n1 A' m c' rs hno W h2 hmc hk).mono fun _ _ => RetX.of_no, fun W A2 c2 h1 h2 => (rwrite_no s hl A r c n (by omega) n0 n1 A2 _ c2 hno W).mono fun _ _ => RetX.of_no⟩
/-- Both Finishes. -/
theorem fins_x (s rest : List Int) (hl : s.length = 8) (hs : WIn s) (A : Option Addr) (r c : Nat) (n : Int) (hrc : r ≤ c) (hr : r ≤ 200) (n0 : 0 ≤ n) (n1 : n < 18446744073709551616) (hri : ∀ z ∈ rest, 0 ≤ z ∧ z < 256) :
    ∃ (H : List Int) (k : Int), H.length = 32 ∧
      (∀ W, Rd .u8 W W.heap.size A r rest → Kst W → Calls Tryd.prog 14 #[.agg (wrV s A r c n)] W fun e w' => e = .returned (.tuple #[.agg (intsA .u8 H), .int .i64 k]) ∧ Below W.heap.size W w') ∧
      (∀ W, Rd .u8 W W.heap.size A r rest → Calls Tryd.prog 15 #[.agg (wrV s A r c n)] W fun e w' => e = .returned (.tuple #[.agg (intsA .u8 H), .int .i64 k]) ∧ Below W.heap.size W w') := by
  by_cases hyes : rightB r n = true
  · have hn : n < 2305843009213693952 ∧ (r : Int) = n % 64 := by unfold rightB at hyes; exact of_decide_eq_true hyes
    exact ⟨finL s rest n, 0, hashL_len _, fun W h1 h2 => qfin_c s rest hl hs A r c n (by omega) hrc n0 hyes W h1 hri h2, fun W h1 => rfin_c s rest hl hs A r c n (by omega) n0 hyes W h1 hri⟩
  · have hno : rightB r n = false := by simpa using hyes
    exact ⟨List.replicate 32 0, 1, by simp, fun W h1 _ => qfin_no s hl A r c n (by omega) n0 n1 hno W, fun W h1 => rfin_no s hl A r c n (by omega) n0 n1 hno W⟩
theorem noint_wr (k : IntKind) (h1 : k ≠ .u32) (h2 : k ≠ .u64) (s : List Int) (A : Option Addr) (r c : Nat) (n : Int) : NoInt k (wrV s A r c n) := by
  intro j z h
  have hm := Array.mem_of_getElem? h
  unfold wrV at hm
  simp only [List.mem_toArray, List.mem_append, List.mem_map, List.mem_cons, List.not_mem_nil, or_false] at hm
  rcases hm with ⟨x, _, hx⟩ | hx | hx
  · injection hx with hx; exact h1 hx.symm
  · cases hx
  · injection hx with hx; exact h2 hx
theorem zsizeX (S : List Int) (A : Option Addr) (r c : Nat) (n : Int) (h : S.length = 8) : (wrV Z8 none 0 0 0).size = (wrV S A r c n).size := by rw [wrV_size _ rfl, wrV_size _ h]
set_option maxRecDepth 100000 in
set_option maxHeartbeats 10000000 in
theorem of_walk (s : List Int) (A : Option Addr) (r c : Nat) (n : Int) (rest : List Int) (s' : List Int) (B : Option Addr) (q c'' : Nat) (n' : Int) (more : List Int) (A' : Option Addr) (m c' : Nat) (rs : List Row) (w : World)
    (hl : s.length = 8) (hs : WIn s) (hrd : Rd .u8 w w.heap.size A r rest) (hrc : r ≤ c) (hcm : c ≤ maxLen) (hri : ∀ z ∈ rest, 0 ≤ z ∧ z < 256) (n0 : 0 ≤ n) (n1 : n < 18446744073709551616)
    (hl' : s'.length = 8) (hs' : WIn s') (hrd' : Rd .u8 w w.heap.size B q more) (hqc : q ≤ c'') (hcm' : c'' ≤ maxLen) (hmi : ∀ z ∈ more, 0 ≤ z ∧ z < 256)
    (hr : RdRows w w.heap.size A' m rs) (hmc : m ≤ c') (hm : c' ≤ maxLen) (hw : ∀ r ∈ rs, r.n ≤ maxLen ∧ r.zs.length = r.n ∧ ∀ z ∈ r.zs, (Lit.int .u8 z).wf = true) (hkst : Kst w) :
    Calls Tryd.prog 4 #[.agg (wrV s A r c n), .agg (wrV s' B q c'' n'), .slice A' m c'] w fun e w' => e = .returned (.bool true) ∧ Below w.heap.size w w' := by
  have HKST := Lib.hid hkst
  clear hkst
  have F0 := Lib.hid (show Fx [.rd .u8 A r rest, .rd .u8 B q more, .rows A' m rs, .bel w] w from ⟨hrd, hrd', hr, Below.refl _ _, trivial⟩)
  have hm1 : m ≤ 9223372036854775807 := by unfold maxLen at hm; omega
  have hr1 : r ≤ 9223372036854775807 := by unfold maxLen at hcm; omega
  have hq1 : q ≤ 9223372036854775807 := by unfold maxLen at hcm'; omega
  have HGR := Lib.hid (fun W h => rgreat_c A' m c' rs W h hm1 (fun r hr => by have := (hw r hr).1; unfold maxLen at this; omega))
  have HC8 := Lib.hid (wrV_rest s hl A r c n)
  have HX8 := Lib.hid (wrV_rest s' hl' B q c'' n')
  have SV := Lib.hid (sizedW s hl A r c n)
  have SX := Lib.hid (sizedW s' hl' B q c'' n')
  have hlr := hrd.len
  by_cases hg : greatB rs = true
  · rw [hg] at HGR
    obtain ⟨V, hV⟩ : ∃ V, wrV s A r c n = V := ⟨_, rfl⟩
    obtain ⟨X, hX⟩ : ∃ V, wrV s' B q c'' n' = V := ⟨_, rfl⟩
    rw [hV] at HC8
    rw [hX] at HX8
    rw [hV, hX]
    clear hr hrd hrd' hg hV hX SV SX hw hlr
    go_enter Tryd.func4, Tryd.ntmps4
    go_wp2_with (first
      | ((with_reducible refine at_any ?_); (with_reducible refine at_dst 3 rfl ?_); (with_reducible refine wpList_box_any rfl 36 (.tmp 0) rfl V rfl ?_); intro w1 k3 hs1 hb1)
      | ((with_reducible refine at_any ?_); (with_reducible refine at_dst 4 rfl ?_); (with_reducible refine wpList_box_any rfl 36 (.tmp 1) rfl X rfl ?_); intro w2 k4 hs2 hb2; have F2 := Lib.hid (show Fx [.blk w.heap.size 36 V, .blk w1.heap.size 36 X, .rd .u8 A r rest, .rd .u8 B q more, .rows A' m rs, .bel w] w2 from ⟨k3.out.below hb2 k3.out.lt, k4.out, (F0.out.below hb1).below hb2⟩))
      | (go_at_call 7; have q2 : Below w.heap.size w w2 := F2.out.2.2.2.2.2.1; (with_reducible refine (alive5_c _ (HKST.out.below q2)).mono ?_); rintro e w3 ⟨rfl, hb3⟩; have F3 := Lib.hid (F2.out.below hb3); have c3 := Blk.cell F3.out.1 8; rw [HC8.out] at c3; have c4 := Blk.cell F3.out.2.1 8; rw [HX8.out] at c4; have hlt3 := Blk.lt F3.out.1)
      | (go_at_call 8; have q3 : RdRows w3 w3.heap.size A' m rs := F3.out.2.2.2.2.1; (with_reducible refine (HGR.out w3 q3).mono ?_); rintro e _ ⟨rfl, rfl⟩))
    go_ret
    exact ⟨rfl, F3.out.2.2.2.2.2.1⟩
  have hg' : greatB rs = false := by simpa using hg
  obtain ⟨hk, h5⟩ := rows_ok hg' hw
  have hjl := join_len hk h5
  rw [hg'] at HGR
  by_cases hr2 : 200 < r
  · obtain ⟨V, hV⟩ : ∃ V, wrV s A r c n = V := ⟨_, rfl⟩
    obtain ⟨X, hX⟩ : ∃ V, wrV s' B q c'' n' = V := ⟨_, rfl⟩
    rw [hV] at HC8
    rw [hX] at HX8
    rw [hV, hX]
    clear hr hrd hrd' hg hg' hV hX SV SX hw hlr hk h5 hjl
    go_enter Tryd.func4, Tryd.ntmps4
    go_wp2_with (first
      | ((with_reducible refine at_any ?_); (with_reducible refine at_dst 3 rfl ?_); (with_reducible refine wpList_box_any rfl 36 (.tmp 0) rfl V rfl ?_); intro w1 k3 hs1 hb1)
      | ((with_reducible refine at_any ?_); (with_reducible refine at_dst 4 rfl ?_); (with_reducible refine wpList_box_any rfl 36 (.tmp 1) rfl X rfl ?_); intro w2 k4 hs2 hb2; have F2 := Lib.hid (show Fx [.blk w.heap.size 36 V, .blk w1.heap.size 36 X, .rd .u8 A r rest, .rd .u8 B q more, .rows A' m rs, .bel w] w2 from ⟨k3.out.below hb2 k3.out.lt, k4.out, (F0.out.below hb1).below hb2⟩))
      | (go_at_call 7; have q2 : Below w.heap.size w w2 := F2.out.2.2.2.2.2.1; (with_reducible refine (alive5_c _ (HKST.out.below q2)).mono ?_); rintro e w3 ⟨rfl, hb3⟩; have F3 := Lib.hid (F2.out.below hb3); have c3 := Blk.cell F3.out.1 8; rw [HC8.out] at c3; have c4 := Blk.cell F3.out.2.1 8; rw [HX8.out] at c4; have hlt3 := Blk.lt F3.out.1)
      | (go_at_call 8; have q3 : RdRows w3 w3.heap.size A' m rs := F3.out.2.2.2.2.1; (with_reducible refine (HGR.out w3 q3).mono ?_); rintro e _ ⟨rfl, rfl⟩))
    go_ret
    exact ⟨rfl, F3.out.2.2.2.2.2.1⟩
  by_cases hq2 : 200 < q
  · obtain ⟨V, hV⟩ : ∃ V, wrV s A r c n = V := ⟨_, rfl⟩
    obtain ⟨X, hX⟩ : ∃ V, wrV s' B q c'' n' = V := ⟨_, rfl⟩
    rw [hV] at HC8
    rw [hX] at HX8
    rw [hV, hX]
    clear hr hrd hrd' hg hg' hV hX SV SX hw hlr hk h5 hjl
    go_enter Tryd.func4, Tryd.ntmps4
    go_wp2_with (first
      | ((with_reducible refine at_any ?_); (with_reducible refine at_dst 3 rfl ?_); (with_reducible refine wpList_box_any rfl 36 (.tmp 0) rfl V rfl ?_); intro w1 k3 hs1 hb1)
      | ((with_reducible refine at_any ?_); (with_reducible refine at_dst 4 rfl ?_); (with_reducible refine wpList_box_any rfl 36 (.tmp 1) rfl X rfl ?_); intro w2 k4 hs2 hb2; have F2 := Lib.hid (show Fx [.blk w.heap.size 36 V, .blk w1.heap.size 36 X, .rd .u8 A r rest, .rd .u8 B q more, .rows A' m rs, .bel w] w2 from ⟨k3.out.below hb2 k3.out.lt, k4.out, (F0.out.below hb1).below hb2⟩))
      | (go_at_call 7; have q2 : Below w.heap.size w w2 := F2.out.2.2.2.2.2.1; (with_reducible refine (alive5_c _ (HKST.out.below q2)).mono ?_); rintro e w3 ⟨rfl, hb3⟩; have F3 := Lib.hid (F2.out.below hb3); have c3 := Blk.cell F3.out.1 8; rw [HC8.out] at c3; have c4 := Blk.cell F3.out.2.1 8; rw [HX8.out] at c4; have hlt3 := Blk.lt F3.out.1)
      | (go_at_call 8; have q3 : RdRows w3 w3.heap.size A' m rs := F3.out.2.2.2.2.1; (with_reducible refine (HGR.out w3 q3).mono ?_); rintro e _ ⟨rfl, rfl⟩))
    go_ret
    exact ⟨rfl, F3.out.2.2.2.2.2.1⟩
  obtain ⟨S, R, N, k, hSl, hRl, hRi, xw, xr⟩ := writes_x s rest hl hs A r c n hrc (by omega) hlr n0 n1 hri A' m c' rs hmc hk hjl
  obtain ⟨H, k2, hHl, xf, xg⟩ := fins_x s rest hl hs A r c n hrc (by omega) n0 n1 hri
  have hm20 : m ≤ 1000 := by have := hk.1; have := hr.1; omega
  have HJ := Lib.hid (fun W h => rjoin_c A' m c' 500 rs W h hm20 (by omega) h5)
  have QR := Lib.hid (fun W => qrightw_c s hl A r c n (by omega) n0 n1 W)
  have RR := Lib.hid (fun W => rrightw_c s hl A r c n (by omega) n0 n1 W)
  have QS := Lib.hid (fun W h h' => qsamew_c s s' rest more hl hl' A B r q c c'' hrc hqc n n' W h h' hri hmi)
  have RS := Lib.hid (fun W h h' => rsamew_c s s' rest more hl hl' A B r q c c'' n n' W h h' hri hmi)
  have NN := Lib.hid (fun W => rsamew_c startL startL [] [] rfl rfl none none 0 0 0 0 0 0 W Rd.none_ Rd.none_ (fun _ h => by cases h) (fun _ h => by cases h))
  rw [show sameB startL startL [] [] 0 0 = true by decide +kernel] at NN
  have SS := fun A8 c8 A10 c10 W h h' => rsamew_c S S R R hSl hSl A8 A10 R.length R.length c8 c10 N N W h h' hRi hRi
  rw [show sameB S S R R N N = true by unfold sameB; simp] at SS
  have EH := fun W => same_hash H hHl W
  have SH := Lib.hid (show (Tryd.prog.info? 26).map (·.size) = some (intsA .u8 H).size by rw [intsA_size, hHl]; exact size_hash)
  have LZH := Lib.hid (show (List.replicate 32 (0 : Int)).length = H.length by rw [hHl]; simp)
  have SHL := Lib.hid (show (Tryd.prog.info? 26).map (·.size) = some H.length by rw [hHl]; exact size_hash)
  have HSL := Lib.hid hSl
  have zero_h := zero_hash
  obtain ⟨Z, hZ⟩ : ∃ Z : List Int, List.replicate 32 0 = Z := ⟨_, rfl⟩
  rw [hZ] at LZH zero_h
  obtain ⟨b1, hb1⟩ : ∃ b, rightB r n = b := ⟨_, rfl⟩
  obtain ⟨b2, hb2⟩ : ∃ b, sameB s s' rest more n n' = b := ⟨_, rfl⟩
  rw [hb1] at QR RR
  rw [hb2] at QS RS
  obtain ⟨J, hJ⟩ : ∃ J, joinL rs = J := ⟨_, rfl⟩
  rw [hJ] at HJ xr
  have XW := Lib.hid xw
  have XR := Lib.hid xr
  have XF := Lib.hid xf
  have XG := Lib.hid xg
  have SSH := Lib.hid SS
  obtain ⟨i0, hi0, hz0, hz1, hzb⟩ := info_parts info_u8'
  obtain ⟨V, hV⟩ : ∃ V, wrV s A r c n = V := ⟨_, rfl⟩
  obtain ⟨X, hX⟩ : ∃ V, wrV s' B q c'' n' = V := ⟨_, rfl⟩
  rw [hV] at HC8 SV XW XR XF XG QR RR QS RS
  rw [hX] at HX8 SX QS RS
  rw [hV, hX]
  have HLR := Lib.hid hlr
  clear hr hrd hrd' hg hg' hV hX hw hlr hk h5 hjl hJ hb1 hb2 hZ xw xr xf xg SS hSl hRl hRi hHl hri hmi hs hs' hl hl' hr1 hq1 hm1 hm20 n0 n1
  go_enter Tryd.func4, Tryd.ntmps4
  go_upto_region 7 with (first
      | ((with_reducible refine at_any ?_); (with_reducible refine at_dst 3 rfl ?_); (with_reducible refine wpList_box_any rfl 36 (.tmp 0) rfl V rfl ?_); intro w1 k3 hs1 hb1)
      | ((with_reducible refine at_any ?_); (with_reducible refine at_dst 4 rfl ?_); (with_reducible refine wpList_box_any rfl 36 (.tmp 1) rfl X rfl ?_); intro w2 k4 hs2 hb2; have F2 := Lib.hid (show Fx [.blk w.heap.size 36 V, .blk w1.heap.size 36 X, .rd .u8 A r rest, .rd .u8 B q more, .rows A' m rs, .bel w] w2 from ⟨k3.out.below hb2 k3.out.lt, k4.out, (F0.out.below hb1).below hb2⟩))
      | (go_at_call 7; have q2 : Below w.heap.size w w2 := F2.out.2.2.2.2.2.1; (with_reducible refine (alive5_c _ (HKST.out.below q2)).mono ?_); rintro e w3 ⟨rfl, hb3⟩; have F3 := Lib.hid (F2.out.below hb3); have c3 := Blk.cell F3.out.1 8; rw [HC8.out] at c3; have c4 := Blk.cell F3.out.2.1 8; rw [HX8.out] at c4; have hlt3 := Blk.lt F3.out.1)
      | (go_at_call 8; have q3 : RdRows w3 w3.heap.size A' m rs := F3.out.2.2.2.2.1; (with_reducible refine (HGR.out w3 q3).mono ?_); rintro e _ ⟨rfl, rfl⟩)
      | (at_builtin; have q4 : Rd .u8 w3 w3.heap.size A r rest := F3.out.2.2.1; refine wpList_append_ints _ rfl (.tmp 32) (.tmp 34) 29 rfl w3.heap.size 5 i0 _ 1 .u8 Tryd.underlying29 hi0 hz0 hz1 hzb rfl _ [] rfl (own_empty w3 5 .u8 (Nat.le_refl _)) w3.heap.size A r c rest rfl (Rd.alloc q4 (Nat.le_refl _) _) (by simp [maxLen]; omega) (by simp; omega) (by simp) ?_; intro v5 w5 hown5 hg5 hat5; have hb5 : Below w3.heap.size w3 w5 := (own_empty w3 5 .u8 (Nat.le_refl _)).below_ ((Below.refl _ _).alloc (Nat.le_refl _) _) (by simp) hg5; simp only [List.nil_append] at hown5; obtain ⟨A7, c7, rfl, hc7, _⟩ := hown5.form; have F5 := Lib.hid (show Fx [.rd .u8 A7 rest.length rest, .blk w.heap.size 36 V, .blk w1.heap.size 36 X, .rd .u8 A r rest, .rd .u8 B q more, .rows A' m rs, .bel w] w5 from ⟨OwnI.rd hown5 rfl, F3.out.below hb5⟩); clear hg5 hat5 hown5)
      | ((with_reducible refine at_any ?_); (with_reducible refine at_dst 37 rfl ?_); have q4 : Blk w5 w.heap.size 36 V := F5.out.2.1; (with_reducible refine wpList_load_blk rfl 36 (.tmp 3) rfl w.heap.size rfl 36 V q4 _ Tryd.underlying36 rfl SV.out ?_))
      | (go_at_call 12; have q5 : Below w.heap.size w w5 := F5.out.2.2.2.2.2.2.1; have q6 : Rd .u8 w5 w5.heap.size A r rest := F5.out.2.2.2.1; have q7 : RdRows w5 w5.heap.size A' m rs := F5.out.2.2.2.2.2.1; (with_reducible refine (XW.out w5 q6 q7 (HKST.out.below q5)).mono ?_); rintro e w6 ⟨A8, c8, rfl, hr8, hc8, hb6⟩; have F6 := Lib.hid (show Fx [.rd .u8 A8 R.length R, .rd .u8 A7 rest.length rest, .blk w.heap.size 36 V, .blk w1.heap.size 36 X, .rd .u8 A r rest, .rd .u8 B q more, .rows A' m rs, .bel w] w6 from ⟨hr8, F5.out.below hb6⟩); clear hr8)
      | ((with_reducible refine at_any ?_); (with_reducible refine at_dst 8 rfl ?_); (with_reducible refine wpList_alloc_any rfl 36 rfl (wrV Z8 none 0 0 0) zero_wr ?_); intro w7 k8' hs7 hb7)
      | ((with_reducible refine at_any ?_); (with_reducible refine at_store 8 rfl ?_); (with_reducible refine wpList_store_any rfl 36 (.tmp 8) (.tmp 40) rfl w6.heap.size rfl 36 (wrV Z8 none 0 0 0) (wrV S A8 R.length c8 N) k8'.out rfl (zsizeX _ _ _ _ _ HSL.out) (sizedW S HSL.out _ _ _ _) (wrV_ones _ _ _ _ _) ?_); intro w8 k8 hs8 hb8 ho8))
  have G8 : Fx [.blk w6.heap.size 36 (wrV S A8 R.length c8 N), .rd .u8 A8 R.length R, .rd .u8 A7 rest.length rest, .blk w.heap.size 36 V, .blk w1.heap.size 36 X, .rd .u8 A r rest, .rd .u8 B q more, .rows A' m rs, .bel w] w8 := ⟨k8.out, F6.out.below (hb7.trans (hb8 _ (Nat.le_refl _)))⟩
  obtain ⟨g3, hg3⟩ : ∃ g, w.heap.size = g := ⟨_, rfl⟩
  obtain ⟨g4, hg4⟩ : ∃ g, w1.heap.size = g := ⟨_, rfl⟩
  obtain ⟨g8, hg8⟩ : ∃ g, w6.heap.size = g := ⟨_, rfl⟩
  have HW := Lib.hid hg3
  rw [hg3, hg4, hg8] at G8
  rw [hg3, hg4, hg8]
  have S8 := Lib.hid (sizedW S HSL.out A8 R.length c8 N)
  obtain ⟨V8, hV8⟩ : ∃ V, wrV S A8 R.length c8 N = V := ⟨_, rfl⟩
  rw [hV8] at G8 S8
  rw [hV8]
  have HV8 := Lib.hid hV8
  obtain ⟨f1, f2, f3, f4, f5, f6, f7, f8, f9⟩ := G8
  have F8 : (Fx [.blk g8 36 V8, .rd .u8 A8 R.length R, .rd .u8 A7 rest.length rest, .blk g3 36 V, .blk g4 36 X, .rd .u8 A r rest, .rd .u8 B q more, .bel w]) w8 := ⟨f1, f2, f3, f4, f5, f6, f7, f9⟩
  have HRW0 : Fx [.rows A' m rs] w8 := ⟨f8, trivial⟩
  clear hlt3 f1 f2 f3 f4 f5 f6 f7 f8 f9 k3 hs1 hb1 k4 hs2 hb2 F2 hb3 F3 c3 c4 hb5 F5 hb6 F6 k8' hs7 hb7 k8 hs8 hb8 ho8 hg3 hg4 hg8 hV8 XW HX8
  go_cut [10, 11] from 32 (fun s10 s11 wx => ∃ (g10 : Nat) (A10 : Option Addr) (c10 : Nat), s10 = .pointer (some ⟨g10, 0, none⟩) ∧ s11 = .int .i64 k ∧ R.length ≤ c10 ∧ Fx [.blk g10 36 (wrV S A10 R.length c10 N), .rd .u8 A10 R.length R, .blk g8 36 V8, .rd .u8 A8 R.length R, .rd .u8 A7 rest.length rest, .blk g3 36 V, .blk g4 36 X, .rd .u8 A r rest, .rd .u8 B q more, .bel w] wx)
  case first =>
    refine wp_region_held_drew (S := (Fx [.blk g8 36 V8, .rd .u8 A8 R.length R, .rd .u8 A7 rest.length rest, .blk g3 36 V, .blk g4 36 X, .rd .u8 A r rest, .rd .u8 B q more, .bel w])) (by kernel_rfl) (F8.drew) (fun hH => ?_)
    have HRW := HRW0.drew
    refine wpAnyH_letter #[false, false, false, false, false, false, false, false, false, false] (by kernel_rfl) (fun _ _ d _ _ h => by cases d <;> exact h) (fun QL HQ1 HQ2 => ?_)
    refine held_row 0 (some 43) rfl (by kernel_rfl) (by kernel_rfl) (by kernel_rfl) (by kernel_rfl) (fun c a v w h => HQ2.out c a _ v w h) (by kernel_rfl) 36 (.tmp 3) rfl g3 (by kernel_rfl) 36 V (fun _ h => h.2.2.2.1) _ Tryd.underlying36 rfl SV.out hH ?_
    try simp only [Act.put, List.setIfInBounds_toArray, List.set_cons_zero, List.set_cons_succ]
    refine held_v 1 (some 44) rfl (by kernel_rfl) (by kernel_rfl) (by kernel_rfl) (by kernel_rfl) (fun c a v w h => HQ2.out c a _ v w h) (by kernel_rfl) (.slice A' m c') (fun W h => by kernel_rfl) hH ?_
    try simp only [Act.put, List.setIfInBounds_toArray, List.set_cons_zero, List.set_cons_succ]
    refine wpAnyH_ready (rs := [2, 7]) (by kernel_rfl) (by decide) ?_
    refine AllReadyH.cons rfl (fun K hK => ?_) (AllReadyH.cons rfl (fun K hK => ?_) AllReadyH.nil)
    · refine step_call (some 45) (by kernel_rfl) (by kernel_rfl) _ _ (by kernel_rfl) _ (HJ.out _ HRW.1) ?_
      rintro e w41 ⟨A9, c9, rfl, how9, hbw41⟩
      have ex42 : Fx [.rd .u8 A9 J.length J] w41 := ⟨how9.rd rfl, trivial⟩
      refine ⟨_, rfl, ?_⟩
      refine hK.out _ _ (hH.below hbw41) (fun hw41 => ?_)
      clear hK K
      try simp only [Act.put, List.setIfInBounds_toArray, List.set_cons_zero, List.set_cons_succ]
      refine wpAnyH_ready (rs := [3, 7]) (by kernel_rfl) (by decide) ?_
      refine AllReadyH.cons rfl (fun K hK => ?_) (AllReadyH.cons rfl (fun K hK => ?_) AllReadyH.nil)
      · refine step_call (some 46) (by kernel_rfl) (by kernel_rfl) _ _ (by kernel_rfl) _ (XR.out _ A9 c9 hw41.2.2.2.2.2.1 ex42.1) ?_
        rintro e w43 ⟨A10, c10, rfl, hr10, hc10, hbw43⟩
        have ex44 := ex42.below hbw43
        have ex45 : Fx [.rd .u8 A10 R.length R] w43 := ⟨hr10, trivial⟩
        refine ⟨_, rfl, ?_⟩
        refine hK.out _ _ (hw41.below hbw43) (fun hw43 => ?_)
        clear hK K
        try simp only [Act.put, List.setIfInBounds_toArray, List.set_cons_zero, List.set_cons_succ]
        refine held_v 4 (some 42) rfl (by kernel_rfl) (by kernel_rfl) (by kernel_rfl) (by kernel_rfl) (fun c a v w h => HQ2.out c a _ v w h) (by kernel_rfl) (.tuple #[.agg (wrV S A10 R.length c10 N), .int .i64 k]) (fun W h => by kernel_rfl) hw43 ?_
        try simp only [Act.put, List.setIfInBounds_toArray, List.set_cons_zero, List.set_cons_succ]
        refine held_v 5 (some 47) rfl (by kernel_rfl) (by kernel_rfl) (by kernel_rfl) (by kernel_rfl) (fun c a v w h => HQ2.out c a _ v w h) (by kernel_rfl) (.agg (wrV S A10 R.length c10 N)) (fun W h => by kernel_rfl) hw43 ?_
        try simp only [Act.put, List.setIfInBounds_toArray, List.set_cons_zero, List.set_cons_succ]
        refine held_v 6 (some 48) rfl (by kernel_rfl) (by kernel_rfl) (by kernel_rfl) (by kernel_rfl) (fun c a v w h => HQ2.out c a _ v w h) (by kernel_rfl) (.int .i64 k) (fun W h => by kernel_rfl) hw43 ?_
        try simp only [Act.put, List.setIfInBounds_toArray, List.set_cons_zero, List.set_cons_succ]
        refine wpAnyH_ready (rs := [7]) (by kernel_rfl) (by decide) ?_
        refine AllReadyH.cons rfl (fun K hK => ?_) AllReadyH.nil
        refine step_alloc (some 10) (by kernel_rfl) (by kernel_rfl) 36 rfl (wrV Z8 none 0 0 0) zero_wr ?_
        intro w46 hkw46 hsw46 hbw46
        obtain ⟨g10, hg10⟩ : ∃ g, w43.heap.size = g := ⟨_, rfl⟩
        have q10 : g8 ≠ g10 ∧ g3 ≠ g10 ∧ g4 ≠ g10 ∧ w.heap.size ≤ g10 := by have a1 := Blk.lt hw43.1; have a2 := Blk.lt hw43.2.2.2.1; have a3 := Blk.lt hw43.2.2.2.2.1; have a4 := Below.size hw43.2.2.2.2.2.2.2.1; omega
        rw [hg10] at hkw46
        rw [hg10]
        have ex47 := ex44.below hbw46
        have ex48 := ex45.below hbw46
        have ex49 : Fx [.blk g10 36 (wrV Z8 none 0 0 0)] w46 := ⟨hkw46.out, trivial⟩
        refine hK.out _ _ (hw43.below hbw46) (fun hw46 => ?_)
        clear hK K
        try simp only [Act.put, List.setIfInBounds_toArray, List.set_cons_zero, List.set_cons_succ]
        refine wpAnyH_ready (rs := [8]) (by kernel_rfl) (by decide) ?_
        refine AllReadyH.cons rfl (fun K hK => ?_) AllReadyH.nil
        refine step_store none (by kernel_rfl) (by kernel_rfl) 36 (.tmp 10) (.tmp 47) rfl g10 (by kernel_rfl) 36 (wrV Z8 none 0 0 0) (wrV S A10 R.length c10 N) ex49.1 (by kernel_rfl) (zsizeX _ _ _ _ _ HSL.out) (sizedW S HSL.out _ _ _ _) (wrV_ones _ _ _ _ _) ?_
        intro w50 hkw50 hsw50 hbw50 how50
        have ex51 := ex47.store ex49.1 ⟨(noint_wr .u8 (by decide) (by decide) _ _ _ _ _), trivial⟩ hsw50.out hbw50 how50
        have ex52 := ex48.store ex49.1 ⟨(noint_wr .u8 (by decide) (by decide) _ _ _ _ _), trivial⟩ hsw50.out hbw50 how50
        have ex53 : Fx [.blk g10 36 (wrV S A10 R.length c10 N)] w50 := ⟨hkw50.out, trivial⟩
        refine hK.out _ _ (hw46.store ex49.1 ⟨q10.1, (noint_wr .u8 (by decide) (by decide) _ _ _ _ _), (noint_wr .u8 (by decide) (by decide) _ _ _ _ _), q10.2.1, q10.2.2.1, (noint_wr .u8 (by decide) (by decide) _ _ _ _ _), (noint_wr .u8 (by decide) (by decide) _ _ _ _ _), q10.2.2.2, trivial⟩ hsw50.out hbw50 how50) (fun hw50 => ?_)
        clear hK K
        try simp only [Act.put, List.setIfInBounds_toArray, List.set_cons_zero, List.set_cons_succ]
        refine held_v 9 (some 11) rfl (by kernel_rfl) (by kernel_rfl) (by kernel_rfl) (by kernel_rfl) (fun c a v w h => HQ2.out c a _ v w h) (by kernel_rfl) (.int .i64 k) (fun W h => by kernel_rfl) hw50 ?_
        try simp only [Act.put, List.setIfInBounds_toArray, List.set_cons_zero, List.set_cons_succ]
        refine wpAnyH_done (by kernel_rfl) ?_ _
        refine HQ1.out _ _ ?_
        clear HQ1 HQ2
        go_wp2_with fail
        go_meet
        exact ⟨g10, A10, c10, rfl, rfl, hc10, ex53.1, ex52.1, hw50⟩
      · refine step_alloc (some 10) (by kernel_rfl) (by kernel_rfl) 36 rfl (wrV Z8 none 0 0 0) zero_wr ?_
        intro w54 hkw54 hsw54 hbw54
        obtain ⟨g10, hg10⟩ : ∃ g, w41.heap.size = g := ⟨_, rfl⟩
        have q10 : g8 ≠ g10 ∧ g3 ≠ g10 ∧ g4 ≠ g10 ∧ w.heap.size ≤ g10 := by have a1 := Blk.lt hw41.1; have a2 := Blk.lt hw41.2.2.2.1; have a3 := Blk.lt hw41.2.2.2.2.1; have a4 := Below.size hw41.2.2.2.2.2.2.2.1; omega
        rw [hg10] at hkw54
        rw [hg10]
        have ex55 := ex42.below hbw54
        have ex56 : Fx [.blk g10 36 (wrV Z8 none 0 0 0)] w54 := ⟨hkw54.out, trivial⟩
        refine hK.out _ _ (hw41.below hbw54) (fun hw54 => ?_)
        clear hK K
        try simp only [Act.put, List.setIfInBounds_toArray, List.set_cons_zero, List.set_cons_succ]
        refine wpAnyH_ready (rs := [3]) (by kernel_rfl) (by decide) ?_
        refine AllReadyH.cons rfl (fun K hK => ?_) AllReadyH.nil
        refine step_call (some 46) (by kernel_rfl) (by kernel_rfl) _ _ (by kernel_rfl) _ (XR.out _ A9 c9 hw54.2.2.2.2.2.1 ex55.1) ?_
        rintro e w57 ⟨A10, c10, rfl, hr10, hc10, hbw57⟩
        have ex58 := ex55.below hbw57
        have ex59 := ex56.below hbw57
        have ex60 : Fx [.rd .u8 A10 R.length R] w57 := ⟨hr10, trivial⟩
        refine ⟨_, rfl, ?_⟩
        refine hK.out _ _ (hw54.below hbw57) (fun hw57 => ?_)
        clear hK K
        try simp only [Act.put, List.setIfInBounds_toArray, List.set_cons_zero, List.set_cons_succ]
        refine held_v 4 (some 42) rfl (by kernel_rfl) (by kernel_rfl) (by kernel_rfl) (by kernel_rfl) (fun c a v w h => HQ2.out c a _ v w h) (by kernel_rfl) (.tuple #[.agg (wrV S A10 R.length c10 N), .int .i64 k]) (fun W h => by kernel_rfl) hw57 ?_
        try simp only [Act.put, List.setIfInBounds_toArray, List.set_cons_zero, List.set_cons_succ]
        refine held_v 5 (some 47) rfl (by kernel_rfl) (by kernel_rfl) (by kernel_rfl) (by kernel_rfl) (fun c a v w h => HQ2.out c a _ v w h) (by kernel_rfl) (.agg (wrV S A10 R.length c10 N)) (fun W h => by kernel_rfl) hw57 ?_
        try simp only [Act.put, List.setIfInBounds_toArray, List.set_cons_zero, List.set_cons_succ]
        refine held_v 6 (some 48) rfl (by kernel_rfl) (by kernel_rfl) (by kernel_rfl) (by kernel_rfl) (fun c a v w h => HQ2.out c a _ v w h) (by kernel_rfl) (.int .i64 k) (fun W h => by kernel_rfl) hw57 ?_
        try simp only [Act.put, List.setIfInBounds_toArray, List.set_cons_zero, List.set_cons_succ]
        refine wpAnyH_ready (rs := [8]) (by kernel_rfl) (by decide) ?_
        refine AllReadyH.cons rfl (fun K hK => ?_) AllReadyH.nil
        refine step_store none (by kernel_rfl) (by kernel_rfl) 36 (.tmp 10) (.tmp 47) rfl g10 (by kernel_rfl) 36 (wrV Z8 none 0 0 0) (wrV S A10 R.length c10 N) ex59.1 (by kernel_rfl) (zsizeX _ _ _ _ _ HSL.out) (sizedW S HSL.out _ _ _ _) (wrV_ones _ _ _ _ _) ?_
        intro w61 hkw61 hsw61 hbw61 how61
        have ex62 := ex58.store ex59.1 ⟨(noint_wr .u8 (by decide) (by decide) _ _ _ _ _), trivial⟩ hsw61.out hbw61 how61
        have ex63 := ex60.store ex59.1 ⟨(noint_wr .u8 (by decide) (by decide) _ _ _ _ _), trivial⟩ hsw61.out hbw61 how61
        have ex64 : Fx [.blk g10 36 (wrV S A10 R.length c10 N)] w61 := ⟨hkw61.out, trivial⟩
        refine hK.out _ _ (hw57.store ex59.1 ⟨q10.1, (noint_wr .u8 (by decide) (by decide) _ _ _ _ _), (noint_wr .u8 (by decide) (by decide) _ _ _ _ _), q10.2.1, q10.2.2.1, (noint_wr .u8 (by decide) (by decide) _ _ _ _ _), (noint_wr .u8 (by decide) (by decide) _ _ _ _ _), q10.2.2.2, trivial⟩ hsw61.out hbw61 how61) (fun hw61 => ?_)
        clear hK K
        try simp only [Act.put, List.setIfInBounds_toArray, List.set_cons_zero, List.set_cons_succ]
        refine held_v 9 (some 11) rfl (by kernel_rfl) (by kernel_rfl) (by kernel_rfl) (by kernel_rfl) (fun c a v w h => HQ2.out c a _ v w h) (by kernel_rfl) (.int .i64 k) (fun W h => by kernel_rfl) hw61 ?_
        try simp only [Act.put, List.setIfInBounds_toArray, List.set_cons_zero, List.set_cons_succ]
        refine wpAnyH_done (by kernel_rfl) ?_ _
        refine HQ1.out _ _ ?_
        clear HQ1 HQ2
        go_wp2_with fail
        go_meet
        exact ⟨g10, A10, c10, rfl, rfl, hc10, ex64.1, ex63.1, hw61⟩
    · refine step_alloc (some 10) (by kernel_rfl) (by kernel_rfl) 36 rfl (wrV Z8 none 0 0 0) zero_wr ?_
      intro w65 hkw65 hsw65 hbw65
      obtain ⟨g10, hg10⟩ : ∃ g, w8.drew.heap.size = g := ⟨_, rfl⟩
      have q10 : g8 ≠ g10 ∧ g3 ≠ g10 ∧ g4 ≠ g10 ∧ w.heap.size ≤ g10 := by have a1 := Blk.lt hH.1; have a2 := Blk.lt hH.2.2.2.1; have a3 := Blk.lt hH.2.2.2.2.1; have a4 := Below.size hH.2.2.2.2.2.2.2.1; omega
      rw [hg10] at hkw65
      rw [hg10]
      have ex66 := HRW.below hbw65
      have ex67 : Fx [.blk g10 36 (wrV Z8 none 0 0 0)] w65 := ⟨hkw65.out, trivial⟩
      refine hK.out _ _ (hH.below hbw65) (fun hw65 => ?_)
      clear hK K
      try simp only [Act.put, List.setIfInBounds_toArray, List.set_cons_zero, List.set_cons_succ]
      refine wpAnyH_ready (rs := [2]) (by kernel_rfl) (by decide) ?_
      refine AllReadyH.cons rfl (fun K hK => ?_) AllReadyH.nil
      refine step_call (some 45) (by kernel_rfl) (by kernel_rfl) _ _ (by kernel_rfl) _ (HJ.out _ ex66.1) ?_
      rintro e w68 ⟨A9, c9, rfl, how9, hbw68⟩
      have ex69 := ex67.below hbw68
      have ex70 : Fx [.rd .u8 A9 J.length J] w68 := ⟨how9.rd rfl, trivial⟩
      refine ⟨_, rfl, ?_⟩
      refine hK.out _ _ (hw65.below hbw68) (fun hw68 => ?_)
      clear hK K
      try simp only [Act.put, List.setIfInBounds_toArray, List.set_cons_zero, List.set_cons_succ]
      refine wpAnyH_ready (rs := [3]) (by kernel_rfl) (by decide) ?_
      refine AllReadyH.cons rfl (fun K hK => ?_) AllReadyH.nil
      refine step_call (some 46) (by kernel_rfl) (by kernel_rfl) _ _ (by kernel_rfl) _ (XR.out _ A9 c9 hw68.2.2.2.2.2.1 ex70.1) ?_
      rintro e w71 ⟨A10, c10, rfl, hr10, hc10, hbw71⟩
      have ex72 := ex69.below hbw71
      have ex73 := ex70.below hbw71
      have ex74 : Fx [.rd .u8 A10 R.length R] w71 := ⟨hr10, trivial⟩
      refine ⟨_, rfl, ?_⟩
      refine hK.out _ _ (hw68.below hbw71) (fun hw71 => ?_)
      clear hK K
      try simp only [Act.put, List.setIfInBounds_toArray, List.set_cons_zero, List.set_cons_succ]
      refine held_v 4 (some 42) rfl (by kernel_rfl) (by kernel_rfl) (by kernel_rfl) (by kernel_rfl) (fun c a v w h => HQ2.out c a _ v w h) (by kernel_rfl) (.tuple #[.agg (wrV S A10 R.length c10 N), .int .i64 k]) (fun W h => by kernel_rfl) hw71 ?_
      try simp only [Act.put, List.setIfInBounds_toArray, List.set_cons_zero, List.set_cons_succ]
      refine held_v 5 (some 47) rfl (by kernel_rfl) (by kernel_rfl) (by kernel_rfl) (by kernel_rfl) (fun c a v w h => HQ2.out c a _ v w h) (by kernel_rfl) (.agg (wrV S A10 R.length c10 N)) (fun W h => by kernel_rfl) hw71 ?_
      try simp only [Act.put, List.setIfInBounds_toArray, List.set_cons_zero, List.set_cons_succ]
      refine held_v 6 (some 48) rfl (by kernel_rfl) (by kernel_rfl) (by kernel_rfl) (by kernel_rfl) (fun c a v w h => HQ2.out c a _ v w h) (by kernel_rfl) (.int .i64 k) (fun W h => by kernel_rfl) hw71 ?_
      try simp only [Act.put, List.setIfInBounds_toArray, List.set_cons_zero, List.set_cons_succ]
      refine wpAnyH_ready (rs := [8]) (by kernel_rfl) (by decide) ?_
      refine AllReadyH.cons rfl (fun K hK => ?_) AllReadyH.nil
      refine step_store none (by kernel_rfl) (by kernel_rfl) 36 (.tmp 10) (.tmp 47) rfl g10 (by kernel_rfl) 36 (wrV Z8 none 0 0 0) (wrV S A10 R.length c10 N) ex72.1 (by kernel_rfl) (zsizeX _ _ _ _ _ HSL.out) (sizedW S HSL.out _ _ _ _) (wrV_ones _ _ _ _ _) ?_
      intro w75 hkw75 hsw75 hbw75 how75
      have ex76 := ex73.store ex72.1 ⟨(noint_wr .u8 (by decide) (by decide) _ _ _ _ _), trivial⟩ hsw75.out hbw75 how75
      have ex77 := ex74.store ex72.1 ⟨(noint_wr .u8 (by decide) (by decide) _ _ _ _ _), trivial⟩ hsw75.out hbw75 how75
      have ex78 : Fx [.blk g10 36 (wrV S A10 R.length c10 N)] w75 := ⟨hkw75.out, trivial⟩
      refine hK.out _ _ (hw71.store ex72.1 ⟨q10.1, (noint_wr .u8 (by decide) (by decide) _ _ _ _ _), (noint_wr .u8 (by decide) (by decide) _ _ _ _ _), q10.2.1, q10.2.2.1, (noint_wr .u8 (by decide) (by decide) _ _ _ _ _), (noint_wr .u8 (by decide) (by decide) _ _ _ _ _), q10.2.2.2, trivial⟩ hsw75.out hbw75 how75) (fun hw75 => ?_)
      clear hK K
      try simp only [Act.put, List.setIfInBounds_toArray, List.set_cons_zero, List.set_cons_succ]
      refine held_v 9 (some 11) rfl (by kernel_rfl) (by kernel_rfl) (by kernel_rfl) (by kernel_rfl) (fun c a v w h => HQ2.out c a _ v w h) (by kernel_rfl) (.int .i64 k) (fun W h => by kernel_rfl) hw75 ?_
      try simp only [Act.put, List.setIfInBounds_toArray, List.set_cons_zero, List.set_cons_succ]
      refine wpAnyH_done (by kernel_rfl) ?_ _
      refine HQ1.out _ _ ?_
      clear HQ1 HQ2
      go_wp2_with fail
      go_meet
      exact ⟨g10, A10, c10, rfl, rfl, hc10, ex78.1, ex77.1, hw75⟩
  case rest =>
    obtain ⟨g10, A10, c10, rfl, rfl, hc10, FC⟩ := hcut
    have FC := Lib.hid FC
    clear F8 HRW0
    have S10 := Lib.hid (sizedW S HSL.out A10 R.length c10 N)
    have SM1 := Lib.hid (fun W h h' => SSH.out A8 c8 A10 c10 W h h')
    obtain ⟨V10, hV10⟩ : ∃ V, wrV S A10 R.length c10 N = V := ⟨_, rfl⟩
    rw [hV10] at FC S10 SM1
    rw [HV8.out] at SM1
    clear hV10
    go_wp2_with (first
      | ((with_reducible refine at_any ?_); (with_reducible refine at_dst 50 rfl ?_); have q4 : Blk wc g3 36 V := FC.out.2.2.2.2.2.1; (with_reducible refine wpList_load_blk rfl 36 (.tmp 3) rfl g3 rfl 36 V q4 _ Tryd.underlying36 rfl SV.out ?_))
      | (go_at_call 14; have q1 : Rd .u8 wc wc.heap.size A r rest := FC.out.2.2.2.2.2.2.2.1; have q2 : Below w.heap.size w wc := FC.out.2.2.2.2.2.2.2.2.2.1; (with_reducible refine (XF.out wc q1 (HKST.out.below q2)).mono ?_); rintro e w11 ⟨rfl, hb11⟩; have F11 := Lib.hid (FC.out.below hb11))
      | ((with_reducible refine at_any ?_); (with_reducible refine at_dst 12 rfl ?_); (with_reducible refine wpList_alloc_ints rfl 26 rfl .u8 Z zero_h ?_); intro w12 k12' hs12 hb12)
      | ((with_reducible refine at_any ?_); (with_reducible refine at_store 12 rfl ?_); (with_reducible refine wpList_store_ints rfl 26 (.tmp 12) (.tmp 52) rfl w11.heap.size rfl 26 .u8 Z H k12'.out rfl LZH.out SHL.out ?_); intro w13 k12 hs13 hb13 ho13; have F13 := Lib.hid (show Fx [.blk w11.heap.size 26 (intsA .u8 H), .blk g10 36 V10, .rd .u8 A10 R.length R, .blk g8 36 V8, .rd .u8 A8 R.length R, .rd .u8 A7 rest.length rest, .blk g3 36 V, .blk g4 36 X, .rd .u8 A r rest, .rd .u8 B q more, .bel w] w13 from ⟨k12.out, F11.out.below (hb12.trans (hb13 _ (Nat.le_refl _)))⟩))
      | ((with_reducible refine at_any ?_); (with_reducible refine at_dst 55 rfl ?_); have q4 : Blk w13 g3 36 V := F13.out.2.2.2.2.2.2.1; (with_reducible refine wpList_load_blk rfl 36 (.tmp 3) rfl g3 rfl 36 V q4 _ Tryd.underlying36 rfl SV.out ?_))
      | (go_at_call 15; have q1 : Rd .u8 w13 w13.heap.size A r rest := F13.out.2.2.2.2.2.2.2.2.1; (with_reducible refine (XG.out w13 q1).mono ?_); rintro e w14 ⟨rfl, hb14⟩; have F14' := Lib.hid (F13.out.below hb14))
      | ((with_reducible refine at_any ?_); (with_reducible refine at_dst 14 rfl ?_); (with_reducible refine wpList_alloc_ints rfl 26 rfl .u8 Z zero_h ?_); intro w15 k14' hs15 hb15)
      | ((with_reducible refine at_any ?_); (with_reducible refine at_store 14 rfl ?_); (with_reducible refine wpList_store_ints rfl 26 (.tmp 14) (.tmp 57) rfl w14.heap.size rfl 26 .u8 Z H k14'.out rfl LZH.out SHL.out ?_); intro w16 k14 hs16 hb16 ho16))
    have F14 : Fx [.blk w14.heap.size 26 (intsA .u8 H), .blk w11.heap.size 26 (intsA .u8 H), .blk g10 36 V10, .rd .u8 A10 R.length R, .blk g8 36 V8, .rd .u8 A8 R.length R, .rd .u8 A7 rest.length rest, .blk g3 36 V, .blk g4 36 X, .rd .u8 A r rest, .rd .u8 B q more, .bel w] w16 := ⟨k14.out, F14'.out.below (hb15.trans (hb16 _ (Nat.le_refl _)))⟩
    obtain ⟨g14, hg14⟩ : ∃ g, w14.heap.size = g := ⟨_, rfl⟩
    obtain ⟨g12, hg12⟩ : ∃ g, w11.heap.size = g := ⟨_, rfl⟩
    rw [hg14, hg12] at F14
    rw [hg14, hg12]
    clear FC hb11 F11 k12' hs12 hb12 k12 hs13 hb13 ho13 F13 hb14 F14' k14' hs15 hb15 k14 hs16 hb16 ho16 hg14 hg12 XF XG
    refine wp_region_held_drew (S := (Fx [.blk g14 26 (intsA .u8 H), .blk g12 26 (intsA .u8 H), .blk g10 36 V10, .rd .u8 A10 R.length R, .blk g8 36 V8, .rd .u8 A8 R.length R, .rd .u8 A7 rest.length rest, .blk g3 36 V, .blk g4 36 X, .rd .u8 A r rest, .rd .u8 B q more, .bel w])) (by kernel_rfl) (F14.drew) (fun hH => ?_)
    refine wpAnyH_letter #[false, false, false, false, false, false, false, false, false, false, false, false, false, false, false, false, false, false, false, false, false, false, false, false, false, false, false, false, false, false, false, false, false, false, false, false, false, false, false, false, false, false, false, false, false, false, false, false] (by kernel_rfl) (fun _ _ d _ _ h => by cases d <;> exact h) (fun QL HQ1 HQ2 => ?_)
    refine held_row 0 (some 59) rfl (by kernel_rfl) (by kernel_rfl) (by kernel_rfl) (by kernel_rfl) (fun c a v w h => HQ2.out c a _ v w h) (by kernel_rfl) 36 (.tmp 8) rfl g8 (by kernel_rfl) 36 V8 (fun _ h => h.2.2.2.2.1) _ Tryd.underlying36 rfl S8.out hH ?_
    try simp only [Act.put, List.setIfInBounds_toArray, List.set_cons_zero, List.set_cons_succ]
    refine held_row 1 (some 60) rfl (by kernel_rfl) (by kernel_rfl) (by kernel_rfl) (by kernel_rfl) (fun c a v w h => HQ2.out c a _ v w h) (by kernel_rfl) 36 (.tmp 10) rfl g10 (by kernel_rfl) 36 V10 (fun _ h => h.2.2.1) _ Tryd.underlying36 rfl S10.out hH ?_
    try simp only [Act.put, List.setIfInBounds_toArray, List.set_cons_zero, List.set_cons_succ]
    refine wpAnyH_ready (rs := [2]) (by kernel_rfl) (by decide) ?_
    refine AllReadyH.cons rfl (fun K hK => ?_) AllReadyH.nil
    refine step_call (some 61) (by kernel_rfl) (by kernel_rfl) _ _ (by kernel_rfl) _ (SM1.out _ hH.2.2.2.2.2.1 hH.2.2.2.1) ?_
    rintro e w61 ⟨rfl, hbw61⟩
    refine ⟨_, rfl, ?_⟩
    refine hK.out _ _ (hH.below hbw61) (fun hw61 => ?_)
    clear hK K
    try simp only [Act.put, List.setIfInBounds_toArray, List.set_cons_zero, List.set_cons_succ]
    refine held_v 3 (some 62) rfl (by kernel_rfl) (by kernel_rfl) (by kernel_rfl) (by kernel_rfl) (fun c a v w h => HQ2.out c a _ v w h) (by kernel_rfl) (.bool true) (fun W h => by kernel_rfl) hw61 ?_
    try simp only [Act.put, List.setIfInBounds_toArray, List.set_cons_zero, List.set_cons_succ]
    refine held_v 4 (some 63) rfl (by kernel_rfl) (by kernel_rfl) (by kernel_rfl) (by kernel_rfl) (fun c a v w h => HQ2.out c a _ v w h) (by kernel_rfl) (.int .i64 k) (fun W h => by kernel_rfl) hw61 ?_
    try simp only [Act.put, List.setIfInBounds_toArray, List.set_cons_zero, List.set_cons_succ]
    refine held_v 5 (some 64) rfl (by kernel_rfl) (by kernel_rfl) (by kernel_rfl) (by kernel_rfl) (fun c a v w h => HQ2.out c a _ v w h) (by kernel_rfl) (.int .i64 k) (fun W h => by kernel_rfl) hw61 ?_
    try simp only [Act.put, List.setIfInBounds_toArray, List.set_cons_zero, List.set_cons_succ]
    refine held_v 6 (some 65) rfl (by kernel_rfl) (by kernel_rfl) (by kernel_rfl) (by kernel_rfl) (fun c a v w h => HQ2.out c a _ v w h) (by kernel_rfl) (.bool true) (fun W h => by go_simp) hw61 ?_
    try simp only [Act.put, List.setIfInBounds_toArray, List.set_cons_zero, List.set_cons_succ]
    refine held_v 7 (some 66) rfl (by kernel_rfl) (by kernel_rfl) (by kernel_rfl) (by kernel_rfl) (fun c a v w h => HQ2.out c a _ v w h) (by kernel_rfl) (.bool true) (fun W h => by kernel_rfl) hw61 ?_
    try simp only [Act.put, List.setIfInBounds_toArray, List.set_cons_zero, List.set_cons_succ]
    refine held_v 8 (some 67) rfl (by kernel_rfl) (by kernel_rfl) (by kernel_rfl) (by kernel_rfl) (fun c a v w h => HQ2.out c a _ v w h) (by kernel_rfl) (.bool true) (fun W h => by kernel_rfl) hw61 ?_
    try simp only [Act.put, List.setIfInBounds_toArray, List.set_cons_zero, List.set_cons_succ]
    refine held_row 9 (some 68) rfl (by kernel_rfl) (by kernel_rfl) (by kernel_rfl) (by kernel_rfl) (fun c a v w h => HQ2.out c a _ v w h) (by kernel_rfl) 26 (.tmp 12) rfl g12 (by kernel_rfl) 26 (intsA .u8 H) (fun _ h => h.2.1) _ Tryd.underlying26 rfl SH.out hw61 ?_
    try simp only [Act.put, List.setIfInBounds_toArray, List.set_cons_zero, List.set_cons_succ]
    refine held_row 10 (some 69) rfl (by kernel_rfl) (by kernel_rfl) (by kernel_rfl) (by kernel_rfl) (fun c a v w h => HQ2.out c a _ v w h) (by kernel_rfl) 26 (.tmp 14) rfl g14 (by kernel_rfl) 26 (intsA .u8 H) (fun _ h => h.1) _ Tryd.underlying26 rfl SH.out hw61 ?_
    try simp only [Act.put, List.setIfInBounds_toArray, List.set_cons_zero, List.set_cons_succ]
    refine held_v 11 (some 70) rfl (by kernel_rfl) (by kernel_rfl) (by kernel_rfl) (by kernel_rfl) (fun c a v w h => HQ2.out c a _ v w h) (by kernel_rfl) (.bool true) (fun W h => by go_simp) hw61 ?_
    try simp only [Act.put, List.setIfInBounds_toArray, List.set_cons_zero, List.set_cons_succ]
    refine held_v 12 (some 71) rfl (by kernel_rfl) (by kernel_rfl) (by kernel_rfl) (by kernel_rfl) (fun c a v w h => HQ2.out c a _ v w h) (by kernel_rfl) (.bool true) (fun W h => by kernel_rfl) hw61 ?_
    try simp only [Act.put, List.setIfInBounds_toArray, List.set_cons_zero, List.set_cons_succ]
    refine held_v 13 (some 72) rfl (by kernel_rfl) (by kernel_rfl) (by kernel_rfl) (by kernel_rfl) (fun c a v w h => HQ2.out c a _ v w h) (by kernel_rfl) (.bool true) (fun W h => by kernel_rfl) hw61 ?_
    try simp only [Act.put, List.setIfInBounds_toArray, List.set_cons_zero, List.set_cons_succ]
    refine held_v 14 (some 73) rfl (by kernel_rfl) (by kernel_rfl) (by kernel_rfl) (by kernel_rfl) (fun c a v w h => HQ2.out c a _ v w h) (by kernel_rfl) (.int .i64 k2) (fun W h => by kernel_rfl) hw61 ?_
    try simp only [Act.put, List.setIfInBounds_toArray, List.set_cons_zero, List.set_cons_succ]
    refine held_v 15 (some 74) rfl (by kernel_rfl) (by kernel_rfl) (by kernel_rfl) (by kernel_rfl) (fun c a v w h => HQ2.out c a _ v w h) (by kernel_rfl) (.int .i64 k2) (fun W h => by kernel_rfl) hw61 ?_
    try simp only [Act.put, List.setIfInBounds_toArray, List.set_cons_zero, List.set_cons_succ]
    refine held_v 16 (some 75) rfl (by kernel_rfl) (by kernel_rfl) (by kernel_rfl) (by kernel_rfl) (fun c a v w h => HQ2.out c a _ v w h) (by kernel_rfl) (.bool true) (fun W h => by go_simp) hw61 ?_
    try simp only [Act.put, List.setIfInBounds_toArray, List.set_cons_zero, List.set_cons_succ]
    refine held_v 17 (some 76) rfl (by kernel_rfl) (by kernel_rfl) (by kernel_rfl) (by kernel_rfl) (fun c a v w h => HQ2.out c a _ v w h) (by kernel_rfl) (.bool true) (fun W h => by kernel_rfl) hw61 ?_
    try simp only [Act.put, List.setIfInBounds_toArray, List.set_cons_zero, List.set_cons_succ]
    refine held_v 18 (some 77) rfl (by kernel_rfl) (by kernel_rfl) (by kernel_rfl) (by kernel_rfl) (fun c a v w h => HQ2.out c a _ v w h) (by kernel_rfl) (.bool true) (fun W h => by kernel_rfl) hw61 ?_
    try simp only [Act.put, List.setIfInBounds_toArray, List.set_cons_zero, List.set_cons_succ]
    refine held_row 19 (some 78) rfl (by kernel_rfl) (by kernel_rfl) (by kernel_rfl) (by kernel_rfl) (fun c a v w h => HQ2.out c a _ v w h) (by kernel_rfl) 36 (.tmp 3) rfl g3 (by kernel_rfl) 36 V (fun _ h => h.2.2.2.2.2.2.2.1) _ Tryd.underlying36 rfl SV.out hw61 ?_
    try simp only [Act.put, List.setIfInBounds_toArray, List.set_cons_zero, List.set_cons_succ]
    refine held_row 21 (some 80) rfl (by kernel_rfl) (by kernel_rfl) (by kernel_rfl) (by kernel_rfl) (fun c a v w h => HQ2.out c a _ v w h) (by kernel_rfl) 36 (.tmp 3) rfl g3 (by kernel_rfl) 36 V (fun _ h => h.2.2.2.2.2.2.2.1) _ Tryd.underlying36 rfl SV.out hw61 ?_
    try simp only [Act.put, List.setIfInBounds_toArray, List.set_cons_zero, List.set_cons_succ]
    refine wpAnyH_ready (rs := [20]) (by kernel_rfl) (by decide) ?_
    refine AllReadyH.cons rfl (fun K hK => ?_) AllReadyH.nil
    refine step_call (some 79) (by kernel_rfl) (by kernel_rfl) _ _ (by kernel_rfl) _ (QR.out _) ?_
    rintro e w62 ⟨rfl, hbw62⟩
    refine ⟨_, rfl, ?_⟩
    refine hK.out _ _ (hw61.below hbw62) (fun hw62 => ?_)
    clear hK K
    try simp only [Act.put, List.setIfInBounds_toArray, List.set_cons_zero, List.set_cons_succ]
    refine wpAnyH_ready (rs := [22]) (by kernel_rfl) (by decide) ?_
    refine AllReadyH.cons rfl (fun K hK => ?_) AllReadyH.nil
    refine step_call (some 81) (by kernel_rfl) (by kernel_rfl) _ _ (by kernel_rfl) _ (RR.out _) ?_
    rintro e w63 ⟨rfl, hbw63⟩
    refine ⟨_, rfl, ?_⟩
    refine hK.out _ _ (hw62.below hbw63) (fun hw63 => ?_)
    clear hK K
    try simp only [Act.put, List.setIfInBounds_toArray, List.set_cons_zero, List.set_cons_succ]
    refine held_v 23 (some 82) rfl (by kernel_rfl) (by kernel_rfl) (by kernel_rfl) (by kernel_rfl) (fun c a v w h => HQ2.out c a _ v w h) (by kernel_rfl) (.bool true) (fun W h => by go_simp) hw63 ?_
    try simp only [Act.put, List.setIfInBounds_toArray, List.set_cons_zero, List.set_cons_succ]
    refine held_v 24 (some 83) rfl (by kernel_rfl) (by kernel_rfl) (by kernel_rfl) (by kernel_rfl) (fun c a v w h => HQ2.out c a _ v w h) (by kernel_rfl) (.bool true) (fun W h => by kernel_rfl) hw63 ?_
    try simp only [Act.put, List.setIfInBounds_toArray, List.set_cons_zero, List.set_cons_succ]
    refine held_v 25 (some 84) rfl (by kernel_rfl) (by kernel_rfl) (by kernel_rfl) (by kernel_rfl) (fun c a v w h => HQ2.out c a _ v w h) (by kernel_rfl) (.bool true) (fun W h => by kernel_rfl) hw63 ?_
    try simp only [Act.put, List.setIfInBounds_toArray, List.set_cons_zero, List.set_cons_succ]
    refine held_row 26 (some 85) rfl (by kernel_rfl) (by kernel_rfl) (by kernel_rfl) (by kernel_rfl) (fun c a v w h => HQ2.out c a _ v w h) (by kernel_rfl) 36 (.tmp 3) rfl g3 (by kernel_rfl) 36 V (fun _ h => h.2.2.2.2.2.2.2.1) _ Tryd.underlying36 rfl SV.out hw63 ?_
    try simp only [Act.put, List.setIfInBounds_toArray, List.set_cons_zero, List.set_cons_succ]
    refine held_row 27 (some 86) rfl (by kernel_rfl) (by kernel_rfl) (by kernel_rfl) (by kernel_rfl) (fun c a v w h => HQ2.out c a _ v w h) (by kernel_rfl) 36 (.tmp 4) rfl g4 (by kernel_rfl) 36 X (fun _ h => h.2.2.2.2.2.2.2.2.1) _ Tryd.underlying36 rfl SX.out hw63 ?_
    try simp only [Act.put, List.setIfInBounds_toArray, List.set_cons_zero, List.set_cons_succ]
    refine held_row 29 (some 88) rfl (by kernel_rfl) (by kernel_rfl) (by kernel_rfl) (by kernel_rfl) (fun c a v w h => HQ2.out c a _ v w h) (by kernel_rfl) 36 (.tmp 3) rfl g3 (by kernel_rfl) 36 V (fun _ h => h.2.2.2.2.2.2.2.1) _ Tryd.underlying36 rfl SV.out hw63 ?_
    try simp only [Act.put, List.setIfInBounds_toArray, List.set_cons_zero, List.set_cons_succ]
    refine held_row 30 (some 89) rfl (by kernel_rfl) (by kernel_rfl) (by kernel_rfl) (by kernel_rfl) (fun c a v w h => HQ2.out c a _ v w h) (by kernel_rfl) 36 (.tmp 4) rfl g4 (by kernel_rfl) 36 X (fun _ h => h.2.2.2.2.2.2.2.2.1) _ Tryd.underlying36 rfl SX.out hw63 ?_
    try simp only [Act.put, List.setIfInBounds_toArray, List.set_cons_zero, List.set_cons_succ]
    refine wpAnyH_ready (rs := [28]) (by kernel_rfl) (by decide) ?_
    refine AllReadyH.cons rfl (fun K hK => ?_) AllReadyH.nil
    refine step_call (some 87) (by kernel_rfl) (by kernel_rfl) _ _ (by kernel_rfl) _ (QS.out _ hw63.2.2.2.2.2.2.2.2.2.1 hw63.2.2.2.2.2.2.2.2.2.2.1) ?_
    rintro e w64 ⟨rfl, hbw64⟩
    refine ⟨_, rfl, ?_⟩
    refine hK.out _ _ (hw63.below hbw64) (fun hw64 => ?_)
    clear hK K
    try simp only [Act.put, List.setIfInBounds_toArray, List.set_cons_zero, List.set_cons_succ]
    refine wpAnyH_ready (rs := [31]) (by kernel_rfl) (by decide) ?_
    refine AllReadyH.cons rfl (fun K hK => ?_) AllReadyH.nil
    refine step_call (some 90) (by kernel_rfl) (by kernel_rfl) _ _ (by kernel_rfl) _ (RS.out _ hw64.2.2.2.2.2.2.2.2.2.1 hw64.2.2.2.2.2.2.2.2.2.2.1) ?_
    rintro e w65 ⟨rfl, hbw65⟩
    refine ⟨_, rfl, ?_⟩
    refine hK.out _ _ (hw64.below hbw65) (fun hw65 => ?_)
    clear hK K
    try simp only [Act.put, List.setIfInBounds_toArray, List.set_cons_zero, List.set_cons_succ]
    refine held_v 32 (some 91) rfl (by kernel_rfl) (by kernel_rfl) (by kernel_rfl) (by kernel_rfl) (fun c a v w h => HQ2.out c a _ v w h) (by kernel_rfl) (.bool true) (fun W h => by go_simp) hw65 ?_
    try simp only [Act.put, List.setIfInBounds_toArray, List.set_cons_zero, List.set_cons_succ]
    refine held_v 33 (some 92) rfl (by kernel_rfl) (by kernel_rfl) (by kernel_rfl) (by kernel_rfl) (fun c a v w h => HQ2.out c a _ v w h) (by kernel_rfl) (.bool true) (fun W h => by kernel_rfl) hw65 ?_
    try simp only [Act.put, List.setIfInBounds_toArray, List.set_cons_zero, List.set_cons_succ]
    refine held_v 34 (some 93) rfl (by kernel_rfl) (by kernel_rfl) (by kernel_rfl) (by kernel_rfl) (fun c a v w h => HQ2.out c a _ v w h) (by kernel_rfl) (.bool true) (fun W h => by kernel_rfl) hw65 ?_
    try simp only [Act.put, List.setIfInBounds_toArray, List.set_cons_zero, List.set_cons_succ]
    refine wpAnyH_ready (rs := [35]) (by kernel_rfl) (by decide) ?_
    refine AllReadyH.cons rfl (fun K hK => ?_) AllReadyH.nil
    refine step_call (some 94) (by kernel_rfl) (by kernel_rfl) _ _ (by kernel_rfl) _ (qnew_c _) ?_
    rintro e w66 ⟨rfl, hbw66⟩
    refine ⟨_, rfl, ?_⟩
    refine hK.out _ _ (hw65.below hbw66) (fun hw66 => ?_)
    clear hK K
    try simp only [Act.put, List.setIfInBounds_toArray, List.set_cons_zero, List.set_cons_succ]
    refine wpAnyH_ready (rs := [36]) (by kernel_rfl) (by decide) ?_
    refine AllReadyH.cons rfl (fun K hK => ?_) AllReadyH.nil
    refine step_call (some 95) (by kernel_rfl) (by kernel_rfl) _ _ (by kernel_rfl) _ (rnew_c _) ?_
    rintro e w67 ⟨rfl, hbw67⟩
    refine ⟨_, rfl, ?_⟩
    refine hK.out _ _ (hw66.below hbw67) (fun hw67 => ?_)
    clear hK K
    try simp only [Act.put, List.setIfInBounds_toArray, List.set_cons_zero, List.set_cons_succ]
    refine wpAnyH_ready (rs := [37]) (by kernel_rfl) (by decide) ?_
    refine AllReadyH.cons rfl (fun K hK => ?_) AllReadyH.nil
    refine step_call (some 96) (by kernel_rfl) (by kernel_rfl) _ _ (by kernel_rfl) _ (NN.out _) ?_
    rintro e w68 ⟨rfl, hbw68⟩
    refine ⟨_, rfl, ?_⟩
    refine hK.out _ _ (hw67.below hbw68) (fun hw68 => ?_)
    clear hK K
    try simp only [Act.put, List.setIfInBounds_toArray, List.set_cons_zero, List.set_cons_succ]
    refine held_v 38 (some 97) rfl (by kernel_rfl) (by kernel_rfl) (by kernel_rfl) (by kernel_rfl) (fun c a v w h => HQ2.out c a _ v w h) (by kernel_rfl) (.bool true) (fun W h => by kernel_rfl) hw68 ?_
    try simp only [Act.put, List.setIfInBounds_toArray, List.set_cons_zero, List.set_cons_succ]
    refine held_v 39 (some 98) rfl (by kernel_rfl) (by kernel_rfl) (by kernel_rfl) (by kernel_rfl) (fun c a v w h => HQ2.out c a _ v w h) (by kernel_rfl) (.bool true) (fun W h => by kernel_rfl) hw68 ?_
    try simp only [Act.put, List.setIfInBounds_toArray, List.set_cons_zero, List.set_cons_succ]
    refine held_v 40 (some 99) rfl (by kernel_rfl) (by kernel_rfl) (by kernel_rfl) (by kernel_rfl) (fun c a v w h => HQ2.out c a _ v w h) (by kernel_rfl) (.slice A7 rest.length c7) (fun W h => by kernel_rfl) hw68 ?_
    try simp only [Act.put, List.setIfInBounds_toArray, List.set_cons_zero, List.set_cons_succ]
    refine held_v 41 (some 100) rfl (by kernel_rfl) (by kernel_rfl) (by kernel_rfl) (by kernel_rfl) (fun c a v w h => HQ2.out c a _ v w h) (by kernel_rfl) (.string (strB rest)) (fun W h => by have c := str_rd5 (c := c7) (h.2.2.2.2.2.2.1); go_simp) hw68 ?_
    try simp only [Act.put, List.setIfInBounds_toArray, List.set_cons_zero, List.set_cons_succ]
    refine held_v 42 (some 101) rfl (by kernel_rfl) (by kernel_rfl) (by kernel_rfl) (by kernel_rfl) (fun c a v w h => HQ2.out c a _ v w h) (by kernel_rfl) (.pointer (some ⟨g3, 8, none⟩)) (fun W h => by kernel_rfl) hw68 ?_
    try simp only [Act.put, List.setIfInBounds_toArray, List.set_cons_zero, List.set_cons_succ]
    refine held_v 43 (some 102) rfl (by kernel_rfl) (by kernel_rfl) (by kernel_rfl) (by kernel_rfl) (fun c a v w h => HQ2.out c a _ v w h) (by kernel_rfl) (.slice A r c) (fun W h => by have c := Blk.cell (h.2.2.2.2.2.2.2.1) 8; rw [HC8.out] at c; go_simp) hw68 ?_
    try simp only [Act.put, List.setIfInBounds_toArray, List.set_cons_zero, List.set_cons_succ]
    refine held_v 44 (some 103) rfl (by kernel_rfl) (by kernel_rfl) (by kernel_rfl) (by kernel_rfl) (fun c a v w h => HQ2.out c a _ v w h) (by kernel_rfl) (.string (strB rest)) (fun W h => by have c := str_rd5 (c := c) (h.2.2.2.2.2.2.2.2.2.1); go_simp) hw68 ?_
    try simp only [Act.put, List.setIfInBounds_toArray, List.set_cons_zero, List.set_cons_succ]
    refine held_v 45 (some 104) rfl (by kernel_rfl) (by kernel_rfl) (by kernel_rfl) (by kernel_rfl) (fun c a v w h => HQ2.out c a _ v w h) (by kernel_rfl) (.bool true) (fun W h => by go_simp) hw68 ?_
    try simp only [Act.put, List.setIfInBounds_toArray, List.set_cons_zero, List.set_cons_succ]
    refine held_v 46 (some 105) rfl (by kernel_rfl) (by kernel_rfl) (by kernel_rfl) (by kernel_rfl) (fun c a v w h => HQ2.out c a _ v w h) (by kernel_rfl) (.bool true) (fun W h => by kernel_rfl) hw68 ?_
    try simp only [Act.put, List.setIfInBounds_toArray, List.set_cons_zero, List.set_cons_succ]
    refine held_v 47 (some 6) rfl (by kernel_rfl) (by kernel_rfl) (by kernel_rfl) (by kernel_rfl) (fun c a v w h => HQ2.out c a _ v w h) (by kernel_rfl) (.bool true) (fun W h => by kernel_rfl) hw68 ?_
    try simp only [Act.put, List.setIfInBounds_toArray, List.set_cons_zero, List.set_cons_succ]
    refine wpAnyH_done (by kernel_rfl) ?_ _
    refine HQ1.out _ _ ?_
    clear HQ1 HQ2
    go_wp2
    go_ret
    refine ⟨rfl, ?_⟩
    first | exact hw68.2.2.2.2.2.2.2.2.2.2.2.1 | (rw [← HW.out]; exact hw68.2.2.2.2.2.2.2.2.2.2.2.1)
theorem walk (s0 : List Int) (a0 : Option Addr) (m0 c0 : Nat) (n0 : Int) (z0 : List Int) (s1 : List Int) (a1 : Option Addr) (m1 c1 : Nat) (n1 : Int) (z1 : List Int) (a2 : Option Addr) (n2 c2 : Nat) (z2 : List Row) (w : World)
    (sl0 : s0.length = 8) (sw0 : ∀ z ∈ s0, (Lit.int .u32 z).wf = true) (rd0 : Rd .u8 w w.heap.size a0 m0 z0) (mc0 : m0 ≤ c0) (cm0 : c0 ≤ maxLen) (zw0 : ∀ z ∈ z0, (Lit.int .u8 z).wf = true) (nw0 : (Lit.int .u64 n0).wf = true)
    (sl1 : s1.length = 8) (sw1 : ∀ z ∈ s1, (Lit.int .u32 z).wf = true) (rd1 : Rd .u8 w w.heap.size a1 m1 z1) (mc1 : m1 ≤ c1) (cm1 : c1 ≤ maxLen) (zw1 : ∀ z ∈ z1, (Lit.int .u8 z).wf = true) (nw1 : (Lit.int .u64 n1).wf = true)
    (rd2 : RdRows w w.heap.size a2 n2 z2) (lc2 : n2 ≤ c2) (cm2 : c2 ≤ maxLen) (w2 : ∀ r ∈ z2, r.n ≤ maxLen ∧ r.zs.length = r.n ∧ ∀ z ∈ r.zs, (Lit.int .u8 z).wf = true) (hkst : Kst w) :
    Calls Tryd.prog 4 #[.agg (wrV s0 a0 m0 c0 n0), .agg (wrV s1 a1 m1 c1 n1), .slice a2 n2 c2] w fun e w' => e = .returned (.bool true) ∧ Below w.heap.size w w' := by
  have h0 := bounds_u64 nw0
  exact of_walk s0 a0 m0 c0 n0 z0 s1 a1 m1 c1 n1 z1 a2 n2 c2 z2 w sl0 (u32b sw0) rd0 mc0 cm0 (u8b zw0) (by omega) (by omega) sl1 (u32b sw1) rd1 mc1 cm1 (u8b zw1) rd2 lc2 cm2 w2 hkst


set_option maxRecDepth 100000 in
theorem lifted (os : Os) (started : os.Started) (H : Type) (enc : TypeId × Value → H) :
    ReturnsInHanded {} Tryd.checked os 4 .any (fun w args => (Rows.shaWritesSpec.pre enc Tryd.prog Tryd.f4 [] false w args ∧ laidMetH Tryd.prog laidK w) ∧ sizedMet enc Tryd.prog Tryd.f4 (OpenSpec.ofChange Rows.shaWritesSpec) false w args) (Rows.shaWritesSpec.post enc Tryd.prog Tryd.f4 false true false false) := by
  refine returnsInHanded_of_change_and (C := Tryd.checked) (X := fun w _ => laidMetH Tryd.prog laidK w) (fun _ _ _ hh h => h.of_heap hh) own started (by kernel_rfl) Tryd.func4
    (ChangeSpec.witness_shaped (enc := enc) (C := Tryd.checked) (os := os) (X := fun w _ => laidMetH Tryd.prog laidK w) false (World.doorLaid Tryd.prog 400 os) #[.agg #[.int .u32 0, .int .u32 0, .int .u32 0, .int .u32 0, .int .u32 0, .int .u32 0, .int .u32 0, .int .u32 0, .slice none 0 0, .int .u64 0], .agg #[.int .u32 0, .int .u32 0, .int .u32 0, .int .u32 0, .int .u32 0, .int .u32 0, .int .u32 0, .int .u32 0, .slice none 0 0, .int .u64 0], .slice none 0 0] 8 rfl (World.shaped_of_RefB (by kernel_rfl) (by kernel_rfl)) (by kernel_rfl) (by kernel_rfl) (by kernel_rfl) (door_met os _)) ?_
  intro W base args ds gs before hval0 hW _ _ hL _
  have hval : ∀ (j : Nat) t v, Tryd.f4.params[j]? = some t → args[j]? = some v → Value.okWide Tryd.prog W .any base t v := hval0
  have hW' := hW
  obtain ⟨p, q, hA0, hV, rfl, hfz, hnd⟩ := hW
  have hA : DataW.TrodAll enc Tryd.prog W 0 (fun _ => true) true Tryd.f4.params.toList args.toList ds p := hA0
  rw [Tryd.params4] at hA hval
  obtain ⟨v0, vs0, d0, ds0, p0, q0, hargs, rfl, rfl, h0, r0⟩ := trodAll_cons hA
  obtain ⟨v1, vs1, d1, ds1, p1, q1, rfl, rfl, rfl, h1, r1⟩ := trodAll_cons r0
  obtain ⟨v2, vs2, d2, ds2, p2, q2, rfl, rfl, rfl, h2, r2⟩ := trodAll_cons r1
  obtain ⟨rfl, rfl, rfl⟩ := trodAll_nil r2
  obtain rfl : args = #[v0, v1, v2] := by cases args; simp_all
  obtain ⟨rfl, rfl⟩ := trodVars_none hV
  have k0 := h0
  have lt0 : ∀ x ∈ p0, x.block < W.heap.size := by obtain ⟨m, hm⟩ := k0; exact DataW.trod_lt m _ _ _ hm
  obtain ⟨s0, a0, m0, c0, n0, z0, rfl, sl0, sw0, rd0, mc0, cm0, zw0, nw0⟩ := open_wr (hval 0 36 v0 rfl rfl) h0
  have k1 := h1
  have lt1 : ∀ x ∈ p1, x.block < W.heap.size := by obtain ⟨m, hm⟩ := k1; exact DataW.trod_lt m _ _ _ hm
  obtain ⟨s1, a1, m1, c1, n1, z1, rfl, sl1, sw1, rd1, mc1, cm1, zw1, nw1⟩ := open_wr (hval 1 36 v1 rfl rfl) h1
  obtain ⟨a2, n2, c2, rfl⟩ := okWide_slice Tryd.underlying22 (hval 2 22 v2 rfl rfl)
  have k2 := h2
  have lt2 : ∀ x ∈ p2, x.block < W.heap.size := by obtain ⟨m, hm⟩ := k2; exact DataW.trod_lt m _ _ _ hm
  obtain ⟨z2, rd2, lc2, cm2, w2⟩ := open_rows Tryd.underlying22 Tryd.underlying29 Tryd.underlying5 (by kernel_rfl) (by kernel_rfl) h2
  clear hA0 hval0
  refine (walk s0 a0 m0 c0 n0 z0 s1 a1 m1 c1 n1 z1 a2 n2 c2 z2 W sl0 sw0 rd0 mc0 cm0 zw0 nw0 sl1 sw1 rd1 mc1 cm1 zw1 nw1 rd2 lc2 cm2 w2 (kst_of_laid hL)).mono fun e W' ⟨he, bel⟩ => ?_
  subst he
  exact ⟨_, rfl, _, _, _, [], _, [], hW', trodAll_mk1 (shut_bool Tryd.underlying4 _), (trodAll_cons_mk (Below.trod laidOut (by kernel_rfl) (of_decide_eq_true (by kernel_rfl)) k0 bel lt0) (trodAll_cons_mk (Below.trod laidOut (by kernel_rfl) (of_decide_eq_true (by kernel_rfl)) k1 bel lt1) (trodAll_cons_mk (Below.trod laidOut (by kernel_rfl) (of_decide_eq_true (by kernel_rfl)) k2 bel lt2) trodAll_mk0))), rfl, bel.frame _, fun h => by cases h⟩

theorem over : Rows.shaWritesRow.holds Tryd.pinned (OpenSpec.ofChange Rows.shaWritesSpec) :=
  OpenClaim.holds_of_wide 4 Tryd.f4 rfl rfl rfl rfl rfl rfl rfl ⟨rfl, rfl, rfl, rfl, rfl⟩ rfl rfl rfl rfl rfl (by kernel_rfl) Tryd.func4 (by kernel_rfl)
    (of_decide_eq_true (by kernel_rfl)) (by unfold Func.isWrapper; first | (rw [if_pos (by decide +kernel)]; kernel_rfl) | (rw [if_neg (by decide +kernel)]; exact ⟨rfl, rfl⟩))
    (fun os started H enc _ => lifted os started H enc)

end Go.Proofs.YtjdceadglfnnbaaDoor.shaWrites
namespace Go.Proofs.YtjdceadglfnnbaaDoor
theorem shaWrites_holds : Rows.ShaWritesCardSaid :=
  Claim7.holds_tied_plain_at .later [] [.data] true _ false
    shaWrites.over (fun _ h => by cases h) (by kernel_rfl) (fun _ h => by cases h) shaWrites_row_tie rfl ⟨rfl, rfl⟩ (by kernel_rfl) rfl
    (fun f fn hf hfn => by
      obtain rfl : f = 4 := Option.some.inj ((show Tryd.prog.funcNamed "drawlot/drawlotlaw05.ShaWrites" = some 4 by kernel_rfl).symm.trans hf) |>.symm
      obtain rfl : fn = Tryd.f4 := (Option.some.inj (Tryd.func4.symm.trans hfn)).symm
      exact ⟨by kernel_rfl, fun j t ht => by
        rw [Tryd.params4] at ht
        have hm : t ∈ [36, 36, 22] := by simpa using Array.mem_of_getElem? ht
        have hall : ([36, 36, 22].all fun u => !Tryd.prog.wantsStandIn u) = true := by kernel_rfl
        exact (show Tryd.prog.wantsStandIn t = false by simpa using List.all_eq_true.1 hall t hm)⟩)
    (by kernel_rfl)
#print axioms shaWrites_holds
end Go.Proofs.YtjdceadglfnnbaaDoor
