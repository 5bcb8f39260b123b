/-
  What the document's answers for layer 5 return (Finish), and that they leave memory as it was.
  Conditions: the arguments lie in their types' ranges; what is hashed is small.
-/
import Derived.Test.YtjdceadglfnnbaaDoorRefH
set_option linter.unusedSimpArgs false
namespace Go.Proofs.YtjdceadglfnnbaaDoor
open Go.ChangeShapes Go.WideShapes Go.ChangeAt Go.RowKit
set_option linter.unusedVariables false
section
variable {P : Program} {w w' : World} {ops : Array Oper} {rest : List Oper} {o : Oper} {a : Act} {Q : Exit → Act → World → Prop}
theorem wpList_load_at (hgd : o.guard = none) (ty : TypeId) (x : Operand) (ho : o.op = .load ty x) (g off : Nat) (hx : a.eval x = .pointer (some ⟨g, off, none⟩)) (k : IntKind) (zs : List Int) (hb : w.rangeAt g off (zs.map (Value.int k)))
    (d : TypeDesc) (hu : P.underlying ty = some d) (hd : d.isRow = true) (hi : (P.info? ty).map (·.size) = some zs.length)
    (h : wpList P ops Q rest (a.put o.dst (.agg (intsA k zs))) w) : wpList P ops Q (o :: rest) a w :=
  wpList_load_mid hgd ty x ho g off hx (zs.map (Value.int k)) d hb hu hd (by rw [List.length_map]; exact hi) h
end
theorem run_build_hash (w : World) : (Instr.build 26 #[]).run Tryd.prog w = .ok (.agg (intsA .u8 (List.replicate 32 0))) w := by
  obtain ⟨i0, hi0, _, hs0, _⟩ := info_parts info_u8'
  have h := Tryd.underlying26
  simp [Instr.build, zero_hash, run_underlying h, Instr.fill, sizeOf, typeInfo, hi0, go_sem, Value.cells, intsA]
theorem build_hash {a : Act} {o : Oper} (w : World) (ho : o.op = .build 26 #[]) : (execOp a.eval o).run Tryd.prog w = .ok (.value (.agg (intsA .u8 (List.replicate 32 0)))) w := by
  unfold execOp
  simp only [ho, List.map_toArray, List.map_nil]
  change ((Instr.build 26 #[]) >>= fun v => pure (Next.value v)).run Tryd.prog w = _
  simp only [Sem.run_bind, run_build_hash, Result.andThen_ok, Sem.run_pure]
theorem BlkI.blk {w : World} {g : Nat} {t : TypeId} {k : IntKind} {zs : List Int} (h : BlkI w g t k zs) : Blk w g t (intsA k zs) := h
theorem hash_size (R : List Int) (hl : R.length = 32) : (Tryd.prog.info? 26).map (·.size) = some (intsA .u8 R).size := by rw [intsA_size, hl]; exact size_hash
set_option maxHeartbeats 1000000 in
theorem rfin_no (s : List Int) (hl : s.length = 8) (A : Option Addr) (r c : Nat) (n : Int) (hr : r ≤ 1000000) (n0 : 0 ≤ n) (n1 : n < 18446744073709551616) (hno : rightB r n = false) (w : World) :
    Calls Tryd.prog 15 #[.agg (wrV s A r c n)] w fun e w' => e = .returned (.tuple #[.agg (intsA .u8 (List.replicate 32 0)), .int .i64 1]) ∧ Below w.heap.size w w' := by
  have hn : 2305843009213693952 ≤ n ∨ (r : Int) ≠ n % 64 := by
    unfold rightB at hno
    have := of_decide_eq_false hno
    omega
  have HTL := Lib.hid (fun W => rtail_no A c r n W hr n0 n1 hn)
  have HC8 := Lib.hid (wrV_rest s hl A r c n)
  have HC9 := Lib.hid (wrV_bytes s hl A r c n)
  have SZ := Lib.hid (hash_size (List.replicate 32 0) (by simp))
  obtain ⟨V, hV⟩ : ∃ V, wrV s A r c n = V := ⟨_, rfl⟩
  obtain ⟨Z, hZ⟩ : ∃ Z : List Int, List.replicate 32 0 = Z := ⟨_, rfl⟩
  have HZ0 := Lib.hid zero_hash
  have HB0 := Lib.hid (fun (a : Act) (o : Oper) W => build_hash (a := a) (o := o) W)
  have LZ := Lib.hid (show (Tryd.prog.info? 26).map (·.size) = some Z.length by rw [← hZ, List.length_replicate]; exact size_hash)
  rw [hV] at HC8 HC9 ⊢
  rw [hZ] at SZ HZ0 HB0 ⊢
  clear hV hno hn hZ
  go_enter Tryd.func15, Tryd.ntmps15
  go_wp2_with (first
    | (with_reducible refine at_any ?_; refine at_dst 1 rfl ?_; refine wpList_box_any rfl 36 (.tmp 0) rfl V rfl ?_; intro w1 hk1 hs1 hb1)
    | (with_reducible refine at_any ?_; refine at_dst 2 rfl ?_; refine wpList_alloc_ints rfl 26 rfl .u8 Z HZ0.out ?_; intro w2 hk2 hs2 hb2; have hk1b := Lib.hid (hk1.out.below hb2 hk1.out.lt); have bl2 := Lib.hid (hb1.trans (hb2.mono hb1.size)); have c8 := hk1b.out.cell 8; have c9 := hk1b.out.cell 9; rw [HC8.out] at c8; rw [HC9.out] at c9)
    | (go_at_call 35; (with_reducible refine (HTL.out _).mono ?_); rintro e _ ⟨rfl, rfl⟩)
    | (with_reducible refine at_any ?_; refine at_dst 18 rfl ?_; refine wpList_val rfl (.agg (intsA .u8 Z)) (HB0.out _ _ _ rfl) ?_)
    | (with_reducible refine at_any ?_; refine at_store 2 rfl ?_; refine wpList_store_ints rfl 26 (.tmp 2) (.tmp 18) rfl w1.heap.size rfl 26 .u8 Z Z hk2.out rfl rfl LZ.out ?_; intro w9 hk9 hs9 hb9 ho9)
    | (refine bodyPost_any2 2 3 26 rfl w1.heap.size rfl (.int .i64 1) rfl 26 (intsA .u8 Z) hk9.out.blk _ Tryd.underlying26 rfl SZ.out rfl ?_))
  exact bl2.out.trans (hb9 _ hb1.size)
set_option maxHeartbeats 1000000 in
theorem rfin_c (s rest : List Int) (hl : s.length = 8) (hs : WIn s) (A : Option Addr) (r c : Nat) (n : Int) (hr : r ≤ 63) (n0 : 0 ≤ n) (hyes : rightB r n = true) (w : World)
    (hrd : Rd .u8 w w.heap.size A r rest) (hri : ∀ z ∈ rest, 0 ≤ z ∧ z < 256) :
    Calls Tryd.prog 15 #[.agg (wrV s A r c n)] w fun e w' => e = .returned (.tuple #[.agg (intsA .u8 (finL s rest n)), .int .i64 0]) ∧ Below w.heap.size w w' := by
  obtain ⟨n2, hn⟩ : n < 2305843009213693952 ∧ (r : Int) = n % 64 := by unfold rightB at hyes; exact of_decide_eq_true hyes
  have hlr := hrd.len
  have htl := tailL_len rest n
  have htz := zer_le rest.length
  have hti := tailL_in rest n hri n0 n2
  obtain ⟨P, hP⟩ : ∃ P, tailL rest n = P := ⟨_, rfl⟩
  obtain ⟨q, hq⟩ : ∃ q, P.length / 64 = q := ⟨_, rfl⟩
  obtain ⟨BS, hBS⟩ : ∃ BS, cutN P q = BS := ⟨_, rfl⟩
  have hR : finL s rest n = hashL (takesL s BS) := by unfold finL; rw [hP, hq, hBS]
  obtain ⟨X, hX⟩ : ∃ X, takesL s BS = X := ⟨_, rfl⟩
  obtain ⟨R, hRR⟩ : ∃ R, hashL X = R := ⟨_, rfl⟩
  rw [hX, hRR] at hR
  rw [hR]
  have HTL := Lib.hid (fun W h => rtail_c A c r rest n W h n0 n2 hn)
  rw [hP] at htl hti HTL
  have hbi := cutN_in P q hti
  have hbl := cutN_length P q
  rw [hBS] at hbi hbl
  have hxl : X.length = 8 := by rw [← hX]; exact takesL_len _ _ hl
  have hxi : WIn X := by rw [← hX]; exact takesL_in _ _ hs
  have hrl : R.length = 32 := by rw [← hRR]; exact hashL_len X
  have HT1 := Lib.hid (fun A n c W h1 h2 => rtakes_c s A n c BS hl hs W h1 hbi h2)
  have HH1 := Lib.hid (fun W => rhash_c X hxl hxi W)
  rw [hX] at HT1
  rw [hRR] at HH1
  have HC1 := Lib.hid (fun A c W h1 h2 => rcut_c A c P.length P W h1 h2 (by omega))
  rw [hq, hBS] at HC1
  have hq1 : q ≤ 10000 := by omega
  have HBL := Lib.hid hbl
  have HC8 := Lib.hid (wrV_rest s hl A r c n)
  have HC9 := Lib.hid (wrV_bytes s hl A r c n)
  have HST := Lib.hid (fun W g (h : Blk W g 36 (wrV s A r c n)) => wrV_state h)
  obtain ⟨V, hV⟩ : ∃ V, wrV s A r c n = V := ⟨_, rfl⟩
  rw [hV] at HC8 HC9 HST ⊢
  have SS := Lib.hid (show (Tryd.prog.info? 33).map (·.size) = some s.length by rw [hl]; exact size_state)
  have SR := Lib.hid (show (Tryd.prog.info? 26).map (·.size) = some R.length by rw [hrl]; exact size_hash)
  have SRI := Lib.hid (hash_size R hrl)
  have ZR := Lib.hid (show (List.replicate 32 (0 : Int)).length = R.length by rw [hrl]; simp)
  have HR0 := Lib.hid hrd
  clear hyes hn hlr htl htz hti hP hq hBS hR hX hRR hbi hbl hxl hxi hrl hV hrd
  go_enter Tryd.func15, Tryd.ntmps15
  go_wp2_with (first
    | (with_reducible refine at_any ?_; refine at_dst 1 rfl ?_; refine wpList_box_any rfl 36 (.tmp 0) rfl V rfl ?_; intro w1 hk1 hs1 hb1)
    | (with_reducible refine at_any ?_; refine at_dst 2 rfl ?_; refine wpList_alloc_ints rfl 26 rfl .u8 (List.replicate 32 0) zero_hash ?_; intro w2 hk2 hs2 hb2; have hk1b := Lib.hid (hk1.out.below hb2 hk1.out.lt); have bl2 := Lib.hid (hb1.trans (hb2.mono hb1.size)); have c8 := hk1b.out.cell 8; have c9 := hk1b.out.cell 9; rw [HC8.out] at c8; rw [HC9.out] at c9; have HR2 := Lib.hid (HR0.out.below bl2.out).fit)
    | (go_at_call 35; (with_reducible refine (HTL.out w2 HR2.out).mono ?_); rintro e w3 ⟨A3, c3, rfl, how3, hb3⟩; have hk3 := Lib.hid (hk2.out.below hb3 hk2.out.lt); have hk1c := Lib.hid (hk1b.out.below hb3 hk1b.out.lt); have bl3 := Lib.hid (bl2.out.trans (hb3.mono bl2.out.size)); have HO3 := Lib.hid how3; clear how3)
    | (go_at_call 29; (with_reducible refine (HC1.out A3 c3 w3 (HO3.out.rd rfl) HO3.out.cap.1).mono ?_); rintro e w4 ⟨A4, c4, A5, c5, rfl, how4, hrd4, hc5, hb4⟩; have hk4 := Lib.hid (hk3.out.below hb4 hk3.out.lt); have hk1d := Lib.hid (hk1c.out.below hb4 hk1c.out.lt); have bl4 := Lib.hid (bl3.out.trans (hb4.mono bl3.out.size)); have HO4 := Lib.hid how4; clear how4 hrd4 hc5)
    | (with_reducible refine at_any ?_; refine at_dst 25 rfl ?_; refine wpList_load_at rfl 33 (.tmp 24) rfl w.heap.size 0 rfl .u32 s (HST.out _ _ hk1d.out) _ Tryd.underlying33 rfl SS.out ?_)
    | (go_at_call 32; (with_reducible refine (HT1.out A4 BS.length c4 w4 (HO4.out.rd rfl) (by rw [HBL.out]; omega)).mono ?_); rintro e w5 ⟨rfl, hb5⟩; have hk5 := Lib.hid (hk4.out.below hb5 hk4.out.lt); have bl5 := Lib.hid (bl4.out.trans (hb5.mono bl4.out.size)))
    | (go_at_call 31; (with_reducible refine (HH1.out w5).mono ?_); rintro e w6 ⟨rfl, hb6⟩; have hk6 := Lib.hid (hk5.out.below hb6 hk5.out.lt); have bl6 := Lib.hid (bl5.out.trans (hb6.mono bl5.out.size)))
    | (with_reducible refine at_any ?_; refine at_store 2 rfl ?_; refine wpList_store_ints rfl 26 (.tmp 2) (.tmp 28) rfl w1.heap.size rfl 26 .u8 (List.replicate 32 0) R hk6.out rfl ZR.out SR.out ?_; intro w9 hk9 hs9 hb9 ho9)
    | (refine bodyPost_any2 2 3 26 rfl w1.heap.size rfl (.int .i64 0) rfl 26 (intsA .u8 R) hk9.out.blk _ Tryd.underlying26 rfl SRI.out rfl ?_))
  exact bl6.out.trans (hb9 _ hb1.size)
end Go.Proofs.YtjdceadglfnnbaaDoor
