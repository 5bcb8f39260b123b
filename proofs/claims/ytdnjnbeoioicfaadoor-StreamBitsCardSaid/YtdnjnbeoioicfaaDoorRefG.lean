/-
  What the document's answers for layer 5 return (Sum, New, Right, Write, Finish), and that they leave memory as it was.
  Conditions: the arguments lie in their types' ranges; what is hashed is small.
-/
import Derived.Test.YtdnjnbeoioicfaaDoorRefF
import Derived.Test.YtdnjnbeoioicfaaDoorShaQ
set_option linter.unusedSimpArgs false
namespace Go.Proofs.YtdnjnbeoioicfaaDoor
open Go.ChangeShapes Go.WideShapes Go.ChangeAt Go.RowKit
set_option linter.unusedVariables false
theorem OwnI.cap {w : World} {base : Nat} {e : TypeId} {k : IntKind} {A : Option Addr} {n c : Nat} {zs : List Int} (h : OwnI w base e k (.slice A n c) zs) : n ≤ c ∧ zs.length = n := by
  obtain ⟨A', c', e', h1, h2⟩ := h.form
  injection e' with e1 e2 e3
  subst e2 e3
  exact ⟨h1, rfl⟩
/-! ### a writer as a value -/
def wrV (s : List Int) (A : Option Addr) (r c : Nat) (n : Int) : Array Value := (s.map (Value.int .u32) ++ [Value.slice A r c, Value.int .u64 n]).toArray
theorem wrV_size (s : List Int) (hl : s.length = 8) (A : Option Addr) (r c : Nat) (n : Int) : (wrV s A r c n).size = 10 := by simp [wrV, hl]
theorem wrV_ones (s : List Int) (A : Option Addr) (r c : Nat) (n : Int) : (wrV s A r c n).all (·.oneCell') = true := all_oneCell_toArray (by
  intro u hu
  rcases List.mem_append.1 hu with h | h
  · exact ints_one .u32 s u h
  · simp only [List.mem_cons, List.not_mem_nil, or_false] at h
    rcases h with h | h <;> subst h <;> rfl)
theorem wrV_rest (s : List Int) (hl : s.length = 8) (A : Option Addr) (r c : Nat) (n : Int) : (wrV s A r c n)[8]? = some (.slice A r c) := by
  unfold wrV
  rw [List.getElem?_toArray, List.getElem?_append_right (by simp; omega)]
  simp [hl]
theorem wrV_bytes (s : List Int) (hl : s.length = 8) (A : Option Addr) (r c : Nat) (n : Int) : (wrV s A r c n)[9]? = some (.int .u64 n) := by
  unfold wrV
  rw [List.getElem?_toArray, List.getElem?_append_right (by simp; omega)]
  simp [hl]
theorem wrV_state {w : World} {g : Nat} {t : TypeId} {s : List Int} {A : Option Addr} {r c : Nat} {n : Int} (h : Blk w g t (wrV s A r c n)) : w.rangeAt g 0 (s.map (Value.int .u32)) := by
  intro j v hv
  rw [Nat.zero_add, h.cell]
  unfold wrV
  rw [List.getElem?_toArray]
  have hj : j < (s.map (Value.int .u32)).length := by
    rcases Nat.lt_or_ge j (s.map (Value.int .u32)).length with h1 | h1
    · exact h1
    · rw [List.getElem?_eq_none h1] at hv; cases hv
  rw [List.getElem?_append_left hj]
  exact hv
theorem size_wr : (Tryd.prog.info? 60).map (·.size) = some 10 := by kernel_rfl
theorem zero_wr : ∀ W, (zeroValue 60).run Tryd.prog W = .ok (.agg (wrV Z8 none 0 0 0)) W := (zero_of_info (n := 10) (by kernel_rfl)).1
theorem sizedW (s : List Int) (hl : s.length = 8) (A : Option Addr) (r c : Nat) (n : Int) : (Tryd.prog.info? 60).map (·.size) = some (wrV s A r c n).size := by rw [wrV_size s hl]; exact size_wr
theorem sizedWL (s : List Int) (hl : s.length = 8) (A : Option Addr) (r c : Nat) (n : Int) : (Tryd.prog.info? 60).map (·.size) = some (wrV s A r c n).toList.length := by rw [Array.length_toList]; exact sizedW s hl A r c n
theorem run_build_wr (s0 s1 s2 s3 s4 s5 s6 s7 : Int) (A : Option Addr) (r c : Nat) (n : Int) (w : World) :
    (Instr.build 60 #[(0, .agg #[.int .u32 s0, .int .u32 s1, .int .u32 s2, .int .u32 s3, .int .u32 s4, .int .u32 s5, .int .u32 s6, .int .u32 s7]), (1, .slice A r c), (2, .int .u64 n)]).run Tryd.prog w = .ok (.agg #[.int .u32 s0, .int .u32 s1, .int .u32 s2, .int .u32 s3, .int .u32 s4, .int .u32 s5, .int .u32 s6, .int .u32 s7, .slice A r c, .int .u64 n]) w := by
  go_simp
theorem build_wr {a : Act} {o : Oper} {x y z : Operand} (w : World) (s : List Int) (hl : s.length = 8) (A : Option Addr) (r c : Nat) (n : Int) (ho : o.op = .build 60 #[(0, x), (1, y), (2, z)]) (hx : a.eval x = .agg (intsA .u32 s)) (hy : a.eval y = .slice A r c) (hz : a.eval z = .int .u64 n) :
    (execOp a.eval o).run Tryd.prog w = .ok (.value (.agg (wrV s A r c n))) w := by
  rw [list8 s hl] at hx ⊢
  have h := run_build_wr (s.getD 0 0) (s.getD 1 0) (s.getD 2 0) (s.getD 3 0) (s.getD 4 0) (s.getD 5 0) (s.getD 6 0) (s.getD 7 0) A r c n w
  unfold execOp
  simp only [ho, List.map_toArray, List.map_cons, List.map_nil, hx, hy, hz]
  change ((Instr.build 60 #[(0, .agg #[.int .u32 (s.getD 0 0), .int .u32 (s.getD 1 0), .int .u32 (s.getD 2 0), .int .u32 (s.getD 3 0), .int .u32 (s.getD 4 0), .int .u32 (s.getD 5 0), .int .u32 (s.getD 6 0), .int .u32 (s.getD 7 0)]), (1, .slice A r c), (2, .int .u64 n)]) >>= fun v => pure (Next.value v)).run Tryd.prog w = _
  simp only [Sem.run_bind, h, Result.andThen_ok, Sem.run_pure]
  rfl
set_option maxHeartbeats 1000000 in
theorem rsum_c (A : Option Addr) (c L : Nat) (b : List Int) (w : World) (hr : Rd .u8 w w.heap.size A L b) (hc : L ≤ c) (hL : L ≤ 100000) (hbb : ∀ z ∈ b, 0 ≤ z ∧ z < 256) :
    Calls Tryd.prog 18 #[.slice A L c] w fun e w' => e = .returned (.agg (intsA .u8 (shaL b))) ∧ Below w.heap.size w w' := by
  have hpl := padL_len5 b
  have hlen := hr.len
  have hpi := padL_in b hbb (by omega)
  have hpc := rpad_c A c L b
  obtain ⟨P, hP⟩ : ∃ P, padL b = P := ⟨_, rfl⟩
  obtain ⟨q, hq⟩ : ∃ q, P.length / 64 = q := ⟨_, rfl⟩
  obtain ⟨BS, hBS⟩ : ∃ BS, cutN P q = BS := ⟨_, rfl⟩
  have hR : shaL b = hashL (takesL startL BS) := by unfold shaL; rw [hP, hq, hBS]
  obtain ⟨X, hX⟩ : ∃ X, takesL startL BS = X := ⟨_, rfl⟩
  obtain ⟨R, hRR⟩ : ∃ R, hashL X = R := ⟨_, rfl⟩
  rw [hX, hRR] at hR
  rw [hP] at hpl hpi hpc
  have hbi := cutN_in P q hpi
  have hbl := cutN_length P q
  rw [hBS] at hbi hbl
  have hxl : X.length = 8 := by rw [← hX]; exact takesL_len _ _ rfl
  have hxi : WIn X := by rw [← hX]; exact takesL_in _ _ startL_in
  have hrl : R.length = 32 := by rw [← hRR]; exact hashL_len X
  have HT1 := Lib.hid (fun A n c W h1 h2 => rtakes_c startL A n c BS rfl startL_in W h1 hbi h2)
  have HH1 := Lib.hid (fun W => rhash_c X hxl hxi W)
  rw [hX] at HT1
  rw [hRR] at HH1
  have HC1 := Lib.hid (fun A c W h1 h2 => rcut_c A c P.length P W h1 h2 (by omega))
  rw [hq, hBS] at HC1
  have HPL := Lib.hid hpl
  have hq1 : q ≤ 10000 := by omega
  have HPC := Lib.hid hpc
  have HRR := Lib.hid hR
  have HBL := Lib.hid hbl
  have SR := Lib.hid (show (Tryd.prog.info? 23).map (·.size) = some R.length by rw [hrl]; exact size_hash)
  have ZR := Lib.hid (show (List.replicate 32 (0 : Int)).length = R.length by rw [hrl]; simp)
  have HR0 := Lib.hid hr
  clear hpl hpi hpc hP hq hBS hR hX hRR hbi hbl hxl hxi hrl hr hlen
  go_enter Tryd.func18, Tryd.ntmps18
  go_wp2_with (first
    | (with_reducible refine at_any ?_; refine at_dst 2 rfl ?_; refine wpList_alloc_ints rfl 23 rfl .u8 (List.replicate 32 0) zero_hash ?_; intro w1 hk1 hs1 hb1; have HR1 := Lib.hid (HR0.out.below hb1).fit)
    | (go_at_call 24; (with_reducible refine (HPC.out w1 HR1.out hc (by omega)).mono ?_); rintro e w2 ⟨A2, c2, rfl, how2, hb2⟩; have hk2 := Lib.hid (hk1.out.below hb2 hk1.out.lt); have bl2 := Lib.hid (hb1.trans (hb2.mono hb1.size)); have HO2 := Lib.hid how2; clear how2)
    | (go_at_call 23; (with_reducible refine (HC1.out A2 c2 w2 (HO2.out.rd rfl) HO2.out.cap.1).mono ?_); rintro e w3 ⟨A3, c3, A4, c4, rfl, how3, hrd3, hc4, hb3⟩; have hk3 := Lib.hid (hk2.out.below hb3 hk2.out.lt); have bl3 := Lib.hid (bl2.out.trans (hb3.mono bl2.out.size)); have HO3 := Lib.hid how3; clear how3 hrd3 hc4)
    | (go_at_call 27; (with_reducible refine (rstart_c _).mono ?_); rintro e w4 ⟨rfl, hb4⟩; have hk4 := Lib.hid (hk3.out.below hb4 hk3.out.lt); have bl4 := Lib.hid (bl3.out.trans (hb4.mono bl3.out.size)); have HA4 := Lib.hid (((HO3.out.rd rfl).below hb4).mono hb4.size))
    | (go_at_call 26; (with_reducible refine (HT1.out A3 BS.length c3 w4 HA4.out (by rw [HBL.out]; omega)).mono ?_); rintro e w5 ⟨rfl, hb5⟩; have hk5 := Lib.hid (hk4.out.below hb5 hk4.out.lt); have bl5 := Lib.hid (bl4.out.trans (hb5.mono bl4.out.size)))
    | (go_at_call 25; (with_reducible refine (HH1.out w5).mono ?_); rintro e w6 ⟨rfl, hb6⟩; have hk6 := Lib.hid (hk5.out.below hb6 hk5.out.lt); have bl6 := Lib.hid (bl5.out.trans (hb6.mono bl5.out.size)))
    | (with_reducible refine at_any ?_; refine at_store 2 rfl ?_; refine wpList_store_ints rfl 23 (.tmp 2) (.tmp 14) rfl w.heap.size rfl 23 .u8 (List.replicate 32 0) R hk6.out rfl ZR.out SR.out ?_; intro w9 hk9 hs9 hb9 ho9)
    | (refine bodyPost_cell 2 23 rfl w.heap.size rfl 23 .u8 R hk9.out _ Tryd.underlying23 rfl SR.out rfl ?_))
  exact ⟨by rw [HRR.out], bl6.out.trans (hb9 _ (Nat.le_refl _))⟩
theorem run_build_new (s0 s1 s2 s3 s4 s5 s6 s7 : Int) (w : World) :
    (Instr.build 60 #[(0, .agg #[.int .u32 s0, .int .u32 s1, .int .u32 s2, .int .u32 s3, .int .u32 s4, .int .u32 s5, .int .u32 s6, .int .u32 s7])]).run Tryd.prog w = .ok (.agg #[.int .u32 s0, .int .u32 s1, .int .u32 s2, .int .u32 s3, .int .u32 s4, .int .u32 s5, .int .u32 s6, .int .u32 s7, .slice none 0 0, .int .u64 0]) w := by
  go_simp
theorem build_new {a : Act} {o : Oper} {x : Operand} (w : World) (s : List Int) (hl : s.length = 8) (ho : o.op = .build 60 #[(0, x)]) (hx : a.eval x = .agg (intsA .u32 s)) :
    (execOp a.eval o).run Tryd.prog w = .ok (.value (.agg (wrV s none 0 0 0))) w := by
  rw [list8 s hl] at hx ⊢
  have h := run_build_new (s.getD 0 0) (s.getD 1 0) (s.getD 2 0) (s.getD 3 0) (s.getD 4 0) (s.getD 5 0) (s.getD 6 0) (s.getD 7 0) w
  unfold execOp
  simp only [ho, List.map_toArray, List.map_cons, List.map_nil, hx]
  change ((Instr.build 60 #[(0, .agg #[.int .u32 (s.getD 0 0), .int .u32 (s.getD 1 0), .int .u32 (s.getD 2 0), .int .u32 (s.getD 3 0), .int .u32 (s.getD 4 0), .int .u32 (s.getD 5 0), .int .u32 (s.getD 6 0), .int .u32 (s.getD 7 0)])]) >>= fun v => pure (Next.value v)).run Tryd.prog w = _
  simp only [Sem.run_bind, h, Result.andThen_ok, Sem.run_pure]
  rfl
def rightB (r : Nat) (n : Int) : Bool := decide (n < 2305843009213693952 ∧ (r : Int) = n % 64)
end Go.Proofs.YtdnjnbeoioicfaaDoor
