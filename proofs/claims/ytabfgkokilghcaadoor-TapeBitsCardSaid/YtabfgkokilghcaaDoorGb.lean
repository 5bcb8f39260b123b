/-
  Texts of this claim, joined: ShaQ, RefG, RefH, RefI, RefJ, ShaM, StrmM, FxP, StrmP, SrcP, SrcM, EqA, StrmA, RefM, RefN, PlanA, CompK, CompA. What each shows, and its conditions, stand at its own head.
-/
import Derived.Test.YtabfgkokilghcaaDoorGa
import Derived.Deep.QuietTactic
import Derived.BigQuiet
import Derived.Test.YtabfgkokilghcaaDoorRows
import Derived.Deep.RegionHeld3
import Derived.Deep.RegionLaw
import Derived.KernelRfl
import Derived.ProofKit
import Derived.LaidMore
import Derived.OpenShut
import Derived.Stop.Joined
/-
  Hashes as lists of numbers: a padded message's blocks; what a writer has taken, and what it makes of more.
  Conditions: those that each theorem names.
-/
set_option maxRecDepth 100000
namespace Go.Proofs.YtabfgkokilghcaaDoor
open Go.ChangeShapes Go.WideShapes Go.ChangeAt Go.RowKit
theorem padL_eq5 (b : List Int) : padL b = b ++ (128 :: (List.replicate (zer (b.length % 64)) 0 ++ put8L (8 * b.length))) := by
  have hd : (b.drop (b.length - b.length % 64)).length = b.length % 64 := by rw [List.length_drop]; omega
  unfold padL tailL
  rw [hd, ← List.append_assoc, ← List.append_assoc, List.take_append_drop]
  simp
theorem padL_len5 (b : List Int) : (padL b).length = 64 * ((b.length + 72) / 64) := by
  rw [padL_eq5, List.length_append, List.length_cons, List.length_append, List.length_replicate, show ∀ x, (put8L x).length = 8 from fun _ => rfl]
  unfold zer
  split <;> omega
theorem put8L_in (x : Int) (h0 : 0 ≤ x) (h1 : x < 18446744073709551616) : ∀ z ∈ put8L x, 0 ≤ z ∧ z < 256 := by
  intro z hz
  simp only [put8L, List.mem_cons, List.not_mem_nil, or_false] at hz
  rcases hz with h | h | h | h | h | h | h | h <;> subst h <;> omega
theorem tailL_in (r : List Int) (n : Int) (hr : ∀ z ∈ r, 0 ≤ z ∧ z < 256) (n0 : 0 ≤ n) (n1 : n < 2305843009213693952) : ∀ z ∈ tailL r n, 0 ≤ z ∧ z < 256 := by
  intro z hz
  unfold tailL at hz
  rcases List.mem_append.1 hz with h | h
  · rcases List.mem_append.1 h with h | h
    · exact hr z h
    · rcases List.mem_cons.1 h with h | h
      · omega
      · have := List.eq_of_mem_replicate h; omega
  · exact put8L_in _ (by omega) (by omega) z h
theorem padL_in (b : List Int) (hb : ∀ z ∈ b, 0 ≤ z ∧ z < 256) (hl : b.length < 2305843009213693952) : ∀ z ∈ padL b, 0 ≤ z ∧ z < 256 := by
  intro z hz
  unfold padL at hz
  rcases List.mem_append.1 hz with h | h
  · exact hb z (List.mem_of_mem_take h)
  · exact tailL_in _ _ (fun y hy => hb y (List.mem_of_mem_drop hy)) (by omega) (by omega) z h
theorem cutN_in (zs : List Int) (q : Nat) (hz : ∀ z ∈ zs, 0 ≤ z ∧ z < 256) : ∀ b ∈ cutN zs q, ∀ z ∈ b, 0 ≤ z ∧ z < 256 := by
  intro b hb z h
  unfold cutN at hb
  obtain ⟨i, _, rfl⟩ := List.mem_map.1 hb
  exact hz z (List.mem_of_mem_drop (List.mem_of_mem_take h))
theorem cutN_length (zs : List Int) (q : Nat) : (cutN zs q).length = q := by simp [cutN]
theorem cutN_append (x y : List Int) (m k : Nat) (hx : x.length = 64 * m) : cutN (x ++ y) (m + k) = cutN x m ++ cutN y k := by
  unfold cutN
  rw [List.range_add, List.map_append, List.map_map]
  congr 1
  · apply List.map_congr_left
    intro i hi
    have := List.mem_range.1 hi
    rw [List.drop_append_of_le_length (by omega), List.take_append_of_le_length (by rw [List.length_drop]; omega)]
  · apply List.map_congr_left
    intro j _
    simp only [Function.comp]
    rw [List.drop_append, List.drop_eq_nil_of_le (by omega), List.nil_append, show 64 * (m + j) - x.length = 64 * j by omega]
theorem cutN_take (zs : List Int) (q : Nat) : cutN (zs.take (64 * q)) q = cutN zs q := by
  unfold cutN
  apply List.map_congr_left
  intro i hi
  have := List.mem_range.1 hi
  rw [List.drop_take, List.take_take, show min 64 (64 * q - 64 * i) = 64 by omega]
/-- The hash of a message. -/
def shaL (b : List Int) : List Int := hashL (takesL startL (cutN (padL b) ((padL b).length / 64)))
theorem shaL_len (b : List Int) : (shaL b).length = 32 := hashL_len _
theorem shaL_in (b : List Int) : ∀ z ∈ shaL b, 0 ≤ z ∧ z < 256 := hashL_in _ (takesL_in _ _ startL_in)
/-- What a writer that has taken zs has: its state and its rest. -/
def wrS (zs : List Int) : List Int := takesL startL (cutN zs (zs.length / 64))
def wrR (zs : List Int) : List Int := zs.drop (64 * (zs.length / 64))
theorem wrR_len (zs : List Int) : (wrR zs).length = zs.length % 64 := by unfold wrR; rw [List.length_drop]; omega
theorem wrS_len (zs : List Int) : (wrS zs).length = 8 := takesL_len _ _ rfl
theorem wrS_in (zs : List Int) : WIn (wrS zs) := takesL_in _ _ startL_in
theorem wrR_in (zs : List Int) (hz : ∀ z ∈ zs, 0 ≤ z ∧ z < 256) : ∀ z ∈ wrR zs, 0 ≤ z ∧ z < 256 := fun z h => hz z (List.mem_of_mem_drop h)
/-- What a state and a rest make of more bytes. -/
def nextS (s r b : List Int) : List Int := takesL s (cutN (r ++ b) ((r ++ b).length / 64))
def nextR (r b : List Int) : List Int := (r ++ b).drop (64 * ((r ++ b).length / 64))
/-- What they hash to behind n bytes. -/
def finL (s r : List Int) (n : Int) : List Int := hashL (takesL s (cutN (tailL r n) ((tailL r n).length / 64)))
theorem wr_split (zs b : List Int) : zs ++ b = zs.take (64 * (zs.length / 64)) ++ (wrR zs ++ b) := by
  unfold wrR
  rw [← List.append_assoc, List.take_append_drop]
theorem wr_parts (zs b : List Int) : (zs ++ b).length / 64 = zs.length / 64 + (wrR zs ++ b).length / 64 := by
  rw [List.length_append, List.length_append, wrR_len]; omega
theorem wrS_next (zs b : List Int) : wrS (zs ++ b) = nextS (wrS zs) (wrR zs) b := by
  unfold wrS nextS
  rw [wr_parts, ← takesL_append, ← cutN_take zs, ← cutN_append _ _ _ _ (by rw [List.length_take]; omega), ← wr_split]
theorem wrR_next (zs b : List Int) : wrR (zs ++ b) = nextR (wrR zs) b := by
  have h := wr_parts zs b
  have e := wr_split zs b
  obtain ⟨m, hm⟩ : ∃ m, wrR zs ++ b = m := ⟨_, rfl⟩
  rw [show wrR (zs ++ b) = (zs ++ b).drop (64 * ((zs ++ b).length / 64)) from rfl, show nextR (wrR zs) b = (wrR zs ++ b).drop (64 * ((wrR zs ++ b).length / 64)) from rfl, h, hm]
  rw [hm] at e
  rw [e, List.drop_append, List.drop_eq_nil_of_le (by rw [List.length_take]; omega), List.nil_append, List.length_take]
  congr 1
  omega
theorem sha_fin (zs : List Int) : finL (wrS zs) (wrR zs) zs.length = shaL zs := by
  have hp : padL zs = zs.take (64 * (zs.length / 64)) ++ tailL (wrR zs) zs.length := by
    unfold padL wrR
    rw [show zs.length - zs.length % 64 = 64 * (zs.length / 64) by omega]
  have hl : (padL zs).length / 64 = zs.length / 64 + (tailL (wrR zs) zs.length).length / 64 := by
    rw [hp, List.length_append, List.length_take]; omega
  unfold finL shaL
  rw [hl, hp, cutN_append _ _ _ _ (by rw [List.length_take]; omega), takesL_append, cutN_take]
  rfl
theorem sha_nil : wrS [] = startL ∧ wrR [] = [] := ⟨rfl, rfl⟩
end Go.Proofs.YtabfgkokilghcaaDoor
/-
  What the document's answers for layer 5 return (Sum, New, Right, Write, Finish), and that they leave memory as it was.
  Conditions: the arguments lie in their types' ranges; what is hashed is small.
-/
set_option maxRecDepth 100000
set_option linter.unusedSimpArgs false
namespace Go.Proofs.YtabfgkokilghcaaDoor
open Go.ChangeShapes Go.WideShapes Go.ChangeAt Go.RowKit
set_option linter.unusedVariables false
theorem OwnI.cap {w : World} {base : Nat} {e : TypeId} {k : IntKind} {A : Option Addr} {n c : Nat} {zs : List Int} (h : OwnI w base e k (.slice A n c) zs) : n ≤ c ∧ zs.length = n := by
  obtain ⟨A', c', e', h1, h2⟩ := h.form
  injection e' with e1 e2 e3
  subst e2 e3
  exact ⟨h1, rfl⟩
/-! ### a writer as a value -/
def wrV (s : List Int) (A : Option Addr) (r c : Nat) (n : Int) : Array Value := (s.map (Value.int .u32) ++ [Value.slice A r c, Value.int .u64 n]).toArray
theorem wrV_size (s : List Int) (hl : s.length = 8) (A : Option Addr) (r c : Nat) (n : Int) : (wrV s A r c n).size = 10 := by simp [wrV, hl]
theorem wrV_ones (s : List Int) (A : Option Addr) (r c : Nat) (n : Int) : (wrV s A r c n).all (·.oneCell') = true := all_oneCell_toArray (by
  intro u hu
  rcases List.mem_append.1 hu with h | h
  · exact ints_one .u32 s u h
  · simp only [List.mem_cons, List.not_mem_nil, or_false] at h
    rcases h with h | h <;> subst h <;> rfl)
theorem wrV_rest (s : List Int) (hl : s.length = 8) (A : Option Addr) (r c : Nat) (n : Int) : (wrV s A r c n)[8]? = some (.slice A r c) := by
  unfold wrV
  rw [List.getElem?_toArray, List.getElem?_append_right (by simp; omega)]
  simp [hl]
theorem wrV_bytes (s : List Int) (hl : s.length = 8) (A : Option Addr) (r c : Nat) (n : Int) : (wrV s A r c n)[9]? = some (.int .u64 n) := by
  unfold wrV
  rw [List.getElem?_toArray, List.getElem?_append_right (by simp; omega)]
  simp [hl]
theorem wrV_state {w : World} {g : Nat} {t : TypeId} {s : List Int} {A : Option Addr} {r c : Nat} {n : Int} (h : Blk w g t (wrV s A r c n)) : w.rangeAt g 0 (s.map (Value.int .u32)) := by
  intro j v hv
  rw [Nat.zero_add, h.cell]
  unfold wrV
  rw [List.getElem?_toArray]
  have hj : j < (s.map (Value.int .u32)).length := by
    rcases Nat.lt_or_ge j (s.map (Value.int .u32)).length with h1 | h1
    · exact h1
    · rw [List.getElem?_eq_none h1] at hv; cases hv
  rw [List.getElem?_append_left hj]
  exact hv
theorem size_wr : (Tryd.prog.info? 74).map (·.size) = some 10 := by kernel_rfl
theorem zero_wr : ∀ W, (zeroValue 74).run Tryd.prog W = .ok (.agg (wrV Z8 none 0 0 0)) W := (zero_of_info (n := 10) (by kernel_rfl)).1
theorem sizedW (s : List Int) (hl : s.length = 8) (A : Option Addr) (r c : Nat) (n : Int) : (Tryd.prog.info? 74).map (·.size) = some (wrV s A r c n).size := by rw [wrV_size s hl]; exact size_wr
theorem sizedWL (s : List Int) (hl : s.length = 8) (A : Option Addr) (r c : Nat) (n : Int) : (Tryd.prog.info? 74).map (·.size) = some (wrV s A r c n).toList.length := by rw [Array.length_toList]; exact sizedW s hl A r c n
theorem run_build_wr (s0 s1 s2 s3 s4 s5 s6 s7 : Int) (A : Option Addr) (r c : Nat) (n : Int) (w : World) :
    (Instr.build 74 #[(0, .agg #[.int .u32 s0, .int .u32 s1, .int .u32 s2, .int .u32 s3, .int .u32 s4, .int .u32 s5, .int .u32 s6, .int .u32 s7]), (1, .slice A r c), (2, .int .u64 n)]).run Tryd.prog w = .ok (.agg #[.int .u32 s0, .int .u32 s1, .int .u32 s2, .int .u32 s3, .int .u32 s4, .int .u32 s5, .int .u32 s6, .int .u32 s7, .slice A r c, .int .u64 n]) w := by
  go_simp
theorem build_wr {a : Act} {o : Oper} {x y z : Operand} (w : World) (s : List Int) (hl : s.length = 8) (A : Option Addr) (r c : Nat) (n : Int) (ho : o.op = .build 74 #[(0, x), (1, y), (2, z)]) (hx : a.eval x = .agg (intsA .u32 s)) (hy : a.eval y = .slice A r c) (hz : a.eval z = .int .u64 n) :
    (execOp a.eval o).run Tryd.prog w = .ok (.value (.agg (wrV s A r c n))) w := by
  rw [list8 s hl] at hx ⊢
  have h := run_build_wr (s.getD 0 0) (s.getD 1 0) (s.getD 2 0) (s.getD 3 0) (s.getD 4 0) (s.getD 5 0) (s.getD 6 0) (s.getD 7 0) A r c n w
  unfold execOp
  simp only [ho, List.map_toArray, List.map_cons, List.map_nil, hx, hy, hz]
  change ((Instr.build 74 #[(0, .agg #[.int .u32 (s.getD 0 0), .int .u32 (s.getD 1 0), .int .u32 (s.getD 2 0), .int .u32 (s.getD 3 0), .int .u32 (s.getD 4 0), .int .u32 (s.getD 5 0), .int .u32 (s.getD 6 0), .int .u32 (s.getD 7 0)]), (1, .slice A r c), (2, .int .u64 n)]) >>= fun v => pure (Next.value v)).run Tryd.prog w = _
  simp only [Sem.run_bind, h, Result.andThen_ok, Sem.run_pure]
  rfl
set_option maxHeartbeats 1000000 in
theorem rsum_c (A : Option Addr) (c L : Nat) (b : List Int) (w : World) (hr : Rd .u8 w w.heap.size A L b) (hc : L ≤ c) (hL : L ≤ 100000) (hbb : ∀ z ∈ b, 0 ≤ z ∧ z < 256) :
    Calls Tryd.prog 33 #[.slice A L c] w fun e w' => e = .returned (.agg (intsA .u8 (shaL b))) ∧ Below w.heap.size w w' := by
  have hpl := padL_len5 b
  have hlen := hr.len
  have hpi := padL_in b hbb (by omega)
  have hpc := rpad_c A c L b
  obtain ⟨P, hP⟩ : ∃ P, padL b = P := ⟨_, rfl⟩
  obtain ⟨q, hq⟩ : ∃ q, P.length / 64 = q := ⟨_, rfl⟩
  obtain ⟨BS, hBS⟩ : ∃ BS, cutN P q = BS := ⟨_, rfl⟩
  have hR : shaL b = hashL (takesL startL BS) := by unfold shaL; rw [hP, hq, hBS]
  obtain ⟨X, hX⟩ : ∃ X, takesL startL BS = X := ⟨_, rfl⟩
  obtain ⟨R, hRR⟩ : ∃ R, hashL X = R := ⟨_, rfl⟩
  rw [hX, hRR] at hR
  rw [hP] at hpl hpi hpc
  have hbi := cutN_in P q hpi
  have hbl := cutN_length P q
  rw [hBS] at hbi hbl
  have hxl : X.length = 8 := by rw [← hX]; exact takesL_len _ _ rfl
  have hxi : WIn X := by rw [← hX]; exact takesL_in _ _ startL_in
  have hrl : R.length = 32 := by rw [← hRR]; exact hashL_len X
  have HT1 := Lib.hid (fun A n c W h1 h2 => rtakes_c startL A n c BS rfl startL_in W h1 hbi h2)
  have HH1 := Lib.hid (fun W => rhash_c X hxl hxi W)
  rw [hX] at HT1
  rw [hRR] at HH1
  have HC1 := Lib.hid (fun A c W h1 h2 => rcut_c A c P.length P W h1 h2 (by omega))
  rw [hq, hBS] at HC1
  have HPL := Lib.hid hpl
  have hq1 : q ≤ 10000 := by omega
  have HPC := Lib.hid hpc
  have HRR := Lib.hid hR
  have HBL := Lib.hid hbl
  have SR := Lib.hid (show (Tryd.prog.info? 25).map (·.size) = some R.length by rw [hrl]; exact size_hash)
  have ZR := Lib.hid (show (List.replicate 32 (0 : Int)).length = R.length by rw [hrl]; simp)
  have HR0 := Lib.hid hr
  clear hpl hpi hpc hP hq hBS hR hX hRR hbi hbl hxl hxi hrl hr hlen
  go_enter Tryd.func33, Tryd.ntmps33
  go_wp2_with (first
    | (with_reducible refine at_any ?_; refine at_dst 2 rfl ?_; refine wpList_alloc_ints rfl 25 rfl .u8 (List.replicate 32 0) zero_hash ?_; intro w1 hk1 hs1 hb1; have HR1 := Lib.hid (HR0.out.below hb1).fit)
    | (go_at_call 37; (with_reducible refine (HPC.out w1 HR1.out hc (by omega)).mono ?_); rintro e w2 ⟨A2, c2, rfl, how2, hb2⟩; have hk2 := Lib.hid (hk1.out.below hb2 hk1.out.lt); have bl2 := Lib.hid (hb1.trans (hb2.mono hb1.size)); have HO2 := Lib.hid how2; clear how2)
    | (go_at_call 36; (with_reducible refine (HC1.out A2 c2 w2 (HO2.out.rd rfl) HO2.out.cap.1).mono ?_); rintro e w3 ⟨A3, c3, A4, c4, rfl, how3, hrd3, hc4, hb3⟩; have hk3 := Lib.hid (hk2.out.below hb3 hk2.out.lt); have bl3 := Lib.hid (bl2.out.trans (hb3.mono bl2.out.size)); have HO3 := Lib.hid how3; clear how3 hrd3 hc4)
    | (go_at_call 40; (with_reducible refine (rstart_c _).mono ?_); rintro e w4 ⟨rfl, hb4⟩; have hk4 := Lib.hid (hk3.out.below hb4 hk3.out.lt); have bl4 := Lib.hid (bl3.out.trans (hb4.mono bl3.out.size)); have HA4 := Lib.hid (((HO3.out.rd rfl).below hb4).mono hb4.size))
    | (go_at_call 39; (with_reducible refine (HT1.out A3 BS.length c3 w4 HA4.out (by rw [HBL.out]; omega)).mono ?_); rintro e w5 ⟨rfl, hb5⟩; have hk5 := Lib.hid (hk4.out.below hb5 hk4.out.lt); have bl5 := Lib.hid (bl4.out.trans (hb5.mono bl4.out.size)))
    | (go_at_call 38; (with_reducible refine (HH1.out w5).mono ?_); rintro e w6 ⟨rfl, hb6⟩; have hk6 := Lib.hid (hk5.out.below hb6 hk5.out.lt); have bl6 := Lib.hid (bl5.out.trans (hb6.mono bl5.out.size)))
    | (with_reducible refine at_any ?_; refine at_store 2 rfl ?_; refine wpList_store_ints rfl 25 (.tmp 2) (.tmp 14) rfl w.heap.size rfl 25 .u8 (List.replicate 32 0) R hk6.out rfl ZR.out SR.out ?_; intro w9 hk9 hs9 hb9 ho9)
    | (refine bodyPost_cell 2 25 rfl w.heap.size rfl 25 .u8 R hk9.out _ Tryd.underlying25 rfl SR.out rfl ?_))
  exact ⟨by rw [HRR.out], bl6.out.trans (hb9 _ (Nat.le_refl _))⟩
theorem run_build_new (s0 s1 s2 s3 s4 s5 s6 s7 : Int) (w : World) :
    (Instr.build 74 #[(0, .agg #[.int .u32 s0, .int .u32 s1, .int .u32 s2, .int .u32 s3, .int .u32 s4, .int .u32 s5, .int .u32 s6, .int .u32 s7])]).run Tryd.prog w = .ok (.agg #[.int .u32 s0, .int .u32 s1, .int .u32 s2, .int .u32 s3, .int .u32 s4, .int .u32 s5, .int .u32 s6, .int .u32 s7, .slice none 0 0, .int .u64 0]) w := by
  go_simp
theorem build_new {a : Act} {o : Oper} {x : Operand} (w : World) (s : List Int) (hl : s.length = 8) (ho : o.op = .build 74 #[(0, x)]) (hx : a.eval x = .agg (intsA .u32 s)) :
    (execOp a.eval o).run Tryd.prog w = .ok (.value (.agg (wrV s none 0 0 0))) w := by
  rw [list8 s hl] at hx ⊢
  have h := run_build_new (s.getD 0 0) (s.getD 1 0) (s.getD 2 0) (s.getD 3 0) (s.getD 4 0) (s.getD 5 0) (s.getD 6 0) (s.getD 7 0) w
  unfold execOp
  simp only [ho, List.map_toArray, List.map_cons, List.map_nil, hx]
  change ((Instr.build 74 #[(0, .agg #[.int .u32 (s.getD 0 0), .int .u32 (s.getD 1 0), .int .u32 (s.getD 2 0), .int .u32 (s.getD 3 0), .int .u32 (s.getD 4 0), .int .u32 (s.getD 5 0), .int .u32 (s.getD 6 0), .int .u32 (s.getD 7 0)])]) >>= fun v => pure (Next.value v)).run Tryd.prog w = _
  simp only [Sem.run_bind, h, Result.andThen_ok, Sem.run_pure]
  rfl
def rightB (r : Nat) (n : Int) : Bool := decide (n < 2305843009213693952 ∧ (r : Int) = n % 64)
end Go.Proofs.YtabfgkokilghcaaDoor
/-
  What the document's answers for layer 5 return (Write, Finish), and that they leave memory as it was.
  Conditions: the arguments lie in their types' ranges; what is hashed is small.
-/
set_option maxRecDepth 100000
set_option linter.unusedSimpArgs false
namespace Go.Proofs.YtabfgkokilghcaaDoor
open Go.ChangeShapes Go.WideShapes Go.ChangeAt Go.RowKit
set_option linter.unusedVariables false
section
variable {P : Program} {w w' : World} {ops : Array Oper} {rest : List Oper} {o : Oper} {a : Act} {Q : Exit → Act → World → Prop}
theorem wpList_load_blk (hgd : o.guard = none) (ty : TypeId) (x : Operand) (ho : o.op = .load ty x) (g : Nat) (hx : a.eval x = .pointer (some ⟨g, 0, none⟩)) (t : TypeId) (cs : Array Value) (hb : Blk w g t cs)
    (d : TypeDesc) (hu : P.underlying ty = some d) (hd : d.isRow = true) (hi : (P.info? ty).map (·.size) = some cs.size)
    (h : wpList P ops Q rest (a.put o.dst (.agg cs)) w) : wpList P ops Q (o :: rest) a w :=
  wpList_load_mid hgd ty x ho g 0 hx cs.toList d hb.range hu hd (by rw [Array.length_toList]; exact hi) (by rw [Array.toArray_toList]; exact h)
end
theorem Rd.other {k : IntKind} {w w' : World} {B n r : Nat} {A : Option Addr} {zs : List Int} (h : Rd k w B A n zs) (ho : ∀ j, j ≠ r → w'.heap[j]? = w.heap[j]?) (hne : ∀ b off, 0 < n → A = some ⟨b, off, none⟩ → b ≠ r) : Rd k w' B A n zs :=
  ⟨h.1, fun hn => by
    obtain ⟨b, off, e, hb, hc⟩ := h.2 hn
    refine ⟨b, off, e, hb, fun j hj => ?_⟩
    rw [← hc j hj]
    simp only [World.cell?, ho b (hne b off hn e)]⟩
theorem wrV_kind (s : List Int) (A : Option Addr) (r c : Nat) (n : Int) (j : Nat) (z : Int) : (wrV s A r c n)[j]? ≠ some (.int .u8 z) := by
  intro h
  unfold wrV at h
  rw [List.getElem?_toArray] at h
  rcases List.mem_append.1 (List.mem_of_getElem? h) with h1 | h1
  · obtain ⟨x, _, hx⟩ := List.mem_map.1 h1
    injection hx with h2 h3
    cases h2
  · simp at h1
theorem Rd.apart {w : World} {B n g : Nat} {A : Option Addr} {zs : List Int} {t : TypeId} {s : List Int} {A' : Option Addr} {r c : Nat} {m : Int} (h : Rd .u8 w B A n zs) (hk : Blk w g t (wrV s A' r c m)) : ∀ b off, 0 < n → A = some ⟨b, off, none⟩ → b ≠ g := by
  intro b off hn e hbg
  obtain ⟨b1, off1, e1, _, hc⟩ := h.2 hn
  rw [e] at e1
  injection e1 with e1
  injection e1 with e2 e3
  have h0 := hc 0 hn
  rw [← e2, ← e3, hbg, hk.cell] at h0
  exact wrV_kind _ _ _ _ _ _ _ h0
theorem run_build_zero (w : World) : (Instr.build 74 #[]).run Tryd.prog w = .ok (.agg #[.int .u32 0, .int .u32 0, .int .u32 0, .int .u32 0, .int .u32 0, .int .u32 0, .int .u32 0, .int .u32 0, .slice none 0 0, .int .u64 0]) w := by
  go_simp
theorem build_zero {a : Act} {o : Oper} (w : World) (ho : o.op = .build 74 #[]) : (execOp a.eval o).run Tryd.prog w = .ok (.value (.agg (wrV Z8 none 0 0 0))) w := by
  unfold execOp
  simp only [ho, List.map_toArray, List.map_nil]
  change ((Instr.build 74 #[]) >>= fun v => pure (Next.value v)).run Tryd.prog w = _
  simp only [Sem.run_bind, run_build_zero, Result.andThen_ok, Sem.run_pure]
  rfl
/-- Nothing, and the reason. -/
def RetWE (w : World) (k : Int) (e : Ending) (w' : World) : Prop := e = .returned (.tuple #[.agg (wrV Z8 none 0 0 0), .int .i64 k]) ∧ Below w.heap.size w w'
/-- A writer of this state and rest, that has taken n bytes. -/
def RetW (w : World) (s r : List Int) (n : Int) (e : Ending) (w' : World) : Prop :=
  ∃ A c, e = .returned (.tuple #[.agg (wrV s A r.length c n), .int .i64 0]) ∧ Rd .u8 w' w'.heap.size A r.length r ∧ r.length ≤ c ∧ Below w.heap.size w w'
end Go.Proofs.YtabfgkokilghcaaDoor
/-
  What the document's answers for layer 5 return (Finish), and that they leave memory as it was.
  Conditions: the arguments lie in their types' ranges; what is hashed is small.
-/
set_option maxRecDepth 100000
set_option linter.unusedSimpArgs false
namespace Go.Proofs.YtabfgkokilghcaaDoor
open Go.ChangeShapes Go.WideShapes Go.ChangeAt Go.RowKit
set_option linter.unusedVariables false
section
variable {P : Program} {w w' : World} {ops : Array Oper} {rest : List Oper} {o : Oper} {a : Act} {Q : Exit → Act → World → Prop}
theorem wpList_load_at (hgd : o.guard = none) (ty : TypeId) (x : Operand) (ho : o.op = .load ty x) (g off : Nat) (hx : a.eval x = .pointer (some ⟨g, off, none⟩)) (k : IntKind) (zs : List Int) (hb : w.rangeAt g off (zs.map (Value.int k)))
    (d : TypeDesc) (hu : P.underlying ty = some d) (hd : d.isRow = true) (hi : (P.info? ty).map (·.size) = some zs.length)
    (h : wpList P ops Q rest (a.put o.dst (.agg (intsA k zs))) w) : wpList P ops Q (o :: rest) a w :=
  wpList_load_mid hgd ty x ho g off hx (zs.map (Value.int k)) d hb hu hd (by rw [List.length_map]; exact hi) h
end
theorem run_build_hash (w : World) : (Instr.build 25 #[]).run Tryd.prog w = .ok (.agg (intsA .u8 (List.replicate 32 0))) w := by
  obtain ⟨i0, hi0, _, hs0, _⟩ := info_parts info_u8'
  have h := Tryd.underlying25
  simp [Instr.build, zero_hash, run_underlying h, Instr.fill, sizeOf, typeInfo, hi0, go_sem, Value.cells, intsA]
theorem build_hash {a : Act} {o : Oper} (w : World) (ho : o.op = .build 25 #[]) : (execOp a.eval o).run Tryd.prog w = .ok (.value (.agg (intsA .u8 (List.replicate 32 0)))) w := by
  unfold execOp
  simp only [ho, List.map_toArray, List.map_nil]
  change ((Instr.build 25 #[]) >>= fun v => pure (Next.value v)).run Tryd.prog w = _
  simp only [Sem.run_bind, run_build_hash, Result.andThen_ok, Sem.run_pure]
theorem BlkI.blk {w : World} {g : Nat} {t : TypeId} {k : IntKind} {zs : List Int} (h : BlkI w g t k zs) : Blk w g t (intsA k zs) := h
theorem hash_size (R : List Int) (hl : R.length = 32) : (Tryd.prog.info? 25).map (·.size) = some (intsA .u8 R).size := by rw [intsA_size, hl]; exact size_hash
end Go.Proofs.YtabfgkokilghcaaDoor
/-
  What the document's answers for layer 5 return (Same, Great), and that they leave memory as it was.
  Conditions: the arguments lie in their types' ranges.
-/
set_option maxRecDepth 100000
set_option linter.unusedSimpArgs false
namespace Go.Proofs.YtabfgkokilghcaaDoor
open Go.ChangeShapes Go.WideShapes Go.ChangeAt Go.RowKit
set_option linter.unusedVariables false
theorem str_rd5 {w : World} {B : Nat} {A : Option Addr} {n c : Nat} {zs : List Int} (h : Rd .u8 w B A n zs) : (convert 22 9 (.slice A n c)).run Tryd.prog w = .ok (.string (strB zs)) w :=
  run_str Tryd.underlying22 Tryd.underlying5 Tryd.underlying9 h (fun hA => by
    rcases Nat.eq_zero_or_pos n with h0 | h0
    · exact h0
    · obtain ⟨b, off, e, _⟩ := h.2 h0; rw [hA] at e; cases e)
theorem eq_state5 (zs ys : List Int) (hz : zs.length = 8) (hy : ys.length = 8) (w : World) : (Op.equalIn 10000 67 (.agg (intsA .u32 zs)) (.agg (intsA .u32 ys))).run Tryd.prog w = .ok (decide (zs = ys)) w := by
  obtain ⟨i0, hi, _, hs, _⟩ := info_parts info_u32c
  exact run_equal_ints Tryd.underlying67 Tryd.underlying53 hi hs (by kernel_rfl) zs ys hz hy w
theorem toL_eq5 {a b : ByteArray} : a.toList = b.toList ↔ a = b := by
  rw [ByteArray.toList_eq, ByteArray.toList_eq]
  constructor
  · intro h
    obtain ⟨⟨x⟩⟩ := a
    obtain ⟨⟨y⟩⟩ := b
    simp at h
    rw [h]
  · intro h; rw [h]
def sameB (s1 s2 z1 z2 : List Int) (n1 n2 : Int) : Bool := decide (s1 = s2 ∧ z1 = z2 ∧ n1 = n2)
def greatAt (rs : List Row) (i : Nat) : Bool := (rs.take i).any fun r => decide (500 < r.n)
def greatB (rs : List Row) : Bool := decide (20 < rs.length) || rs.any fun r => decide (500 < r.n)
end Go.Proofs.YtabfgkokilghcaaDoor
/-
  A writer that writes, in memory: its block's cells set one by one or together; what else lies there stays.
  Conditions: those that each theorem names.
-/
set_option maxRecDepth 100000
set_option linter.unusedSimpArgs false
namespace Go.Proofs.YtabfgkokilghcaaDoor
open Go.ChangeShapes Go.WideShapes Go.ChangeAt Go.RowKit
set_option linter.unusedVariables false
/-! ### cells set one by one -/
def putAll (cs : Array Value) (o : Nat) : List Value → Array Value
  | [] => cs
  | v :: vs => putAll (cs.setIfInBounds o v) (o + 1) vs
theorem Blk.setCells {g : Nat} {t : TypeId} : ∀ (vs : List Value) (o : Nat) {w : World} {cs : Array Value}, Blk w g t cs → Blk (w.setCells g o vs) g t (putAll cs o vs)
  | [], _, _, _, h => h
  | v :: vs, o, w, cs, h => by
    rw [World.setCells]
    exact Blk.setCells vs (o + 1) (h.set_ o v)
/-- Nothing but the block g has changed; more may have come. -/
structure Only (g : Nat) (w w' : World) : Prop where
  os : w'.os = w.os
  tape : w'.tape = w.tape
  output : w'.output = w.output
  size : w.heap.size ≤ w'.heap.size
  block : ∀ j, j < w.heap.size → j ≠ g → w'.heap[j]? = w.heap[j]?
theorem Only.refl (g : Nat) (w : World) : Only g w w := ⟨rfl, rfl, rfl, Nat.le_refl _, fun _ _ _ => rfl⟩
theorem Only.trans {g : Nat} {a b c : World} (h : Only g a b) (h' : Only g b c) : Only g a c :=
  ⟨h'.os.trans h.os, h'.tape.trans h.tape, h'.output.trans h.output, Nat.le_trans h.size h'.size, fun j hj hne => (h'.block j (Nat.lt_of_lt_of_le hj h.size) hne).trans (h.block j hj hne)⟩
theorem Only.of_below {g : Nat} {w w' : World} (h : Below w.heap.size w w') : Only g w w' := ⟨h.os, h.tape, h.output, h.size, fun j hj _ => h.block j hj⟩
theorem Only.below {g B : Nat} {w w' : World} (h : Only g w w') (hg : B ≤ g) (hB : B ≤ w.heap.size) : Below B w w' := ⟨h.os, h.tape, h.output, h.size, fun j hj => h.block j (by omega) (by omega)⟩
theorem Only.drew {g : Nat} {w w' : World} (h : Only g w w') : Only g w w'.drew := ⟨h.os, h.tape, h.output, h.size, h.block⟩
theorem Only.of_drew {g : Nat} {w w' : World} (h : Only g w.drew w') : Only g w w' := ⟨h.os, h.tape, h.output, h.size, h.block⟩
theorem Only.setCell (g o : Nat) (w : World) (v : Value) : Only g w (w.setCell ⟨g, o, none⟩ v) :=
  ⟨rfl, rfl, rfl, by simp [World.setCell], fun j _ hne => Below.heap_setCell w ⟨g, o, none⟩ v j hne⟩
theorem Only.setCells (g : Nat) : ∀ (vs : List Value) (o : Nat) (w : World), Only g w (w.setCells g o vs)
  | [], _, w => Only.refl g w
  | v :: vs, o, w => by
    rw [World.setCells]
    exact (Only.setCell g o w v).trans (Only.setCells g vs (o + 1) _)
theorem Blk.there {w : World} {g : Nat} {t : TypeId} {cs : Array Value} (h : Blk w g t cs) (o n : Nat) (hn : o + n ≤ cs.size) : w.there g o n := fun j hj => ⟨by
  rw [h.cell, Array.getElem?_eq_getElem (by omega)]; rfl, h.frozen _⟩
theorem Blk.only {w w' : World} {g r : Nat} {t : TypeId} {cs : Array Value} (h : Blk w r t cs) (ho : Only g w w') (hne : r ≠ g) : Blk w' r t cs := (ho.block r h.lt hne).trans h
/-- A row of the call's own lies apart from a block of other things. -/
theorem OwnI.only {w w' : World} {base g : Nat} {e t : TypeId} {k : IntKind} {v : Value} {zs : List Int} {cs : Array Value} (h : OwnI w base e k v zs) (hb : Blk w g t cs) (hne : e ≠ t) (ho : Only g w w') : OwnI w' base e k v zs := by
  refine ⟨h.1, ?_⟩
  rcases h.2 with h1 | ⟨g', cap, cur, h1, h2, h3, h4⟩
  · exact .inl h1
  · have hlt : g' < w.heap.size := by
      rcases Nat.lt_or_ge g' w.heap.size with h5 | h5
      · exact h5
      · rw [Array.getElem?_eq_none h5] at h3; cases h3
    have hg : g' ≠ g := by
      rintro rfl
      unfold Blk at hb
      rw [h3] at hb
      injection hb with hb
      injection hb with _ h5
      exact hne h5
    exact .inr ⟨g', cap, cur, h1, h2, (ho.block g' hlt hg).trans h3, h4⟩
/-- A part of a block that is not of the same kind, read as numbers, stays. -/
theorem RdA.only {w w' : World} {k : IntKind} {s n g : Nat} {A : Option Addr} {bs : List (List Int)} (h : RdA k s w g A n bs) (hg : g ≤ w.heap.size) (ho : Only g w w') : RdA k s w' g A n bs := h.below (ho.below (Nat.le_refl _) hg)
/-! ### a writer's cells -/
theorem wrV_put (s y : List Int) (hs : s.length = 8) (hy : y.length = 8) (A : Option Addr) (r c : Nat) (n : Int) : putAll (wrV s A r c n) 0 (intsA .u32 y).toList = wrV y A r c n := by
  obtain ⟨a, b, d, e, f, p, q, u, rfl⟩ : ∃ a b d e f p q u, s = [a, b, d, e, f, p, q, u] := ⟨_, _, _, _, _, _, _, _, list8 s hs⟩
  obtain ⟨a', b', d', e', f', p', q', u', rfl⟩ : ∃ a b d e f p q u, y = [a, b, d, e, f, p, q, u] := ⟨_, _, _, _, _, _, _, _, list8 y hy⟩
  simp [wrV, putAll, intsA]
theorem wrV_set9 (s : List Int) (hs : s.length = 8) (A : Option Addr) (r c : Nat) (n m : Int) : (wrV s A r c n).setIfInBounds 9 (.int .u64 m) = wrV s A r c m := by
  obtain ⟨a, b, d, e, f, p, q, u, rfl⟩ : ∃ a b d e f p q u, s = [a, b, d, e, f, p, q, u] := ⟨_, _, _, _, _, _, _, _, list8 s hs⟩
  simp [wrV]
theorem wrV_set8 (s : List Int) (hs : s.length = 8) (A A' : Option Addr) (r c r' c' : Nat) (n : Int) : (wrV s A r c n).setIfInBounds 8 (.slice A' r' c') = wrV s A' r' c' n := by
  obtain ⟨a, b, d, e, f, p, q, u, rfl⟩ : ∃ a b d e f p q u, s = [a, b, d, e, f, p, q, u] := ⟨_, _, _, _, _, _, _, _, list8 s hs⟩
  simp [wrV]
section
variable {P : Program} {w w' : World} {ops : Array Oper} {rest : List Oper} {o : Oper} {a : Act} {Q : Exit → Act → World → Prop}
/-- A part of a block is stored, where it comes up. -/
theorem step_store_at {K : Act → World → Prop} {E : Prop} (d : Option Tmp) (hd : o.dst = d) (hw : Region.wanted o (yielded ops a.tmps) = true) (ty : TypeId) (x y : Operand) (ho : o.op = .store ty x y) (g : Nat) (hx : a.eval x = .pointer (some ⟨g, 0, none⟩)) (t : TypeId) (cs ys : Array Value) (hb : Blk w g t cs)
    (hy : a.eval y = .agg ys) (hl : ys.size ≤ cs.size) (hz : (P.info? ty).map (·.size) = some ys.size) (h1 : ys.all (·.oneCell') = true)
    (h : ∀ w', Hid (Blk w' g t (putAll cs 0 ys.toList)) → Only g w w' → K (a.put d undef) w') :
    if Region.wanted o (yielded ops a.tmps) = true then Oper.wp P o a w K Q else E := by
  subst hd
  rw [if_pos hw]
  exact wp_store_mid ty x y ho g 0 ys hx hy (hb.there 0 ys.size (by omega)) hz h1 (h _ (Blk.setCells _ _ hb) (Only.setCells g _ _ _))
/-- A row is loaded, wherever it lies, where it comes up. -/
theorem step_load_at {K : Act → World → Prop} {E : Prop} (d : Option Tmp) (hd : o.dst = d) (hw : Region.wanted o (yielded ops a.tmps) = true) (ty : TypeId) (x : Operand) (ho : o.op = .load ty x) (g off : Nat) (hx : a.eval x = .pointer (some ⟨g, off, none⟩)) (cs : List Value) (hb : w.rangeAt g off cs)
    (ds : TypeDesc) (hu : P.underlying ty = some ds) (hdr : ds.isRow = true) (hz : (P.info? ty).map (·.size) = some cs.length) (h : K (a.put d (.agg cs.toArray)) w) :
    if Region.wanted o (yielded ops a.tmps) = true then Oper.wp P o a w K Q else E := by
  subst hd
  rw [if_pos hw]
  exact wp_load_mid ty x ho g off hx cs ds hb hu hdr hz h
/-- A cell is loaded, where it comes up. -/
theorem step_v {K : Act → World → Prop} {E : Prop} (d : Option Tmp) (hd : o.dst = d) (hw : Region.wanted o (yielded ops a.tmps) = true) (v : Value) (hv : (execOp a.eval o).run P w = .ok (.value v) w) (h : K (a.put d v) w) :
    if Region.wanted o (yielded ops a.tmps) = true then Oper.wp P o a w K Q else E := by
  subst hd
  rw [if_pos hw]
  unfold Oper.wp
  simp only [hv]
  exact h
theorem run_storeVar_cell (b off : Nat) (ty : TypeId) (v : Value) (ht : w.there b off 1) (hi : (P.info? ty).map (·.size) = some 1) (h1 : v.cells = #[v]) (h2 : v.oneCell' = true) : (storeVar ty ⟨b, off, none⟩ v).run P w = .ok () (w.setCell ⟨b, off, none⟩ v) := by
  have := run_storeCells_cells (P := P) b off [v] 0 w (fun j hj => by simpa using (ht j (by simpa using hj)).1) (fun j hj => by simpa using (ht j (by simpa using hj)).2)
    (fun u hu => by rw [List.mem_singleton.1 hu]; exact h2)
  cases hq : P.info? ty with
  | none => simp [hq] at hi
  | some i =>
    have hs : i.size = 1 := by simpa [hq] using hi
    simp only [Nat.add_zero, World.setCells] at this
    simp [storeVar, sizeOf, typeInfo, hq, h1, hs, this]
/-- One cell of a block is stored, where it comes up. -/
theorem step_store_cell {K : Act → World → Prop} {E : Prop} (d : Option Tmp) (hd : o.dst = d) (hw : Region.wanted o (yielded ops a.tmps) = true) (ty : TypeId) (x y : Operand) (ho : o.op = .store ty x y) (g off : Nat) (hx : a.eval x = .pointer (some ⟨g, off, none⟩)) (t : TypeId) (cs : Array Value) (hb : Blk w g t cs)
    (v : Value) (hy : a.eval y = v) (hl : off < cs.size) (hz : (P.info? ty).map (·.size) = some 1) (h1 : v.cells = #[v]) (h2 : v.oneCell' = true)
    (h : ∀ w', Hid (Blk w' g t (cs.setIfInBounds off v)) → Only g w w' → K (a.put d undef) w') :
    if Region.wanted o (yielded ops a.tmps) = true then Oper.wp P o a w K Q else E := by
  subst hd
  rw [if_pos hw]
  have hrun := run_storeVar_cell (P := P) (w := w) g off ty v (hb.there off 1 (by omega)) hz h1 h2
  unfold Oper.wp execOp
  simp only [ho, hx, hy, Instr.storeAt, Instr.sureAddr, Sem.run_bind, Sem.run_pure, Result.andThen_ok, hrun]
  exact h _ (hb.set_ off v) (Only.setCell g off w v)
/-- The same, in a plain region. -/
theorem wpList_store_cell (hgd : o.guard = none) (ty : TypeId) (x y : Operand) (ho : o.op = .store ty x y) (g off : Nat) (hx : a.eval x = .pointer (some ⟨g, off, none⟩)) (t : TypeId) (cs : Array Value) (hb : Blk w g t cs)
    (v : Value) (hy : a.eval y = v) (hl : off < cs.size) (hz : (P.info? ty).map (·.size) = some 1) (h1 : v.cells = #[v]) (h2 : v.oneCell' = true)
    (h : ∀ w', Hid (Blk w' g t (cs.setIfInBounds off v)) → Only g w w' → wpList P ops Q rest (a.put o.dst undef) w') : wpList P ops Q (o :: rest) a w := by
  refine wpList_plain hgd fun K hK => ?_
  have hrun := run_storeVar_cell (P := P) (w := w) g off ty v (hb.there off 1 (by omega)) hz h1 h2
  unfold Oper.wp execOp
  simp only [ho, hx, hy, Instr.storeAt, Instr.sureAddr, Sem.run_bind, Sem.run_pure, Result.andThen_ok, hrun]
  exact hK _ _ (h _ (hb.set_ off v) (Only.setCell g off w v))
end
/-! ### rows of the call's own, out of blocks that are known whole -/
theorem OwnI.of_blk {w : World} {g base c : Nat} {e : TypeId} {k : IntKind} {zs cs : List Int} (h : BlkI w g e k cs) (hb : base ≤ g) (hn : zs.length ≤ c) (hc : c ≤ maxLen) (hs : cs.length = c) (hp : cs.take zs.length = zs) : OwnI w base e k (.slice (some ⟨g, 0, none⟩) zs.length c) zs :=
  ⟨by simp, .inr ⟨g, c, intsA k cs, rfl, hb, h, hn, hc, by rw [intsA_size, hs]; simp, by simp [intsA, ← List.map_take, hp]⟩⟩
theorem OwnI.zero {w : World} {base n c : Nat} {e : TypeId} {k : IntKind} {A : Option Addr} {zs : List Int} (h : OwnI w base e k (.slice A n c) zs) (hn : 0 < zs.length) : OwnI w base e k (.slice A 0 c) [] := by
  rcases h.2 with ⟨h1, h2⟩ | ⟨g, cap, cur, h1, h2, h3, h4, h5, h6, h7⟩
  · omega
  · injection h1 with e1 e2 e3
    subst e1 e3
    exact ⟨rfl, .inr ⟨g, c, cur, rfl, h2, h3, Nat.zero_le _, h5, h6, by simp⟩⟩
theorem run_make_cap {P : Program} (t e : TypeId) (i : TypeInfo) (k : IntKind) (ht : P.underlying t = some (.slice e)) (hi : P.info? e = some i) (hz : i.zero = some (.int k 0)) (hs : i.size = 1) (hby : i.bytes = 1) (n m : Nat) (hnm : n ≤ m) (hm : m ≤ 1000000) (w : World) :
    (Instr.makeSlice t (.int .i64 (n : Int)) (.int .i64 (m : Int))).run P w = .ok (.slice (some ⟨w.heap.size, 0, none⟩) n m) (w.alloc (.cells (intsA k (List.replicate m 0)) e)) := by
  have hr := run_make (P := P) w t e i _ ht hi hz .i64 .i64 n m (by omega) (by omega) (by rw [hby]; omega) (by omega)
  simp only [Int.toNat_natCast, hs, Nat.mul_one] at hr
  rw [hr, show madeCells (Value.int k 0).cells m = intsA k (List.replicate m 0) from ?_]
  have h1 := madeCells_same (.int k 0) 1 m (by omega)
  simpa [intsA, Value.cells] using h1
section
variable {P : Program} {ops : Array Oper} {Q : Exit → Act → World → Prop} {md : Region.Mode} {S : World → Prop} {fuel : Nat} {listed : Array Bool} {a : Act} {w : World}
/-- A row is loaded, wherever it lies: taken first. -/
theorem held_load_at {oi : Oper} (i : Nat) (d : Option Tmp) (hi : ops[i]? = some oi) (hd : oi.dst = d) (hs : Region.noSelect ops = true) (hf : Region.free md ops listed i = true) (hr : (Region.ready md ops listed).contains i = true)
    (hQ2 : ∀ c a v w, Q (.panic c) (a.put oi.dst v) w → Q (.panic c) a w) (hw : Region.wanted oi (yielded ops a.tmps) = true)
    (ty : TypeId) (x : Operand) (ho : oi.op = .load ty x) (g off : Nat) (hx : a.eval x = .pointer (some ⟨g, off, none⟩)) (cs : List Value) (hS : ∀ w, S w → w.rangeAt g off cs)
    (ds : TypeDesc) (hu : P.underlying ty = some ds) (hdr : ds.isRow = true) (hz : (P.info? ty).map (·.size) = some cs.length) (hSw : S w)
    (h : wpAnyH P md ops Q S fuel (listed.setIfInBounds i true) (a.put d (.agg cs.toArray)) w) : wpAnyH P md ops Q S (fuel + 1) listed a w :=
  held_load_mid i hi hs hf hr hQ2 hw ty x ho g off hx cs hS ds hu hdr hz hSw (by rw [hd]; exact h)
end
theorem step_append_d {P : Program} (w : World) {ops : Array Oper} {o : Oper} {a : Act} {K : Act → World → Prop} {Q : Exit → Act → World → Prop} {E : Prop} (d : Option Tmp) (hd : o.dst = d) (hgd : o.guard = none) (s x : Operand) (t : TypeId)
    (ho : o.op = .call { callee := .builtin .append, args := #[s, x], argTypes := #[t, t] })
    (base : Nat) (e : TypeId) (i : TypeInfo) (z : Value) (bytes : Nat) (k : IntKind) (ht : P.underlying t = some (.slice e)) (hi : P.info? e = some i) (hz : i.zero = some z)
    (hsize : i.size = 1) (hby : i.bytes = bytes) (hzs : z.cells.size = 1) (v : Value) (zs : List Int) (hs : a.eval s = v) (hown : OwnI w base e k v zs)
    (B : Nat) (A : Option Addr) (m c : Nat) (ys : List Int) (hx : a.eval x = .slice A m c) (hr : Rd k w B A m ys)
    (h63 : zs.length + m ≤ maxLen) (hbytes : (zs.length + m) * bytes ≤ 140737488355328) (hbase : base ≤ w.heap.size)
    (h : ∀ v' w', OwnI w' base e k v' (zs ++ ys) → w.grownBy w' v.ownBlock → (v'.ownBlock = v.ownBlock ∨ v'.ownBlock = some w.heap.size) → K (a.put d v') w') :
    if Region.wanted o (yielded ops a.tmps) = true then Oper.wp P o a w K Q else E := by
  subst hd
  exact step_append_ints w hgd s x t ho base e i z bytes k ht hi hz hsize hby hzs v zs hs hown B A m c ys hx hr h63 hbytes hbase h
section
variable {P : Program} {ops : Array Oper} {Q : Exit → Act → World → Prop} {md : Region.Mode} {S : World → Prop} {fuel : Nat} {listed : Array Bool} {a : Act} {w : World}
/-- What comes behind the region is kept under a letter meanwhile. -/
theorem wpAnyH_letter (L : Array Bool) (hL : listed = L) (hQ : ∀ c a d v w, Q (.panic c) (Act.put a d v) w → Q (.panic c) a w)
    (h : ∀ Q' : Exit → Act → World → Prop, Hid (∀ a w, Q .normal a w → Q' .normal a w) → Hid (∀ c a d v w, Q' (.panic c) (Act.put a d v) w → Q' (.panic c) a w) → wpAnyH P md ops Q' S fuel L a w) : wpAnyH P md ops Q S fuel listed a w := by
  subst hL
  exact h Q (fun _ _ h => h) hQ
end
/-- A block of 64 bytes lies at q. -/
def LiesB (q : Nat) (b : List Int) (W : World) : Prop := BlkI W q 78 .u8 b
/-- A writer that writes, at g, behind the world w0: its state s, its rest r (a row of the call's own), its bytes n. -/
def Wrt (w0 : World) (g : Nat) (A : Option Addr) (c : Nat) (s r : List Int) (n : Int) (w : World) : Prop :=
  Blk w g 85 (wrV s A r.length c n) ∧ OwnI w w0.heap.size 5 .u8 (.slice A r.length c) r ∧ Below w0.heap.size w0 w ∧ w0.heap.size ≤ g
section
variable {w0 w w' : World} {g : Nat} {A : Option Addr} {c : Nat} {s r : List Int} {n : Int}
theorem Wrt.bel (h : Wrt w0 g A c s r n w) : Below w0.heap.size w0 w := h.2.2.1
theorem Wrt.size (h : Wrt w0 g A c s r n w) : w0.heap.size ≤ w.heap.size := h.2.2.1.size
theorem Wrt.lt (h : Wrt w0 g A c s r n w) : g < w.heap.size := h.1.lt
theorem Wrt.drew (h : Wrt w0 g A c s r n w) : Wrt w0 g A c s r n w.drew := ⟨h.1, h.2.1, h.2.2.1.drew, h.2.2.2⟩
theorem Wrt.below (h : Wrt w0 g A c s r n w) (hb : Below w.heap.size w w') : Wrt w0 g A c s r n w' :=
  ⟨h.1.below hb h.lt, h.2.1.below hb, h.bel.trans (hb.mono h.size), h.2.2.2⟩
theorem Wrt.only {s' : List Int} {n' : Int} (h : Wrt w0 g A c s r n w) (ho : Only g w w') (hk : Blk w' g 85 (wrV s' A r.length c n')) : Wrt w0 g A c s' r n' w' :=
  ⟨hk, h.2.1.only h.1 (by decide) ho, h.bel.trans (ho.below h.2.2.2 h.size), h.2.2.2⟩
theorem Wrt.rd (h : Wrt w0 g A c s r n w) : Rd .u8 w w.heap.size A r.length r := h.2.1.rd rfl
theorem Wrt.cap (h : Wrt w0 g A c s r n w) : r.length ≤ c := h.2.1.cap.1
theorem Wrt.cell8 (h : Wrt w0 g A c s r n w) (hs : s.length = 8) : w.cell? ⟨g, 8, none⟩ = some (.slice A r.length c) := by rw [h.1.cell]; exact wrV_rest s hs _ _ _ _
theorem Wrt.cell9 (h : Wrt w0 g A c s r n w) (hs : s.length = 8) : w.cell? ⟨g, 9, none⟩ = some (.int .u64 n) := by rw [h.1.cell]; exact wrV_bytes s hs _ _ _ _
end
theorem wrV_range {w : World} {g : Nat} {t : TypeId} {s : List Int} {A : Option Addr} {r c : Nat} {n : Int} (h : Blk w g t (wrV s A r c n)) : w.rangeAt g 0 (s.map (Value.int .u32)) := by
  intro j v hv
  rw [Nat.zero_add, h.cell]
  unfold wrV
  rw [List.getElem?_toArray]
  have hj : j < (s.map (Value.int .u32)).length := by
    rcases Nat.lt_or_ge j (s.map (Value.int .u32)).length with h1 | h1
    · exact h1
    · rw [List.getElem?_eq_none h1] at hv; cases hv
  rw [List.getElem?_append_left hj]
  exact hv
def AnyW (_ : World) : Prop := True
end Go.Proofs.YtabfgkokilghcaaDoor
/-
  Facts of memory kept where a row of the call's own grows; rows of three slices; an operation taken where it comes up.
  Conditions: those that each theorem names.
-/
set_option maxRecDepth 100000
set_option linter.unusedVariables false
set_option linter.unusedSimpArgs false
namespace Go.Proofs.YtabfgkokilghcaaDoor
open Go.ChangeShapes Go.WideShapes Go.ChangeAt Go.RowKit
/-- Kept where a row of elements e grows that lies at base or above. -/
def Fact.free (e : TypeId) (base : Nat) : Fact → Prop
  | .blk _ t _ => e ≠ t
  | .bel w0 => w0.heap.size = base
  | .rdb _ B _ _ _ => B ≤ base
  | _ => False
def Fx.free (e : TypeId) (base : Nat) : List Fact → Prop
  | [] => True
  | f :: l => f.free e base ∧ Fx.free e base l
theorem Fx.grown {l : List Fact} {w w' : World} {base : Nat} {e : TypeId} {k : IntKind} {v : Value} {zs : List Int} (h : Fx l w) (ho : OwnI w base e k v zs) (hf : Fx.free e base l) (hbase : base ≤ w.heap.size) (hg : w.grownBy w' v.ownBlock) : Fx l w' := by
  induction l with
  | nil => exact trivial
  | cons f l ih =>
    refine ⟨?_, ih h.2 hf.2⟩
    have h1 := h.1
    have h2 := hf.1
    cases f with
    | blk g t cs => exact Blk.grown h1 ho h2 hg
    | rd k A n zs => exact h2.elim
    | rows A n rs => exact h2.elim
    | bel w0 =>
      have h3 : w0.heap.size = base := h2
      subst h3
      exact ho.below_ h1 hbase hg
    | rdb k B A n zs =>
      have hb : Below base w w' := ho.below_ (Below.refl _ _) hbase hg
      exact ⟨Rd.below h1.1 (hb.mono h2), Nat.le_trans h1.2 hb.size⟩
/-! ### lists of blocks, the newest first -/
def Fact.plain : Fact → Bool
  | .blk _ _ _ => true
  | .bel _ => true
  | .rdb _ _ _ _ _ => true
  | _ => false
def Fact.under (g : Nat) : Fact → Prop
  | .blk g' _ _ => g' < g
  | .bel w0 => w0.heap.size ≤ g
  | .rdb _ B _ _ _ => B ≤ g
  | _ => False
def Fx.under (g : Nat) : List Fact → Prop
  | [] => True
  | f :: l => f.under g ∧ Fx.under g l
section
variable {l : List Fact} {f : Fact} {w w' w0 : World} {g g' : Nat} {t : TypeId} {k : IntKind} {zs ys : List Int} {cs : Array Value}
theorem Fx.box (h : BlkI w' w.heap.size t k zs) (hb : Below w.heap.size w w') : Fx [.blk w.heap.size t (intsA k zs), .bel w] w' := ⟨h, hb, trivial⟩
theorem Fx.new (h : Fx l w) (hk : BlkI w' w.heap.size t k zs) (hb : Below w.heap.size w w') : Fx (.blk w.heap.size t (intsA k zs) :: l) w' := ⟨hk, h.below hb⟩
theorem Fx.bel0 (w : World) : Fx [.bel w] w := ⟨Below.refl _ _, trivial⟩
theorem Fx.fst (h : Fx (.blk g t (intsA k zs) :: l) w) : BlkI w g t k zs := h.1
theorem Fx.fstB (h : Fx (.blk g t cs :: l) w) : Blk w g t cs := h.1
theorem Fx.tl (h : Fx (f :: l) w) : Fx l w := h.2
theorem Fx.snd (h : Fx (f :: .blk g t (intsA k zs) :: l) w) : BlkI w g t k zs := h.2.1
theorem Fx.bel1 (h : Fx [.bel w0] w) : Below w0.heap.size w0 w := h.1
theorem Fx.bel2 (h : Fx [f, .bel w0] w) : Below w0.heap.size w0 w := h.2.1
theorem Fx.bel3 {f2 : Fact} (h : Fx [f, f2, .bel w0] w) : Below w0.heap.size w0 w := h.2.2.1
theorem Fx.bel4 {f2 f3 : Fact} (h : Fx [f, f2, f3, .bel w0] w) : Below w0.heap.size w0 w := h.2.2.2.1
theorem Fx.under_new (h : Fx l w) (hp : l.all Fact.plain = true) : Fx.under w.heap.size l := by
  induction l with
  | nil => exact trivial
  | cons f l ih =>
    rw [List.all_cons, Bool.and_eq_true] at hp
    refine ⟨?_, ih h.2 hp.2⟩
    have h1 := h.1
    cases f with
    | blk g t cs => exact Blk.lt h1
    | bel w0 => exact Below.size h1
    | rdb k B A n zs => exact h1.2
    | rd k A n zs => cases hp.1
    | rows A n rs => cases hp.1
theorem Fx.off_under (h : Fx.under g l) (cs : Array Value) : Fx.off g cs l := by
  induction l with
  | nil => exact trivial
  | cons f l ih =>
    refine ⟨?_, ih h.2⟩
    have h1 := h.1
    cases f with
    | blk g' t cs => exact Nat.ne_of_lt h1
    | bel w0 => exact h1
    | rdb k B A n zs => exact h1
    | rd k A n zs => exact h1.elim
    | rows A n rs => exact h1.elim
/-- The newest block is written. -/
theorem Fx.put1 (h : Fx (.blk g t cs :: l) w) (hu : Fx.under g l) (hk : BlkI w' g t k ys) (hs : w'.heap.size = w.heap.size) (hb : ∀ B, B ≤ g → Below B w w') (ho : ∀ j, j ≠ g → w'.heap[j]? = w.heap[j]?) : Fx (.blk g t (intsA k ys) :: l) w' :=
  ⟨hk, h.2.store h.1 (Fx.off_under hu _) hs hb ho⟩
/-- The one below it is written. -/
theorem Fx.put2 {t' : TypeId} {cs' : Array Value} (h : Fx (.blk g' t' cs' :: .blk g t cs :: l) w) (hu : Fx.under g' (.blk g t cs :: l)) (hu2 : Fx.under g l) (hk : BlkI w' g t k ys) (hs : w'.heap.size = w.heap.size) (hb : ∀ B, B ≤ g → Below B w w') (ho : ∀ j, j ≠ g → w'.heap[j]? = w.heap[j]?) : Fx (.blk g' t' cs' :: .blk g t (intsA k ys) :: l) w' :=
  ⟨Blk.other h.1 ho (Nat.ne_of_gt hu.1), Fx.put1 h.2 hu2 hk hs hb ho⟩
theorem Fx.under_put (h : Fx.under g' (.blk g t cs :: l)) (cs' : Array Value) : Fx.under g' (.blk g t cs' :: l) := h
end
theorem Fx.free2 {e t : TypeId} {g : Nat} {cs : Array Value} {w : World} (h : e ≠ t) : Fx.free e w.heap.size [.blk g t cs, .bel w] := ⟨h, rfl, trivial⟩
theorem Fx.free3 {e t t2 : TypeId} {g g2 : Nat} {cs cs2 : Array Value} {w : World} (h : e ≠ t) (h2 : e ≠ t2) : Fx.free e w.heap.size [.blk g t cs, .blk g2 t2 cs2, .bel w] := ⟨h, h2, rfl, trivial⟩
section
variable {P : Program} {ops : Array Oper} {Q : Exit → Act → World → Prop} {a : Act} {w w1 : World}
/-- An operation whose value and world are known, where it comes up. -/
theorem step_run {o : Oper} {K : Act → World → Prop} {E : Prop} (d : Option Tmp) (hd : o.dst = d) (hw : Region.wanted o (yielded ops a.tmps) = true) (v : Value) (he : (execOp a.eval o).run P w = .ok (.value v) w1) (h : K (a.put d v) w1) :
    if Region.wanted o (yielded ops a.tmps) = true then Oper.wp P o a w K Q else E := by
  subst hd
  rw [if_pos hw]
  unfold Oper.wp
  rw [he]
  exact h
end
/-- Four blocks of the call's own: 8 cells, 8 cells, 32 and 32. -/
def Blk4 (w : World) (g8 g7 g6 g3 : Nat) (Y X Z s : List Int) : World → Prop := Fx [.blk g8 58 (intsA .u8 Y), .blk g7 58 (intsA .u8 X), .blk g6 25 (intsA .u8 Z), .blk g3 25 (intsA .u8 s), .bel w]
section
variable {w w1 w2 : World} {g8 g7 g6 g3 : Nat} {Y X Z s R : List Int}
theorem Blk4.below (h : Blk4 w g8 g7 g6 g3 Y X Z s w1) (hb : Below w1.heap.size w1 w2) : Blk4 w g8 g7 g6 g3 Y X Z s w2 := Fx.below h hb
theorem Blk4.drew (h : Blk4 w g8 g7 g6 g3 Y X Z s w1) : Blk4 w g8 g7 g6 g3 Y X Z s w1.drew := Fx.drew h
theorem Blk4.alloc (h : Blk4 w g8 g7 g6 g3 Y X Z s w1) (o : Obj) : Blk4 w g8 g7 g6 g3 Y X Z s (w1.alloc o) := Fx.alloc h o
theorem Blk4.grown {k : IntKind} {v : Value} {zs : List Int} (h : Blk4 w g8 g7 g6 g3 Y X Z s w1) (ho : OwnI w1 w.heap.size 5 k v zs) (hs : w.heap.size ≤ w1.heap.size) (hg : w1.grownBy w2 v.ownBlock) : Blk4 w g8 g7 g6 g3 Y X Z s w2 :=
  Fx.grown h ho ⟨show _ ≠ _ by decide, show _ ≠ _ by decide, show _ ≠ _ by decide, show _ ≠ _ by decide, rfl, trivial⟩ hs hg
theorem Blk4.c8 (h : Blk4 w g8 g7 g6 g3 Y X Z s w1) : BlkI w1 g8 58 .u8 Y := h.1
theorem Blk4.c7 (h : Blk4 w g8 g7 g6 g3 Y X Z s w1) : BlkI w1 g7 58 .u8 X := h.2.1
theorem Blk4.c6 (h : Blk4 w g8 g7 g6 g3 Y X Z s w1) : BlkI w1 g6 25 .u8 Z := h.2.2.1
theorem Blk4.c3 (h : Blk4 w g8 g7 g6 g3 Y X Z s w1) : BlkI w1 g3 25 .u8 s := h.2.2.2.1
theorem Blk4.bel (h : Blk4 w g8 g7 g6 g3 Y X Z s w1) : Below w.heap.size w w1 := h.2.2.2.2.1
/-- With whatever in the third. -/
def Blk4W (w : World) (g8 g7 g6 g3 : Nat) (Y X s : List Int) (w1 : World) : Prop := ∃ Z, Blk4 w g8 g7 g6 g3 Y X Z s w1
theorem Blk4.any (h : Blk4 w g8 g7 g6 g3 Y X Z s w1) : Blk4W w g8 g7 g6 g3 Y X s w1 := ⟨Z, h⟩
/-- The third is written. -/
theorem Blk4.put6 (h : Blk4 w g8 g7 g6 g3 Y X Z s w1) (h6 : g6 < g7) (h7 : g7 < g8) (h3 : g3 < g6) (h0 : w.heap.size ≤ g3) (hk : BlkI w2 g6 25 .u8 R) (hs : w2.heap.size = w1.heap.size) (hb : ∀ B, B ≤ g6 → Below B w1 w2) (ho : ∀ j, j ≠ g6 → w2.heap[j]? = w1.heap[j]?) : Blk4 w g8 g7 g6 g3 Y X R s w2 :=
  ⟨Blk.other h.1 ho (by omega), Blk.other h.2.1 ho (by omega), hk, Blk.other h.2.2.2.1 ho (by omega), Below.trans h.bel (hb _ (by omega)), trivial⟩
end
theorem zero_b8s : ∀ W, (zeroValue 58).run Tryd.prog W = .ok (.agg (intsA .u8 (List.replicate 8 0))) W := (zero_of_info (n := 8) (by kernel_rfl)).1
theorem size_b8s : (Tryd.prog.info? 58).map (·.size) = some 8 := by kernel_rfl
/-- Three slices in a row of their own. -/
def row3 (g1 g2 g3 n1 n2 n3 : Nat) : Array Value := #[.slice (some ⟨g1, 0, none⟩) n1 n1, .slice (some ⟨g2, 0, none⟩) n2 n2, .slice (some ⟨g3, 0, none⟩) n3 n3]
theorem rows3 {W : World} {g1 g2 g3 n1 n2 n3 : Nat} {t1 t2 t3 : TypeId} {x y z : List Int} (h1 : BlkI W g1 t1 .u8 x) (h2 : BlkI W g2 t2 .u8 y) (h3 : BlkI W g3 t3 .u8 z) (l1 : x.length = n1) (l2 : y.length = n2) (l3 : z.length = n3) :
    RdRows (W.alloc (.cells (row3 g1 g2 g3 n1 n2 n3) 22)) (W.alloc (.cells (row3 g1 g2 g3 n1 n2 n3) 22)).heap.size (some ⟨W.heap.size, 0, none⟩) 3 [⟨some ⟨g1, 0, none⟩, n1, n1, x⟩, ⟨some ⟨g2, 0, none⟩, n2, n2, y⟩, ⟨some ⟨g3, 0, none⟩, n3, n3, z⟩] := by
  subst l1 l2 l3
  have hk := Blk.new W 22 (row3 g1 g2 g3 x.length y.length z.length)
  have hb : Below W.heap.size W (W.alloc (.cells (row3 g1 g2 g3 x.length y.length z.length) 22)) := (Below.refl _ _).alloc (Nat.le_refl _) _
  have r1 := (h1.below hb h1.lt).rd
  have r2 := (h2.below hb h2.lt).rd
  have r3 := (h3.below hb h3.lt).rd
  refine ⟨rfl, fun _ => ⟨_, 0, rfl, hk.lt, fun j r hj => ?_⟩, fun r hr => ?_⟩
  · match j, hj with
    | 0, hj => injection hj with hj; subst hj; rw [hk.cell]; rfl
    | 1, hj => injection hj with hj; subst hj; rw [hk.cell]; rfl
    | 2, hj => injection hj with hj; subst hj; rw [hk.cell]; rfl
  · simp only [List.mem_cons, List.not_mem_nil, or_false] at hr
    rcases hr with rfl | rfl | rfl
    · exact ⟨r1, Nat.le_refl _⟩
    · exact ⟨r2, Nat.le_refl _⟩
    · exact ⟨r3, Nat.le_refl _⟩
theorem run_build3 (g1 g2 g3 n1 n2 n3 : Nat) (w : World) : (Instr.buildSlice 70 3 #[(0, .slice (some ⟨g1, 0, none⟩) n1 n1), (1, .slice (some ⟨g2, 0, none⟩) n2 n2), (2, .slice (some ⟨g3, 0, none⟩) n3 n3)]).run Tryd.prog w = .ok (.slice (some ⟨w.heap.size, 0, none⟩) 3 3) (w.alloc (.cells (row3 g1 g2 g3 n1 n2 n3) 22)) := by
  unfold row3
  go_simp
theorem exec_build3 {o : Oper} {a : Act} {w : World} (p q r : Operand) (g1 g2 g3 n1 n2 n3 : Nat) (ho : o.op = .buildSlice 70 3 #[(0, p), (1, q), (2, r)]) (hp : a.eval p = .slice (some ⟨g1, 0, none⟩) n1 n1) (hq : a.eval q = .slice (some ⟨g2, 0, none⟩) n2 n2) (hr : a.eval r = .slice (some ⟨g3, 0, none⟩) n3 n3) :
    (execOp a.eval o).run Tryd.prog w = .ok (.value (.slice (some ⟨w.heap.size, 0, none⟩) 3 3)) (w.alloc (.cells (row3 g1 g2 g3 n1 n2 n3) 22)) := by
  unfold execOp
  simp only [ho, List.map_toArray, List.map_cons, List.map_nil, hp, hq, hr]
  change ((Instr.buildSlice 70 3 #[(0, .slice (some ⟨g1, 0, none⟩) n1 n1), (1, .slice (some ⟨g2, 0, none⟩) n2 n2), (2, .slice (some ⟨g3, 0, none⟩) n3 n3)]) >>= fun v => pure (Next.value v)).run Tryd.prog w = _
  simp only [Sem.run_bind, run_build3, Result.andThen_ok, Sem.run_pure]
end Go.Proofs.YtabfgkokilghcaaDoor
/-
  Lists of facts of memory: each one by its place, what is added in front, what is written in front.
  Conditions: those that each theorem names.
-/
set_option maxRecDepth 100000
set_option linter.unusedVariables false
set_option linter.unusedSimpArgs false
namespace Go.Proofs.YtabfgkokilghcaaDoor
open Go.ChangeShapes Go.WideShapes Go.ChangeAt Go.RowKit
section
variable {l : List Fact} {w w' w0 : World} {g B n : Nat} {t : TypeId} {k : IntKind} {zs : List Int} {A : Option Addr} {cs ys : Array Value} {f0 : Fact} {f1 : Fact} {f2 : Fact} {f3 : Fact} {f4 : Fact} {f5 : Fact} {f6 : Fact} {f7 : Fact} {f8 : Fact} {f9 : Fact} {f10 : Fact} {f11 : Fact} {f12 : Fact} {f13 : Fact} {f14 : Fact} {f15 : Fact}
theorem Fx.newB (h : Fx l w) (hk : Blk w' w.heap.size t cs) (hb : Below w.heap.size w w') : Fx (.blk w.heap.size t cs :: l) w' := ⟨hk, h.below hb⟩
theorem Fx.addR (h : Fx l w) (hb : Below w.heap.size w w') (hr : Rd k w' w'.heap.size A n zs) : Fx (.rdb k w'.heap.size A n zs :: l) w' := ⟨⟨hr, Nat.le_refl _⟩, h.below hb⟩
theorem Fx.put1B (h : Fx (.blk g t cs :: l) w) (hu : Fx.under g l) (hk : Blk w' g t ys) (hs : w'.heap.size = w.heap.size) (hb : ∀ B, B ≤ g → Below B w w') (ho : ∀ j, j ≠ g → w'.heap[j]? = w.heap[j]?) : Fx (.blk g t ys :: l) w' :=
  ⟨hk, h.2.store h.1 (Fx.off_under hu _) hs hb ho⟩
theorem Fx.b0 (h : Fx (.blk g t cs :: l) w) : Blk w g t cs := h.1
theorem Fx.i0 (h : Fx (.blk g t (intsA k zs) :: l) w) : BlkI w g t k zs := h.1
theorem Fx.r0 (h : Fx (.rdb k B A n zs :: l) w) : Rd k w w.heap.size A n zs := h.1.1.mono h.1.2
theorem Fx.q0 (h : Fx (.rdb k B A n zs :: l) w) : Rd k w B A n zs := h.1.1
theorem Fx.e0 (h : Fx (.bel w0 :: l) w) : Below w0.heap.size w0 w := h.1
theorem Fx.b1 (h : Fx (f0 :: .blk g t cs :: l) w) : Blk w g t cs := h.2.1
theorem Fx.i1 (h : Fx (f0 :: .blk g t (intsA k zs) :: l) w) : BlkI w g t k zs := h.2.1
theorem Fx.r1 (h : Fx (f0 :: .rdb k B A n zs :: l) w) : Rd k w w.heap.size A n zs := h.2.1.1.mono h.2.1.2
theorem Fx.q1 (h : Fx (f0 :: .rdb k B A n zs :: l) w) : Rd k w B A n zs := h.2.1.1
theorem Fx.e1 (h : Fx (f0 :: .bel w0 :: l) w) : Below w0.heap.size w0 w := h.2.1
theorem Fx.b2 (h : Fx (f0 :: f1 :: .blk g t cs :: l) w) : Blk w g t cs := h.2.2.1
theorem Fx.i2 (h : Fx (f0 :: f1 :: .blk g t (intsA k zs) :: l) w) : BlkI w g t k zs := h.2.2.1
theorem Fx.r2 (h : Fx (f0 :: f1 :: .rdb k B A n zs :: l) w) : Rd k w w.heap.size A n zs := h.2.2.1.1.mono h.2.2.1.2
theorem Fx.q2 (h : Fx (f0 :: f1 :: .rdb k B A n zs :: l) w) : Rd k w B A n zs := h.2.2.1.1
theorem Fx.e2 (h : Fx (f0 :: f1 :: .bel w0 :: l) w) : Below w0.heap.size w0 w := h.2.2.1
theorem Fx.b3 (h : Fx (f0 :: f1 :: f2 :: .blk g t cs :: l) w) : Blk w g t cs := h.2.2.2.1
theorem Fx.i3 (h : Fx (f0 :: f1 :: f2 :: .blk g t (intsA k zs) :: l) w) : BlkI w g t k zs := h.2.2.2.1
theorem Fx.r3 (h : Fx (f0 :: f1 :: f2 :: .rdb k B A n zs :: l) w) : Rd k w w.heap.size A n zs := h.2.2.2.1.1.mono h.2.2.2.1.2
theorem Fx.q3 (h : Fx (f0 :: f1 :: f2 :: .rdb k B A n zs :: l) w) : Rd k w B A n zs := h.2.2.2.1.1
theorem Fx.e3 (h : Fx (f0 :: f1 :: f2 :: .bel w0 :: l) w) : Below w0.heap.size w0 w := h.2.2.2.1
theorem Fx.b4 (h : Fx (f0 :: f1 :: f2 :: f3 :: .blk g t cs :: l) w) : Blk w g t cs := h.2.2.2.2.1
theorem Fx.i4 (h : Fx (f0 :: f1 :: f2 :: f3 :: .blk g t (intsA k zs) :: l) w) : BlkI w g t k zs := h.2.2.2.2.1
theorem Fx.r4 (h : Fx (f0 :: f1 :: f2 :: f3 :: .rdb k B A n zs :: l) w) : Rd k w w.heap.size A n zs := h.2.2.2.2.1.1.mono h.2.2.2.2.1.2
theorem Fx.q4 (h : Fx (f0 :: f1 :: f2 :: f3 :: .rdb k B A n zs :: l) w) : Rd k w B A n zs := h.2.2.2.2.1.1
theorem Fx.e4 (h : Fx (f0 :: f1 :: f2 :: f3 :: .bel w0 :: l) w) : Below w0.heap.size w0 w := h.2.2.2.2.1
theorem Fx.b5 (h : Fx (f0 :: f1 :: f2 :: f3 :: f4 :: .blk g t cs :: l) w) : Blk w g t cs := h.2.2.2.2.2.1
theorem Fx.i5 (h : Fx (f0 :: f1 :: f2 :: f3 :: f4 :: .blk g t (intsA k zs) :: l) w) : BlkI w g t k zs := h.2.2.2.2.2.1
theorem Fx.r5 (h : Fx (f0 :: f1 :: f2 :: f3 :: f4 :: .rdb k B A n zs :: l) w) : Rd k w w.heap.size A n zs := h.2.2.2.2.2.1.1.mono h.2.2.2.2.2.1.2
theorem Fx.q5 (h : Fx (f0 :: f1 :: f2 :: f3 :: f4 :: .rdb k B A n zs :: l) w) : Rd k w B A n zs := h.2.2.2.2.2.1.1
theorem Fx.e5 (h : Fx (f0 :: f1 :: f2 :: f3 :: f4 :: .bel w0 :: l) w) : Below w0.heap.size w0 w := h.2.2.2.2.2.1
theorem Fx.b6 (h : Fx (f0 :: f1 :: f2 :: f3 :: f4 :: f5 :: .blk g t cs :: l) w) : Blk w g t cs := h.2.2.2.2.2.2.1
theorem Fx.i6 (h : Fx (f0 :: f1 :: f2 :: f3 :: f4 :: f5 :: .blk g t (intsA k zs) :: l) w) : BlkI w g t k zs := h.2.2.2.2.2.2.1
theorem Fx.r6 (h : Fx (f0 :: f1 :: f2 :: f3 :: f4 :: f5 :: .rdb k B A n zs :: l) w) : Rd k w w.heap.size A n zs := h.2.2.2.2.2.2.1.1.mono h.2.2.2.2.2.2.1.2
theorem Fx.q6 (h : Fx (f0 :: f1 :: f2 :: f3 :: f4 :: f5 :: .rdb k B A n zs :: l) w) : Rd k w B A n zs := h.2.2.2.2.2.2.1.1
theorem Fx.e6 (h : Fx (f0 :: f1 :: f2 :: f3 :: f4 :: f5 :: .bel w0 :: l) w) : Below w0.heap.size w0 w := h.2.2.2.2.2.2.1
theorem Fx.b7 (h : Fx (f0 :: f1 :: f2 :: f3 :: f4 :: f5 :: f6 :: .blk g t cs :: l) w) : Blk w g t cs := h.2.2.2.2.2.2.2.1
theorem Fx.i7 (h : Fx (f0 :: f1 :: f2 :: f3 :: f4 :: f5 :: f6 :: .blk g t (intsA k zs) :: l) w) : BlkI w g t k zs := h.2.2.2.2.2.2.2.1
theorem Fx.r7 (h : Fx (f0 :: f1 :: f2 :: f3 :: f4 :: f5 :: f6 :: .rdb k B A n zs :: l) w) : Rd k w w.heap.size A n zs := h.2.2.2.2.2.2.2.1.1.mono h.2.2.2.2.2.2.2.1.2
theorem Fx.q7 (h : Fx (f0 :: f1 :: f2 :: f3 :: f4 :: f5 :: f6 :: .rdb k B A n zs :: l) w) : Rd k w B A n zs := h.2.2.2.2.2.2.2.1.1
theorem Fx.e7 (h : Fx (f0 :: f1 :: f2 :: f3 :: f4 :: f5 :: f6 :: .bel w0 :: l) w) : Below w0.heap.size w0 w := h.2.2.2.2.2.2.2.1
theorem Fx.b8 (h : Fx (f0 :: f1 :: f2 :: f3 :: f4 :: f5 :: f6 :: f7 :: .blk g t cs :: l) w) : Blk w g t cs := h.2.2.2.2.2.2.2.2.1
theorem Fx.i8 (h : Fx (f0 :: f1 :: f2 :: f3 :: f4 :: f5 :: f6 :: f7 :: .blk g t (intsA k zs) :: l) w) : BlkI w g t k zs := h.2.2.2.2.2.2.2.2.1
theorem Fx.r8 (h : Fx (f0 :: f1 :: f2 :: f3 :: f4 :: f5 :: f6 :: f7 :: .rdb k B A n zs :: l) w) : Rd k w w.heap.size A n zs := h.2.2.2.2.2.2.2.2.1.1.mono h.2.2.2.2.2.2.2.2.1.2
theorem Fx.q8 (h : Fx (f0 :: f1 :: f2 :: f3 :: f4 :: f5 :: f6 :: f7 :: .rdb k B A n zs :: l) w) : Rd k w B A n zs := h.2.2.2.2.2.2.2.2.1.1
theorem Fx.e8 (h : Fx (f0 :: f1 :: f2 :: f3 :: f4 :: f5 :: f6 :: f7 :: .bel w0 :: l) w) : Below w0.heap.size w0 w := h.2.2.2.2.2.2.2.2.1
theorem Fx.b9 (h : Fx (f0 :: f1 :: f2 :: f3 :: f4 :: f5 :: f6 :: f7 :: f8 :: .blk g t cs :: l) w) : Blk w g t cs := h.2.2.2.2.2.2.2.2.2.1
theorem Fx.i9 (h : Fx (f0 :: f1 :: f2 :: f3 :: f4 :: f5 :: f6 :: f7 :: f8 :: .blk g t (intsA k zs) :: l) w) : BlkI w g t k zs := h.2.2.2.2.2.2.2.2.2.1
theorem Fx.r9 (h : Fx (f0 :: f1 :: f2 :: f3 :: f4 :: f5 :: f6 :: f7 :: f8 :: .rdb k B A n zs :: l) w) : Rd k w w.heap.size A n zs := h.2.2.2.2.2.2.2.2.2.1.1.mono h.2.2.2.2.2.2.2.2.2.1.2
theorem Fx.q9 (h : Fx (f0 :: f1 :: f2 :: f3 :: f4 :: f5 :: f6 :: f7 :: f8 :: .rdb k B A n zs :: l) w) : Rd k w B A n zs := h.2.2.2.2.2.2.2.2.2.1.1
theorem Fx.e9 (h : Fx (f0 :: f1 :: f2 :: f3 :: f4 :: f5 :: f6 :: f7 :: f8 :: .bel w0 :: l) w) : Below w0.heap.size w0 w := h.2.2.2.2.2.2.2.2.2.1
theorem Fx.b10 (h : Fx (f0 :: f1 :: f2 :: f3 :: f4 :: f5 :: f6 :: f7 :: f8 :: f9 :: .blk g t cs :: l) w) : Blk w g t cs := h.2.2.2.2.2.2.2.2.2.2.1
theorem Fx.i10 (h : Fx (f0 :: f1 :: f2 :: f3 :: f4 :: f5 :: f6 :: f7 :: f8 :: f9 :: .blk g t (intsA k zs) :: l) w) : BlkI w g t k zs := h.2.2.2.2.2.2.2.2.2.2.1
theorem Fx.r10 (h : Fx (f0 :: f1 :: f2 :: f3 :: f4 :: f5 :: f6 :: f7 :: f8 :: f9 :: .rdb k B A n zs :: l) w) : Rd k w w.heap.size A n zs := h.2.2.2.2.2.2.2.2.2.2.1.1.mono h.2.2.2.2.2.2.2.2.2.2.1.2
theorem Fx.q10 (h : Fx (f0 :: f1 :: f2 :: f3 :: f4 :: f5 :: f6 :: f7 :: f8 :: f9 :: .rdb k B A n zs :: l) w) : Rd k w B A n zs := h.2.2.2.2.2.2.2.2.2.2.1.1
theorem Fx.e10 (h : Fx (f0 :: f1 :: f2 :: f3 :: f4 :: f5 :: f6 :: f7 :: f8 :: f9 :: .bel w0 :: l) w) : Below w0.heap.size w0 w := h.2.2.2.2.2.2.2.2.2.2.1
theorem Fx.b11 (h : Fx (f0 :: f1 :: f2 :: f3 :: f4 :: f5 :: f6 :: f7 :: f8 :: f9 :: f10 :: .blk g t cs :: l) w) : Blk w g t cs := h.2.2.2.2.2.2.2.2.2.2.2.1
theorem Fx.i11 (h : Fx (f0 :: f1 :: f2 :: f3 :: f4 :: f5 :: f6 :: f7 :: f8 :: f9 :: f10 :: .blk g t (intsA k zs) :: l) w) : BlkI w g t k zs := h.2.2.2.2.2.2.2.2.2.2.2.1
theorem Fx.r11 (h : Fx (f0 :: f1 :: f2 :: f3 :: f4 :: f5 :: f6 :: f7 :: f8 :: f9 :: f10 :: .rdb k B A n zs :: l) w) : Rd k w w.heap.size A n zs := h.2.2.2.2.2.2.2.2.2.2.2.1.1.mono h.2.2.2.2.2.2.2.2.2.2.2.1.2
theorem Fx.q11 (h : Fx (f0 :: f1 :: f2 :: f3 :: f4 :: f5 :: f6 :: f7 :: f8 :: f9 :: f10 :: .rdb k B A n zs :: l) w) : Rd k w B A n zs := h.2.2.2.2.2.2.2.2.2.2.2.1.1
theorem Fx.e11 (h : Fx (f0 :: f1 :: f2 :: f3 :: f4 :: f5 :: f6 :: f7 :: f8 :: f9 :: f10 :: .bel w0 :: l) w) : Below w0.heap.size w0 w := h.2.2.2.2.2.2.2.2.2.2.2.1
theorem Fx.b12 (h : Fx (f0 :: f1 :: f2 :: f3 :: f4 :: f5 :: f6 :: f7 :: f8 :: f9 :: f10 :: f11 :: .blk g t cs :: l) w) : Blk w g t cs := h.2.2.2.2.2.2.2.2.2.2.2.2.1
theorem Fx.i12 (h : Fx (f0 :: f1 :: f2 :: f3 :: f4 :: f5 :: f6 :: f7 :: f8 :: f9 :: f10 :: f11 :: .blk g t (intsA k zs) :: l) w) : BlkI w g t k zs := h.2.2.2.2.2.2.2.2.2.2.2.2.1
theorem Fx.r12 (h : Fx (f0 :: f1 :: f2 :: f3 :: f4 :: f5 :: f6 :: f7 :: f8 :: f9 :: f10 :: f11 :: .rdb k B A n zs :: l) w) : Rd k w w.heap.size A n zs := h.2.2.2.2.2.2.2.2.2.2.2.2.1.1.mono h.2.2.2.2.2.2.2.2.2.2.2.2.1.2
theorem Fx.q12 (h : Fx (f0 :: f1 :: f2 :: f3 :: f4 :: f5 :: f6 :: f7 :: f8 :: f9 :: f10 :: f11 :: .rdb k B A n zs :: l) w) : Rd k w B A n zs := h.2.2.2.2.2.2.2.2.2.2.2.2.1.1
theorem Fx.e12 (h : Fx (f0 :: f1 :: f2 :: f3 :: f4 :: f5 :: f6 :: f7 :: f8 :: f9 :: f10 :: f11 :: .bel w0 :: l) w) : Below w0.heap.size w0 w := h.2.2.2.2.2.2.2.2.2.2.2.2.1
theorem Fx.b13 (h : Fx (f0 :: f1 :: f2 :: f3 :: f4 :: f5 :: f6 :: f7 :: f8 :: f9 :: f10 :: f11 :: f12 :: .blk g t cs :: l) w) : Blk w g t cs := h.2.2.2.2.2.2.2.2.2.2.2.2.2.1
theorem Fx.i13 (h : Fx (f0 :: f1 :: f2 :: f3 :: f4 :: f5 :: f6 :: f7 :: f8 :: f9 :: f10 :: f11 :: f12 :: .blk g t (intsA k zs) :: l) w) : BlkI w g t k zs := h.2.2.2.2.2.2.2.2.2.2.2.2.2.1
theorem Fx.r13 (h : Fx (f0 :: f1 :: f2 :: f3 :: f4 :: f5 :: f6 :: f7 :: f8 :: f9 :: f10 :: f11 :: f12 :: .rdb k B A n zs :: l) w) : Rd k w w.heap.size A n zs := h.2.2.2.2.2.2.2.2.2.2.2.2.2.1.1.mono h.2.2.2.2.2.2.2.2.2.2.2.2.2.1.2
theorem Fx.q13 (h : Fx (f0 :: f1 :: f2 :: f3 :: f4 :: f5 :: f6 :: f7 :: f8 :: f9 :: f10 :: f11 :: f12 :: .rdb k B A n zs :: l) w) : Rd k w B A n zs := h.2.2.2.2.2.2.2.2.2.2.2.2.2.1.1
theorem Fx.e13 (h : Fx (f0 :: f1 :: f2 :: f3 :: f4 :: f5 :: f6 :: f7 :: f8 :: f9 :: f10 :: f11 :: f12 :: .bel w0 :: l) w) : Below w0.heap.size w0 w := h.2.2.2.2.2.2.2.2.2.2.2.2.2.1
theorem Fx.b14 (h : Fx (f0 :: f1 :: f2 :: f3 :: f4 :: f5 :: f6 :: f7 :: f8 :: f9 :: f10 :: f11 :: f12 :: f13 :: .blk g t cs :: l) w) : Blk w g t cs := h.2.2.2.2.2.2.2.2.2.2.2.2.2.2.1
theorem Fx.i14 (h : Fx (f0 :: f1 :: f2 :: f3 :: f4 :: f5 :: f6 :: f7 :: f8 :: f9 :: f10 :: f11 :: f12 :: f13 :: .blk g t (intsA k zs) :: l) w) : BlkI w g t k zs := h.2.2.2.2.2.2.2.2.2.2.2.2.2.2.1
theorem Fx.r14 (h : Fx (f0 :: f1 :: f2 :: f3 :: f4 :: f5 :: f6 :: f7 :: f8 :: f9 :: f10 :: f11 :: f12 :: f13 :: .rdb k B A n zs :: l) w) : Rd k w w.heap.size A n zs := h.2.2.2.2.2.2.2.2.2.2.2.2.2.2.1.1.mono h.2.2.2.2.2.2.2.2.2.2.2.2.2.2.1.2
theorem Fx.q14 (h : Fx (f0 :: f1 :: f2 :: f3 :: f4 :: f5 :: f6 :: f7 :: f8 :: f9 :: f10 :: f11 :: f12 :: f13 :: .rdb k B A n zs :: l) w) : Rd k w B A n zs := h.2.2.2.2.2.2.2.2.2.2.2.2.2.2.1.1
theorem Fx.e14 (h : Fx (f0 :: f1 :: f2 :: f3 :: f4 :: f5 :: f6 :: f7 :: f8 :: f9 :: f10 :: f11 :: f12 :: f13 :: .bel w0 :: l) w) : Below w0.heap.size w0 w := h.2.2.2.2.2.2.2.2.2.2.2.2.2.2.1
theorem Fx.b15 (h : Fx (f0 :: f1 :: f2 :: f3 :: f4 :: f5 :: f6 :: f7 :: f8 :: f9 :: f10 :: f11 :: f12 :: f13 :: f14 :: .blk g t cs :: l) w) : Blk w g t cs := h.2.2.2.2.2.2.2.2.2.2.2.2.2.2.2.1
theorem Fx.i15 (h : Fx (f0 :: f1 :: f2 :: f3 :: f4 :: f5 :: f6 :: f7 :: f8 :: f9 :: f10 :: f11 :: f12 :: f13 :: f14 :: .blk g t (intsA k zs) :: l) w) : BlkI w g t k zs := h.2.2.2.2.2.2.2.2.2.2.2.2.2.2.2.1
theorem Fx.r15 (h : Fx (f0 :: f1 :: f2 :: f3 :: f4 :: f5 :: f6 :: f7 :: f8 :: f9 :: f10 :: f11 :: f12 :: f13 :: f14 :: .rdb k B A n zs :: l) w) : Rd k w w.heap.size A n zs := h.2.2.2.2.2.2.2.2.2.2.2.2.2.2.2.1.1.mono h.2.2.2.2.2.2.2.2.2.2.2.2.2.2.2.1.2
theorem Fx.q15 (h : Fx (f0 :: f1 :: f2 :: f3 :: f4 :: f5 :: f6 :: f7 :: f8 :: f9 :: f10 :: f11 :: f12 :: f13 :: f14 :: .rdb k B A n zs :: l) w) : Rd k w B A n zs := h.2.2.2.2.2.2.2.2.2.2.2.2.2.2.2.1.1
theorem Fx.e15 (h : Fx (f0 :: f1 :: f2 :: f3 :: f4 :: f5 :: f6 :: f7 :: f8 :: f9 :: f10 :: f11 :: f12 :: f13 :: f14 :: .bel w0 :: l) w) : Below w0.heap.size w0 w := h.2.2.2.2.2.2.2.2.2.2.2.2.2.2.2.1
end
end Go.Proofs.YtabfgkokilghcaaDoor
/-
  Streams in plain Lean: blocks, bits and bytes of a seed and a domain.
  Conditions: those that each theorem names.
-/
set_option maxRecDepth 100000
set_option linter.unusedVariables false
set_option linter.unusedSimpArgs false
namespace Go.Proofs.YtabfgkokilghcaaDoor
/-- What is hashed of a seed, a domain and a number. -/
def blkIn (s : List Int) (d i : Int) : List Int := s ++ put8L d ++ put8L i
def blkL (s : List Int) (d i : Int) : List Int := shaL (blkIn s d i)
theorem put8L_len (x : Int) : (put8L x).length = 8 := rfl
theorem blkIn_len (s : List Int) (d i : Int) (hs : s.length = 32) : (blkIn s d i).length = 48 := by
  unfold blkIn
  rw [List.length_append, List.length_append, put8L_len, put8L_len, hs]
theorem blkIn_in (s : List Int) (d i : Int) (hs : ∀ z ∈ s, 0 ≤ z ∧ z < 256) (d0 : 0 ≤ d) (d1 : d < 18446744073709551616) (i0 : 0 ≤ i) (i1 : i < 18446744073709551616) : ∀ z ∈ blkIn s d i, 0 ≤ z ∧ z < 256 := by
  intro z hz
  unfold blkIn at hz
  rcases List.mem_append.1 hz with h | h
  · rcases List.mem_append.1 h with h | h
    · exact hs z h
    · exact put8L_in d d0 d1 z h
  · exact put8L_in i i0 i1 z h
theorem blkL_len (s : List Int) (d i : Int) : (blkL s d i).length = 32 := shaL_len _
theorem blkL_in (s : List Int) (d i : Int) : ∀ z ∈ blkL s d i, 0 ≤ z ∧ z < 256 := shaL_in _
/-- The byte of the number j of a block. -/
def bytN (s : List Int) (d i : Int) (j : Nat) : Int := (blkL s d i).getD j 0
theorem bytN_in (s : List Int) (d i : Int) (j : Nat) : 0 ≤ bytN s d i j ∧ bytN s d i j < 256 := by
  unfold bytN
  rw [List.getD_eq_getElem?_getD]
  rcases h : (blkL s d i)[j]? with _ | z
  · simp
  · exact blkL_in s d i z (List.mem_of_getElem? h)
/-- The bit of the number n. -/
def bitN (s : List Int) (d n : Int) : Int := bytN s d (n / 256) (n % 256 / 8).toNat / 2 ^ (7 - n % 8).toNat % 2
theorem bitN_in (s : List Int) (d n : Int) : 0 ≤ bitN s d n ∧ bitN s d n < 2 := by unfold bitN; omega
/-- The first m blocks, one behind the other. -/
def blksL (s : List Int) (d : Int) (m : Nat) : List Int := ((List.range m).map fun i : Nat => blkL s d (i : Int)).flatten
theorem blksL_next (s : List Int) (d : Int) (m : Nat) : blksL s d (m + 1) = blksL s d m ++ blkL s d m := by
  unfold blksL
  rw [List.range_succ, List.map_append, List.flatten_append]
  simp
theorem blksL_len (s : List Int) (d : Int) (m : Nat) : (blksL s d m).length = 32 * m := by
  induction m with
  | zero => simp [blksL]
  | succ m ih => rw [blksL_next, List.length_append, ih, blkL_len]; omega
theorem blksL_in (s : List Int) (d : Int) (m : Nat) : ∀ z ∈ blksL s d m, 0 ≤ z ∧ z < 256 := by
  intro z hz
  unfold blksL at hz
  obtain ⟨l, hl, hz⟩ := List.mem_flatten.1 hz
  obtain ⟨i, _, rfl⟩ := List.mem_map.1 hl
  exact blkL_in _ _ _ z hz
theorem blksL_more (s : List Int) (d : Int) (m k : Nat) : (blksL s d (m + k)).take (32 * m) = blksL s d m := by
  induction k with
  | zero => rw [Nat.add_zero, List.take_of_length_le (by rw [blksL_len]; exact Nat.le_refl _)]
  | succ k ih =>
    rw [← Nat.add_assoc, blksL_next, List.take_append_of_le_length (by rw [blksL_len]; omega)]
    exact ih
/-- The first n bytes. -/
def bytL (s : List Int) (d : Int) (n : Nat) : List Int := (blksL s d ((n + 31) / 32)).take n
theorem bytL_len (s : List Int) (d : Int) (n : Nat) : (bytL s d n).length = n := by unfold bytL; rw [List.length_take, blksL_len]; omega
theorem bytL_in (s : List Int) (d : Int) (n : Nat) : ∀ z ∈ bytL s d n, 0 ≤ z ∧ z < 256 := fun z hz => blksL_in _ _ _ z (List.mem_of_mem_take hz)
theorem bytL_zero (s : List Int) (d : Int) : bytL s d 0 = [] := rfl
/-- The first bytes are those of any more blocks. -/
theorem bytL_of (s : List Int) (d : Int) (n m : Nat) (h : n ≤ 32 * m) : bytL s d n = (blksL s d m).take n := by
  have h1 : m = (n + 31) / 32 + (m - (n + 31) / 32) := by omega
  unfold bytL
  rw [h1, ← blksL_more s d ((n + 31) / 32) (m - (n + 31) / 32), List.take_take]
  congr 1
  omega
theorem getD_append_l (a b : List Int) (j : Nat) (h : j < a.length) : (a ++ b).getD j 0 = a.getD j 0 := by
  simp [List.getElem?_append_left h]
theorem getD_append_r (a b : List Int) (j : Nat) (h : a.length ≤ j) : (a ++ b).getD j 0 = b.getD (j - a.length) 0 := by
  simp [List.getElem?_append_right h]
theorem getD_take (a : List Int) (j n : Nat) (h : j < n) : (a.take n).getD j 0 = a.getD j 0 := by
  simp [List.getElem?_take, h]
theorem blksL_at (s : List Int) (d : Int) (m i j : Nat) (hi : i < m) (hj : j < 32) : (blksL s d m).getD (32 * i + j) 0 = bytN s d (i : Int) j := by
  induction m with
  | zero => omega
  | succ m ih =>
    rw [blksL_next]
    by_cases h : i < m
    · rw [getD_append_l _ _ _ (by rw [blksL_len]; omega)]
      exact ih h
    · obtain rfl : i = m := by omega
      rw [getD_append_r _ _ _ (by rw [blksL_len]; omega), blksL_len]
      unfold bytN
      congr 1
      omega
/-- A byte of the stream is that of its block. -/
theorem bytL_at (s : List Int) (d : Int) (n j : Nat) (h : j < n) : (bytL s d n).getD j 0 = bytN s d ((j / 32 : Nat) : Int) (j % 32) := by
  unfold bytL
  rw [getD_take _ _ _ h]
  have h1 := blksL_at s d ((n + 31) / 32) (j / 32) (j % 32) (by omega) (by omega)
  rw [show 32 * (j / 32) + j % 32 = j by omega] at h1
  exact h1
/-- One byte more. -/
theorem bytL_next (s : List Int) (d : Int) (i k : Nat) (hk : k < 32) : bytL s d (32 * i + k) ++ [bytN s d (i : Int) k] = bytL s d (32 * i + k + 1) := by
  have h1 := bytL_of s d (32 * i + k) (i + 1) (by omega)
  have h2 := bytL_of s d (32 * i + k + 1) (i + 1) (by omega)
  have h3 := blksL_at s d (i + 1) i k (by omega) hk
  rw [h1, h2, ← h3]
  exact take_snoc (blksL s d (i + 1)) (32 * i + k) (by rw [blksL_len]; omega)
end Go.Proofs.YtabfgkokilghcaaDoor
/-
  Sources in plain Lean: may they be, what is left, their bits, and what is taken.
  Conditions: those that each theorem names.
-/
set_option maxRecDepth 100000
set_option linter.unusedVariables false
set_option linter.unusedSimpArgs false
namespace Go.Proofs.YtabfgkokilghcaaDoor
structure Src where
  kind : Int
  tape : List Int
  bits : Int
  seed : List Int
  dom : Int
  at_ : Int
/-- Its fields lie in their types' ranges; the tape is not as long as no machine has. -/
structure Src.Ok (s : Src) : Prop where
  k0 : -9223372036854775808 ≤ s.kind
  k1 : s.kind < 9223372036854775808
  tl : s.tape.length ≤ 140737488355328
  ti : ∀ z ∈ s.tape, 0 ≤ z ∧ z < 256
  b0 : 0 ≤ s.bits
  b1 : s.bits < 18446744073709551616
  sl : s.seed.length = 32
  si : ∀ z ∈ s.seed, 0 ≤ z ∧ z < 256
  d0 : 0 ≤ s.dom
  d1 : s.dom < 18446744073709551616
  a0 : 0 ≤ s.at_
  a1 : s.at_ < 18446744073709551616
def rightS (s : Src) : Bool := if s.kind = 1 then decide (s.bits ≤ 8 * (s.tape.length : Int)) && decide (s.at_ ≤ s.bits) else decide (s.kind = 2) && decide (s.at_ ≤ 4611686018427387904)
def leftS (s : Src) : Int := if rightS s = true then (if s.kind = 1 then s.bits - s.at_ else 4611686018427387904 - s.at_) else 0
def bitS (s : Src) (n : Int) : Int := if s.kind = 2 then bitN s.seed s.dom n else s.tape.getD (n / 8).toNat 0 / 2 ^ (7 - n % 8).toNat % 2
/-- The number that the k bits from the n-th one on are, the first one the highest. -/
def numS (s : Src) (n : Int) : Nat → Int
  | 0 => 0
  | k + 1 => 2 * numS s n k + bitS s (n + k)
def takeE (s : Src) (k : Int) : Int := if rightS s = true ∧ 0 ≤ k ∧ k ≤ 64 then (if k ≤ leftS s then 0 else 8) else 1
def takeV (s : Src) (k : Int) : Int := if takeE s k = 0 then numS s s.at_ k.toNat else 0
def Src.to (s : Src) (n : Int) : Src := { s with at_ := n }
def takeS (s : Src) (k : Int) : Src := if takeE s k = 0 then s.to (s.at_ + k) else s
def sameS (a b : Src) : Bool := decide (a.kind = b.kind) && decide (a.tape = b.tape) && decide (a.bits = b.bits) && decide (a.seed = b.seed) && decide (a.dom = b.dom) && decide (a.at_ = b.at_)
def Src.zero : Src := ⟨0, [], 0, List.replicate 32 0, 0, 0⟩
theorem sameS_refl (a : Src) : sameS a a = true := by simp [sameS]
theorem bitS_in (s : Src) (n : Int) : 0 ≤ bitS s n ∧ bitS s n < 2 := by
  unfold bitS
  split
  · exact bitN_in _ _ _
  · omega
theorem numS_succ (s : Src) (n : Int) (k : Nat) : numS s n (k + 1) = 2 * numS s n k + bitS s (n + k) := rfl
theorem numS_in (s : Src) (n : Int) (k : Nat) : 0 ≤ numS s n k ∧ numS s n k < 2 ^ k := by
  induction k with
  | zero => exact ⟨Int.le_refl _, by simp [numS]⟩
  | succ k ih =>
    have h := bitS_in s (n + k)
    rw [numS_succ, Int.pow_succ]
    omega
/-- Of two pieces. -/
theorem numS_add (s : Src) (n : Int) (k m : Nat) : numS s n (k + m) = numS s n k * 2 ^ m + numS s (n + k) m := by
  induction m with
  | zero => simp [numS]
  | succ m ih =>
    rw [← Nat.add_assoc, numS_succ, numS_succ, ih, Int.pow_succ, show n + ((k + m : Nat) : Int) = n + (k : Int) + (m : Int) by omega, Int.mul_add]
    have : 2 * (numS s n k * 2 ^ m) = numS s n k * (2 ^ m * 2) := by rw [← Int.mul_assoc, Int.mul_comm 2, Int.mul_assoc, Int.mul_comm 2]
    rw [this]
    omega
theorem bitS_to (s : Src) (m n : Int) : bitS (s.to m) n = bitS s n := rfl
theorem numS_to (s : Src) (m n : Int) (k : Nat) : numS (s.to m) n k = numS s n k := by
  induction k with
  | zero => rfl
  | succ k ih =>
    rw [numS_succ, numS_succ, ih, bitS_to]
theorem rightS_end {s : Src} (h : rightS s = true) : s.at_ + leftS s < 18446744073709551616 ∧ 0 ≤ leftS s ∨ ¬ s.Ok := by
  by_cases ok : s.Ok
  · left
    unfold leftS
    rw [if_pos h]
    unfold rightS at h
    have := ok.b1
    split at h
    · rename_i hk
      rw [if_pos hk]
      simp at h
      omega
    · rename_i hk
      rw [if_neg hk]
      simp at h
      omega
  · exact .inr ok
theorem left_le {s : Src} (ok : s.Ok) : 0 ≤ leftS s ∧ leftS s < 18446744073709551616 := by
  unfold leftS
  have h1 := ok.b1
  have h2 := ok.a0
  split
  · rename_i h
    unfold rightS at h
    split at h
    · rename_i hk
      rw [if_pos hk]
      simp at h
      omega
    · rename_i hk
      rw [if_neg hk]
      simp at h
      omega
  · omega
/-- With At so many more: still right, and so many less are left. -/
theorem right_to {s : Src} (h : rightS s = true) (n : Int) (n0 : 0 ≤ n) (hn : n ≤ leftS s) : rightS (s.to (s.at_ + n)) = true ∧ leftS (s.to (s.at_ + n)) = leftS s - n := by
  have key : rightS (s.to (s.at_ + n)) = true := by
    unfold leftS at hn
    rw [if_pos h] at hn
    unfold rightS at h ⊢
    show (if s.kind = 1 then decide (s.bits ≤ 8 * (s.tape.length : Int)) && decide (s.at_ + n ≤ s.bits) else decide (s.kind = 2) && decide (s.at_ + n ≤ 4611686018427387904)) = true
    split at h
    · rename_i hk
      rw [if_pos hk] at hn ⊢
      simp at h ⊢
      omega
    · rename_i hk
      rw [if_neg hk] at hn ⊢
      simp at h ⊢
      omega
  refine ⟨key, ?_⟩
  unfold leftS
  rw [if_pos key, if_pos h]
  show (if s.kind = 1 then s.bits - (s.at_ + n) else 4611686018427387904 - (s.at_ + n)) = _
  split <;> omega
theorem takeE_ok {s : Src} {k : Int} : takeE s k = 0 ↔ rightS s = true ∧ 0 ≤ k ∧ k ≤ 64 ∧ k ≤ leftS s := by
  unfold takeE
  constructor
  · intro h
    split at h
    · rename_i h1
      split at h
      · rename_i h2
        exact ⟨h1.1, h1.2.1, h1.2.2, h2⟩
      · omega
    · omega
  · rintro ⟨h1, h2, h3, h4⟩
    rw [if_pos ⟨h1, h2, h3⟩, if_pos h4]
theorem takeV_in (s : Src) (k : Int) : 0 ≤ takeV s k ∧ takeV s k < 18446744073709551616 := by
  unfold takeV
  split
  · rename_i h
    have hk := takeE_ok.1 h
    have h1 := numS_in s s.at_ k.toNat
    have h2 : (2 : Int) ^ k.toNat ≤ 2 ^ 64 := by
      have : 2 ^ k.toNat ≤ 2 ^ 64 := Nat.pow_le_pow_right (by omega) (by omega)
      exact_mod_cast this
    omega
  · omega
theorem Src.Ok.to_ {s : Src} (ok : s.Ok) (n : Int) (n0 : 0 ≤ n) (n1 : n < 18446744073709551616) : (s.to n).Ok := ⟨ok.k0, ok.k1, ok.tl, ok.ti, ok.b0, ok.b1, ok.sl, ok.si, ok.d0, ok.d1, n0, n1⟩
theorem takeS_ok {s : Src} (ok : s.Ok) (k : Int) : (takeS s k).Ok := by
  unfold takeS
  split
  · rename_i h
    obtain ⟨h1, h2, h3, h4⟩ := takeE_ok.1 h
    have h5 := ok.a0
    rcases rightS_end h1 with h6 | h6
    · exact ok.to_ _ (by omega) (by omega)
    · exact absurd ok h6
  · exact ok
theorem Src.ok_zero : Src.zero.Ok := ⟨by decide, by decide, by decide, fun _ h => (by cases h), by decide, by decide, rfl, fun z h => by obtain ⟨_, rfl⟩ := List.mem_replicate.1 h; exact ⟨by omega, by omega⟩, by decide, by decide, by decide, by decide⟩
theorem takeS_tape (s : Src) (k : Int) : (takeS s k).tape = s.tape := by unfold takeS; split <;> rfl
end Go.Proofs.YtabfgkokilghcaaDoor
/-
  Sources as values and in memory: their cells, made, stored in part, handed back.
  Conditions: those that each theorem names.
-/
set_option maxRecDepth 100000
set_option linter.unusedVariables false
set_option linter.unusedSimpArgs false
namespace Go.Proofs.YtabfgkokilghcaaDoor
open Go.ChangeShapes Go.WideShapes Go.ChangeAt Go.RowKit
def srcV (s : Src) (A : Option Addr) (c : Nat) : Array Value := ([Value.int .i64 s.kind, .slice A s.tape.length c, .int .u64 s.bits] ++ (s.seed.map (Value.int .u8) ++ [Value.int .u64 s.dom, .int .u64 s.at_])).toArray
theorem srcV_size (s : Src) (hl : s.seed.length = 32) (A : Option Addr) (c : Nat) : (srcV s A c).size = 37 := by simp [srcV, hl]
theorem srcV_ones (s : Src) (A : Option Addr) (c : Nat) : (srcV s A c).all (·.oneCell') = true := all_oneCell_toArray (by
  intro u hu
  rcases List.mem_append.1 hu with h | h
  · simp only [List.mem_cons, List.not_mem_nil, or_false] at h
    rcases h with h | h | h <;> subst h <;> rfl
  · rcases List.mem_append.1 h with h | h
    · exact ints_one .u8 s.seed u h
    · simp only [List.mem_cons, List.not_mem_nil, or_false] at h
      rcases h with h | h <;> subst h <;> rfl)
theorem srcV_kind (s : Src) (A : Option Addr) (c : Nat) : (srcV s A c)[0]? = some (.int .i64 s.kind) := rfl
theorem srcV_tape (s : Src) (A : Option Addr) (c : Nat) : (srcV s A c)[1]? = some (.slice A s.tape.length c) := rfl
theorem srcV_bits (s : Src) (A : Option Addr) (c : Nat) : (srcV s A c)[2]? = some (.int .u64 s.bits) := rfl
theorem srcV_dom (s : Src) (hl : s.seed.length = 32) (A : Option Addr) (c : Nat) : (srcV s A c)[35]? = some (.int .u64 s.dom) := by
  unfold srcV
  rw [List.getElem?_toArray, List.getElem?_append_right (by simp), List.getElem?_append_right (by simp [hl])]
  simp [hl]
theorem srcV_at (s : Src) (hl : s.seed.length = 32) (A : Option Addr) (c : Nat) : (srcV s A c)[36]? = some (.int .u64 s.at_) := by
  unfold srcV
  rw [List.getElem?_toArray, List.getElem?_append_right (by simp), List.getElem?_append_right (by simp [hl])]
  simp [hl]
theorem srcV_seed {w : World} {g : Nat} {t : TypeId} {s : Src} {A : Option Addr} {c : Nat} (h : Blk w g t (srcV s A c)) : w.rangeAt g 3 (s.seed.map (Value.int .u8)) := by
  intro j v hv
  rw [h.cell]
  unfold srcV
  rw [List.getElem?_toArray, List.getElem?_append_right (by simp)]
  have hj : j < (s.seed.map (Value.int .u8)).length := by
    rcases Nat.lt_or_ge j (s.seed.map (Value.int .u8)).length with h1 | h1
    · exact h1
    · rw [List.getElem?_eq_none h1] at hv; cases hv
  rw [show 3 + j - [Value.int .i64 s.kind, .slice A s.tape.length c, .int .u64 s.bits].length = j by simp, List.getElem?_append_left hj]
  exact hv
theorem srcV_set (s : Src) (hl : s.seed.length = 32) (A : Option Addr) (c : Nat) (n : Int) : (srcV s A c).setIfInBounds 36 (.int .u64 n) = srcV (s.to n) A c := by
  unfold srcV Src.to
  rw [List.setIfInBounds_toArray]
  congr 1
  rw [List.set_append_right _ _ (by simp), List.set_append_right _ _ (by simp [hl])]
  simp [hl]
theorem size_src : (Tryd.prog.info? 27).map (·.size) = some 37 := by kernel_rfl
theorem zero_src : ∀ W, (zeroValue 27).run Tryd.prog W = .ok (.agg (srcV Src.zero none 0)) W := (zero_of_info (n := 37) (by kernel_rfl)).1
theorem sizedS (s : Src) (hl : s.seed.length = 32) (A : Option Addr) (c : Nat) : (Tryd.prog.info? 27).map (·.size) = some (srcV s A c).size := by rw [srcV_size s hl]; exact size_src
theorem srcV_same (a b : Src) (ha : a.seed.length = 32) (hb : b.seed.length = 32) (A B : Option Addr) (c d : Nat) : (srcV a A c).size = (srcV b B d).size := by rw [srcV_size a ha, srcV_size b hb]
theorem run_build_src0 (w : World) : (Instr.build 27 #[]).run Tryd.prog w = .ok (.agg #[.int .i64 0, .slice none 0 0, .int .u64 0, .int .u8 0, .int .u8 0, .int .u8 0, .int .u8 0, .int .u8 0, .int .u8 0, .int .u8 0, .int .u8 0, .int .u8 0, .int .u8 0, .int .u8 0, .int .u8 0, .int .u8 0, .int .u8 0, .int .u8 0, .int .u8 0, .int .u8 0, .int .u8 0, .int .u8 0, .int .u8 0, .int .u8 0, .int .u8 0, .int .u8 0, .int .u8 0, .int .u8 0, .int .u8 0, .int .u8 0, .int .u8 0, .int .u8 0, .int .u8 0, .int .u8 0, .int .u8 0, .int .u64 0, .int .u64 0]) w := by
  go_simp
theorem build_src0 {a : Act} {o : Oper} (w : World) (ho : o.op = .build 27 #[]) : (execOp a.eval o).run Tryd.prog w = .ok (.value (.agg (srcV Src.zero none 0))) w := by
  unfold execOp
  simp only [ho, List.map_toArray, List.map_nil]
  change ((Instr.build 27 #[]) >>= fun v => pure (Next.value v)).run Tryd.prog w = _
  simp only [Sem.run_bind, run_build_src0, Result.andThen_ok, Sem.run_pure]
  rfl
theorem run_build_src1 (A : Option Addr) (n c : Nat) (b : Int) (w : World) : (Instr.build 27 #[(0, .int .i64 1), (1, .slice A n c), (2, .int .u64 b)]).run Tryd.prog w = .ok (.agg #[.int .i64 1, .slice A n c, .int .u64 b, .int .u8 0, .int .u8 0, .int .u8 0, .int .u8 0, .int .u8 0, .int .u8 0, .int .u8 0, .int .u8 0, .int .u8 0, .int .u8 0, .int .u8 0, .int .u8 0, .int .u8 0, .int .u8 0, .int .u8 0, .int .u8 0, .int .u8 0, .int .u8 0, .int .u8 0, .int .u8 0, .int .u8 0, .int .u8 0, .int .u8 0, .int .u8 0, .int .u8 0, .int .u8 0, .int .u8 0, .int .u8 0, .int .u8 0, .int .u8 0, .int .u8 0, .int .u8 0, .int .u64 0, .int .u64 0]) w := by
  go_simp
def Src.tapeOf (zs : List Int) (b : Int) : Src := ⟨1, zs, b, List.replicate 32 0, 0, 0⟩
def Src.strm (s : List Int) (d : Int) : Src := ⟨2, [], 0, s, d, 0⟩
theorem build_src1 {a : Act} {o : Oper} {x y z : Operand} (w : World) (A : Option Addr) (c : Nat) (zs : List Int) (b : Int) (ho : o.op = .build 27 #[(0, x), (1, y), (2, z)]) (hx : a.eval x = .int .i64 1) (hy : a.eval y = .slice A zs.length c) (hz : a.eval z = .int .u64 b) :
    (execOp a.eval o).run Tryd.prog w = .ok (.value (.agg (srcV (Src.tapeOf zs b) A c))) w := by
  unfold execOp
  simp only [ho, List.map_toArray, List.map_cons, List.map_nil, hx, hy, hz]
  change ((Instr.build 27 #[(0, .int .i64 1), (1, .slice A zs.length c), (2, .int .u64 b)]) >>= fun v => pure (Next.value v)).run Tryd.prog w = _
  simp only [Sem.run_bind, run_build_src1, Result.andThen_ok, Sem.run_pure]
  rfl
theorem run_build_src2 (s0 s1 s2 s3 s4 s5 s6 s7 s8 s9 s10 s11 s12 s13 s14 s15 s16 s17 s18 s19 s20 s21 s22 s23 s24 s25 s26 s27 s28 s29 s30 s31 d : Int) (w : World) : (Instr.build 27 #[(0, .int .i64 2), (3, .agg #[.int .u8 s0, .int .u8 s1, .int .u8 s2, .int .u8 s3, .int .u8 s4, .int .u8 s5, .int .u8 s6, .int .u8 s7, .int .u8 s8, .int .u8 s9, .int .u8 s10, .int .u8 s11, .int .u8 s12, .int .u8 s13, .int .u8 s14, .int .u8 s15, .int .u8 s16, .int .u8 s17, .int .u8 s18, .int .u8 s19, .int .u8 s20, .int .u8 s21, .int .u8 s22, .int .u8 s23, .int .u8 s24, .int .u8 s25, .int .u8 s26, .int .u8 s27, .int .u8 s28, .int .u8 s29, .int .u8 s30, .int .u8 s31]), (4, .int .u64 d)]).run Tryd.prog w = .ok (.agg #[.int .i64 2, .slice none 0 0, .int .u64 0, .int .u8 s0, .int .u8 s1, .int .u8 s2, .int .u8 s3, .int .u8 s4, .int .u8 s5, .int .u8 s6, .int .u8 s7, .int .u8 s8, .int .u8 s9, .int .u8 s10, .int .u8 s11, .int .u8 s12, .int .u8 s13, .int .u8 s14, .int .u8 s15, .int .u8 s16, .int .u8 s17, .int .u8 s18, .int .u8 s19, .int .u8 s20, .int .u8 s21, .int .u8 s22, .int .u8 s23, .int .u8 s24, .int .u8 s25, .int .u8 s26, .int .u8 s27, .int .u8 s28, .int .u8 s29, .int .u8 s30, .int .u8 s31, .int .u64 d, .int .u64 0]) w := by
  go_simp
theorem list32 (s : List Int) (hl : s.length = 32) : s = [s.getD 0 0, s.getD 1 0, s.getD 2 0, s.getD 3 0, s.getD 4 0, s.getD 5 0, s.getD 6 0, s.getD 7 0, s.getD 8 0, s.getD 9 0, s.getD 10 0, s.getD 11 0, s.getD 12 0, s.getD 13 0, s.getD 14 0, s.getD 15 0, s.getD 16 0, s.getD 17 0, s.getD 18 0, s.getD 19 0, s.getD 20 0, s.getD 21 0, s.getD 22 0, s.getD 23 0, s.getD 24 0, s.getD 25 0, s.getD 26 0, s.getD 27 0, s.getD 28 0, s.getD 29 0, s.getD 30 0, s.getD 31 0] := by
  match s, hl with
  | [s0, s1, s2, s3, s4, s5, s6, s7, s8, s9, s10, s11, s12, s13, s14, s15, s16, s17, s18, s19, s20, s21, s22, s23, s24, s25, s26, s27, s28, s29, s30, s31], _ => rfl
theorem build_src2 {a : Act} {o : Oper} {x y z : Operand} (w : World) (s : List Int) (hl : s.length = 32) (d : Int) (ho : o.op = .build 27 #[(0, x), (3, y), (4, z)]) (hx : a.eval x = .int .i64 2) (hy : a.eval y = .agg (intsA .u8 s)) (hz : a.eval z = .int .u64 d) :
    (execOp a.eval o).run Tryd.prog w = .ok (.value (.agg (srcV (Src.strm s d) none 0))) w := by
  rw [list32 s hl] at hy ⊢
  have h := run_build_src2 (s.getD 0 0) (s.getD 1 0) (s.getD 2 0) (s.getD 3 0) (s.getD 4 0) (s.getD 5 0) (s.getD 6 0) (s.getD 7 0) (s.getD 8 0) (s.getD 9 0) (s.getD 10 0) (s.getD 11 0) (s.getD 12 0) (s.getD 13 0) (s.getD 14 0) (s.getD 15 0) (s.getD 16 0) (s.getD 17 0) (s.getD 18 0) (s.getD 19 0) (s.getD 20 0) (s.getD 21 0) (s.getD 22 0) (s.getD 23 0) (s.getD 24 0) (s.getD 25 0) (s.getD 26 0) (s.getD 27 0) (s.getD 28 0) (s.getD 29 0) (s.getD 30 0) (s.getD 31 0) d w
  unfold execOp
  simp only [ho, List.map_toArray, List.map_cons, List.map_nil, hx, hy, hz]
  change ((Instr.build 27 #[(0, .int .i64 2), (3, .agg #[.int .u8 (s.getD 0 0), .int .u8 (s.getD 1 0), .int .u8 (s.getD 2 0), .int .u8 (s.getD 3 0), .int .u8 (s.getD 4 0), .int .u8 (s.getD 5 0), .int .u8 (s.getD 6 0), .int .u8 (s.getD 7 0), .int .u8 (s.getD 8 0), .int .u8 (s.getD 9 0), .int .u8 (s.getD 10 0), .int .u8 (s.getD 11 0), .int .u8 (s.getD 12 0), .int .u8 (s.getD 13 0), .int .u8 (s.getD 14 0), .int .u8 (s.getD 15 0), .int .u8 (s.getD 16 0), .int .u8 (s.getD 17 0), .int .u8 (s.getD 18 0), .int .u8 (s.getD 19 0), .int .u8 (s.getD 20 0), .int .u8 (s.getD 21 0), .int .u8 (s.getD 22 0), .int .u8 (s.getD 23 0), .int .u8 (s.getD 24 0), .int .u8 (s.getD 25 0), .int .u8 (s.getD 26 0), .int .u8 (s.getD 27 0), .int .u8 (s.getD 28 0), .int .u8 (s.getD 29 0), .int .u8 (s.getD 30 0), .int .u8 (s.getD 31 0)]), (4, .int .u64 d)]) >>= fun v => pure (Next.value v)).run Tryd.prog w = _
  simp only [Sem.run_bind, h, Result.andThen_ok, Sem.run_pure]
  rfl
/-- A row of the call's own lies apart from a block of other things. -/
theorem OwnI.apart {w : World} {base g n c : Nat} {e t : TypeId} {k : IntKind} {A : Option Addr} {zs : List Int} {cs : Array Value} (h : OwnI w base e k (.slice A n c) zs) (hb : Blk w g t cs) (hne : e ≠ t) : ∀ b off, 0 < n → A = some ⟨b, off, none⟩ → b ≠ g := by
  intro b off hn hA
  rcases h.2 with ⟨h1, h2⟩ | ⟨g', cap, cur, h1, h2, h3, h4⟩
  · injection h1 with e1 e2 e3
    omega
  · injection h1 with e1 e2 e3
    rw [hA] at e1
    injection e1 with e1
    injection e1 with e1 e4
    subst e1
    rintro rfl
    unfold Blk at hb
    rw [h3] at hb
    injection hb with hb
    injection hb with _ h5
    exact hne h5
theorem size_u64s : (Tryd.prog.info? 23).map (·.size) = some 1 := by kernel_rfl
theorem pow2_le (n : Nat) (h : n ≤ 63) : (2 : Int) ^ n ≤ 9223372036854775808 := by
  have h1 : (2 : Int) ^ n ≤ 2 ^ 63 := by
    have h2 : 2 ^ n ≤ 2 ^ 63 := Nat.pow_le_pow_right (by omega) h
    exact_mod_cast h2
  omega
theorem right_div (x : Int) (q : Nat) (h : q ≤ 7) : Wd.right x (q : Int) = x / 2 ^ q := by
  unfold Wd.right
  rcases Nat.eq_zero_or_pos q with h0 | h0
  · subst h0
    simp
  · rw [if_neg (by omega), if_neg (by omega), Int.toNat_natCast]
/-- What was handed back has its tape where it was, or in memory of its own. -/
def Sep (w : World) (A A' : Option Addr) : Prop := A' = A ∨ ∀ b off, A' = some ⟨b, off, none⟩ → w.heap.size ≤ b
def RetTake (w : World) (s : Src) (k : Int) (A : Option Addr) (e : Ending) (w' : World) : Prop :=
  ∃ A' c', e = .returned (.tuple #[.int .u64 (takeV s k), .agg (srcV (takeS s k) A' c'), .int .i64 (takeE s k)]) ∧ Rd .u8 w' w'.heap.size A' s.tape.length s.tape ∧ s.tape.length ≤ c' ∧ c' ≤ maxLen ∧ Sep w A A' ∧ Below w.heap.size w w'
def RetStrm (w : World) (s : List Int) (d : Int) (e : Ending) (w' : World) : Prop := ∃ A' c', e = .returned (.agg (srcV (Src.strm s d) A' c')) ∧ c' ≤ maxLen ∧ Below w.heap.size w w'
def RetTape (w : World) (zs : List Int) (b : Int) (e : Ending) (w' : World) : Prop :=
  if b ≤ 8 * (zs.length : Int) then ∃ A' c', e = .returned (.tuple #[.agg (srcV (Src.tapeOf zs b) A' c'), .int .i64 0]) ∧ Rd .u8 w' w'.heap.size A' zs.length zs ∧ zs.length ≤ c' ∧ c' ≤ maxLen ∧ Below w.heap.size w w'
  else e = .returned (.tuple #[.agg (srcV Src.zero none 0), .int .i64 1]) ∧ Below w.heap.size w w'
/-- Two blocks of sources of the call's own, the second one newer. -/
def Src2 (w : World) (g2 g5 : Nat) (V Z : Array Value) : World → Prop := Fx [.blk g5 27 Z, .blk g2 27 V, .bel w]
section
variable {w w1 w2 : World} {g2 g5 : Nat} {V Z X : Array Value}
theorem Src2.below (h : Src2 w g2 g5 V Z w1) (hb : Below w1.heap.size w1 w2) : Src2 w g2 g5 V Z w2 := Fx.below h hb
theorem Src2.drew (h : Src2 w g2 g5 V Z w1) : Src2 w g2 g5 V Z w1.drew := Fx.drew h
theorem Src2.snd (h : Src2 w g2 g5 V Z w1) : Blk w1 g5 27 Z := h.1
theorem Src2.fst (h : Src2 w g2 g5 V Z w1) : Blk w1 g2 27 V := h.2.1
theorem Src2.bel (h : Src2 w g2 g5 V Z w1) : Below w.heap.size w w1 := h.2.2.1
theorem Src2.keep (h : Src2 w g2 g5 V Z w1) : Fx [.blk g2 27 V, .bel w] w1 := h.2
theorem Src2.old (h : Src2 w g2 g5 V Z w1) : Fx [.blk g5 27 Z] w1 := ⟨h.1, trivial⟩
theorem Src2.mk (h : Fx [.blk g2 27 V, .bel w] w1) (h2 : Blk w1 g5 27 Z) : Src2 w g2 g5 V Z w1 := ⟨h2, h⟩
/-- The first one is written in part. -/
theorem Src2.only (h : Src2 w g2 g5 V Z w1) (h0 : w.heap.size ≤ g2) (h1 : g2 < g5) (hk : Blk w2 g2 27 X) (ho : Only g2 w1 w2) : Src2 w g2 g5 X Z w2 :=
  ⟨Blk.only h.1 ho (Nat.ne_of_gt h1), hk, Below.trans h.bel (ho.below h0 h.bel.size), trivial⟩
end
section
variable {P : Program} {w : World} {ops : Array Oper} {rest : List Oper} {o : Oper} {a : Act} {Q : Exit → Act → World → Prop}
/-- A row is loaded behind a guard that holds. -/
theorem wpList_load_gdb (hw : Region.wanted o (yielded ops a.tmps) = true) (ty : TypeId) (x : Operand) (ho : o.op = .load ty x) (g : Nat) (hx : a.eval x = .pointer (some ⟨g, 0, none⟩)) (t : TypeId) (cs : Array Value) (hb : Blk w g t cs)
    (d : TypeDesc) (hu : P.underlying ty = some d) (hd : d.isRow = true) (hi : (P.info? ty).map (·.size) = some cs.size)
    (h : wpList P ops Q rest (a.put o.dst (.agg cs)) w) : wpList P ops Q (o :: rest) a w :=
  wpList_step fun K hK => by
    rw [if_pos hw]
    exact wp_load_mid ty x ho g 0 hx cs.toList d hb.range hu hd (by rw [Array.length_toList]; exact hi) (hK _ _ h)
/-- The same of integers that lie within a row. -/
theorem wpList_load_gdo (hw : Region.wanted o (yielded ops a.tmps) = true) (ty : TypeId) (x : Operand) (ho : o.op = .load ty x) (g off : Nat) (hx : a.eval x = .pointer (some ⟨g, off, none⟩)) (k : IntKind) (zs : List Int) (hb : w.rangeAt g off (zs.map (Value.int k)))
    (d : TypeDesc) (hu : P.underlying ty = some d) (hd : d.isRow = true) (hi : (P.info? ty).map (·.size) = some zs.length)
    (h : wpList P ops Q rest (a.put o.dst (.agg (intsA k zs))) w) : wpList P ops Q (o :: rest) a w :=
  wpList_step fun K hK => by
    rw [if_pos hw]
    exact wp_load_mid ty x ho g off hx (zs.map (Value.int k)) d hb hu hd (by rw [List.length_map]; exact hi) (hK _ _ h)
/-- A row out of memory, between two values. -/
theorem bodyPost_mid {fn : Func} {R : Ending → World → Prop} (p0 p p1 : Tmp) (ty : TypeId) (h : fn.results = #[.tmp p0, .cell p ty, .tmp p1]) (g : Nat) (ht : a.tmps.getD p undef = .pointer (some ⟨g, 0, none⟩)) (v0 v1 : Value) (h0 : a.tmps.getD p0 undef = v0) (h1 : a.tmps.getD p1 undef = v1) (t : TypeId) (cs : Array Value) (hb : Blk w g t cs)
    (d : TypeDesc) (hu : P.underlying ty = some d) (hd : d.isRow = true) (hi : (P.info? ty).map (·.size) = some cs.size) (hdf : a.defers = []) (hR : R (.returned (.tuple #[v0, .agg cs, v1])) w) : bodyPost P fn R .ret a w := by
  refine bodyPost_ret (v := .tuple #[v0, .agg cs, v1]) ?_ hdf hR
  have hl := run_loadVar_mid (P := P) w g 0 ty cs.toList d hb.range hu hd (by rw [Array.length_toList]; exact hi)
  have ht' : a.tmps[p]?.getD undef = .pointer (some ⟨g, 0, none⟩) := by rw [← ht, Array.getD_eq_getD_getElem?]
  have h0' : a.tmps[p0]?.getD undef = v0 := by rw [← h0, Array.getD_eq_getD_getElem?]
  have h1' : a.tmps[p1]?.getD undef = v1 := by rw [← h1, Array.getD_eq_getD_getElem?]
  simp only [results, h]
  simp [ht', h0', h1', asAddr, hl]
end
end Go.Proofs.YtabfgkokilghcaaDoor
/-
  == of two hashes by value; small matters that laws share.
  Conditions: those that each theorem names.
-/
set_option maxRecDepth 100000
set_option linter.unusedVariables false
set_option linter.unusedSimpArgs false
namespace Go.Proofs.YtabfgkokilghcaaDoor
open Go.ChangeShapes Go.WideShapes Go.ChangeAt Go.RowKit
theorem Rd.to {k : IntKind} {w w' : World} {n : Nat} {A : Option Addr} {zs : List Int} (h : Rd k w w.heap.size A n zs) (hb : Below w.heap.size w w') : Rd k w' w'.heap.size A n zs := (h.below hb).mono hb.size
theorem eq_hash (zs ys : List Int) (hz : zs.length = 32) (hy : ys.length = 32) (w : World) : (Op.equalIn 10000 25 (.agg (intsA .u8 zs)) (.agg (intsA .u8 ys))).run Tryd.prog w = .ok (decide (zs = ys)) w := by
  obtain ⟨i0, hi, _, hs, _⟩ := info_parts info_u8'
  exact run_equal_ints Tryd.underlying25 Tryd.underlying5 hi hs (by kernel_rfl) zs ys hz hy w
theorem same_hash (zs : List Int) (hz : zs.length = 32) (w : World) : (Op.equalIn 10000 25 (.agg (intsA .u8 zs)) (.agg (intsA .u8 zs))).run Tryd.prog w = .ok true w := by
  have := eq_hash zs zs hz hz w
  rwa [decide_eq_true rfl] at this
theorem u8b {l : List Int} (h : ∀ z ∈ l, (Lit.int .u8 z).wf = true) : ∀ z ∈ l, 0 ≤ z ∧ z < 256 := fun z hz => by have := bounds_u8 (h z hz); omega
end Go.Proofs.YtabfgkokilghcaaDoor
/-
  What the program's stream.Domain and Split return, and the reference's Domain and pow; they leave memory as it was.
  Conditions: the arguments lie in their types' ranges.
-/
set_option maxRecDepth 100000
set_option linter.unusedSimpArgs false
namespace Go.Proofs.YtabfgkokilghcaaDoor
open Go.ChangeShapes Go.WideShapes Go.ChangeAt Go.RowKit
set_option linter.unusedVariables false
theorem dom_or (k i : Int) (k0 : 0 ≤ k) (k1 : k < 4294967296) (i0 : 0 ≤ i) (i1 : i < 4294967296) : bits .or .u64 (k * 4294967296) i = k * 4294967296 + i := Wd.u64_or_add k i 32 k0 i0 (by omega) (by omega)
theorem pow2_lt (n : Nat) (h : n ≤ 63) : (2 : Int) ^ n < 18446744073709551616 := by
  have h1 : (2 : Int) ^ n ≤ 2 ^ 63 := by
    have h2 : 2 ^ n ≤ 2 ^ 63 := Nat.pow_le_pow_right (by omega) h
    exact_mod_cast h2
  omega
theorem pow2_next (n : Nat) : (2 : Int) * 2 ^ n = 2 ^ (n + 1) := by rw [Int.pow_succ]; omega
theorem rpow_c (n : Nat) (hn : n ≤ 63) (w : World) :
    Calls Tryd.prog 30 #[.int .u64 n] w fun e w' => e = .returned (.int .u64 (2 ^ n)) ∧ w' = w := by
  go_enter Tryd.func30, Tryd.ntmps30
  go_wp2
  go_loop [3, 4] (fun p v => ∃ i : Nat, i ≤ n ∧ p = .int .u64 (2 ^ i) ∧ v = .int .u64 i) (fun _ v => n - (intOf v).toNat)
  case atStart => exact ⟨0, by omega, rfl, rfl⟩
  case round =>
    obtain ⟨i, hi, rfl, rfl⟩ := hrel
    by_cases hlt : i < n
    · have p0 := Wd.pow_pos2 i
      have p1 := pow2_lt (i + 1) (by omega)
      have e := pow2_next i
      rw [← e] at p1
      have HE := Lib.hid e
      clear e
      obtain ⟨p, hp⟩ : ∃ p : Int, 2 ^ i = p := ⟨_, rfl⟩
      rw [hp] at p0 p1 HE ⊢
      go_wp2
      go_round
      case rel => exact ⟨i + 1, by omega, by rw [← HE.out], by go_num⟩
      case measure => simp [intOf]; omega
    · obtain rfl : i = n := by omega
      go_wp2
      go_ret
      exact ⟨rfl, rfl⟩
end Go.Proofs.YtabfgkokilghcaaDoor
/-
  What the reference's functions of stage 6 return (drawlotref06: Block, Bit, Bytes), and that they leave memory as it was.
  Conditions: the arguments lie in their types' ranges.
-/
set_option maxRecDepth 100000
set_option linter.unusedSimpArgs false
namespace Go.Proofs.YtabfgkokilghcaaDoor
open Go.ChangeShapes Go.WideShapes Go.ChangeAt Go.RowKit
set_option linter.unusedVariables false
theorem rput64s_c (x : Int) (h0 : 0 ≤ x) (h1 : x < 18446744073709551616) (w : World) : Calls Tryd.prog 32 #[.int .u64 x] w fun e w' => e = .returned (.agg (intsA .u8 (put8L x))) ∧ Below w.heap.size w w' :=
  (rput64_c x h0 h1 w).mono fun _ _ ⟨h, h2, _⟩ => ⟨h, h2⟩
set_option maxHeartbeats 4000000 in
theorem rblock_c (s : List Int) (d i : Int) (hl : s.length = 32) (hs : ∀ z ∈ s, 0 ≤ z ∧ z < 256) (d0 : 0 ≤ d) (d1 : d < 18446744073709551616) (i0 : 0 ≤ i) (i1 : i < 18446744073709551616) (w : World) :
    Calls Tryd.prog 29 #[.agg (intsA .u8 s), .int .u64 d, .int .u64 i] w fun e w' => e = .returned (.agg (intsA .u8 (blkL s d i))) ∧ Below w.heap.size w w' := by
  obtain ⟨ti, hti, hz0, hz1, hzb⟩ := info_parts info_u8'
  have HPD := Lib.hid (fun W => rput64s_c d d0 d1 W)
  have HPI := Lib.hid (fun W => rput64s_c i i0 i1 W)
  have hin := blkIn_in s d i hs d0 d1 i0 i1
  have hil := blkIn_len s d i hl
  have hxl : (put8L d).length = 8 := rfl
  have hyl : (put8L i).length = 8 := rfl
  have hrl := blkL_len s d i
  have hre : blkL s d i = shaL (blkIn s d i) := rfl
  have hie : blkIn s d i = s ++ put8L d ++ put8L i := rfl
  obtain ⟨X, hX⟩ : ∃ X, put8L d = X := ⟨_, rfl⟩
  obtain ⟨Y, hY⟩ : ∃ Y, put8L i = Y := ⟨_, rfl⟩
  obtain ⟨I, hI⟩ : ∃ I, blkIn s d i = I := ⟨_, rfl⟩
  obtain ⟨R, hR⟩ : ∃ R, blkL s d i = R := ⟨_, rfl⟩
  rw [hX] at HPD hxl hie
  rw [hY] at HPI hyl hie
  rw [hI] at hin hil hre hie
  rw [hR] at hrl hre ⊢
  have HS := Lib.hid (fun A c W h h' => rsum_c A c 48 I W h h' (by omega) hin)
  rw [← hre] at HS
  obtain ⟨Z, hZ⟩ : ∃ Z : List Int, List.replicate 32 0 = Z := ⟨_, rfl⟩
  obtain ⟨V, hV⟩ : ∃ V : List Int, List.replicate 8 0 = V := ⟨_, rfl⟩
  have HZ0 := Lib.hid zero_hash
  have HV0 := Lib.hid zero_b8s
  rw [hZ] at HZ0
  rw [hV] at HV0
  have hZl : Z.length = 32 := by rw [← hZ]; simp
  have hVl : V.length = 8 := by rw [← hV]; simp
  have SR := Lib.hid (show (Tryd.prog.info? 25).map (·.size) = some R.length by rw [hrl]; exact size_hash)
  have ZR := Lib.hid (show Z.length = R.length by rw [hrl, hZl])
  have SX := Lib.hid (show (Tryd.prog.info? 58).map (·.size) = some X.length by rw [hxl]; exact size_b8s)
  have SY := Lib.hid (show (Tryd.prog.info? 58).map (·.size) = some Y.length by rw [hyl]; exact size_b8s)
  have VX := Lib.hid (show V.length = X.length by rw [hxl, hVl])
  have VY := Lib.hid (show V.length = Y.length by rw [hyl, hVl])
  have HSL := Lib.hid hl
  have HXL := Lib.hid hxl
  have HYL := Lib.hid hyl
  have HIL := Lib.hid hil
  have HIE := Lib.hid hie
  have HSN := Lib.hid (fun (l : List Int) (j : Nat) (h : j < l.length) => take_snoc l j h)
  clear hin hil hxl hyl hrl hre hie hX hY hI hR hZ hV hZl hVl hl hs
  go_enter Tryd.func29, Tryd.ntmps29
  go_wp2_with (first
    | (with_reducible refine at_any ?_; refine at_dst 3 rfl ?_; refine wpList_box_ints rfl 25 (.tmp 0) rfl .u8 s rfl ?_; intro w1 hk1 hs1 hb1; have F1 := Lib.hid (Fx.box hk1.out hb1); clear hk1 hs1 hb1)
    | (with_reducible refine at_any ?_; refine at_dst 6 rfl ?_; refine wpList_alloc_ints rfl 25 rfl .u8 Z HZ0.out ?_; intro w2 hk2 hs2 hb2; have U1 := Lib.hid (Fx.under_new F1.out rfl); have F2 := Lib.hid (Fx.new F1.out hk2.out hb2); clear hk2 hs2 F1 hb2))
  have h3lt : w.heap.size < w1.heap.size := U1.out.1
  obtain ⟨g6, hg6⟩ : ∃ g, w1.heap.size = g := ⟨_, rfl⟩
  obtain ⟨g3, hg3⟩ : ∃ g, w.heap.size = g := ⟨_, rfl⟩
  have h0 : w.heap.size ≤ g3 := by omega
  rw [hg6, hg3] at F2 h3lt
  rw [hg6, hg3]
  clear hg6 hg3 U1
  go_loopw [7, 8] (fun v c wr => ∃ j : Nat, j ≤ 32 ∧ c = .int .i64 j ∧ OwnI wr w.heap.size 5 .u8 v (s.take j) ∧ Fx [.blk g6 25 (intsA .u8 Z), .blk g3 25 (intsA .u8 s), .bel w] wr) (fun _ c _ => 32 - (intOf c).toNat)
  case atStart => exact ⟨0, by omega, rfl, own_nil _ _ _, F2.out⟩
  case round =>
    clear F2
    obtain ⟨j, hj, rfl, hown, hF⟩ := hrel
    have hlen : (s.take j).length = j := by rw [List.length_take, HSL.out]; omega
    by_cases hlt : j < 32
    · have hsn := HSN.out s j (by rw [HSL.out]; exact hlt)
      have hc : wr.cell? ⟨g3, j, none⟩ = some (.int .u8 (s.getD j 0)) := (Fx.fst hF.2).cell (by rw [HSL.out]; exact hlt)
      obtain ⟨b, hb⟩ : ∃ b, s.getD j 0 = b := ⟨_, rfl⟩
      rw [hb] at hsn hc
      have HLN := Lib.hid hlen
      have HSNj := Lib.hid hsn
      have HOW := Lib.hid hown
      have HF := Lib.hid hF
      clear hb hsn hown hF hlen
      go_wp2_with (at_builtin; refine wpList_append_ints _ rfl (.tmp 17) (.tmp 21) 22 rfl w.heap.size 5 ti _ 1 .u8 Tryd.underlying22 hti hz0 hz1 hzb rfl _ (s.take j) rfl (HOW.out.alloc _) (wr.heap.size + 1) (some ⟨wr.heap.size, 0, none⟩) 1 1 [b] rfl (rd_one wr 5 .u8 b) (by rw [HLN.out]; simp [maxLen]; omega) (by rw [HLN.out]; omega) (by have := Below.size (Fx.bel3 HF.out); simp; omega) ?_; intro v6 w6 hown6 hg6 hat6; have F6 := Lib.hid (Fx.grown (Fx.alloc HF.out _) (HOW.out.alloc _) (Fx.free3 (by decide) (by decide)) (by have := Below.size (Fx.bel3 HF.out); simp; omega) hg6); rw [HSNj.out] at hown6; have O6 := Lib.hid hown6; clear hg6 hat6 hown6)
      go_roundw
      case rel => exact ⟨j + 1, by omega, by go_num, O6.out, F6.out⟩
      case measure => simp [intOf]; omega
    · obtain rfl : j = 32 := by omega
      rw [List.take_of_length_le (by rw [HSL.out]; exact Nat.le_refl _)] at hown
      have HOW := Lib.hid hown
      have HF := Lib.hid hF
      clear hown hF hlen
      go_wp2_with (first
        | (go_at_call 32; (with_reducible refine (HPD.out _).mono ?_); rintro e w3 ⟨rfl, hb3⟩; have F3 := Lib.hid (HF.out.below hb3); have O3 := Lib.hid (HOW.out.below hb3); clear HF HOW hb3)
        | (go_at_call 32; (with_reducible refine (HPI.out _).mono ?_); rintro e w4 ⟨rfl, hb4⟩; have F4 := Lib.hid (F3.out.below hb4); have O4 := Lib.hid (O3.out.below hb4); clear F3 O3 hb4)
        | (with_reducible refine at_any ?_; refine at_dst 9 rfl ?_; refine wpList_alloc_ints rfl 58 rfl .u8 V HV0.out ?_; intro w5 hk5 hs5 hb5; have U4 := Lib.hid (Fx.under_new F4.out rfl); have F5 := Lib.hid (Fx.new F4.out hk5.out hb5); have B5 := Lib.hid hb5; clear hk5 hs5 F4 hb5)
        | (with_reducible refine at_any ?_; refine at_dst 10 rfl ?_; refine wpList_alloc_ints rfl 58 rfl .u8 V HV0.out ?_; intro w6 hk6 hs6 hb6; have U5 := Lib.hid (Fx.under_new F5.out rfl); have F6 := Lib.hid (Fx.new F5.out hk6.out hb6); have B6 := Lib.hid (B5.out.trans (hb6.mono B5.out.size)); clear hk6 hs6 F5 hb6)
        | (with_reducible refine at_any ?_; refine at_store 9 rfl ?_; refine wpList_store_ints rfl 58 (.tmp 9) (.tmp 24) rfl w4.heap.size rfl 58 .u8 V X (Fx.snd F6.out) rfl VX.out SX.out ?_; intro w7 hk7 hs7 hb7 ho7; have F7 := Lib.hid (Fx.put2 F6.out U5.out U4.out hk7.out hs7.out hb7 ho7); have U7 := Lib.hid (Fx.under_put U5.out (intsA .u8 X)); have B7 := Lib.hid (B6.out.trans (hb7 _ (Nat.le_refl _))); clear hk7 hs7 hb7 ho7 F6 U5)
        | (with_reducible refine at_any ?_; refine at_store 10 rfl ?_; refine wpList_store_ints rfl 58 (.tmp 10) (.tmp 26) rfl w5.heap.size rfl 58 .u8 V Y (Fx.fst F7.out) rfl VY.out SY.out ?_; intro w8 hk8 hs8 hb8 ho8; have F8 := Lib.hid (Fx.put1 F7.out U7.out hk8.out hs8.out hb8 ho8); have O8 := Lib.hid (O4.out.below (B7.out.trans (hb8 _ B5.out.size))); clear hk8 hs8 hb8 ho8 F7))
      have hB : Blk4 w w5.heap.size w4.heap.size g6 g3 Y X Z s w8 := F8.out
      have h7 : w4.heap.size < w5.heap.size := U7.out.1
      have h6 : g6 < w4.heap.size := U4.out.1
      have HO := Lib.hid O8.out
      clear F8 U7 U4 O8 O4 B5 B6 B7
      obtain ⟨g10, hg10⟩ : ∃ g, w5.heap.size = g := ⟨_, rfl⟩
      obtain ⟨g9, hg9⟩ : ∃ g, w4.heap.size = g := ⟨_, rfl⟩
      rw [hg10, hg9] at hB
      rw [hg10, hg9] at h7
      rw [hg9] at h6
      rw [hg10, hg9]
      have HB := Lib.hid hB
      clear hg10 hg9 hB
      go_loopw [7, 11] (fun v c wr => ∃ j : Nat, j ≤ 8 ∧ c = .int .i64 j ∧ OwnI wr w.heap.size 5 .u8 v (s ++ X.take j) ∧ Blk4 w g10 g9 g6 g3 Y X Z s wr) (fun _ c _ => 8 - (intOf c).toNat)
      case atStart => exact ⟨0, by omega, rfl, by rw [List.take_zero, List.append_nil]; exact HO.out, HB.out⟩
      case round =>
        clear HO HB
        obtain ⟨j, hj, rfl, hown, hF⟩ := hrel
        have hlen : (s ++ X.take j).length = 32 + j := by rw [List.length_append, List.length_take, HXL.out]; rw [HSL.out]; omega
        by_cases hlt : j < 8
        · have hsn : s ++ X.take j ++ [X.getD j 0] = s ++ X.take (j + 1) := by rw [List.append_assoc, HSN.out X j (by rw [HXL.out]; exact hlt)]
          have hc : wr.cell? ⟨g9, j, none⟩ = some (.int .u8 (X.getD j 0)) := hF.c7.cell (by rw [HXL.out]; exact hlt)
          obtain ⟨b, hb⟩ : ∃ b, X.getD j 0 = b := ⟨_, rfl⟩
          rw [hb] at hsn hc
          have HLN := Lib.hid hlen
          have HSNj := Lib.hid hsn
          have HOW := Lib.hid hown
          have HF := Lib.hid hF
          clear hb hsn hown hF hlen
          go_wp2_with (at_builtin; refine wpList_append_ints _ rfl (.tmp 31) (.tmp 35) 22 rfl w.heap.size 5 ti _ 1 .u8 Tryd.underlying22 hti hz0 hz1 hzb rfl _ (s ++ X.take j) rfl (HOW.out.alloc _) (wr.heap.size + 1) (some ⟨wr.heap.size, 0, none⟩) 1 1 [b] rfl (rd_one wr 5 .u8 b) (by rw [HLN.out]; simp [maxLen]; omega) (by rw [HLN.out]; omega) (by have := Below.size HF.out.bel; simp; omega) ?_; intro v6 w6 hown6 hg6 hat6; have F6 := Lib.hid (Blk4.grown (HF.out.alloc _) (HOW.out.alloc _) (by have := Below.size HF.out.bel; simp; omega) hg6); rw [HSNj.out] at hown6; have O6 := Lib.hid hown6; clear hg6 hat6 hown6)
          go_roundw
          case rel => exact ⟨j + 1, by omega, by go_num, O6.out, F6.out⟩
          case measure => simp [intOf]; omega
        · obtain rfl : j = 8 := by omega
          rw [List.take_of_length_le (by rw [HXL.out]; exact Nat.le_refl _)] at hown
          have HB := Lib.hid hF
          have HO := Lib.hid hown
          clear hown hF hlen
          rw [show ((8 : Nat) : Int) = 8 from rfl]
          go_wp2
          go_loopw [7, 12] (fun v c wr => ∃ j : Nat, j ≤ 8 ∧ c = .int .i64 j ∧ OwnI wr w.heap.size 5 .u8 v ((s ++ X) ++ Y.take j) ∧ Blk4 w g10 g9 g6 g3 Y X Z s wr) (fun _ c _ => 8 - (intOf c).toNat)
          case atStart => exact ⟨0, by omega, rfl, by rw [List.take_zero, List.append_nil]; exact HO.out, HB.out⟩
          case round =>
            clear HO HB
            obtain ⟨j, hj, rfl, hown, hF⟩ := hrel
            have hlen : ((s ++ X) ++ Y.take j).length = 40 + j := by rw [List.length_append, List.length_take, HYL.out]; rw [List.length_append, HSL.out, HXL.out]; omega
            by_cases hlt : j < 8
            · have hsn : (s ++ X) ++ Y.take j ++ [Y.getD j 0] = (s ++ X) ++ Y.take (j + 1) := by rw [List.append_assoc, HSN.out Y j (by rw [HYL.out]; exact hlt)]
              have hc : wr.cell? ⟨g10, j, none⟩ = some (.int .u8 (Y.getD j 0)) := hF.c8.cell (by rw [HYL.out]; exact hlt)
              obtain ⟨b, hb⟩ : ∃ b, Y.getD j 0 = b := ⟨_, rfl⟩
              rw [hb] at hsn hc
              have HLN := Lib.hid hlen
              have HSNj := Lib.hid hsn
              have HOW := Lib.hid hown
              have HF := Lib.hid hF
              clear hb hsn hown hF hlen
              go_wp2_with (at_builtin; refine wpList_append_ints _ rfl (.tmp 41) (.tmp 45) 22 rfl w.heap.size 5 ti _ 1 .u8 Tryd.underlying22 hti hz0 hz1 hzb rfl _ ((s ++ X) ++ Y.take j) rfl (HOW.out.alloc _) (wr.heap.size + 1) (some ⟨wr.heap.size, 0, none⟩) 1 1 [b] rfl (rd_one wr 5 .u8 b) (by rw [HLN.out]; simp [maxLen]; omega) (by rw [HLN.out]; omega) (by have := Below.size HF.out.bel; simp; omega) ?_; intro v6 w6 hown6 hg6 hat6; have F6 := Lib.hid (Blk4.grown (HF.out.alloc _) (HOW.out.alloc _) (by have := Below.size HF.out.bel; simp; omega) hg6); rw [HSNj.out] at hown6; have O6 := Lib.hid hown6; clear hg6 hat6 hown6)
              go_roundw
              case rel => exact ⟨j + 1, by omega, by go_num, O6.out, F6.out⟩
              case measure => simp [intOf]; omega
            · obtain rfl : j = 8 := by omega
              rw [List.take_of_length_le (by rw [HYL.out]; exact Nat.le_refl _)] at hown
              obtain ⟨A7, c7, rfl, hc7, _⟩ := hown.form
              rw [← HIE.out, HIL.out] at hc7
              rw [← HIE.out] at hown
              rw [← HIE.out, HIL.out]
              have HB := Lib.hid hF
              have hr7 := hown.rd rfl
              rw [HIL.out] at hr7
              have HR7 := Lib.hid hr7
              have HC7 := Lib.hid hc7
              clear hown hF hlen hc7 hr7
              go_wp2_with (first
                | (go_at_call 33; (with_reducible refine (HS.out A7 c7 _ HR7.out HC7.out).mono ?_); rintro e w9 ⟨rfl, hb9⟩; have HB9 := Lib.hid (HB.out.below hb9); clear hb9)
                | (with_reducible refine at_any ?_; refine at_store 6 rfl ?_; refine wpList_store_ints rfl 25 (.tmp 6) (.tmp 48) rfl g6 rfl 25 .u8 Z R HB9.out.c6 rfl ZR.out SR.out ?_; intro w11 hk11 hs11 hb11 ho11; have HB11 := Lib.hid (HB9.out.put6 h6 h7 h3lt h0 hk11.out hs11.out hb11 ho11))
                | (refine bodyPost_cell 6 25 rfl g6 rfl 25 .u8 R HB11.out.c6 _ Tryd.underlying25 rfl SR.out rfl ?_))
              exact HB11.out.bel
set_option maxHeartbeats 2000000 in
theorem rbit_c (s : List Int) (d n : Int) (hl : s.length = 32) (hs : ∀ z ∈ s, 0 ≤ z ∧ z < 256) (d0 : 0 ≤ d) (d1 : d < 18446744073709551616) (n0 : 0 ≤ n) (n1 : n < 18446744073709551616) (w : World) :
    Calls Tryd.prog 26 #[.agg (intsA .u8 s), .int .u64 d, .int .u64 n] w fun e w' => e = .returned (.int .u64 (bitN s d n)) ∧ Below w.heap.size w w' := by
  have HB := Lib.hid (fun W => rblock_c s d (n / 256) hl hs d0 d1 (by omega) (by omega) W)
  have hRl := blkL_len s d (n / 256)
  obtain ⟨R, hR⟩ : ∃ R, blkL s d (n / 256) = R := ⟨_, rfl⟩
  rw [hR] at HB hRl
  have hj : (n % 256 / 8).toNat < 32 := by omega
  have e1 : n % 256 / 8 = (((n % 256 / 8).toNat : Nat) : Int) := by omega
  have hb := bytN_in s d (n / 256) (n % 256 / 8).toNat
  have hbe : R.getD (n % 256 / 8).toNat 0 = bytN s d (n / 256) (n % 256 / 8).toNat := by unfold bytN; rw [hR]
  have e2 : 7 - n % 8 = (((7 - n % 8).toNat : Nat) : Int) := by omega
  have hq : (7 - n % 8).toNat ≤ 7 := by omega
  have hres : bitN s d n = bytN s d (n / 256) (n % 256 / 8).toNat / 2 ^ (7 - n % 8).toNat % 2 := rfl
  obtain ⟨j, hjj⟩ : ∃ j, (n % 256 / 8).toNat = j := ⟨_, rfl⟩
  obtain ⟨q, hqq⟩ : ∃ q, (7 - n % 8).toNat = q := ⟨_, rfl⟩
  rw [hjj] at hj e1 hb hbe hres
  rw [hqq] at e2 hq hres
  obtain ⟨b, hbb⟩ : ∃ b, bytN s d (n / 256) j = b := ⟨_, rfl⟩
  rw [hbb] at hb hbe hres
  have HC := Lib.hid (fun (W : World) g (h : BlkI W g 25 .u8 R) => (show W.cell? ⟨g, j, none⟩ = some (.int .u8 b) by rw [h.cell (by omega), hbe]))
  have p0 := Wd.pow_pos2 q
  have p1 := pow2_lt q (by omega)
  have HP := Lib.hid (fun W => rpow_c q (by omega) W)
  obtain ⟨p, hp⟩ : ∃ p : Int, 2 ^ q = p := ⟨_, rfl⟩
  rw [hp] at p0 p1 HP hres
  have p2 : (p == 0) = false := by rw [beq_eq_false_iff_ne]; omega
  have h2 : 0 ≤ b / p := Int.ediv_nonneg hb.1 (by omega)
  have h3 : b / p < 256 := by have := Int.ediv_le_self p hb.1; omega
  have HRES := Lib.hid hres
  have SS := Lib.hid (show (Tryd.prog.info? 25).map (·.size) = some s.length by rw [hl]; exact size_hash)
  have SR := Lib.hid (show (Tryd.prog.info? 25).map (·.size) = some R.length by rw [hRl]; exact size_hash)
  obtain ⟨Z, hZ⟩ : ∃ Z : List Int, List.replicate 32 0 = Z := ⟨_, rfl⟩
  have HZ0 := Lib.hid zero_hash
  rw [hZ] at HZ0
  have ZR := Lib.hid (show Z.length = R.length by rw [hRl, ← hZ]; simp)
  obtain ⟨hb0, hb1⟩ := hb
  clear hZ hres hbb hbe hRl hR hl hs hp
  go_enter Tryd.func26, Tryd.ntmps26
  go_wp2_with (first
    | (with_reducible refine at_any ?_; refine at_dst 3 rfl ?_; refine wpList_box_ints rfl 25 (.tmp 0) rfl .u8 s rfl ?_; intro w1 hk1 hs1 hb1; have F1 := Lib.hid (Fx.box hk1.out hb1); clear hk1 hs1 hb1)
    | (with_reducible refine at_any ?_; refine at_dst 8 rfl ?_; refine wpList_load_ints rfl 25 (.tmp 3) rfl w.heap.size rfl 25 .u8 s (Fx.fst F1.out) _ Tryd.underlying25 rfl SS.out ?_)
    | (go_at_call 29; (with_reducible refine (HB.out _).mono ?_); rintro e w3 ⟨rfl, hb3⟩; have F3 := Lib.hid (F1.out.below hb3); clear F1 hb3)
    | (with_reducible refine at_any ?_; refine at_dst 7 rfl ?_; refine wpList_alloc_ints rfl 25 rfl .u8 Z HZ0.out ?_; intro w4 hk4 hs4 hb4; have U3 := Lib.hid (Fx.under_new F3.out rfl); have F4 := Lib.hid (Fx.new F3.out hk4.out hb4); clear hk4 hs4 F3 hb4)
    | (with_reducible refine at_any ?_; refine at_store 7 rfl ?_; refine wpList_store_ints rfl 25 (.tmp 7) (.tmp 12) rfl w3.heap.size rfl 25 .u8 Z R (Fx.fst F4.out) rfl ZR.out SR.out ?_; intro w5 hk5 hs5 hb5 ho5; have F5 := Lib.hid (Fx.put1 F4.out U3.out hk5.out hs5.out hb5 ho5); have cj := HC.out _ _ (Fx.fst F5.out); clear hk5 hs5 hb5 ho5 F4))
  have hlt : ((j : Nat) : Int) < 32 := by omega
  have t1 : n.tmod 256 = n % 256 := Int.tmod_eq_emod_of_nonneg n0
  have t2 : n.tmod 8 = n % 8 := Int.tmod_eq_emod_of_nonneg n0
  have t3 : (n % 256).tdiv 8 = n % 256 / 8 := Int.tdiv_eq_ediv_of_nonneg (by omega)
  have t4 : b.tdiv p = b / p := Int.tdiv_eq_ediv_of_nonneg hb0
  have t5 : (b / p).tmod 2 = b / p % 2 := Int.tmod_eq_emod_of_nonneg h2
  have e3 : IntKind.u64.wrap ((n.tmod 256).tdiv 8) = (j : Int) := by rw [t1, t3, e1, IntKind.wrap_u64]; omega
  have e4 : IntKind.u64.wrap (7 - n.tmod 8) = (q : Int) := by rw [t2, e2, IntKind.wrap_u64]; omega
  have e5 : IntKind.u64.wrap (b.tdiv p) = b / p := by rw [t4, IntKind.wrap_u64]; omega
  have e6 : IntKind.u64.wrap b = b := by rw [IntKind.wrap_u64]; omega
  have p3 : p ≠ 0 := by omega
  clear t1 t2 t3 t4
  go_quiet (first | (go_at_call 30; refine Calls.quiet_of_same (HP.out _)))
  go_wp2
  go_ret
  exact ⟨ret_int HRES.out.symm, below_drewN (Fx.bel3 F5.out) _⟩
def RetBr (w : World) (zs : List Int) (n : Nat) (e : Ending) (w' : World) : Prop := ∃ A c, e = .returned (.slice A n c) ∧ n ≤ c ∧ c ≤ maxLen ∧ Rd .u8 w' w'.heap.size A n zs ∧ Below w.heap.size w w'
end Go.Proofs.YtabfgkokilghcaaDoor
/-
  What the reference's functions of stage 7 return (Right, Left, the n-th bit, Take, Tape, Same), and that memory is left as it was.
  Conditions: the arguments lie in their types' ranges.
-/
set_option maxRecDepth 100000
set_option linter.unusedSimpArgs false
namespace Go.Proofs.YtabfgkokilghcaaDoor
open Go.ChangeShapes Go.WideShapes Go.ChangeAt Go.RowKit
set_option linter.unusedVariables false
set_option maxHeartbeats 1000000 in
theorem rsright_c (s : Src) (ok : s.Ok) (A : Option Addr) (c : Nat) (w : World) : Calls Tryd.prog 13 #[.agg (srcV s A c)] w fun e w' => e = .returned (.bool (rightS s)) ∧ Below w.heap.size w w' := by
  have HC := Lib.hid (fun (W : World) (g : Nat) (h : Blk W g 27 (srcV s A c)) => And.intro ((h.cell 0).trans (srcV_kind s A c)) (And.intro ((h.cell 1).trans (srcV_tape s A c)) (And.intro ((h.cell 2).trans (srcV_bits s A c)) ((h.cell 36).trans (srcV_at s ok.sl A c)))))
  have k0 := ok.k0
  have k1 := ok.k1
  have tl := ok.tl
  have b0 := ok.b0
  have b1 := ok.b1
  have a0 := ok.a0
  have a1 := ok.a1
  have hR : rightS s = if s.kind = 1 then decide (s.bits ≤ 8 * (s.tape.length : Int)) && decide (s.at_ ≤ s.bits) else decide (s.kind = 2) && decide (s.at_ ≤ 4611686018427387904) := rfl
  obtain ⟨V, hV⟩ : ∃ V, srcV s A c = V := ⟨_, rfl⟩
  obtain ⟨kd, hkd⟩ : ∃ x, s.kind = x := ⟨_, rfl⟩
  obtain ⟨L, hL⟩ : ∃ x, s.tape.length = x := ⟨_, rfl⟩
  obtain ⟨bt, hbt⟩ : ∃ x, s.bits = x := ⟨_, rfl⟩
  obtain ⟨at_, hat⟩ : ∃ x, s.at_ = x := ⟨_, rfl⟩
  rw [hV, hkd, hL, hbt, hat] at HC
  rw [hkd, hL, hbt, hat] at hR
  rw [hkd] at k0 k1
  rw [hL] at tl
  rw [hbt] at b0 b1
  rw [hat] at a0 a1
  rw [hV, hR]
  clear hV hkd hL hbt hat hR ok
  have e1 : IntKind.u64.wrap (8 * (L : Int)) = 8 * L := by rw [IntKind.wrap_u64]; omega
  by_cases hk : kd = 1
  · rw [if_pos hk]
    subst hk
    by_cases h1 : bt ≤ 8 * (L : Int)
    all_goals
      first | rw [decide_eq_true h1] | rw [decide_eq_false h1]
      first | rw [Bool.true_and] | rw [Bool.false_and]
      go_enter Tryd.func13, Tryd.ntmps13
      go_wp2_with (with_reducible refine at_any ?_; refine at_dst 1 rfl ?_; refine wpList_box_any rfl 27 (.tmp 0) rfl V rfl ?_; intro w1 hk1 hs1 hb1; have c0 := (HC.out _ _ hk1.out).1; have c1 := (HC.out _ _ hk1.out).2.1; have c2 := (HC.out _ _ hk1.out).2.2.1; have c3 := (HC.out _ _ hk1.out).2.2.2)
      go_ret
      exact ⟨rfl, hb1⟩
  · rw [if_neg hk]
    have t1 : (kd == 1) = false := by rw [beq_eq_false_iff_ne]; exact hk
    by_cases h1 : kd = 2
    all_goals
      first | rw [decide_eq_true h1] | rw [decide_eq_false h1]
      first | rw [Bool.true_and] | rw [Bool.false_and]
      first | subst h1 | (have t2 : (kd == 2) = false := by rw [beq_eq_false_iff_ne]; exact h1)
      go_enter Tryd.func13, Tryd.ntmps13
      go_wp2_with (with_reducible refine at_any ?_; refine at_dst 1 rfl ?_; refine wpList_box_any rfl 27 (.tmp 0) rfl V rfl ?_; intro w1 hk1 hs1 hb1; have c0 := (HC.out _ _ hk1.out).1; have c1 := (HC.out _ _ hk1.out).2.1; have c2 := (HC.out _ _ hk1.out).2.2.1; have c3 := (HC.out _ _ hk1.out).2.2.2)
      go_ret
      exact ⟨rfl, hb1⟩
set_option maxHeartbeats 1000000 in
theorem rsleft_c (s : Src) (ok : s.Ok) (A : Option Addr) (c : Nat) (w : World) : Calls Tryd.prog 15 #[.agg (srcV s A c)] w fun e w' => e = .returned (.int .u64 (leftS s)) ∧ Below w.heap.size w w' := by
  have HC := Lib.hid (fun (W : World) (g : Nat) (h : Blk W g 27 (srcV s A c)) => And.intro ((h.cell 0).trans (srcV_kind s A c)) (And.intro ((h.cell 2).trans (srcV_bits s A c)) ((h.cell 36).trans (srcV_at s ok.sl A c))))
  have HRT := Lib.hid (fun W => rsright_c s ok A c W)
  have SV := Lib.hid (sizedS s ok.sl A c)
  have k0 := ok.k0
  have k1 := ok.k1
  have b0 := ok.b0
  have b1 := ok.b1
  have a0 := ok.a0
  have a1 := ok.a1
  have hl := left_le ok
  have hL : leftS s = if rightS s = true then (if s.kind = 1 then s.bits - s.at_ else 4611686018427387904 - s.at_) else 0 := rfl
  obtain ⟨V, hV⟩ : ∃ V, srcV s A c = V := ⟨_, rfl⟩
  obtain ⟨kd, hkd⟩ : ∃ x, s.kind = x := ⟨_, rfl⟩
  obtain ⟨bt, hbt⟩ : ∃ x, s.bits = x := ⟨_, rfl⟩
  obtain ⟨at_, hat⟩ : ∃ x, s.at_ = x := ⟨_, rfl⟩
  obtain ⟨r, hr⟩ : ∃ x, rightS s = x := ⟨_, rfl⟩
  rw [hV, hkd, hbt, hat] at HC
  rw [hV, hr] at HRT
  rw [hV] at SV
  rw [hkd, hbt, hat, hr] at hL
  rw [hkd] at k0 k1
  rw [hbt] at b0 b1
  rw [hat] at a0 a1
  rw [hV]
  rw [hL] at hl
  rw [hL]
  clear hV hkd hbt hat hr hL ok
  cases r
  · rw [if_neg (by decide)]
    go_enter Tryd.func15, Tryd.ntmps15
    go_wp2_with (first
      | (with_reducible refine at_any ?_; refine at_dst 1 rfl ?_; refine wpList_box_any rfl 27 (.tmp 0) rfl V rfl ?_; intro w1 hk1 hs1 hb1)
      | (with_reducible refine at_any ?_; refine at_dst 3 rfl ?_; refine wpList_load_blk rfl 27 (.tmp 1) rfl w.heap.size rfl 27 V hk1.out _ Tryd.underlying27 rfl SV.out ?_)
      | (go_at_call 13; (with_reducible refine (HRT.out _).mono ?_); rintro e w2 ⟨rfl, hb2⟩))
    go_ret
    exact ⟨rfl, hb1.trans (hb2.mono hb1.size)⟩
  · rw [if_pos rfl] at hl ⊢
    by_cases hk : kd = 1
    all_goals
      first | rw [if_pos hk] at hl ⊢ | rw [if_neg hk] at hl ⊢
      first | subst hk | (have t1 : (kd == 1) = false := by rw [beq_eq_false_iff_ne]; exact hk)
      first | (have e1 : IntKind.u64.wrap (bt - at_) = bt - at_ := by rw [IntKind.wrap_u64]; omega) | (have e2 : IntKind.u64.wrap (4611686018427387904 - at_) = 4611686018427387904 - at_ := by rw [IntKind.wrap_u64]; omega)
      go_enter Tryd.func15, Tryd.ntmps15
      go_wp2_with (first
        | (with_reducible refine at_any ?_; refine at_dst 1 rfl ?_; refine wpList_box_any rfl 27 (.tmp 0) rfl V rfl ?_; intro w1 hk1 hs1 hb1)
        | (with_reducible refine at_any ?_; refine at_dst 3 rfl ?_; refine wpList_load_blk rfl 27 (.tmp 1) rfl w.heap.size rfl 27 V hk1.out _ Tryd.underlying27 rfl SV.out ?_)
        | (go_at_call 13; (with_reducible refine (HRT.out _).mono ?_); rintro e w2 ⟨rfl, hb2⟩; have k2 := hk1.out.below hb2 hk1.out.lt; have c0 := (HC.out _ _ k2).1; have c2 := (HC.out _ _ k2).2.1; have c3 := (HC.out _ _ k2).2.2))
      go_ret
      exact ⟨rfl, hb1.trans (hb2.mono hb1.size)⟩
set_option maxHeartbeats 1000000 in
theorem rsbit_c (s : Src) (ok : s.Ok) (n : Int) (n0 : 0 ≤ n) (n1 : n < 18446744073709551616) (hn : s.kind = 2 ∨ n < 8 * (s.tape.length : Int)) (A : Option Addr) (c : Nat) (w : World) (hrd : Rd .u8 w w.heap.size A s.tape.length s.tape) : Calls Tryd.prog 21 #[.agg (srcV s A c), .int .u64 n] w fun e w' => e = .returned (.int .u64 (bitS s n)) ∧ Below w.heap.size w w' := by
  have HC := Lib.hid (fun (W : World) (g : Nat) (h : Blk W g 27 (srcV s A c)) => And.intro ((h.cell 0).trans (srcV_kind s A c)) (And.intro ((h.cell 1).trans (srcV_tape s A c)) (And.intro ((h.cell 35).trans (srcV_dom s ok.sl A c)) (srcV_seed h))))
  have k0 := ok.k0
  have k1 := ok.k1
  have tl := ok.tl
  have SSD := Lib.hid (show (Tryd.prog.info? 25).map (·.size) = some s.seed.length by rw [ok.sl]; exact size_hash)
  have HBT := Lib.hid (fun W => rbit_c s.seed s.dom n ok.sl ok.si ok.d0 ok.d1 n0 n1 W)
  by_cases hk : s.kind = 2
  · have hb : bitS s n = bitN s.seed s.dom n := by unfold bitS; rw [if_pos hk]
    rw [hb]
    obtain ⟨V, hV⟩ : ∃ V, srcV s A c = V := ⟨_, rfl⟩
    rw [hV, hk] at HC
    rw [hV]
    clear hV hk hb hn
    go_enter Tryd.func21, Tryd.ntmps21
    go_wp2_with (first
      | (with_reducible refine at_any ?_; refine at_dst 2 rfl ?_; refine wpList_box_any rfl 27 (.tmp 0) rfl V rfl ?_; intro w1 hk1 hs1 hb1; have c0 := (HC.out _ _ hk1.out).1; have c2 := (HC.out _ _ hk1.out).2.2.1)
      | (with_reducible refine at_any ?_; refine at_dst 9 rfl ?_; refine wpList_load_at rfl 25 (.tmp 8) rfl w.heap.size 3 rfl .u8 s.seed (HC.out _ _ hk1.out).2.2.2 _ Tryd.underlying25 rfl SSD.out ?_)
      | (go_at_call 26; (with_reducible refine (HBT.out _).mono ?_); rintro e w2 ⟨rfl, hb2⟩))
    go_ret
    exact ⟨rfl, hb1.trans (hb2.mono hb1.size)⟩
  · have hlt : n < 8 * (s.tape.length : Int) := by rcases hn with h | h; exact absurd h hk; exact h
    have t1 : (s.kind == 2) = false := by rw [beq_eq_false_iff_ne]; exact hk
    obtain ⟨j, hj⟩ : ∃ j : Nat, (n / 8).toNat = j := ⟨_, rfl⟩
    obtain ⟨q, hq⟩ : ∃ q : Nat, (7 - n % 8).toNat = q := ⟨_, rfl⟩
    have e1 : n / 8 = (j : Int) := by omega
    obtain ⟨r, hr⟩ : ∃ r : Nat, (n % 8).toNat = r := ⟨_, rfl⟩
    have e2 : n % 8 = (r : Int) := by omega
    have e3 : (7 : Int) - (r : Int) = (q : Int) := by omega
    have hq7 : q ≤ 7 := by omega
    have hjl : j < s.tape.length := by omega
    have hb : bitS s n = s.tape.getD j 0 / 2 ^ q % 2 := by unfold bitS; rw [if_neg hk, hj, hq]
    rw [hb]
    have hx : 0 ≤ s.tape.getD j 0 ∧ s.tape.getD j 0 < 256 := by
      rw [List.getD_eq_getElem?_getD, List.getElem?_eq_getElem hjl, Option.getD_some]
      exact ok.ti _ (List.getElem_mem hjl)
    obtain ⟨b0, off, hA, hb0, hcell⟩ := hrd.2 (by omega)
    have cj := hcell j hjl
    obtain ⟨x, hxe⟩ : ∃ x, s.tape.getD j 0 = x := ⟨_, rfl⟩
    rw [hxe] at hx cj
    rw [hxe]
    have hrt := fun W => (rright_c x (q : Int) (by omega) (by omega) (by omega) (by omega) W).mono fun e w' (h : _ ∧ _) => And.intro h.1 h.2.symm
    rw [right_div x q hq7] at hrt
    have p0 := Wd.pow_pos2 q
    have y0 : 0 ≤ x / 2 ^ q := Int.ediv_nonneg hx.1 (by omega)
    have y1 : x / 2 ^ q < 256 := by have := Int.ediv_le_self (2 ^ q) hx.1; omega
    obtain ⟨y, hy⟩ : ∃ y, x / 2 ^ q = y := ⟨_, rfl⟩
    rw [hy] at hrt y0 y1
    rw [hy]
    have HRT := Lib.hid hrt
    have CJ := Lib.hid cj
    obtain ⟨x0, x1⟩ := hx
    obtain ⟨L, hL⟩ : ∃ L, s.tape.length = L := ⟨_, rfl⟩
    rw [hL] at HC tl hjl
    have q0 : (0 : Int) ≤ (j : Int) ∧ (j : Int) < (L : Int) := by omega
    obtain ⟨V, hV⟩ : ∃ V, srcV s A c = V := ⟨_, rfl⟩
    rw [hV] at HC
    rw [hV]
    subst hA
    clear hV hb hn hcell hrt cj p0 hy hxe hrd hL hlt hj hq hr HBT ok
    go_enter Tryd.func21, Tryd.ntmps21
    go_wp2_with (first
      | (with_reducible refine at_any ?_; refine at_dst 2 rfl ?_; refine wpList_box_any rfl 27 (.tmp 0) rfl V rfl ?_; intro w1 hk1 hs1 hb1; have c0 := (HC.out _ _ hk1.out).1; have c2 := (HC.out _ _ hk1.out).2.1; have c3 := (hb1.cell hb0).trans CJ.out)
      | (go_at_call 27; (with_reducible refine (HRT.out _).mono ?_); rintro e _ ⟨rfl, rfl⟩))
    go_ret
    exact ⟨rfl, hb1⟩
set_option maxHeartbeats 4000000 in
theorem rstake_c (s : Src) (ok : s.Ok) (k : Int) (k0 : -9223372036854775808 ≤ k) (k1 : k < 9223372036854775808) (A : Option Addr) (c : Nat) (hc : s.tape.length ≤ c) (hcm : c ≤ maxLen) (w : World) (hrd : Rd .u8 w w.heap.size A s.tape.length s.tape) : Calls Tryd.prog 10 #[.agg (srcV s A c), .int .i64 k] w (RetTake w s k A) := by
  have HRT := Lib.hid (fun W => rsright_c s ok A c W)
  have HLT := Lib.hid (fun W => rsleft_c s ok A c W)
  have hll := left_le ok
  have SV := Lib.hid (sizedS s ok.sl A c)
  have OV := Lib.hid (srcV_ones s A c)
  have ZV := Lib.hid (srcV_same Src.zero s rfl ok.sl none A 0 c)
  have HZ0 := Lib.hid zero_src
  obtain ⟨Z, hZ⟩ : ∃ Z, srcV Src.zero none 0 = Z := ⟨_, rfl⟩
  rw [hZ] at ZV HZ0
  have hRd := Lib.hid hrd
  by_cases hbad : ¬ (rightS s = true ∧ 0 ≤ k ∧ k ≤ 64)
  · have hE : takeE s k = 1 := by unfold takeE; rw [if_neg hbad]
    have HEND : Hid (∀ w', Below w.heap.size w w' → RetTake w s k A (.returned (.tuple #[.int .u64 0, .agg (srcV s A c), .int .i64 1])) w') := Lib.hid (fun w' hb => ⟨A, c, by unfold takeV takeS; rw [hE]; rfl, (hRd.out.below hb).mono hb.size, hc, hcm, .inl rfl, hb⟩)
    obtain ⟨V, hV⟩ : ∃ V, srcV s A c = V := ⟨_, rfl⟩
    rw [hV] at HRT HLT SV OV ZV HEND
    rw [hV]
    have hcase : (rightS s = false) ∨ (rightS s = true ∧ k < 0) ∨ (rightS s = true ∧ ¬ k < 0 ∧ 64 < k) := by
      cases h : rightS s
      · exact .inl rfl
      · refine .inr ?_
        by_cases h0 : k < 0
        · exact .inl ⟨rfl, h0⟩
        · exact .inr ⟨rfl, h0, Decidable.byContradiction fun h7 => hbad ⟨h, by omega, by omega⟩⟩
    clear hZ hV hE hbad hll hrd
    rcases hcase with hr | ⟨hr, h0⟩ | ⟨hr, h0, h6⟩
    all_goals
      rw [hr] at HRT
      go_enter Tryd.func10, Tryd.ntmps10
      go_wp2_with (first
        | (with_reducible refine at_any ?_; refine at_dst 2 rfl ?_; refine wpList_box_any rfl 27 (.tmp 0) rfl V rfl ?_; intro w1 hk1 hs1 hb1)
        | (with_reducible refine at_any ?_; refine at_dst 5 rfl ?_; refine wpList_alloc_any rfl 27 rfl Z HZ0.out ?_; intro w2 hk2 hs2 hb2; have k2 := Lib.hid (hk1.out.below hb2 hk1.out.lt); have bl2 := Lib.hid (hb1.trans (hb2.mono hb1.size)))
        | (with_reducible refine at_any ?_; refine at_dst 9 rfl ?_; refine wpList_load_blk rfl 27 (.tmp 2) rfl w.heap.size rfl 27 V k2.out _ Tryd.underlying27 rfl SV.out ?_)
        | (go_at_call 13; (with_reducible refine (HRT.out _).mono ?_); rintro e wz ⟨rfl, hbz⟩))
      have HB2 : Src2 w w.heap.size w1.heap.size V Z wz := ⟨hk2.out.below hbz hk2.out.lt, k2.out.below hbz k2.out.lt, bl2.out.trans (hbz.mono bl2.out.size), trivial⟩
      have h25 : w.heap.size < w1.heap.size := by rw [hs1.out]; omega
      obtain ⟨g2, hg2⟩ : ∃ g, w.heap.size = g := ⟨_, rfl⟩
      obtain ⟨g5, hg5⟩ : ∃ g, w1.heap.size = g := ⟨_, rfl⟩
      have h02 : w.heap.size ≤ g2 := by omega
      rw [hg2, hg5] at HB2 h25
      rw [hg2, hg5]
      clear hg2 hg5 hk1 hs1 hb1 hk2 hs2 hb2 k2 bl2 hbz
      have hS := HB2.keep.drew
      have HZ5 := HB2.old.drew
      refine wp_region_held_drew (S := (Fx [.blk g2 27 V, .bel w])) (by kernel_rfl) hS (fun hH => ?_)
      refine wpAnyH_letter #[false, false, false, false] (by kernel_rfl) (fun _ _ d _ _ h => by cases d <;> exact h) (fun QL HQ1 HQ2 => ?_)
      refine held_row 0 (some 20) rfl (by kernel_rfl) (by kernel_rfl) (by kernel_rfl) (by kernel_rfl) (fun c a v w h => HQ2.out c a _ v w h) (by kernel_rfl) 27 (.tmp 2) rfl g2 (by kernel_rfl) 27 V (fun _ h => h.1) _ Tryd.underlying27 rfl SV.out hH ?_
      try simp only [Act.put, List.setIfInBounds_toArray, List.set_cons_zero, List.set_cons_succ]
      refine held_v 1 (some 4) rfl (by kernel_rfl) (by kernel_rfl) (by kernel_rfl) (by kernel_rfl) (fun c a v w h => HQ2.out c a _ v w h) (by kernel_rfl) (.int .u64 0) (fun W h => by kernel_rfl) hH ?_
      try simp only [Act.put, List.setIfInBounds_toArray, List.set_cons_zero, List.set_cons_succ]
      refine wpAnyH_ready (rs := [2]) (by kernel_rfl) (by decide) ?_
      refine AllReadyH.cons rfl (fun K hK => ?_) AllReadyH.nil
      refine step_store none (by kernel_rfl) (by kernel_rfl) 27 (.tmp 5) (.tmp 20) rfl g5 (by kernel_rfl) 27 Z V HZ5.1 (by kernel_rfl) ZV.out SV.out OV.out ?_
      intro w41 hkw41 hsw41 hbw41 how41
      have ex42 : Fx [.blk g5 27 V] w41 := ⟨hkw41.out, trivial⟩
      refine hK.out _ _ (hH.store HZ5.1 ⟨Nat.ne_of_lt h25, Nat.le_trans h02 (Nat.le_of_lt h25), trivial⟩ hsw41.out hbw41 how41) (fun hw41 => ?_)
      clear hK K
      try simp only [Act.put, List.setIfInBounds_toArray, List.set_cons_zero, List.set_cons_succ]
      refine held_v 3 (some 6) rfl (by kernel_rfl) (by kernel_rfl) (by kernel_rfl) (by kernel_rfl) (fun c a v w h => HQ2.out c a _ v w h) (by kernel_rfl) (.int .i64 1) (fun W h => by kernel_rfl) hw41 ?_
      try simp only [Act.put, List.setIfInBounds_toArray, List.set_cons_zero, List.set_cons_succ]
      refine wpAnyH_done (by kernel_rfl) ?_ _
      refine HQ1.out _ _ ?_
      clear HQ1 HQ2
      go_wp2_with (refine bodyPost_mid 4 5 6 27 rfl g5 rfl (.int .u64 0) (.int .i64 1) rfl rfl 27 V ex42.1 _ Tryd.underlying27 rfl SV.out rfl ?_)
      exact HEND.out _ hw41.2.1
  · have hgood : rightS s = true ∧ 0 ≤ k ∧ k ≤ 64 := Decidable.of_not_not hbad
    obtain ⟨hr, kk0, kk1⟩ := hgood
    have ng0 : ¬ k < 0 := by omega
    have ng1 : ¬ 64 < k := by omega
    rw [hr] at HRT
    obtain ⟨K, rfl⟩ := Int.eq_ofNat_of_zero_le kk0
    have e3 : IntKind.u64.wrap (K : Int) = K := by rw [IntKind.wrap_u64]; omega
    clear k0 k1
    obtain ⟨lf, hlf⟩ : ∃ x, leftS s = x := ⟨_, rfl⟩
    rw [hlf] at HLT hll
    by_cases hmore : lf < (K : Int)
    · have hE : takeE s (K : Int) = 8 := by unfold takeE; rw [if_pos ⟨hr, kk0, kk1⟩, hlf, if_neg (by omega)]
      have HEND : Hid (∀ w', Below w.heap.size w w' → RetTake w s (K : Int) A (.returned (.tuple #[.int .u64 0, .agg (srcV s A c), .int .i64 8])) w') := Lib.hid (fun w' hb => ⟨A, c, by unfold takeV takeS; rw [hE]; rfl, (hRd.out.below hb).mono hb.size, hc, hcm, .inl rfl, hb⟩)
      obtain ⟨V, hV⟩ : ∃ V, srcV s A c = V := ⟨_, rfl⟩
      rw [hV] at HRT HLT SV OV ZV HEND
      rw [hV]
      clear hZ hV hE hbad hrd hlf
      go_enter Tryd.func10, Tryd.ntmps10
      go_wp2_with (first
        | (with_reducible refine at_any ?_; refine at_dst 2 rfl ?_; refine wpList_box_any rfl 27 (.tmp 0) rfl V rfl ?_; intro w1 hk1 hs1 hb1)
        | (with_reducible refine at_any ?_; refine at_dst 5 rfl ?_; refine wpList_alloc_any rfl 27 rfl Z HZ0.out ?_; intro w2 hk2 hs2 hb2; have k2 := Lib.hid (hk1.out.below hb2 hk1.out.lt); have bl2 := Lib.hid (hb1.trans (hb2.mono hb1.size)))
        | (with_reducible refine at_any ?_; refine at_dst 9 rfl ?_; refine wpList_load_blk rfl 27 (.tmp 2) rfl w.heap.size rfl 27 V k2.out _ Tryd.underlying27 rfl SV.out ?_)
        | (go_at_call 13; (with_reducible refine (HRT.out _).mono ?_); rintro e wy ⟨rfl, hby⟩; have k2y := Lib.hid (k2.out.below hby k2.out.lt); have bly := Lib.hid (bl2.out.trans (hby.mono bl2.out.size)))
        | (with_reducible refine at_any ?_; refine at_dst 23 rfl ?_; refine wpList_load_blk rfl 27 (.tmp 2) rfl w.heap.size rfl 27 V k2y.out _ Tryd.underlying27 rfl SV.out ?_)
        | (go_at_call 15; (with_reducible refine (HLT.out _).mono ?_); rintro e wz ⟨rfl, hbz⟩))
      have HB2 : Src2 w w.heap.size w1.heap.size V Z wz := ⟨(hk2.out.below hby hk2.out.lt).below hbz (hk2.out.below hby hk2.out.lt).lt, k2y.out.below hbz k2y.out.lt, bly.out.trans (hbz.mono bly.out.size), trivial⟩
      have h25 : w.heap.size < w1.heap.size := by rw [hs1.out]; omega
      obtain ⟨g2, hg2⟩ : ∃ g, w.heap.size = g := ⟨_, rfl⟩
      obtain ⟨g5, hg5⟩ : ∃ g, w1.heap.size = g := ⟨_, rfl⟩
      have h02 : w.heap.size ≤ g2 := by omega
      rw [hg2, hg5] at HB2 h25
      rw [hg2, hg5]
      clear hg2 hg5 hk1 hs1 hb1 hk2 hs2 hb2 k2 bl2 hbz hby k2y bly
      have hS := HB2.keep.drew
      have HZ5 := HB2.old.drew
      refine wp_region_held_drew (S := (Fx [.blk g2 27 V, .bel w])) (by kernel_rfl) hS (fun hH => ?_)
      refine wpAnyH_letter #[false, false, false, false] (by kernel_rfl) (fun _ _ d _ _ h => by cases d <;> exact h) (fun QL HQ1 HQ2 => ?_)
      refine held_row 0 (some 26) rfl (by kernel_rfl) (by kernel_rfl) (by kernel_rfl) (by kernel_rfl) (fun c a v w h => HQ2.out c a _ v w h) (by kernel_rfl) 27 (.tmp 2) rfl g2 (by kernel_rfl) 27 V (fun _ h => h.1) _ Tryd.underlying27 rfl SV.out hH ?_
      try simp only [Act.put, List.setIfInBounds_toArray, List.set_cons_zero, List.set_cons_succ]
      refine held_v 1 (some 4) rfl (by kernel_rfl) (by kernel_rfl) (by kernel_rfl) (by kernel_rfl) (fun c a v w h => HQ2.out c a _ v w h) (by kernel_rfl) (.int .u64 0) (fun W h => by kernel_rfl) hH ?_
      try simp only [Act.put, List.setIfInBounds_toArray, List.set_cons_zero, List.set_cons_succ]
      refine wpAnyH_ready (rs := [2]) (by kernel_rfl) (by decide) ?_
      refine AllReadyH.cons rfl (fun K hK => ?_) AllReadyH.nil
      refine step_store none (by kernel_rfl) (by kernel_rfl) 27 (.tmp 5) (.tmp 26) rfl g5 (by kernel_rfl) 27 Z V HZ5.1 (by kernel_rfl) ZV.out SV.out OV.out ?_
      intro w41 hkw41 hsw41 hbw41 how41
      have ex42 : Fx [.blk g5 27 V] w41 := ⟨hkw41.out, trivial⟩
      refine hK.out _ _ (hH.store HZ5.1 ⟨Nat.ne_of_lt h25, Nat.le_trans h02 (Nat.le_of_lt h25), trivial⟩ hsw41.out hbw41 how41) (fun hw41 => ?_)
      clear hK K
      try simp only [Act.put, List.setIfInBounds_toArray, List.set_cons_zero, List.set_cons_succ]
      refine held_v 3 (some 6) rfl (by kernel_rfl) (by kernel_rfl) (by kernel_rfl) (by kernel_rfl) (fun c a v w h => HQ2.out c a _ v w h) (by kernel_rfl) (.int .i64 8) (fun W h => by kernel_rfl) hw41 ?_
      try simp only [Act.put, List.setIfInBounds_toArray, List.set_cons_zero, List.set_cons_succ]
      refine wpAnyH_done (by kernel_rfl) ?_ _
      refine HQ1.out _ _ ?_
      clear HQ1 HQ2
      go_wp2_with (refine bodyPost_mid 4 5 6 27 rfl g5 rfl (.int .u64 0) (.int .i64 8) rfl rfl 27 V ex42.1 _ Tryd.underlying27 rfl SV.out rfl ?_)
      exact HEND.out _ hw41.2.1
    · have hle : (K : Int) ≤ lf := by omega
      have hE : takeE s (K : Int) = 0 := by unfold takeE; rw [if_pos ⟨hr, kk0, kk1⟩, hlf, if_pos hle]
      have hat : s.at_ + lf < 18446744073709551616 := by
        rcases rightS_end hr with h | h
        · rw [hlf] at h; exact h.1
        · exact absurd ok h
      have a0 := ok.a0
      have hnum : takeV s (K : Int) = numS s s.at_ K := by unfold takeV; rw [if_pos hE, Int.toNat_natCast]
      have hsrc : takeS s (K : Int) = s.to (s.at_ + K) := by unfold takeS; rw [if_pos hE]
      have HIN := Lib.hid (fun i => numS_in s s.at_ i)
      have HNX := Lib.hid (fun i => numS_succ s s.at_ i)
      have HPW := Lib.hid (fun (i : Nat) (h : i ≤ 63) => pow2_le i h)
      have hkd : s.kind = 2 ∨ s.at_ + (K : Int) ≤ 8 * (s.tape.length : Int) := by
        unfold leftS at hlf
        rw [if_pos hr] at hlf
        unfold rightS at hr
        split at hr
        · rename_i h1
          rw [if_pos h1] at hlf
          simp at hr
          exact .inr (by omega)
        · simp at hr
          exact .inl hr.1
      have hbi : ∀ (i : Nat), i < K → ∀ W : World, Rd .u8 W W.heap.size A s.tape.length s.tape → Calls Tryd.prog 21 #[.agg (srcV (s.to (s.at_ + i)) A c), .int .u64 (s.at_ + i)] W fun e w' => e = .returned (.int .u64 (bitS s (s.at_ + i))) ∧ Below W.heap.size W w' := fun i h W h2 => rsbit_c (s.to (s.at_ + i)) (ok.to_ _ (by omega) (by omega)) (s.at_ + i) (by omega) (by omega) (by rcases hkd with h3 | h3; exact .inl h3; exact .inr (show s.at_ + (i : Int) < 8 * (s.tape.length : Int) by omega)) A c W h2
      have HBI := Lib.hid hbi
      have HST := Lib.hid (fun (i : Nat) (h : i < K) => srcV_set (s.to (s.at_ + i)) ok.sl A c (s.at_ + i + 1))
      have HC6 := Lib.hid (fun (W : World) (g i : Nat) (h : Blk W g 27 (srcV (s.to (s.at_ + i)) A c)) => (h.cell 36).trans (srcV_at (s.to (s.at_ + i)) ok.sl A c))
      have HSZ := Lib.hid (fun (i : Nat) => sizedS (s.to (s.at_ + i)) ok.sl A c)
      have HSZ2 := Lib.hid (fun (i : Nat) => srcV_size (s.to (s.at_ + i)) ok.sl A c)
      have HS0 := Lib.hid (show srcV (s.to (s.at_ + ((0 : Nat) : Int))) A c = srcV s A c by rw [Int.natCast_zero, Int.add_zero]; rfl)
      have SVK := Lib.hid (sizedS (s.to (s.at_ + K)) ok.sl A c)
      have OVK := Lib.hid (srcV_ones (s.to (s.at_ + K)) A c)
      have ZVK := Lib.hid (srcV_same Src.zero (s.to (s.at_ + K)) rfl ok.sl none A 0 c)
      have HEND : Hid (∀ w', Below w.heap.size w w' → RetTake w s (K : Int) A (.returned (.tuple #[.int .u64 (numS s s.at_ K), .agg (srcV (s.to (s.at_ + K)) A c), .int .i64 0])) w') := Lib.hid (fun w' hb => ⟨A, c, by rw [hnum, hsrc, hE], (hRd.out.below hb).mono hb.size, hc, hcm, .inl rfl, hb⟩)
      rw [hZ] at ZVK
      obtain ⟨V, hV⟩ : ∃ V, srcV s A c = V := ⟨_, rfl⟩
      rw [hV] at HRT HLT SV OV ZV HS0
      rw [hV]
      have HRS := Lib.hid (show Rd .u8 w w.heap.size A s.tape.length s.tape from hrd)
      obtain ⟨n0, hn0⟩ : ∃ x, s.at_ = x := ⟨_, rfl⟩
      clear hZ hV hE hbad hrd hlf hnum hsrc hkd hr hbi
      go_enter Tryd.func10, Tryd.ntmps10
      go_wp2_with (first
        | (with_reducible refine at_any ?_; refine at_dst 2 rfl ?_; refine wpList_box_any rfl 27 (.tmp 0) rfl V rfl ?_; intro w1 hk1 hs1 hb1)
        | (with_reducible refine at_any ?_; refine at_dst 5 rfl ?_; refine wpList_alloc_any rfl 27 rfl Z HZ0.out ?_; intro w2 hk2 hs2 hb2; have k2 := Lib.hid (hk1.out.below hb2 hk1.out.lt); have bl2 := Lib.hid (hb1.trans (hb2.mono hb1.size)))
        | (with_reducible refine at_any ?_; refine at_dst 9 rfl ?_; refine wpList_load_blk rfl 27 (.tmp 2) rfl w.heap.size rfl 27 V k2.out _ Tryd.underlying27 rfl SV.out ?_)
        | (go_at_call 13; (with_reducible refine (HRT.out _).mono ?_); rintro e wy ⟨rfl, hby⟩; have k2y := Lib.hid (k2.out.below hby k2.out.lt); have bly := Lib.hid (bl2.out.trans (hby.mono bl2.out.size)))
        | (with_reducible refine at_any ?_; refine at_dst 23 rfl ?_; refine wpList_load_blk rfl 27 (.tmp 2) rfl w.heap.size rfl 27 V k2y.out _ Tryd.underlying27 rfl SV.out ?_)
        | (go_at_call 15; (with_reducible refine (HLT.out _).mono ?_); rintro e wz ⟨rfl, hbz⟩))
      have HB2 : Src2 w w.heap.size w1.heap.size V Z wz := ⟨(hk2.out.below hby hk2.out.lt).below hbz (hk2.out.below hby hk2.out.lt).lt, k2y.out.below hbz k2y.out.lt, bly.out.trans (hbz.mono bly.out.size), trivial⟩
      have h25 : w.heap.size < w1.heap.size := by rw [hs1.out]; omega
      obtain ⟨g2, hg2⟩ : ∃ g, w.heap.size = g := ⟨_, rfl⟩
      obtain ⟨g5, hg5⟩ : ∃ g, w1.heap.size = g := ⟨_, rfl⟩
      have h02 : w.heap.size ≤ g2 := by omega
      rw [hg2, hg5] at HB2 h25
      rw [hg2, hg5]
      clear hg2 hg5 hk1 hs1 hb1 hk2 hs2 hb2 k2 bl2 hbz hby k2y bly
      go_loopw [7, 8] (fun v cc wr => ∃ i : Nat, i ≤ K ∧ v = .int .u64 (numS s s.at_ i) ∧ cc = .int .i64 i ∧ Src2 w g2 g5 (srcV (s.to (s.at_ + i)) A c) Z wr) (fun _ cc _ => K - (intOf cc).toNat)
      case atStart => exact ⟨0, by omega, rfl, rfl, by rw [HS0.out]; exact HB2⟩
      case round =>
        clear HB2
        obtain ⟨i, hi, rfl, rfl, hF⟩ := hrel
        by_cases hlt : i < K
        · obtain ⟨x0, x1⟩ := HIN.out i
          have hnx := HNX.out i
          have hpw := HPW.out i (by omega)
          obtain ⟨b0, b1⟩ := bitS_in s (s.at_ + i)
          have c6 := HC6.out _ _ i hF.fst
          change _ = some (Value.int .u64 (s.at_ + i)) at c6
          have HBI1 := Lib.hid (fun W h2 => HBI.out i hlt W h2)
          have HS1 := Lib.hid (HSZ.out i)
          have HS2 := Lib.hid (HSZ2.out i)
          have HS3 := Lib.hid (HST.out i hlt)
          have HCI := Lib.hid (fun W g h => HC6.out W g i h)
          have nb : s.at_ + (i : Int) + 1 < 18446744073709551616 := by omega
          have n00 : 0 ≤ s.at_ + (i : Int) := by omega
          have HN1 := Lib.hid (show s.at_ + (i : Int) + 1 = s.at_ + ((i + 1 : Nat) : Int) by omega)
          obtain ⟨Vi, hVi⟩ : ∃ V, srcV (s.to (s.at_ + i)) A c = V := ⟨_, rfl⟩
          rw [hVi] at hF HBI1 HS1 HS2 HS3 HCI
          change Hid (∀ (W : World) (g : Nat), Blk W g 27 Vi → W.cell? ⟨g, 36, none⟩ = some (.int .u64 (s.at_ + i))) at HCI
          obtain ⟨X, hX⟩ : ∃ x, numS s s.at_ i = x := ⟨_, rfl⟩
          obtain ⟨b, hb⟩ : ∃ x, bitS s (s.at_ + i) = x := ⟨_, rfl⟩
          obtain ⟨N, hN⟩ : ∃ x, s.at_ + (i : Int) = x := ⟨_, rfl⟩
          rw [hX, hb] at hnx
          rw [hX] at x0 x1
          rw [hb] at b0 b1 HBI1
          rw [hN] at c6 HBI1 HS3 HCI nb n00 HN1
          rw [hX]
          have HNXi := Lib.hid hnx
          have HF := Lib.hid hF
          have e4 : IntKind.u64.wrap (2 * X) = 2 * X := by rw [IntKind.wrap_u64]; omega
          have e5 : IntKind.u64.wrap (2 * X + b) = 2 * X + b := by rw [IntKind.wrap_u64]; omega
          have e6 : IntKind.u64.wrap (N + 1) = N + 1 := by rw [IntKind.wrap_u64]; omega
          clear hnx hVi hX hb hN hF hpw
          go_wp2_with (first
            | (with_reducible refine at_any ?_; refine at_dst 34 rfl ?_; refine wpList_load_blk rfl 27 (.tmp 2) rfl g2 rfl 27 Vi HF.out.fst _ Tryd.underlying27 rfl HS1.out ?_)
            | (go_at_call 21; (with_reducible refine (HBI1.out _ ((HRS.out.below HF.out.bel).mono HF.out.bel.size)).mono ?_); rintro e w5 ⟨rfl, hb5⟩; have F5 := Lib.hid (HF.out.below hb5); have c7 := HCI.out _ _ F5.out.fst; clear hb5)
            | (with_reducible refine at_any ?_; refine at_store 42 rfl ?_; refine wpList_store_cell rfl 23 (.tmp 42) (.tmp 41) rfl g2 36 rfl 27 Vi F5.out.fst (.int .u64 (N + 1)) rfl (by rw [HS2.out]; omega) size_u64s rfl rfl ?_; intro w9 hk9 ho9; have K9 := Lib.hid hk9.out; rw [HS3.out] at K9; have F9 := Lib.hid (F5.out.only h02 h25 K9.out ho9); clear hk9 ho9 K9))
          go_roundw
          case rel => exact ⟨i + 1, by omega, by rw [HNXi.out], by go_num, by have h := F9.out; rw [HN1.out] at h; exact h⟩
          case measure => simp [intOf]; omega
        · obtain rfl : i = K := by omega
          have HB2 : Src2 w g2 g5 (srcV (s.to (s.at_ + i)) A c) Z wr := hF
          have SV := Lib.hid SVK.out
          have OV := Lib.hid OVK.out
          have ZV := Lib.hid ZVK.out
          have HE2 := Lib.hid HEND.out
          obtain ⟨X, hX⟩ : ∃ x, numS s s.at_ i = x := ⟨_, rfl⟩
          obtain ⟨V, hV⟩ : ∃ V, srcV (s.to (s.at_ + i)) A c = V := ⟨_, rfl⟩
          rw [hV] at HB2 SV OV ZV HE2
          rw [hX] at HE2
          rw [hX]
          have HEND := Lib.hid HE2.out
          clear hF hX hV HIN HNX HPW HBI HST HC6 HSZ HSZ2 SVK OVK ZVK
          go_wp2_with fail
          have hS := HB2.keep.drew
          have HZ5 := HB2.old.drew
          refine wp_region_held_drew (S := (Fx [.blk g2 27 V, .bel w])) (by kernel_rfl) hS (fun hH => ?_)
          refine wpAnyH_letter #[false, false, false, false, false] (by kernel_rfl) (fun _ _ d _ _ h => by cases d <;> exact h) (fun QL HQ1 HQ2 => ?_)
          refine held_v 0 (some 43) rfl (by kernel_rfl) (by kernel_rfl) (by kernel_rfl) (by kernel_rfl) (fun c a v w h => HQ2.out c a _ v w h) (by kernel_rfl) (.int .u64 X) (fun W h => by kernel_rfl) hH ?_
          try simp only [Act.put, List.setIfInBounds_toArray, List.set_cons_zero, List.set_cons_succ]
          refine held_row 1 (some 44) rfl (by kernel_rfl) (by kernel_rfl) (by kernel_rfl) (by kernel_rfl) (fun c a v w h => HQ2.out c a _ v w h) (by kernel_rfl) 27 (.tmp 2) rfl g2 (by kernel_rfl) 27 V (fun _ h => h.1) _ Tryd.underlying27 rfl SV.out hH ?_
          try simp only [Act.put, List.setIfInBounds_toArray, List.set_cons_zero, List.set_cons_succ]
          refine held_v 2 (some 4) rfl (by kernel_rfl) (by kernel_rfl) (by kernel_rfl) (by kernel_rfl) (fun c a v w h => HQ2.out c a _ v w h) (by kernel_rfl) (.int .u64 X) (fun W h => by kernel_rfl) hH ?_
          try simp only [Act.put, List.setIfInBounds_toArray, List.set_cons_zero, List.set_cons_succ]
          refine wpAnyH_ready (rs := [3]) (by kernel_rfl) (by decide) ?_
          refine AllReadyH.cons rfl (fun K hK => ?_) AllReadyH.nil
          refine step_store none (by kernel_rfl) (by kernel_rfl) 27 (.tmp 5) (.tmp 44) rfl g5 (by kernel_rfl) 27 Z V HZ5.1 (by kernel_rfl) ZV.out SV.out OV.out ?_
          intro w41 hkw41 hsw41 hbw41 how41
          have ex42 : Fx [.blk g5 27 V] w41 := ⟨hkw41.out, trivial⟩
          refine hK.out _ _ (hH.store HZ5.1 ⟨Nat.ne_of_lt h25, Nat.le_trans h02 (Nat.le_of_lt h25), trivial⟩ hsw41.out hbw41 how41) (fun hw41 => ?_)
          clear hK K
          try simp only [Act.put, List.setIfInBounds_toArray, List.set_cons_zero, List.set_cons_succ]
          refine held_v 4 (some 6) rfl (by kernel_rfl) (by kernel_rfl) (by kernel_rfl) (by kernel_rfl) (fun c a v w h => HQ2.out c a _ v w h) (by kernel_rfl) (.int .i64 0) (fun W h => by kernel_rfl) hw41 ?_
          try simp only [Act.put, List.setIfInBounds_toArray, List.set_cons_zero, List.set_cons_succ]
          refine wpAnyH_done (by kernel_rfl) ?_ _
          refine HQ1.out _ _ ?_
          clear HQ1 HQ2
          go_wp2_with (refine bodyPost_mid 4 5 6 27 rfl g5 rfl (.int .u64 X) (.int .i64 0) rfl rfl 27 V ex42.1 _ Tryd.underlying27 rfl SV.out rfl ?_)
          exact HEND.out _ hw41.2.1
set_option maxHeartbeats 1000000 in
theorem rstape_c (zs : List Int) (hzl : zs.length ≤ 1000000) (b : Int) (b0 : 0 ≤ b) (b1 : b < 18446744073709551616) (A : Option Addr) (n c : Nat) (w : World) (hrd : Rd .u8 w w.heap.size A n zs) (hnc : n ≤ c) : Calls Tryd.prog 18 #[.slice A n c, .int .u64 b] w (RetTape w zs b) := by
  obtain ⟨i0, hi, hz0, hz1, hzb⟩ := info_parts info_u8'
  have hl := hrd.len
  have e1 : IntKind.u64.wrap (8 * (n : Int)) = 8 * n := by rw [IntKind.wrap_u64]; omega
  have HZ0 := Lib.hid zero_src
  have SZ := Lib.hid (sizedS Src.zero rfl none 0)
  have OZ := Lib.hid (srcV_ones Src.zero none 0)
  have HB0 := Lib.hid (fun (a : Act) (o : Oper) W h => build_src0 (a := a) (o := o) W h)
  have hR : RetTape w zs b = if b ≤ 8 * (zs.length : Int) then (fun e w' => ∃ A' c', e = .returned (.tuple #[.agg (srcV (Src.tapeOf zs b) A' c'), .int .i64 0]) ∧ Rd .u8 w' w'.heap.size A' zs.length zs ∧ zs.length ≤ c' ∧ c' ≤ maxLen ∧ Below w.heap.size w w') else (fun e w' => e = .returned (.tuple #[.agg (srcV Src.zero none 0), .int .i64 1]) ∧ Below w.heap.size w w') := by
    funext e w'
    unfold RetTape
    split <;> rfl
  rw [hR]
  obtain ⟨Z, hZ⟩ : ∃ Z, srcV Src.zero none 0 = Z := ⟨_, rfl⟩
  rw [hZ] at HZ0 SZ OZ HB0
  rw [hZ]
  by_cases hbig : b ≤ 8 * (zs.length : Int)
  · rw [if_pos hbig]
    have hT := Lib.hid (fun (A' : Option Addr) (c' : Nat) => sizedS (Src.tapeOf zs b) (by rfl) A' c')
    have OT := Lib.hid (fun (A' : Option Addr) (c' : Nat) => srcV_ones (Src.tapeOf zs b) A' c')
    have ZT := Lib.hid (fun (A' : Option Addr) (c' : Nat) => srcV_same Src.zero (Src.tapeOf zs b) rfl (by rfl) none A' 0 c')
    have BT := Lib.hid (fun (a : Act) (o : Oper) (x y z : Operand) (W : World) (A' : Option Addr) (c' : Nat) h1 h2 (h3 : a.eval y = .slice A' n c') h4 => build_src1 (a := a) (o := o) (x := x) (y := y) (z := z) W A' c' zs b h1 h2 (by rw [hl]; exact h3) h4)
    rw [hZ] at ZT
    rw [hl] at hbig ⊢
    have HRD := Lib.hid hrd
    have HLZ := Lib.hid hl
    have hn : n ≤ 1000000 := by omega
    clear hZ hR hrd hl hzl
    go_enter Tryd.func18, Tryd.ntmps18
    go_wp2_with (first
      | (with_reducible refine at_any ?_; refine at_dst 4 rfl ?_; refine wpList_alloc_any rfl 27 rfl Z HZ0.out ?_; intro w1 hk1 hs1 hb1)
      | (at_builtin; refine wpList_append_ints _ rfl (.tmp 13) (.tmp 14) 22 rfl w.heap.size 5 i0 _ 1 .u8 Tryd.underlying22 hi hz0 hz1 hzb rfl _ [] rfl (own_empty w1 5 .u8 hb1.size) w.heap.size A n c zs rfl ((HRD.out.below hb1).alloc hb1.size _) (by simp [maxLen]; omega) (by simp; omega) (by have := hb1.size; simp; omega) ?_; intro v2 w2 hown2 hg2 hat2; have hb2 : Below w.heap.size w w2 := (own_empty w1 5 .u8 hb1.size).below_ (hb1.alloc hb1.size _) (by have := hb1.size; simp; omega) hg2; have hk2 : Blk w2 w.heap.size 27 Z := Blk.grown (hk1.out.alloc _) (own_empty w1 5 .u8 hb1.size) (by decide) hg2; simp only [List.nil_append] at hown2; obtain ⟨A2, c2, rfl, hc2, hm2⟩ := hown2.form; rw [HLZ.out] at hown2 hc2 ⊢; clear hg2 hat2)
      | (with_reducible refine at_any ?_; refine at_dst 17 rfl ?_; refine wpList_val rfl (.agg (srcV (Src.tapeOf zs b) A2 c2)) (BT.out _ _ _ _ _ _ A2 c2 rfl rfl rfl rfl) ?_)
      | (with_reducible refine at_any ?_; refine at_store 4 rfl ?_; refine wpList_store_any rfl 27 (.tmp 4) (.tmp 17) rfl w.heap.size rfl 27 Z (srcV (Src.tapeOf zs b) A2 c2) hk2 rfl (ZT.out _ _) (hT.out _ _) (OT.out _ _) ?_; intro w3 hk3 hs3 hb3 ho3)
      | (refine bodyPost_any2 4 5 27 rfl w.heap.size rfl (.int .i64 0) rfl 27 (srcV (Src.tapeOf zs b) A2 c2) hk3.out _ Tryd.underlying27 rfl (hT.out _ _) rfl ?_))
    exact ⟨A2, c2, rfl, ((hown2.rd HLZ.out).other ho3 (hown2.apart hk2 (by decide))).fit, hc2, hm2, hb2.trans (hb3 _ (Nat.le_refl _))⟩
  · rw [if_neg hbig]
    rw [hl] at hbig
    clear hZ hR hrd hl
    go_enter Tryd.func18, Tryd.ntmps18
    go_wp2_with (first
      | (with_reducible refine at_any ?_; refine at_dst 4 rfl ?_; refine wpList_alloc_any rfl 27 rfl Z HZ0.out ?_; intro w1 hk1 hs1 hb1)
      | (with_reducible refine at_any ?_; refine at_dst 12 rfl ?_; refine wpList_val rfl (.agg Z) (HB0.out _ _ _ rfl) ?_)
      | (with_reducible refine at_any ?_; refine at_store 4 rfl ?_; refine wpList_store_any rfl 27 (.tmp 4) (.tmp 12) rfl w.heap.size rfl 27 Z Z hk1.out rfl rfl SZ.out OZ.out ?_; intro w3 hk3 hs3 hb3 ho3)
      | (refine bodyPost_any2 4 5 27 rfl w.heap.size rfl (.int .i64 1) rfl 27 Z hk3.out _ Tryd.underlying27 rfl SZ.out rfl ?_))
    exact hb1.trans (hb3 _ (Nat.le_refl _))
set_option maxHeartbeats 4000000 in
theorem rssame_c (a b : Src) (oka : a.Ok) (okb : b.Ok) (A B : Option Addr) (c d : Nat) (w : World) (hra : Rd .u8 w w.heap.size A a.tape.length a.tape) (hrb : Rd .u8 w w.heap.size B b.tape.length b.tape) : Calls Tryd.prog 11 #[.agg (srcV a A c), .agg (srcV b B d)] w fun e w' => e = .returned (.bool (sameS a b)) ∧ Below w.heap.size w w' := by
  have HA := Lib.hid (fun (W : World) (g : Nat) (h : Blk W g 27 (srcV a A c)) => And.intro ((h.cell 0).trans (srcV_kind a A c)) (And.intro ((h.cell 1).trans (srcV_tape a A c)) (And.intro ((h.cell 2).trans (srcV_bits a A c)) (And.intro ((h.cell 35).trans (srcV_dom a oka.sl A c)) (And.intro ((h.cell 36).trans (srcV_at a oka.sl A c)) (srcV_seed h))))))
  have HB := Lib.hid (fun (W : World) (g : Nat) (h : Blk W g 27 (srcV b B d)) => And.intro ((h.cell 0).trans (srcV_kind b B d)) (And.intro ((h.cell 1).trans (srcV_tape b B d)) (And.intro ((h.cell 2).trans (srcV_bits b B d)) (And.intro ((h.cell 35).trans (srcV_dom b okb.sl B d)) (And.intro ((h.cell 36).trans (srcV_at b okb.sl B d)) (srcV_seed h))))))
  have SA := Lib.hid (show (Tryd.prog.info? 25).map (·.size) = some a.seed.length by rw [oka.sl]; exact size_hash)
  have SB := Lib.hid (show (Tryd.prog.info? 25).map (·.size) = some b.seed.length by rw [okb.sl]; exact size_hash)
  have HRA := Lib.hid hra
  have HRB := Lib.hid hrb
  by_cases h0 : a.kind = b.kind
  · by_cases h1 : a.tape = b.tape
    · by_cases h2 : a.bits = b.bits
      · by_cases h3 : a.seed = b.seed
        · by_cases h4 : a.dom = b.dom
          · by_cases h5 : a.at_ = b.at_
            · have HR : Hid (sameS a b = true) := Lib.hid (by unfold sameS; rw [decide_eq_true h0, decide_eq_true h1, decide_eq_true h2, decide_eq_true h3, decide_eq_true h4, decide_eq_true h5]; simp)
              have t0 : (a.kind == b.kind) = true := by rw [beq_iff_eq]; exact h0
              have t1 : ((strB a.tape).toList == (strB b.tape).toList) = true := by rw [beq_iff_eq, h1]
              have t2 : (a.bits == b.bits) = true := by rw [beq_iff_eq]; exact h2
              have HSE := Lib.hid (fun W => (show (Op.equalIn 10000 25 (.agg (intsA .u8 a.seed)) (.agg (intsA .u8 b.seed))).run Tryd.prog W = .ok true W by rw [eq_hash a.seed b.seed oka.sl okb.sl, decide_eq_true h3]))
              have t4 : (a.dom == b.dom) = true := by rw [beq_iff_eq]; exact h4
              have t5 : (a.at_ == b.at_) = true := by rw [beq_iff_eq]; exact h5
              have t3 := HSE.out
              clear HSE
              obtain ⟨Va, hVa⟩ : ∃ V, srcV a A c = V := ⟨_, rfl⟩
              obtain ⟨Vb, hVb⟩ : ∃ V, srcV b B d = V := ⟨_, rfl⟩
              rw [hVa] at HA
              rw [hVb] at HB
              rw [hVa, hVb]
              clear hVa hVb hra hrb h0 h1 h2 h3 h4 h5
              obtain ⟨a_kind, ha_kind⟩ : ∃ x, a.kind = x := ⟨_, rfl⟩
              obtain ⟨b_kind, hb_kind⟩ : ∃ x, b.kind = x := ⟨_, rfl⟩
              obtain ⟨a_bits, ha_bits⟩ : ∃ x, a.bits = x := ⟨_, rfl⟩
              obtain ⟨b_bits, hb_bits⟩ : ∃ x, b.bits = x := ⟨_, rfl⟩
              obtain ⟨a_dom, ha_dom⟩ : ∃ x, a.dom = x := ⟨_, rfl⟩
              obtain ⟨b_dom, hb_dom⟩ : ∃ x, b.dom = x := ⟨_, rfl⟩
              obtain ⟨a_at_, ha_at_⟩ : ∃ x, a.at_ = x := ⟨_, rfl⟩
              obtain ⟨b_at_, hb_at_⟩ : ∃ x, b.at_ = x := ⟨_, rfl⟩
              rw [ha_kind, ha_bits, ha_dom, ha_at_] at HA
              rw [hb_kind, hb_bits, hb_dom, hb_at_] at HB
              rw [ha_kind, hb_kind] at t0
              rw [ha_bits, hb_bits] at t2
              rw [ha_dom, hb_dom] at t4
              rw [ha_at_, hb_at_] at t5
              clear ha_kind ha_bits ha_dom ha_at_ hb_kind hb_bits hb_dom hb_at_
              go_enter Tryd.func11, Tryd.ntmps11
              go_wp2_with (first
                | (with_reducible refine at_any ?_; refine at_dst 2 rfl ?_; refine wpList_box_any rfl 27 (.tmp 0) rfl Va rfl ?_; intro w1 hk1 hs1 hb1)
                | (with_reducible refine at_any ?_; refine at_dst 3 rfl ?_; refine wpList_box_any rfl 27 (.tmp 1) rfl Vb rfl ?_; intro w2 hk2 hs2 hb2; have ka := Lib.hid (hk1.out.below hb2 hk1.out.lt); have bl := Lib.hid (hb1.trans (hb2.mono hb1.size)); have ca0 := (HA.out _ _ ka.out).1; have ca1 := (HA.out _ _ ka.out).2.1; have ca2 := (HA.out _ _ ka.out).2.2.1; have ca4 := (HA.out _ _ ka.out).2.2.2.1; have ca5 := (HA.out _ _ ka.out).2.2.2.2.1; have cb0 := (HB.out _ _ hk2.out).1; have cb1 := (HB.out _ _ hk2.out).2.1; have cb2 := (HB.out _ _ hk2.out).2.2.1; have cb4 := (HB.out _ _ hk2.out).2.2.2.1; have cb5 := (HB.out _ _ hk2.out).2.2.2.2.1; have xa := str_rd5 (c := c) (HRA.out.below bl.out); have xb := str_rd5 (c := d) (HRB.out.below bl.out))
                | (with_reducible refine at_any ?_; refine at_dst 28 rfl ?_; refine wpList_load_gdo (by kernel_rfl) 25 (.tmp 27) rfl w.heap.size 3 rfl .u8 a.seed (HA.out _ _ ka.out).2.2.2.2.2 _ Tryd.underlying25 rfl SA.out ?_)
                | (with_reducible refine at_any ?_; refine at_dst 30 rfl ?_; refine wpList_load_gdo (by kernel_rfl) 25 (.tmp 29) rfl w1.heap.size 3 rfl .u8 b.seed (HB.out _ _ hk2.out).2.2.2.2.2 _ Tryd.underlying25 rfl SB.out ?_))
              go_ret
              exact ⟨by rw [HR.out]; rfl, bl.out⟩
            · have HR : Hid (sameS a b = false) := Lib.hid (by unfold sameS; rw [decide_eq_true h0, decide_eq_true h1, decide_eq_true h2, decide_eq_true h3, decide_eq_true h4, decide_eq_false h5]; simp)
              have t0 : (a.kind == b.kind) = true := by rw [beq_iff_eq]; exact h0
              have t1 : ((strB a.tape).toList == (strB b.tape).toList) = true := by rw [beq_iff_eq, h1]
              have t2 : (a.bits == b.bits) = true := by rw [beq_iff_eq]; exact h2
              have HSE := Lib.hid (fun W => (show (Op.equalIn 10000 25 (.agg (intsA .u8 a.seed)) (.agg (intsA .u8 b.seed))).run Tryd.prog W = .ok true W by rw [eq_hash a.seed b.seed oka.sl okb.sl, decide_eq_true h3]))
              have t4 : (a.dom == b.dom) = true := by rw [beq_iff_eq]; exact h4
              have t5 : (a.at_ == b.at_) = false := by rw [beq_eq_false_iff_ne]; exact h5
              have t3 := HSE.out
              clear HSE
              obtain ⟨Va, hVa⟩ : ∃ V, srcV a A c = V := ⟨_, rfl⟩
              obtain ⟨Vb, hVb⟩ : ∃ V, srcV b B d = V := ⟨_, rfl⟩
              rw [hVa] at HA
              rw [hVb] at HB
              rw [hVa, hVb]
              clear hVa hVb hra hrb h0 h1 h2 h3 h4 h5
              obtain ⟨a_kind, ha_kind⟩ : ∃ x, a.kind = x := ⟨_, rfl⟩
              obtain ⟨b_kind, hb_kind⟩ : ∃ x, b.kind = x := ⟨_, rfl⟩
              obtain ⟨a_bits, ha_bits⟩ : ∃ x, a.bits = x := ⟨_, rfl⟩
              obtain ⟨b_bits, hb_bits⟩ : ∃ x, b.bits = x := ⟨_, rfl⟩
              obtain ⟨a_dom, ha_dom⟩ : ∃ x, a.dom = x := ⟨_, rfl⟩
              obtain ⟨b_dom, hb_dom⟩ : ∃ x, b.dom = x := ⟨_, rfl⟩
              obtain ⟨a_at_, ha_at_⟩ : ∃ x, a.at_ = x := ⟨_, rfl⟩
              obtain ⟨b_at_, hb_at_⟩ : ∃ x, b.at_ = x := ⟨_, rfl⟩
              rw [ha_kind, ha_bits, ha_dom, ha_at_] at HA
              rw [hb_kind, hb_bits, hb_dom, hb_at_] at HB
              rw [ha_kind, hb_kind] at t0
              rw [ha_bits, hb_bits] at t2
              rw [ha_dom, hb_dom] at t4
              rw [ha_at_, hb_at_] at t5
              clear ha_kind ha_bits ha_dom ha_at_ hb_kind hb_bits hb_dom hb_at_
              go_enter Tryd.func11, Tryd.ntmps11
              go_wp2_with (first
                | (with_reducible refine at_any ?_; refine at_dst 2 rfl ?_; refine wpList_box_any rfl 27 (.tmp 0) rfl Va rfl ?_; intro w1 hk1 hs1 hb1)
                | (with_reducible refine at_any ?_; refine at_dst 3 rfl ?_; refine wpList_box_any rfl 27 (.tmp 1) rfl Vb rfl ?_; intro w2 hk2 hs2 hb2; have ka := Lib.hid (hk1.out.below hb2 hk1.out.lt); have bl := Lib.hid (hb1.trans (hb2.mono hb1.size)); have ca0 := (HA.out _ _ ka.out).1; have ca1 := (HA.out _ _ ka.out).2.1; have ca2 := (HA.out _ _ ka.out).2.2.1; have ca4 := (HA.out _ _ ka.out).2.2.2.1; have ca5 := (HA.out _ _ ka.out).2.2.2.2.1; have cb0 := (HB.out _ _ hk2.out).1; have cb1 := (HB.out _ _ hk2.out).2.1; have cb2 := (HB.out _ _ hk2.out).2.2.1; have cb4 := (HB.out _ _ hk2.out).2.2.2.1; have cb5 := (HB.out _ _ hk2.out).2.2.2.2.1; have xa := str_rd5 (c := c) (HRA.out.below bl.out); have xb := str_rd5 (c := d) (HRB.out.below bl.out))
                | (with_reducible refine at_any ?_; refine at_dst 28 rfl ?_; refine wpList_load_gdo (by kernel_rfl) 25 (.tmp 27) rfl w.heap.size 3 rfl .u8 a.seed (HA.out _ _ ka.out).2.2.2.2.2 _ Tryd.underlying25 rfl SA.out ?_)
                | (with_reducible refine at_any ?_; refine at_dst 30 rfl ?_; refine wpList_load_gdo (by kernel_rfl) 25 (.tmp 29) rfl w1.heap.size 3 rfl .u8 b.seed (HB.out _ _ hk2.out).2.2.2.2.2 _ Tryd.underlying25 rfl SB.out ?_))
              go_ret
              exact ⟨by rw [HR.out]; rfl, bl.out⟩
          · have HR : Hid (sameS a b = false) := Lib.hid (by unfold sameS; rw [decide_eq_true h0, decide_eq_true h1, decide_eq_true h2, decide_eq_true h3, decide_eq_false h4]; simp)
            have t0 : (a.kind == b.kind) = true := by rw [beq_iff_eq]; exact h0
            have t1 : ((strB a.tape).toList == (strB b.tape).toList) = true := by rw [beq_iff_eq, h1]
            have t2 : (a.bits == b.bits) = true := by rw [beq_iff_eq]; exact h2
            have HSE := Lib.hid (fun W => (show (Op.equalIn 10000 25 (.agg (intsA .u8 a.seed)) (.agg (intsA .u8 b.seed))).run Tryd.prog W = .ok true W by rw [eq_hash a.seed b.seed oka.sl okb.sl, decide_eq_true h3]))
            have t4 : (a.dom == b.dom) = false := by rw [beq_eq_false_iff_ne]; exact h4
            have t3 := HSE.out
            clear HSE
            obtain ⟨Va, hVa⟩ : ∃ V, srcV a A c = V := ⟨_, rfl⟩
            obtain ⟨Vb, hVb⟩ : ∃ V, srcV b B d = V := ⟨_, rfl⟩
            rw [hVa] at HA
            rw [hVb] at HB
            rw [hVa, hVb]
            clear hVa hVb hra hrb h0 h1 h2 h3 h4
            obtain ⟨a_kind, ha_kind⟩ : ∃ x, a.kind = x := ⟨_, rfl⟩
            obtain ⟨b_kind, hb_kind⟩ : ∃ x, b.kind = x := ⟨_, rfl⟩
            obtain ⟨a_bits, ha_bits⟩ : ∃ x, a.bits = x := ⟨_, rfl⟩
            obtain ⟨b_bits, hb_bits⟩ : ∃ x, b.bits = x := ⟨_, rfl⟩
            obtain ⟨a_dom, ha_dom⟩ : ∃ x, a.dom = x := ⟨_, rfl⟩
            obtain ⟨b_dom, hb_dom⟩ : ∃ x, b.dom = x := ⟨_, rfl⟩
            obtain ⟨a_at_, ha_at_⟩ : ∃ x, a.at_ = x := ⟨_, rfl⟩
            obtain ⟨b_at_, hb_at_⟩ : ∃ x, b.at_ = x := ⟨_, rfl⟩
            rw [ha_kind, ha_bits, ha_dom, ha_at_] at HA
            rw [hb_kind, hb_bits, hb_dom, hb_at_] at HB
            rw [ha_kind, hb_kind] at t0
            rw [ha_bits, hb_bits] at t2
            rw [ha_dom, hb_dom] at t4
            clear ha_kind ha_bits ha_dom ha_at_ hb_kind hb_bits hb_dom hb_at_
            go_enter Tryd.func11, Tryd.ntmps11
            go_wp2_with (first
              | (with_reducible refine at_any ?_; refine at_dst 2 rfl ?_; refine wpList_box_any rfl 27 (.tmp 0) rfl Va rfl ?_; intro w1 hk1 hs1 hb1)
              | (with_reducible refine at_any ?_; refine at_dst 3 rfl ?_; refine wpList_box_any rfl 27 (.tmp 1) rfl Vb rfl ?_; intro w2 hk2 hs2 hb2; have ka := Lib.hid (hk1.out.below hb2 hk1.out.lt); have bl := Lib.hid (hb1.trans (hb2.mono hb1.size)); have ca0 := (HA.out _ _ ka.out).1; have ca1 := (HA.out _ _ ka.out).2.1; have ca2 := (HA.out _ _ ka.out).2.2.1; have ca4 := (HA.out _ _ ka.out).2.2.2.1; have ca5 := (HA.out _ _ ka.out).2.2.2.2.1; have cb0 := (HB.out _ _ hk2.out).1; have cb1 := (HB.out _ _ hk2.out).2.1; have cb2 := (HB.out _ _ hk2.out).2.2.1; have cb4 := (HB.out _ _ hk2.out).2.2.2.1; have cb5 := (HB.out _ _ hk2.out).2.2.2.2.1; have xa := str_rd5 (c := c) (HRA.out.below bl.out); have xb := str_rd5 (c := d) (HRB.out.below bl.out))
              | (with_reducible refine at_any ?_; refine at_dst 28 rfl ?_; refine wpList_load_gdo (by kernel_rfl) 25 (.tmp 27) rfl w.heap.size 3 rfl .u8 a.seed (HA.out _ _ ka.out).2.2.2.2.2 _ Tryd.underlying25 rfl SA.out ?_)
              | (with_reducible refine at_any ?_; refine at_dst 30 rfl ?_; refine wpList_load_gdo (by kernel_rfl) 25 (.tmp 29) rfl w1.heap.size 3 rfl .u8 b.seed (HB.out _ _ hk2.out).2.2.2.2.2 _ Tryd.underlying25 rfl SB.out ?_))
            go_ret
            exact ⟨by rw [HR.out]; rfl, bl.out⟩
        · have HR : Hid (sameS a b = false) := Lib.hid (by unfold sameS; rw [decide_eq_true h0, decide_eq_true h1, decide_eq_true h2, decide_eq_false h3]; simp)
          have t0 : (a.kind == b.kind) = true := by rw [beq_iff_eq]; exact h0
          have t1 : ((strB a.tape).toList == (strB b.tape).toList) = true := by rw [beq_iff_eq, h1]
          have t2 : (a.bits == b.bits) = true := by rw [beq_iff_eq]; exact h2
          have HSE := Lib.hid (fun W => (show (Op.equalIn 10000 25 (.agg (intsA .u8 a.seed)) (.agg (intsA .u8 b.seed))).run Tryd.prog W = .ok false W by rw [eq_hash a.seed b.seed oka.sl okb.sl, decide_eq_false h3]))
          have t3 := HSE.out
          clear HSE
          obtain ⟨Va, hVa⟩ : ∃ V, srcV a A c = V := ⟨_, rfl⟩
          obtain ⟨Vb, hVb⟩ : ∃ V, srcV b B d = V := ⟨_, rfl⟩
          rw [hVa] at HA
          rw [hVb] at HB
          rw [hVa, hVb]
          clear hVa hVb hra hrb h0 h1 h2 h3
          obtain ⟨a_kind, ha_kind⟩ : ∃ x, a.kind = x := ⟨_, rfl⟩
          obtain ⟨b_kind, hb_kind⟩ : ∃ x, b.kind = x := ⟨_, rfl⟩
          obtain ⟨a_bits, ha_bits⟩ : ∃ x, a.bits = x := ⟨_, rfl⟩
          obtain ⟨b_bits, hb_bits⟩ : ∃ x, b.bits = x := ⟨_, rfl⟩
          obtain ⟨a_dom, ha_dom⟩ : ∃ x, a.dom = x := ⟨_, rfl⟩
          obtain ⟨b_dom, hb_dom⟩ : ∃ x, b.dom = x := ⟨_, rfl⟩
          obtain ⟨a_at_, ha_at_⟩ : ∃ x, a.at_ = x := ⟨_, rfl⟩
          obtain ⟨b_at_, hb_at_⟩ : ∃ x, b.at_ = x := ⟨_, rfl⟩
          rw [ha_kind, ha_bits, ha_dom, ha_at_] at HA
          rw [hb_kind, hb_bits, hb_dom, hb_at_] at HB
          rw [ha_kind, hb_kind] at t0
          rw [ha_bits, hb_bits] at t2
          clear ha_kind ha_bits ha_dom ha_at_ hb_kind hb_bits hb_dom hb_at_
          go_enter Tryd.func11, Tryd.ntmps11
          go_wp2_with (first
            | (with_reducible refine at_any ?_; refine at_dst 2 rfl ?_; refine wpList_box_any rfl 27 (.tmp 0) rfl Va rfl ?_; intro w1 hk1 hs1 hb1)
            | (with_reducible refine at_any ?_; refine at_dst 3 rfl ?_; refine wpList_box_any rfl 27 (.tmp 1) rfl Vb rfl ?_; intro w2 hk2 hs2 hb2; have ka := Lib.hid (hk1.out.below hb2 hk1.out.lt); have bl := Lib.hid (hb1.trans (hb2.mono hb1.size)); have ca0 := (HA.out _ _ ka.out).1; have ca1 := (HA.out _ _ ka.out).2.1; have ca2 := (HA.out _ _ ka.out).2.2.1; have ca4 := (HA.out _ _ ka.out).2.2.2.1; have ca5 := (HA.out _ _ ka.out).2.2.2.2.1; have cb0 := (HB.out _ _ hk2.out).1; have cb1 := (HB.out _ _ hk2.out).2.1; have cb2 := (HB.out _ _ hk2.out).2.2.1; have cb4 := (HB.out _ _ hk2.out).2.2.2.1; have cb5 := (HB.out _ _ hk2.out).2.2.2.2.1; have xa := str_rd5 (c := c) (HRA.out.below bl.out); have xb := str_rd5 (c := d) (HRB.out.below bl.out))
            | (with_reducible refine at_any ?_; refine at_dst 28 rfl ?_; refine wpList_load_gdo (by kernel_rfl) 25 (.tmp 27) rfl w.heap.size 3 rfl .u8 a.seed (HA.out _ _ ka.out).2.2.2.2.2 _ Tryd.underlying25 rfl SA.out ?_)
            | (with_reducible refine at_any ?_; refine at_dst 30 rfl ?_; refine wpList_load_gdo (by kernel_rfl) 25 (.tmp 29) rfl w1.heap.size 3 rfl .u8 b.seed (HB.out _ _ hk2.out).2.2.2.2.2 _ Tryd.underlying25 rfl SB.out ?_))
          go_ret
          exact ⟨by rw [HR.out]; rfl, bl.out⟩
      · have HR : Hid (sameS a b = false) := Lib.hid (by unfold sameS; rw [decide_eq_true h0, decide_eq_true h1, decide_eq_false h2]; simp)
        have t0 : (a.kind == b.kind) = true := by rw [beq_iff_eq]; exact h0
        have t1 : ((strB a.tape).toList == (strB b.tape).toList) = true := by rw [beq_iff_eq, h1]
        have t2 : (a.bits == b.bits) = false := by rw [beq_eq_false_iff_ne]; exact h2
        skip
        obtain ⟨Va, hVa⟩ : ∃ V, srcV a A c = V := ⟨_, rfl⟩
        obtain ⟨Vb, hVb⟩ : ∃ V, srcV b B d = V := ⟨_, rfl⟩
        rw [hVa] at HA
        rw [hVb] at HB
        rw [hVa, hVb]
        clear hVa hVb hra hrb h0 h1 h2
        obtain ⟨a_kind, ha_kind⟩ : ∃ x, a.kind = x := ⟨_, rfl⟩
        obtain ⟨b_kind, hb_kind⟩ : ∃ x, b.kind = x := ⟨_, rfl⟩
        obtain ⟨a_bits, ha_bits⟩ : ∃ x, a.bits = x := ⟨_, rfl⟩
        obtain ⟨b_bits, hb_bits⟩ : ∃ x, b.bits = x := ⟨_, rfl⟩
        obtain ⟨a_dom, ha_dom⟩ : ∃ x, a.dom = x := ⟨_, rfl⟩
        obtain ⟨b_dom, hb_dom⟩ : ∃ x, b.dom = x := ⟨_, rfl⟩
        obtain ⟨a_at_, ha_at_⟩ : ∃ x, a.at_ = x := ⟨_, rfl⟩
        obtain ⟨b_at_, hb_at_⟩ : ∃ x, b.at_ = x := ⟨_, rfl⟩
        rw [ha_kind, ha_bits, ha_dom, ha_at_] at HA
        rw [hb_kind, hb_bits, hb_dom, hb_at_] at HB
        rw [ha_kind, hb_kind] at t0
        rw [ha_bits, hb_bits] at t2
        clear ha_kind ha_bits ha_dom ha_at_ hb_kind hb_bits hb_dom hb_at_
        go_enter Tryd.func11, Tryd.ntmps11
        go_wp2_with (first
          | (with_reducible refine at_any ?_; refine at_dst 2 rfl ?_; refine wpList_box_any rfl 27 (.tmp 0) rfl Va rfl ?_; intro w1 hk1 hs1 hb1)
          | (with_reducible refine at_any ?_; refine at_dst 3 rfl ?_; refine wpList_box_any rfl 27 (.tmp 1) rfl Vb rfl ?_; intro w2 hk2 hs2 hb2; have ka := Lib.hid (hk1.out.below hb2 hk1.out.lt); have bl := Lib.hid (hb1.trans (hb2.mono hb1.size)); have ca0 := (HA.out _ _ ka.out).1; have ca1 := (HA.out _ _ ka.out).2.1; have ca2 := (HA.out _ _ ka.out).2.2.1; have ca4 := (HA.out _ _ ka.out).2.2.2.1; have ca5 := (HA.out _ _ ka.out).2.2.2.2.1; have cb0 := (HB.out _ _ hk2.out).1; have cb1 := (HB.out _ _ hk2.out).2.1; have cb2 := (HB.out _ _ hk2.out).2.2.1; have cb4 := (HB.out _ _ hk2.out).2.2.2.1; have cb5 := (HB.out _ _ hk2.out).2.2.2.2.1; have xa := str_rd5 (c := c) (HRA.out.below bl.out); have xb := str_rd5 (c := d) (HRB.out.below bl.out))
          | (with_reducible refine at_any ?_; refine at_dst 28 rfl ?_; refine wpList_load_gdo (by kernel_rfl) 25 (.tmp 27) rfl w.heap.size 3 rfl .u8 a.seed (HA.out _ _ ka.out).2.2.2.2.2 _ Tryd.underlying25 rfl SA.out ?_)
          | (with_reducible refine at_any ?_; refine at_dst 30 rfl ?_; refine wpList_load_gdo (by kernel_rfl) 25 (.tmp 29) rfl w1.heap.size 3 rfl .u8 b.seed (HB.out _ _ hk2.out).2.2.2.2.2 _ Tryd.underlying25 rfl SB.out ?_))
        go_ret
        exact ⟨by rw [HR.out]; rfl, bl.out⟩
    · have HR : Hid (sameS a b = false) := Lib.hid (by unfold sameS; rw [decide_eq_true h0, decide_eq_false h1]; simp)
      have t0 : (a.kind == b.kind) = true := by rw [beq_iff_eq]; exact h0
      have t1 : ((strB a.tape).toList == (strB b.tape).toList) = false := by rw [beq_eq_false_iff_ne]; exact fun h => h1 (strB_inj oka.ti okb.ti (toL_eq5.1 h))
      skip
      obtain ⟨Va, hVa⟩ : ∃ V, srcV a A c = V := ⟨_, rfl⟩
      obtain ⟨Vb, hVb⟩ : ∃ V, srcV b B d = V := ⟨_, rfl⟩
      rw [hVa] at HA
      rw [hVb] at HB
      rw [hVa, hVb]
      clear hVa hVb hra hrb h0 h1
      obtain ⟨a_kind, ha_kind⟩ : ∃ x, a.kind = x := ⟨_, rfl⟩
      obtain ⟨b_kind, hb_kind⟩ : ∃ x, b.kind = x := ⟨_, rfl⟩
      obtain ⟨a_bits, ha_bits⟩ : ∃ x, a.bits = x := ⟨_, rfl⟩
      obtain ⟨b_bits, hb_bits⟩ : ∃ x, b.bits = x := ⟨_, rfl⟩
      obtain ⟨a_dom, ha_dom⟩ : ∃ x, a.dom = x := ⟨_, rfl⟩
      obtain ⟨b_dom, hb_dom⟩ : ∃ x, b.dom = x := ⟨_, rfl⟩
      obtain ⟨a_at_, ha_at_⟩ : ∃ x, a.at_ = x := ⟨_, rfl⟩
      obtain ⟨b_at_, hb_at_⟩ : ∃ x, b.at_ = x := ⟨_, rfl⟩
      rw [ha_kind, ha_bits, ha_dom, ha_at_] at HA
      rw [hb_kind, hb_bits, hb_dom, hb_at_] at HB
      rw [ha_kind, hb_kind] at t0
      clear ha_kind ha_bits ha_dom ha_at_ hb_kind hb_bits hb_dom hb_at_
      go_enter Tryd.func11, Tryd.ntmps11
      go_wp2_with (first
        | (with_reducible refine at_any ?_; refine at_dst 2 rfl ?_; refine wpList_box_any rfl 27 (.tmp 0) rfl Va rfl ?_; intro w1 hk1 hs1 hb1)
        | (with_reducible refine at_any ?_; refine at_dst 3 rfl ?_; refine wpList_box_any rfl 27 (.tmp 1) rfl Vb rfl ?_; intro w2 hk2 hs2 hb2; have ka := Lib.hid (hk1.out.below hb2 hk1.out.lt); have bl := Lib.hid (hb1.trans (hb2.mono hb1.size)); have ca0 := (HA.out _ _ ka.out).1; have ca1 := (HA.out _ _ ka.out).2.1; have ca2 := (HA.out _ _ ka.out).2.2.1; have ca4 := (HA.out _ _ ka.out).2.2.2.1; have ca5 := (HA.out _ _ ka.out).2.2.2.2.1; have cb0 := (HB.out _ _ hk2.out).1; have cb1 := (HB.out _ _ hk2.out).2.1; have cb2 := (HB.out _ _ hk2.out).2.2.1; have cb4 := (HB.out _ _ hk2.out).2.2.2.1; have cb5 := (HB.out _ _ hk2.out).2.2.2.2.1; have xa := str_rd5 (c := c) (HRA.out.below bl.out); have xb := str_rd5 (c := d) (HRB.out.below bl.out))
        | (with_reducible refine at_any ?_; refine at_dst 28 rfl ?_; refine wpList_load_gdo (by kernel_rfl) 25 (.tmp 27) rfl w.heap.size 3 rfl .u8 a.seed (HA.out _ _ ka.out).2.2.2.2.2 _ Tryd.underlying25 rfl SA.out ?_)
        | (with_reducible refine at_any ?_; refine at_dst 30 rfl ?_; refine wpList_load_gdo (by kernel_rfl) 25 (.tmp 29) rfl w1.heap.size 3 rfl .u8 b.seed (HB.out _ _ hk2.out).2.2.2.2.2 _ Tryd.underlying25 rfl SB.out ?_))
      go_ret
      exact ⟨by rw [HR.out]; rfl, bl.out⟩
  · have HR : Hid (sameS a b = false) := Lib.hid (by unfold sameS; rw [decide_eq_false h0]; simp)
    have t0 : (a.kind == b.kind) = false := by rw [beq_eq_false_iff_ne]; exact h0
    skip
    obtain ⟨Va, hVa⟩ : ∃ V, srcV a A c = V := ⟨_, rfl⟩
    obtain ⟨Vb, hVb⟩ : ∃ V, srcV b B d = V := ⟨_, rfl⟩
    rw [hVa] at HA
    rw [hVb] at HB
    rw [hVa, hVb]
    clear hVa hVb hra hrb h0
    obtain ⟨a_kind, ha_kind⟩ : ∃ x, a.kind = x := ⟨_, rfl⟩
    obtain ⟨b_kind, hb_kind⟩ : ∃ x, b.kind = x := ⟨_, rfl⟩
    obtain ⟨a_bits, ha_bits⟩ : ∃ x, a.bits = x := ⟨_, rfl⟩
    obtain ⟨b_bits, hb_bits⟩ : ∃ x, b.bits = x := ⟨_, rfl⟩
    obtain ⟨a_dom, ha_dom⟩ : ∃ x, a.dom = x := ⟨_, rfl⟩
    obtain ⟨b_dom, hb_dom⟩ : ∃ x, b.dom = x := ⟨_, rfl⟩
    obtain ⟨a_at_, ha_at_⟩ : ∃ x, a.at_ = x := ⟨_, rfl⟩
    obtain ⟨b_at_, hb_at_⟩ : ∃ x, b.at_ = x := ⟨_, rfl⟩
    rw [ha_kind, ha_bits, ha_dom, ha_at_] at HA
    rw [hb_kind, hb_bits, hb_dom, hb_at_] at HB
    rw [ha_kind, hb_kind] at t0
    clear ha_kind ha_bits ha_dom ha_at_ hb_kind hb_bits hb_dom hb_at_
    go_enter Tryd.func11, Tryd.ntmps11
    go_wp2_with (first
      | (with_reducible refine at_any ?_; refine at_dst 2 rfl ?_; refine wpList_box_any rfl 27 (.tmp 0) rfl Va rfl ?_; intro w1 hk1 hs1 hb1)
      | (with_reducible refine at_any ?_; refine at_dst 3 rfl ?_; refine wpList_box_any rfl 27 (.tmp 1) rfl Vb rfl ?_; intro w2 hk2 hs2 hb2; have ka := Lib.hid (hk1.out.below hb2 hk1.out.lt); have bl := Lib.hid (hb1.trans (hb2.mono hb1.size)); have ca0 := (HA.out _ _ ka.out).1; have ca1 := (HA.out _ _ ka.out).2.1; have ca2 := (HA.out _ _ ka.out).2.2.1; have ca4 := (HA.out _ _ ka.out).2.2.2.1; have ca5 := (HA.out _ _ ka.out).2.2.2.2.1; have cb0 := (HB.out _ _ hk2.out).1; have cb1 := (HB.out _ _ hk2.out).2.1; have cb2 := (HB.out _ _ hk2.out).2.2.1; have cb4 := (HB.out _ _ hk2.out).2.2.2.1; have cb5 := (HB.out _ _ hk2.out).2.2.2.2.1; have xa := str_rd5 (c := c) (HRA.out.below bl.out); have xb := str_rd5 (c := d) (HRB.out.below bl.out))
      | (with_reducible refine at_any ?_; refine at_dst 28 rfl ?_; refine wpList_load_gdo (by kernel_rfl) 25 (.tmp 27) rfl w.heap.size 3 rfl .u8 a.seed (HA.out _ _ ka.out).2.2.2.2.2 _ Tryd.underlying25 rfl SA.out ?_)
      | (with_reducible refine at_any ?_; refine at_dst 30 rfl ?_; refine wpList_load_gdo (by kernel_rfl) 25 (.tmp 29) rfl w1.heap.size 3 rfl .u8 b.seed (HB.out _ _ hk2.out).2.2.2.2.2 _ Tryd.underlying25 rfl SB.out ?_))
    go_ret
    exact ⟨by rw [HR.out]; rfl, bl.out⟩
end Go.Proofs.YtabfgkokilghcaaDoor
/-
  What the program's package plan returns, and that they leave memory as it was.
  Conditions: the arguments lie in their types' ranges.
-/
set_option maxRecDepth 100000
namespace Go.Proofs.YtabfgkokilghcaaDoor
open Go.ChangeShapes Go.WideShapes Go.ChangeAt Go.RowKit
set_option linter.unusedVariables false

theorem pfirst_c (x : Int) (h0 : 0 ≤ x) (h1 : x < 4294967296) (w : World) :
    Calls Tryd.prog 72 #[.int .u32 x] w fun e w' => e = .returned (.int .u32 (mix1 x)) ∧ w = w' := by
  unfold mix1
  go_enter Tryd.func72, Tryd.ntmps72
  go_wp2_with (first
    | (go_at_call 75; (with_reducible refine (rotate_c _ _ (by omega) (by omega) (by omega) (by omega) _).mono ?_); rintro e _ ⟨rfl, rfl⟩)
    | (go_at_call 76; (with_reducible refine (right_c _ _ (by omega) (by omega) (by omega) (by omega) _).mono ?_); rintro e _ ⟨rfl, rfl⟩))
  go_ret
  exact ⟨rfl, rfl⟩
theorem psecond_c (x : Int) (h0 : 0 ≤ x) (h1 : x < 4294967296) (w : World) :
    Calls Tryd.prog 71 #[.int .u32 x] w fun e w' => e = .returned (.int .u32 (mix2 x)) ∧ w = w' := by
  unfold mix2
  go_enter Tryd.func71, Tryd.ntmps71
  go_wp2_with (first
    | (go_at_call 75; (with_reducible refine (rotate_c _ _ (by omega) (by omega) (by omega) (by omega) _).mono ?_); rintro e _ ⟨rfl, rfl⟩)
    | (go_at_call 76; (with_reducible refine (right_c _ _ (by omega) (by omega) (by omega) (by omega) _).mono ?_); rintro e _ ⟨rfl, rfl⟩))
  go_ret
  exact ⟨rfl, rfl⟩

set_option maxHeartbeats 1000000 in
theorem pof_c (b : List Int) (hl : b.length = 64) (hb : ∀ z ∈ b, 0 ≤ z ∧ z < 256) (w : World) :
    Calls Tryd.prog 66 #[.agg (intsA .u8 b)] w fun e w' => e = .returned (.agg (intsA .u32 (planL b))) ∧ Below w.heap.size w w' := by
  go_enter Tryd.func66, Tryd.ntmps66
  go_wp2_with (first
    | (with_reducible refine at_any ?_; refine at_dst 1 rfl ?_; refine wpList_box_ints rfl 78 (.tmp 0) rfl .u8 b rfl ?_; intro w1 hk1 hs1 hb1)
    | (with_reducible refine at_any ?_; refine at_dst 2 rfl ?_; refine wpList_alloc_ints rfl 89 rfl .u32 (List.replicate 64 0) zero_plan ?_; intro w2 hk2 hs2 hb2)
    | (with_reducible refine at_any ?_; refine at_dst 3 rfl ?_; refine wpList_alloc_ints rfl 89 rfl .u32 (List.replicate 64 0) zero_plan ?_; intro w3 hk3 hs3 hb3))
  have HI : In3 w w.heap.size w1.heap.size w2.heap.size 78 89 89 .u8 .u32 .u32 b (List.replicate 64 0) (planF b 0) w3 := by
    rw [planF_zero]
    have q1 := hs1.out
    have q2 := hs2.out
    have q3 := hs3.out
    exact ⟨(hk1.out.below hb2 (by omega)).below hb3 (by omega), hk2.out.below hb3 (by omega), hk3.out, hb1.trans ((hb2.mono (by omega)).trans (hb3.mono (by omega))), by omega, by omega, by omega⟩
  obtain ⟨g1, hg1⟩ : ∃ g, w.heap.size = g := ⟨_, rfl⟩
  obtain ⟨g2, hg2⟩ : ∃ g, w1.heap.size = g := ⟨_, rfl⟩
  obtain ⟨g3, hg3⟩ : ∃ g, w2.heap.size = g := ⟨_, rfl⟩
  have HG2 := Lib.hid (show w.heap.size ≤ g2 by have := hb1.size; omega)
  rw [hg1, hg2, hg3] at HI
  rw [hg1, hg2, hg3]
  clear hk1 hs1 hb1 hk2 hs2 hb2 hk3 hs3 hb3
  go_loopw [7] (fun v wr => ∃ i : Nat, i ≤ 16 ∧ v = .int .i64 i ∧ In3 w g1 g2 g3 78 89 89 .u8 .u32 .u32 b (List.replicate 64 0) (planF b i) wr) (fun v _ => 16 - (intOf v).toNat)
  case atStart => exact ⟨0, by omega, rfl, HI⟩
  case round =>
    clear HI
    obtain ⟨i, hi, rfl, HI⟩ := hrel
    by_cases hlt : i < 16
    · have hpl := planF_len b i (by omega)
      have HW := HI.open_ (i := i) (by omega)
      have hset := fun v hv => planF_set b i (by omega) v hv
      obtain ⟨m, hm⟩ : ∃ m, 4 * i = m := ⟨_, rfl⟩
      obtain ⟨m1, hm1⟩ : ∃ m1, 4 * i + 1 = m1 := ⟨_, rfl⟩
      obtain ⟨m2, hm2⟩ : ∃ m2, 4 * i + 2 = m2 := ⟨_, rfl⟩
      obtain ⟨m3, hm3⟩ : ∃ m3, 4 * i + 3 = m3 := ⟨_, rfl⟩
      have c0 := HW.cell1 (j := m) (by omega)
      have c1 := HW.cell1 (j := m1) (by omega)
      have c2 := HW.cell1 (j := m2) (by omega)
      have c3 := HW.cell1 (j := m3) (by omega)
      have hg : ∀ j, j < 64 → 0 ≤ b.getD j 0 ∧ b.getD j 0 < 256 := by
        intro j hj
        have h : j < b.length := by omega
        simp [h]; exact hb _ (List.getElem_mem h)
      have r0 := hg m (by omega)
      have r1 := hg m1 (by omega)
      have r2 := hg m2 (by omega)
      have r3 := hg m3 (by omega)
      have hv : word4 b i = Wd.get4 (b.getD m 0) (b.getD m1 0) (b.getD m2 0) (b.getD m3 0) := by unfold word4; rw [hm1, hm2, hm3, hm]
      have hsv := hset (word4 b i) (by rw [if_pos hlt])
      have HK : ∀ w', In3W w g1 g2 g3 78 89 89 .u8 .u32 .u32 b (List.replicate 64 0) (planF b i) i w' → w'.cell? ⟨g1, m, none⟩ = some (.int .u8 (b.getD m 0)) ∧ w'.cell? ⟨g1, m1, none⟩ = some (.int .u8 (b.getD m1 0)) ∧ w'.cell? ⟨g1, m2, none⟩ = some (.int .u8 (b.getD m2 0)) ∧ w'.cell? ⟨g1, m3, none⟩ = some (.int .u8 (b.getD m3 0)) ∧ In3W w g1 g2 g3 78 89 89 .u8 .u32 .u32 b (List.replicate 64 0) (planF b i) i w' :=
        fun w' h => ⟨h.cell1 (by omega), h.cell1 (by omega), h.cell1 (by omega), h.cell1 (by omega), h⟩
      have HA : ∀ w', In3W w g1 g2 g3 78 89 89 .u8 .u32 .u32 b (List.replicate 64 0) (planF b i) i w' → (∃ u, w'.cell? ⟨g3, i, none⟩ = some (.int .u32 u)) ∧ w'.frozen? ⟨g3, i, none⟩ = false := fun w' h => h.at_ (by omega)
      obtain ⟨a0, ha0⟩ : ∃ a, b.getD m 0 = a := ⟨_, rfl⟩
      obtain ⟨a1, ha1⟩ : ∃ a, b.getD m1 0 = a := ⟨_, rfl⟩
      obtain ⟨a2, ha2⟩ : ∃ a, b.getD m2 0 = a := ⟨_, rfl⟩
      obtain ⟨a3, ha3⟩ : ∃ a, b.getD m3 0 = a := ⟨_, rfl⟩
      rw [ha0, ha1, ha2, ha3] at HK hv
      rw [ha0] at c0 r0
      rw [ha1] at c1 r1
      rw [ha2] at c2 r2
      rw [ha3] at c3 r3
      rw [hv] at hsv
      have HK' := Lib.hid HK
      have HA' := Lib.hid HA
      have HSV := Lib.hid hsv
      have e0 : IntKind.i64.wrap (4 * (i : Int)) = (m : Int) := by rw [IntWalk.i64_in _ (by omega)]; omega
      have e1 : IntKind.i64.wrap ((m : Int) + 1) = (m1 : Int) := by rw [IntWalk.i64_in _ (by omega)]; omega
      have e2 : IntKind.i64.wrap ((m : Int) + 2) = (m2 : Int) := by rw [IntWalk.i64_in _ (by omega)]; omega
      have e3 : IntKind.i64.wrap ((m : Int) + 3) = (m3 : Int) := by rw [IntWalk.i64_in _ (by omega)]; omega
      have q0 : (0 : Int) ≤ (m : Int) ∧ (m : Int) < 64 := by omega
      have q1 : (0 : Int) ≤ (m1 : Int) ∧ (m1 : Int) < 64 := by omega
      have q2 : (0 : Int) ≤ (m2 : Int) ∧ (m2 : Int) < 64 := by omega
      have q3 : (0 : Int) ≤ (m3 : Int) ∧ (m3 : Int) < 64 := by omega
      have q4 : (0 : Int) ≤ (i : Int) ∧ (i : Int) < 64 := by omega
      obtain ⟨⟨u0, hu0⟩, hf0⟩ := HA _ HW
      clear hset HK HA hg ha0 ha1 ha2 ha3 hm hm1 hm2 hm3 hv hsv hpl HI
      have HWd : In3W w g1 g2 g3 78 89 89 .u8 .u32 .u32 b (List.replicate 64 0) (planF b i) i wr.drew := by obtain ⟨u, hu⟩ := HW; exact ⟨u, hu.drew⟩
      go_wp2
      go_region_held3 (fun w' => w'.cell? ⟨g1, m, none⟩ = some (.int .u8 a0) ∧ w'.cell? ⟨g1, m1, none⟩ = some (.int .u8 a1) ∧ w'.cell? ⟨g1, m2, none⟩ = some (.int .u8 a2) ∧ w'.cell? ⟨g1, m3, none⟩ = some (.int .u8 a3) ∧ In3W w g1 g2 g3 78 89 89 .u8 .u32 .u32 b (List.replicate 64 0) (planF b i) i w')
        (first | assumption | exact HK'.out _ HWd | (go_split_ands; exact HK'.out _ HW5) | (go_split_ands; exact HK'.out _ (HW5.again _)))
        (first
          | (go_at_call 70; (with_reducible refine (get32_c a0 a1 a2 a3 r0.1 r0.2 r1.1 r1.2 r2.1 r2.2 r3.1 r3.2 _).mono ?_); rintro e w5 ⟨rfl, hb5, _⟩; have HW5 := HWd.below hb5; obtain ⟨⟨u5, hu5⟩, hf5⟩ := HA'.out _ HW5))
      all_goals
        go_wp2
        go_roundw
        case rel => exact ⟨i + 1, by omega, by go_num, by rw [← HSV.out]; exact HW5.set_ _⟩
        case measure => simp [intOf]; omega
    · rw [show ((i : Nat) : Int) = 16 by omega]
      obtain rfl : i = 16 := by omega
      clear hi hlt
      go_wp2
      go_loopw [6] (fun v wr => ∃ i : Nat, 16 ≤ i ∧ i ≤ 64 ∧ v = .int .i64 i ∧ In3 w g1 g2 g3 78 89 89 .u8 .u32 .u32 b (List.replicate 64 0) (planF b i) wr) (fun v _ => 64 - (intOf v).toNat)
      case atStart => exact ⟨16, by omega, by omega, rfl, HI⟩
      case round =>
        clear HI
        obtain ⟨i, hi16, hi, rfl, HI⟩ := hrel
        by_cases hlt : i < 64
        · have hpl := planF_len b i (by omega)
          have HW := HI.open_ (i := i) (by omega)
          have hin := planTo_in b hb i
          have hg : ∀ j, j < i → (planF b i).getD j 0 = (planTo b i).getD j 0 ∧ 0 ≤ (planTo b i).getD j 0 ∧ (planTo b i).getD j 0 < 4294967296 := by
            intro j hj
            have h : j < (planTo b i).length := by rw [planTo_len]; exact hj
            refine ⟨planF_at b i j hj, ?_⟩
            simp [h]; exact hin _ (List.getElem_mem h)
          obtain ⟨m2, hm2⟩ : ∃ m, i - 2 = m := ⟨_, rfl⟩
          obtain ⟨m7, hm7⟩ : ∃ m, i - 7 = m := ⟨_, rfl⟩
          obtain ⟨m15, hm15⟩ : ∃ m, i - 15 = m := ⟨_, rfl⟩
          obtain ⟨m16, hm16⟩ : ∃ m, i - 16 = m := ⟨_, rfl⟩
          have hsv := planF_set b i hlt (nextW (planTo b i) i) (by rw [if_neg (by omega)])
          have hv : nextW (planTo b i) i = (mix2 ((planTo b i).getD m2 0) + (planTo b i).getD m7 0 + mix1 ((planTo b i).getD m15 0) + (planTo b i).getD m16 0) % 4294967296 := by unfold nextW; rw [hm2, hm7, hm15, hm16]
          have HK : ∀ w', In3W w g1 g2 g3 78 89 89 .u8 .u32 .u32 b (List.replicate 64 0) (planF b i) i w' → w'.cell? ⟨g3, m2, none⟩ = some (.int .u32 ((planF b i).getD m2 0)) ∧ w'.cell? ⟨g3, m7, none⟩ = some (.int .u32 ((planF b i).getD m7 0)) ∧ w'.cell? ⟨g3, m15, none⟩ = some (.int .u32 ((planF b i).getD m15 0)) ∧ w'.cell? ⟨g3, m16, none⟩ = some (.int .u32 ((planF b i).getD m16 0)) ∧ In3W w g1 g2 g3 78 89 89 .u8 .u32 .u32 b (List.replicate 64 0) (planF b i) i w' :=
            fun w' h => ⟨h.cell3 (by omega) (by omega), h.cell3 (by omega) (by omega), h.cell3 (by omega) (by omega), h.cell3 (by omega) (by omega), h⟩
          obtain ⟨⟨u0, hu0⟩, hf0⟩ := HW.at_ (by omega)
          rw [(hg m2 (by omega)).1, (hg m7 (by omega)).1, (hg m15 (by omega)).1, (hg m16 (by omega)).1] at HK
          have r2 := (hg m2 (by omega)).2
          have r7 := (hg m7 (by omega)).2
          have r15 := (hg m15 (by omega)).2
          have r16 := (hg m16 (by omega)).2
          obtain ⟨x2, hx2⟩ : ∃ a, (planTo b i).getD m2 0 = a := ⟨_, rfl⟩
          obtain ⟨x7, hx7⟩ : ∃ a, (planTo b i).getD m7 0 = a := ⟨_, rfl⟩
          obtain ⟨x15, hx15⟩ : ∃ a, (planTo b i).getD m15 0 = a := ⟨_, rfl⟩
          obtain ⟨x16, hx16⟩ : ∃ a, (planTo b i).getD m16 0 = a := ⟨_, rfl⟩
          rw [hx2, hx7, hx15, hx16] at HK hv
          rw [hx2] at r2
          rw [hx7] at r7
          rw [hx15] at r15
          rw [hx16] at r16
          obtain ⟨c0, c1, c2, c3, _⟩ := HK _ HW
          obtain ⟨y2, hy2⟩ : ∃ a, mix2 x2 = a := ⟨_, rfl⟩
          obtain ⟨y15, hy15⟩ : ∃ a, mix1 x15 = a := ⟨_, rfl⟩
          have k2 := mix2_in x2
          have k15 := mix1_in x15
          rw [hy2, hy15] at hv
          rw [hy2] at k2
          rw [hy15] at k15
          obtain ⟨t1, ht1⟩ : ∃ t, (y2 + x7) % 4294967296 = t := ⟨_, rfl⟩
          obtain ⟨t2, ht2⟩ : ∃ t, (t1 + y15) % 4294967296 = t := ⟨_, rfl⟩
          obtain ⟨t3, ht3⟩ : ∃ t, (t2 + x16) % 4294967296 = t := ⟨_, rfl⟩
          have hv3 : nextW (planTo b i) i = t3 := by rw [hv]; omega
          rw [hv3] at hsv
          have f1 : IntKind.u32.wrap (y2 + x7) = t1 := by rw [IntKind.wrap_u32]; exact ht1
          have f2 : IntKind.u32.wrap (t1 + y15) = t2 := by rw [IntKind.wrap_u32]; exact ht2
          have f3 : IntKind.u32.wrap (t2 + x16) = t3 := by rw [IntKind.wrap_u32]; exact ht3
          have HK' := Lib.hid HK
          have HSV := Lib.hid hsv
          have e2 : IntKind.i64.wrap ((i : Int) - 2) = (m2 : Int) := by rw [IntWalk.i64_in _ (by omega)]; omega
          have e7 : IntKind.i64.wrap ((i : Int) - 7) = (m7 : Int) := by rw [IntWalk.i64_in _ (by omega)]; omega
          have e15 : IntKind.i64.wrap ((i : Int) - 15) = (m15 : Int) := by rw [IntWalk.i64_in _ (by omega)]; omega
          have e16 : IntKind.i64.wrap ((i : Int) - 16) = (m16 : Int) := by rw [IntWalk.i64_in _ (by omega)]; omega
          have q0 : (0 : Int) ≤ (m2 : Int) ∧ (m2 : Int) < 64 := by omega
          have q1 : (0 : Int) ≤ (m7 : Int) ∧ (m7 : Int) < 64 := by omega
          have q2 : (0 : Int) ≤ (m15 : Int) ∧ (m15 : Int) < 64 := by omega
          have q3 : (0 : Int) ≤ (m16 : Int) ∧ (m16 : Int) < 64 := by omega
          have q4 : (0 : Int) ≤ (i : Int) ∧ (i : Int) < 64 := by omega
          have H2 := Lib.hid hy2
          have H15 := Lib.hid hy15
          clear HK hg hin hx2 hx7 hx15 hx16 hm2 hm7 hm15 hm16 hv hv3 hsv hpl HI ht1 ht2 ht3 hy2 hy15
          have HWd : In3W w g1 g2 g3 78 89 89 .u8 .u32 .u32 b (List.replicate 64 0) (planF b i) i wr.drew := by obtain ⟨u, hu⟩ := HW; exact ⟨u, hu.drew⟩
          go_wp2
          go_region_held3 (fun w' => w'.cell? ⟨g3, m2, none⟩ = some (.int .u32 x2) ∧ w'.cell? ⟨g3, m7, none⟩ = some (.int .u32 x7) ∧ w'.cell? ⟨g3, m15, none⟩ = some (.int .u32 x15) ∧ w'.cell? ⟨g3, m16, none⟩ = some (.int .u32 x16) ∧ In3W w g1 g2 g3 78 89 89 .u8 .u32 .u32 b (List.replicate 64 0) (planF b i) i w')
            (first | assumption | exact HK'.out _ HWd | (go_split_ands; exact HK'.out _ (HWd.again _)))
            (first
              | (go_at_call 71; (with_reducible refine (psecond_c x2 r2.1 r2.2 _).mono ?_); rw [H2.out]; rintro e w5 ⟨rfl, rfl⟩)
              | (go_at_call 72; (with_reducible refine (pfirst_c x15 r15.1 r15.2 _).mono ?_); rw [H15.out]; rintro e w5 ⟨rfl, rfl⟩))
          all_goals
            go_wp2
            go_roundw
            case rel => exact ⟨i + 1, by omega, by omega, by go_num, by rw [← HSV.out]; exact (HW.set_ _).drew⟩
            case measure => simp [intOf]; omega
        · rw [show ((i : Nat) : Int) = 64 by omega]
          obtain rfl : i = 64 := by omega
          rw [planF_full] at HI
          obtain ⟨h1, h2, h3, h4, h5, h6, h7⟩ := HI
          have hpl : (planL b).length = 64 := planTo_len b 64
          have HPL := Lib.hid hpl
          have H3 := Lib.hid h3
          have H2 := Lib.hid h2
          have hg2 : w.heap.size ≤ g2 := HG2.out
          clear hpl h1 h2 h3
          go_wp2_with (first
            | (with_reducible refine at_any ?_; refine at_dst 59 rfl ?_; refine wpList_load_ints rfl 89 (.tmp 3) rfl g3 rfl 89 .u32 (planL b) H3.out _ Tryd.underlying89 rfl (by rw [HPL.out]; exact size_plan) ?_)
            | (with_reducible refine at_any ?_; refine at_store 2 rfl ?_; refine wpList_store_ints rfl 89 (.tmp 2) (.tmp 59) rfl g2 rfl 89 .u32 (List.replicate 64 0) (planL b) H2.out rfl (by rw [HPL.out]; simp) (by rw [HPL.out]; exact size_plan) ?_; intro w9 hk9 hs9 hb9 ho9)
            | (refine bodyPost_cell 2 89 rfl g2 rfl 89 .u32 (planL b) hk9.out _ Tryd.underlying89 rfl (by rw [HPL.out]; exact size_plan) rfl ?_))
          rw [← hg1]
          exact h4.trans (hb9 _ hg2)
end Go.Proofs.YtabfgkokilghcaaDoor
/-
  The table of the program's constants: what it holds, and that it stays so while the calls of package comp run.
  Conditions: the table reads, when the call begins, as the program's text lays it (the card ties that).
-/
set_option maxRecDepth 100000
namespace Go.Proofs.YtabfgkokilghcaaDoor
open Go.ChangeShapes Go.WideShapes Go.ChangeAt Go.RowKit
set_option linter.unusedVariables false
/-- The table holds the constants. -/
def Kst (w : World) : Prop := 0 < w.heap.size ∧ ∀ j, j < 64 → w.cell? ⟨0, j, none⟩ = some (.int .u32 (constL.getD j 0))
theorem Kst.below {w w' : World} (h : Kst w) (hb : Below w.heap.size w w') : Kst w' :=
  ⟨Nat.lt_of_lt_of_le h.1 hb.size, fun j hj => by rw [hb.cell (p := ⟨0, j, none⟩) h.1]; exact h.2 j hj⟩
theorem Kst.alloc {w : World} (h : Kst w) (o : Obj) : Kst (w.alloc o) := h.below ((Below.refl _ _).alloc (Nat.le_refl _) o)
theorem Kst.drew {w : World} (h : Kst w) : Kst w.drew := h
theorem Kst.of_heap {w w' : World} (h : Kst w) (e : w'.heap = w.heap) : Kst w' :=
  ⟨by rw [e]; exact h.1, fun j hj => by rw [World.cell?_of_block (w := w) (w' := w') (a := ⟨0, j, none⟩) (by rw [e])]; exact h.2 j hj⟩
abbrev laidK : List (String × DataW Unit) := [("drawlot/comp.constants", Rows.laid_drawlot_comp_constants)]
theorem gConsts : Tryd.prog.globalNamed "drawlot/comp.constants" = some 0 := by kernel_rfl
theorem tConsts : (Tryd.prog.globals[0]?).map (·.type) = some 88 := by kernel_rfl
theorem laidD : (Rows.laid_drawlot_comp_constants : DataW Unit) = .agg (constL.map fun z => .lit (.int .u32 z)) := by kernel_rfl
/-- An array of integers in memory, read: its numbers are those of the datum. -/
theorem trod_arr_ints {H : Type} {enc : TypeId × Value → H} {P : Program} {w : World} {base n fuel : Nat} {spare : TypeId → Bool} {held : Bool} {t e : TypeId} {q : IntKind} {cs : Array Value} {ys : List Int} {p : List MemPlace} (ht : P.underlying t = some (.array n e)) (he : P.underlying e = some (.int q)) (hc : P.cellsOf e = 1) (hC : P.cellsOf t = n)
    (hf : DataW.trod enc P w base spare held fuel t cs.toList = some (.agg (ys.map fun z => .lit (.int q z)), p)) : ∀ i, i < n → cs[i]? = some (.int q (ys.getD i 0)) := by
  obtain ⟨xs, m, _, hx, hl, hxl, hat⟩ := DataW.trod_array ht hf
  rw [hC] at hl
  rw [hc] at hat
  have hl' : cs.size = n := by simpa using hl
  have hd := congrArg Prod.fst hx
  simp only [DataW.agg.injEq] at hd
  intro i hi
  have h1 := hat i hi
  have e1 : List.take 1 (List.drop (i * 1) cs.toList) = [cs[i]'(by omega)] := by
    simp only [Nat.mul_one]
    rw [List.drop_eq_getElem_cons (by simpa using (show i < cs.size by omega))]
    simp
  rw [e1] at h1
  have hxi : xs[i]? = some (xs[i]'(by omega)) := List.getElem?_eq_getElem (by omega)
  rw [hxi] at h1
  obtain ⟨a, ea, ex, wa⟩ := DataW.trod_int he h1
  have h2 := congrArg (fun l => l[i]?) hd
  simp only [List.getElem?_map, hxi, Option.map_some, ex] at h2
  have h3 : ys[i]? = some a := by
    cases hy : ys[i]? with
    | none => rw [hy] at h2; cases h2
    | some y => rw [hy] at h2; simp only [Option.map_some, Option.some.injEq, DataW.lit.injEq, Lit.int.injEq, true_and] at h2; rw [h2]
  rw [Array.getElem?_eq_getElem (by omega), List.getD_eq_getElem?_getD, h3]
  simpa using ea
/-- What the condition gives the walks. -/
theorem kst_of_laid {W : World} (h : laidMetH Tryd.prog laidK W) : Kst W := by
  rw [MakeChecks.laidMetH_plain _ _ _ (by kernel_rfl)] at h
  obtain ⟨ps, ⟨g0, t0, cs0, f0, p0, q0, hg0, ht0, hv0, hd0, _⟩, _, _⟩ := h
  obtain rfl := Option.some.inj (gConsts.symm.trans hg0)
  obtain rfl := Option.some.inj (tConsts.symm.trans ht0)
  rw [laidD] at hd0
  have hz := trod_arr_ints Tryd.underlying88 Tryd.underlying53 (by kernel_rfl) (by kernel_rfl) hd0
  have hc : ∀ j, j < 64 → W.cell? ⟨0, j, none⟩ = some (.int .u32 (constL.getD j 0)) := fun j hj => (World.var?_cell hg0 hv0 j).trans (hz j hj)
  refine ⟨?_, hc⟩
  have h0 := hc 0 (by decide)
  by_cases hlt : 0 < W.heap.size
  · exact hlt
  · exfalso
    simp only [World.cell?, Array.getElem?_eq_none (Nat.le_of_not_lt hlt)] at h0
    cases h0
/-- The heap that the program's own start leaves meets the condition. -/
theorem door_met (os : Os) (args : Array Value) : laidMetH Tryd.prog laidK ((World.doorLaid Tryd.prog 400 os).forCall (fun _ _ => 0) ⟨#[], args, []⟩).memory :=
  laidMetH_of_parts3 (fuel := 8) (laidMet_of_run' 8 (by kernel_rfl) (by kernel_rfl)) (by kernel_rfl) (by kernel_rfl)
end Go.Proofs.YtabfgkokilghcaaDoor
/-
  What the program's package comp returns, and that it leaves memory as it was.
  Conditions: the arguments lie in their types' ranges; of Constant and Take: the table of constants holds what the program's text lays.
-/
set_option maxRecDepth 100000
set_option linter.unusedSimpArgs false
namespace Go.Proofs.YtabfgkokilghcaaDoor
open Go.ChangeShapes Go.WideShapes Go.ChangeAt Go.RowKit
set_option linter.unusedVariables false
theorem cturned_c (x a b c : Int) (h0 : 0 ≤ x) (h1 : x < 4294967296) (a0 : 0 ≤ a) (a1 : a < 32) (b0 : 0 ≤ b) (b1 : b < 32) (c0 : 0 ≤ c) (c1 : c < 32) (w : World) :
    Calls Tryd.prog 77 #[.int .u32 x, .int .i64 a, .int .i64 b, .int .i64 c] w fun e w' => e = .returned (.int .u32 (turn3 x a b c)) ∧ w = w' := by
  unfold turn3
  go_enter Tryd.func77, Tryd.ntmps77
  go_wp2_with (go_at_call 75; (with_reducible refine (rotate_c _ _ (by omega) (by omega) (by omega) (by omega) _).mono ?_); rintro e _ ⟨rfl, rfl⟩)
  go_ret
  exact ⟨rfl, rfl⟩
theorem not_u32 (e : Int) (h0 : 0 ≤ e) (h1 : e < 4294967296) : bits .xor .u32 IntKind.u32.max e = 4294967295 - e := by
  obtain ⟨n, rfl⟩ := Int.eq_ofNat_of_zero_le h0
  have hn : n < 2 ^ 32 := by omega
  have e1 : (4294967295 : Nat) ^^^ n = 4294967295 - n := by
    have h := congrArg BitVec.toNat (BitVec.allOnes_xor (x := BitVec.ofNat 32 n))
    rw [BitVec.toNat_xor, BitVec.toNat_allOnes, BitVec.toNat_not, BitVec.toNat_ofNat, Nat.mod_eq_of_lt hn] at h
    exact h
  have e2 : IntKind.u32.max = ((4294967295 : Nat) : Int) := by decide
  rw [e2, u32_xor_nat _ _ (by omega) (by omega), e1]
  omega
theorem cchoice_c (e f g : Int) (e0 : 0 ≤ e) (e1 : e < 4294967296) (f0 : 0 ≤ f) (f1 : f < 4294967296) (g0 : 0 ≤ g) (g1 : g < 4294967296) (w : World) :
    Calls Tryd.prog 78 #[.int .u32 e, .int .u32 f, .int .u32 g] w fun r w' => r = .returned (.int .u32 (chW e f g)) ∧ w = w' := by
  unfold chW
  have hn := not_u32 e e0 e1
  rw [← hn]
  clear hn
  go_enter Tryd.func78, Tryd.ntmps78
  go_wp2
  go_ret
  exact ⟨rfl, rfl⟩
theorem cmajority_c (a b c : Int) (a0 : 0 ≤ a) (a1 : a < 4294967296) (b0 : 0 ≤ b) (b1 : b < 4294967296) (c0 : 0 ≤ c) (c1 : c < 4294967296) (w : World) :
    Calls Tryd.prog 79 #[.int .u32 a, .int .u32 b, .int .u32 c] w fun r w' => r = .returned (.int .u32 (majW a b c)) ∧ w = w' := by
  unfold majW
  go_enter Tryd.func79, Tryd.ntmps79
  go_wp2
  go_ret
  exact ⟨rfl, rfl⟩
def lowW (e f g : Int) : Int := (turn3 e 6 11 25 + chW e f g) % 4294967296
def uppW (a b c : Int) : Int := (turn3 a 2 13 22 + majW a b c) % 4294967296
theorem clower_c (e f g : Int) (e0 : 0 ≤ e) (e1 : e < 4294967296) (f0 : 0 ≤ f) (f1 : f < 4294967296) (g0 : 0 ≤ g) (g1 : g < 4294967296) (w : World) :
    Calls Tryd.prog 73 #[.int .u32 e, .int .u32 f, .int .u32 g] w fun r w' => r = .returned (.int .u32 (lowW e f g)) ∧ w = w' := by
  obtain ⟨v, hv⟩ : ∃ v, lowW e f g = v := ⟨_, rfl⟩
  rw [hv]
  unfold lowW at hv
  have c1 := fun W => cturned_c e 6 11 25 e0 e1 (by omega) (by omega) (by omega) (by omega) (by omega) (by omega) W
  have c2 := fun W => cchoice_c e f g e0 e1 f0 f1 g0 g1 W
  obtain ⟨y1, hy1⟩ : ∃ y, turn3 e 6 11 25 = y := ⟨_, rfl⟩
  obtain ⟨y2, hy2⟩ : ∃ y, chW e f g = y := ⟨_, rfl⟩
  rw [hy1] at c1 hv
  rw [hy2] at c2 hv
  have f9 : IntKind.u32.wrap (y1 + y2) = v := by rw [IntKind.wrap_u32]; exact hv
  have C1 := Lib.hid c1
  have C2 := Lib.hid c2
  clear hy1 hy2 hv c1 c2
  go_enter Tryd.func73, Tryd.ntmps73
  go_wp2_with (first
    | (go_at_call 77; (with_reducible refine (C1.out _).mono ?_); rintro r _ ⟨rfl, rfl⟩)
    | (go_at_call 78; (with_reducible refine (C2.out _).mono ?_); rintro r _ ⟨rfl, rfl⟩))
  go_ret
  exact ⟨rfl, rfl⟩
theorem cupper_c (e f g : Int) (e0 : 0 ≤ e) (e1 : e < 4294967296) (f0 : 0 ≤ f) (f1 : f < 4294967296) (g0 : 0 ≤ g) (g1 : g < 4294967296) (w : World) :
    Calls Tryd.prog 74 #[.int .u32 e, .int .u32 f, .int .u32 g] w fun r w' => r = .returned (.int .u32 (uppW e f g)) ∧ w = w' := by
  obtain ⟨v, hv⟩ : ∃ v, uppW e f g = v := ⟨_, rfl⟩
  rw [hv]
  unfold uppW at hv
  have c1 := fun W => cturned_c e 2 13 22 e0 e1 (by omega) (by omega) (by omega) (by omega) (by omega) (by omega) W
  have c2 := fun W => cmajority_c e f g e0 e1 f0 f1 g0 g1 W
  obtain ⟨y1, hy1⟩ : ∃ y, turn3 e 2 13 22 = y := ⟨_, rfl⟩
  obtain ⟨y2, hy2⟩ : ∃ y, majW e f g = y := ⟨_, rfl⟩
  rw [hy1] at c1 hv
  rw [hy2] at c2 hv
  have f9 : IntKind.u32.wrap (y1 + y2) = v := by rw [IntKind.wrap_u32]; exact hv
  have C1 := Lib.hid c1
  have C2 := Lib.hid c2
  clear hy1 hy2 hv c1 c2
  go_enter Tryd.func74, Tryd.ntmps74
  go_wp2_with (first
    | (go_at_call 77; (with_reducible refine (C1.out _).mono ?_); rintro r _ ⟨rfl, rfl⟩)
    | (go_at_call 79; (with_reducible refine (C2.out _).mono ?_); rintro r _ ⟨rfl, rfl⟩))
  go_ret
  exact ⟨rfl, rfl⟩
theorem cstart_c (w : World) : Calls Tryd.prog 48 #[] w fun e w' => e = .returned (.agg (intsA .u32 startL)) ∧ Below w.heap.size w w' := by
  have HL := Lib.hid (show Z8.length = startL.length from rfl)
  have HZ := Lib.hid (show (Tryd.prog.info? 67).map (·.size) = some startL.length from size_state)
  go_enter Tryd.func48, Tryd.ntmps48
  go_wp2_with (first
    | (with_reducible refine at_any ?_; refine at_dst 0 rfl ?_; refine wpList_alloc_ints rfl 67 rfl .u32 Z8 zero_state ?_; intro w2 hk2 hs2 hb2)
    | (with_reducible refine at_any ?_; refine at_store 0 rfl ?_; refine wpList_store_ints rfl 67 (.tmp 0) (.tmp 1) rfl w.heap.size rfl 67 .u32 Z8 startL hk2.out (by kernel_rfl) HL.out HZ.out ?_; intro w9 hk9 hs9 hb9 ho9)
    | (refine bodyPost_cell 0 67 rfl w.heap.size rfl 67 .u32 startL hk9.out _ Tryd.underlying67 rfl HZ.out rfl ?_))
  exact hb2.trans (hb9 _ (Nat.le_refl _))
theorem cconst_c (i : Int) (i0 : -9223372036854775808 ≤ i) (i1 : i ≤ 9223372036854775807) (w : World) (hk : Kst w) :
    Calls Tryd.prog 68 #[.int .i64 i] w fun e w' => e = .returned (.int .u32 (constN i)) ∧ w = w' := by
  unfold constN
  by_cases h : 0 ≤ i ∧ i ≤ 63
  · rw [if_pos h]
    obtain ⟨h0, h1⟩ := h
    have hc := hk.2 i.toNat (by omega)
    obtain ⟨C, hC⟩ : ∃ C, constL.getD i.toNat 0 = C := ⟨_, rfl⟩
    rw [hC] at hc
    rw [hC]
    have f1 : IntKind.u64.wrap i = i := by rw [IntKind.wrap_u64]; omega
    have f2 : i < 64 := by omega
    clear hC hk
    go_enter Tryd.func68, Tryd.ntmps68
    go_wp2
    go_ret
    exact ⟨rfl, rfl⟩
  · rw [if_neg h]
    obtain ⟨u, hu⟩ : ∃ u, IntKind.u64.wrap i = u := ⟨_, rfl⟩
    have f2 : 64 ≤ u := by rw [IntKind.wrap_u64] at hu; omega
    clear h hk
    go_enter Tryd.func68, Tryd.ntmps68
    go_wp2
    go_ret
    exact ⟨rfl, rfl⟩
set_option maxHeartbeats 1000000 in
theorem cround_c (s : List Int) (W K : Int) (hl : s.length = 8) (hs : WIn s) (W0 : 0 ≤ W) (W1 : W < 4294967296) (K0 : 0 ≤ K) (K1 : K < 4294967296) (w : World) :
    Calls Tryd.prog 67 #[.agg (intsA .u32 s), .int .u32 W, .int .u32 K] w fun e w' => e = .returned (.agg (intsA .u32 (roundL s W K))) ∧ Below w.heap.size w w' := by
  have hr0 := hs.at_ 0
  have hr1 := hs.at_ 1
  have hr2 := hs.at_ 2
  have hr3 := hs.at_ 3
  have hr4 := hs.at_ 4
  have hr5 := hs.at_ 5
  have hr6 := hs.at_ 6
  have hr7 := hs.at_ 7
  obtain ⟨a, b, c, d, e, f, p, q, rfl⟩ : ∃ a b c d e f p q, s = [a, b, c, d, e, f, p, q] := ⟨_, _, _, _, _, _, _, _, list8 s hl⟩
  simp only [List.getD_cons_zero, List.getD_cons_succ] at hr0 hr1 hr2 hr3 hr4 hr5 hr6 hr7
  have c1 := fun W => clower_c e f p hr4.1 hr4.2 hr5.1 hr5.2 hr6.1 hr6.2 W
  have c2 := fun W => cupper_c a b c hr0.1 hr0.2 hr1.1 hr1.2 hr2.1 hr2.2 W
  obtain ⟨y1, hy1⟩ : ∃ y, lowW e f p = y := ⟨_, rfl⟩
  obtain ⟨u1, hy2⟩ : ∃ y, uppW a b c = y := ⟨_, rfl⟩
  rw [hy1] at c1
  rw [hy2] at c2
  unfold lowW at hy1
  unfold uppW at hy2
  obtain ⟨t1, ht1⟩ : ∃ t, (q + y1) % 4294967296 = t := ⟨_, rfl⟩
  obtain ⟨t2, ht2⟩ : ∃ t, (t1 + K) % 4294967296 = t := ⟨_, rfl⟩
  obtain ⟨t4, ht4⟩ : ∃ t, (t2 + W) % 4294967296 = t := ⟨_, rfl⟩
  have hres : roundL [a, b, c, d, e, f, p, q] W K = [(t4 + u1) % 4294967296, a, b, c, (d + t4) % 4294967296, e, f, p] := by
    have e1 : (q + turn3 e 6 11 25 + chW e f p + K + W) % 4294967296 = t4 := by omega
    simp only [roundL, List.getD_cons_zero, List.getD_cons_succ]
    rw [e1, hy2]
  rw [hres]
  obtain ⟨v0, hv0⟩ : ∃ t, (t4 + u1) % 4294967296 = t := ⟨_, rfl⟩
  obtain ⟨v4, hv4⟩ : ∃ t, (d + t4) % 4294967296 = t := ⟨_, rfl⟩
  rw [hv0, hv4]
  have f1 : IntKind.u32.wrap (q + y1) = t1 := by rw [IntKind.wrap_u32]; exact ht1
  have f2 : IntKind.u32.wrap (t1 + K) = t2 := by rw [IntKind.wrap_u32]; exact ht2
  have f4 : IntKind.u32.wrap (t2 + W) = t4 := by rw [IntKind.wrap_u32]; exact ht4
  have f6 : IntKind.u32.wrap (t4 + u1) = v0 := by rw [IntKind.wrap_u32]; exact hv0
  have f7 : IntKind.u32.wrap (d + t4) = v4 := by rw [IntKind.wrap_u32]; exact hv4
  have C1 := Lib.hid c1
  have C2 := Lib.hid c2
  clear hy1 hy2 ht1 ht2 ht4 hv0 hv4 hres hs hl c1 c2
  go_enter Tryd.func67, Tryd.ntmps67
  go_wp2_with (first
    | (with_reducible refine at_any ?_; refine at_dst 3 rfl ?_; refine wpList_box_ints rfl 67 (.tmp 0) rfl .u32 _ rfl ?_; intro w1 hk1 hs1 hb1)
    | (with_reducible refine at_any ?_; refine at_dst 6 rfl ?_; refine wpList_alloc_ints rfl 67 rfl .u32 Z8 zero_state ?_; intro w2 hk2 hs2 hb2))
  have HS : St2 w w.heap.size w1.heap.size [a, b, c, d, e, f, p, q] Z8 w2 := by
    have q1 := hs1.out
    exact ⟨hk1.out.below hb2 (by omega), hk2.out, hb1.trans (hb2.mono (by omega)), by omega, by omega⟩
  obtain ⟨g, hg⟩ : ∃ g, w.heap.size = g := ⟨_, rfl⟩
  obtain ⟨r, hr⟩ : ∃ g, w1.heap.size = g := ⟨_, rfl⟩
  have HW := Lib.hid hg
  rw [hg, hr] at HS
  rw [hg, hr]
  clear hk1 hs1 hb1 hk2 hs2 hb2 hg hr
  have HSd := HS.drew
  go_region_held3 (fun w' => w'.cell? ⟨g, 0, none⟩ = some (.int .u32 a) ∧ w'.cell? ⟨g, 1, none⟩ = some (.int .u32 b) ∧ w'.cell? ⟨g, 2, none⟩ = some (.int .u32 c) ∧ w'.cell? ⟨g, 3, none⟩ = some (.int .u32 d) ∧ w'.cell? ⟨g, 4, none⟩ = some (.int .u32 e) ∧ w'.cell? ⟨g, 5, none⟩ = some (.int .u32 f) ∧ w'.cell? ⟨g, 6, none⟩ = some (.int .u32 p) ∧ w'.cell? ⟨g, 7, none⟩ = some (.int .u32 q) ∧ St2 w g r [a, b, c, d, e, f, p, q] Z8 w')
    (first | assumption | exact HSd.cells)
    (fail)
  have HS6 := Lib.hid HSd.snd
  go_wp2_with (first
    | (go_at_call 73; (with_reducible refine (C1.out _).mono ?_); rintro e _ ⟨rfl, rfl⟩)
    | (go_at_call 74; (with_reducible refine (C2.out _).mono ?_); rintro e _ ⟨rfl, rfl⟩)
    | (with_reducible refine at_any ?_; refine at_store 6 rfl ?_; refine wpList_store_ints rfl 67 (.tmp 6) (.tmp 59) rfl r rfl 67 .u32 Z8 [v0, a, b, c, v4, e, f, p] HS6.out (by kernel_rfl) (Z8_len8 _ _ _ _ _ _ _ _) (size_state8 _ _ _ _ _ _ _ _) ?_; intro w9 hk9 hs9 hb9 ho9)
    | (refine bodyPost_cell 6 67 rfl r rfl 67 .u32 [v0, a, b, c, v4, e, f, p] hk9.out _ Tryd.underlying67 rfl (size_state8 _ _ _ _ _ _ _ _) rfl ?_))
  exact HSd.bel.trans (hb9 _ HSd.out)
end Go.Proofs.YtabfgkokilghcaaDoor
