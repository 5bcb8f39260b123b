/-
  The fixed fact of layer 2's laws, given what package pad answers; plain facts on padded messages.
  Conditions: those that each theorem names.
-/
import Derived.Test.YtpconmnlppjkfaaPadA
import Derived.Lib.SlBytesConst
namespace Go.Proofs.Ytpconmnlppjkfaa
open Go.ChangeShapes Go.WideShapes Go.ChangeAt Go.RowKit
set_option linter.unusedVariables false
theorem rd_new (w : World) (e : TypeId) (k : IntKind) (zs : List Int) (fr : Nat × Nat) : Rd k (w.alloc (.cells (zs.map (Value.int k)).toArray e fr)) (w.heap.size + 1) (some ⟨w.heap.size, 0, none⟩) zs.length zs := by
  refine ⟨rfl, fun _ => ⟨w.heap.size, 0, rfl, by omega, fun j hj => ?_⟩⟩
  rw [Nat.zero_add, cell_of_row _ w.heap.size j _ e fr (heap_alloc_new w _)]
  simp [hj]
theorem pad_abc : (padL [97, 98, 99]).length = 64 ∧ (padL [97, 98, 99]).getD 3 0 = 128 ∧ (padL [97, 98, 99]).getD 63 0 = 24 ∧ (padL [97, 98, 99]).getD 62 0 = 0 ∧ (padL [97, 98, 99]).getD 0 0 = 97 := by decide
theorem tail_x : (tailL [120] 65).length = 64 ∧ (tailL [120] 65).getD 62 0 = 2 ∧ (tailL [120] 65).getD 63 0 = 8 := by decide
theorem cut_one (P : List Int) (hP : P.length = 64) : cutN (P ++ [7]) 1 = [P] := by
  simp [cutN, List.take_append_of_le_length (show 64 ≤ P.length by omega), List.take_of_length_le (show P.length ≤ 64 by omega)]
theorem drop_one (P : List Int) (hP : P.length = 64) : (P ++ [7]).drop (64 * 1) = [7] := by
  rw [Nat.mul_one, List.drop_append_of_le_length (by omega), List.drop_of_length_le (by omega)]; rfl
/-- What the alive's last test reads. -/
theorem alive_facts {w w1 w2 w3 w5 w6 : World} {A1 A2 A6 A7 : Option Addr} {P T : List Int} (h1 : Rd .u8 w1 w1.heap.size A1 64 P) (h2 : Rd .u8 w2 w2.heap.size A2 64 T)
    (h6 : RdA .u8 64 w6 w6.heap.size A6 1 [P]) (h7 : Rd .u8 w6 w6.heap.size A7 (65 - 64 * 1) ((P ++ [7]).drop (64 * 1))) (hb1 : Below w.heap.size w w1) (hb2 : Below w1.heap.size w1 w2) (hb3 : Below w2.heap.size w2 w3) (hb5 : Below w3.heap.size w3 w5) (hb6 : Below w5.heap.size w5 w6)
    (p1 : P.length = 64) (p2 : P.getD 3 0 = 128) (p3 : P.getD 63 0 = 24) (p4 : P.getD 62 0 = 0) (p5 : P.getD 0 0 = 97) (q2 : T.getD 62 0 = 2) (q3 : T.getD 63 0 = 8) :
    (∃ b o, A1 = some ⟨b, o, none⟩) ∧ (∃ b o, A2 = some ⟨b, o, none⟩) ∧ (∃ b o b' o', A6 = some ⟨b, o, none⟩ ∧ A7 = some ⟨b', o', none⟩) ∧
    (∀ b o, A1 = some ⟨b, o, none⟩ → w6.cell? ⟨b, o + 3, none⟩ = some (.int .u8 128)) ∧ (∀ b o, A1 = some ⟨b, o, none⟩ → w6.cell? ⟨b, o + 63, none⟩ = some (.int .u8 24)) ∧ (∀ b o, A1 = some ⟨b, o, none⟩ → w6.cell? ⟨b, o + 62, none⟩ = some (.int .u8 0)) ∧
    (∀ b o, A2 = some ⟨b, o, none⟩ → w6.cell? ⟨b, o + 62, none⟩ = some (.int .u8 2)) ∧ (∀ b o, A2 = some ⟨b, o, none⟩ → w6.cell? ⟨b, o + 63, none⟩ = some (.int .u8 8)) ∧
    (∀ b o, A6 = some ⟨b, o, none⟩ → w6.cell? ⟨b, o, none⟩ = some (.int .u8 97)) ∧ (∀ b o, A7 = some ⟨b, o, none⟩ → w6.cell? ⟨b, o, none⟩ = some (.int .u8 7)) ∧ Below w.heap.size w w6 := by
  have s1 := hb1.size
  have s2 := hb2.size
  have s3 := hb3.size
  have s5 := hb5.size
  have e12 : Below w1.heap.size w1 w6 := ((hb2.trans (hb3.mono s2)).trans (hb5.mono (by omega))).trans (hb6.mono (by omega))
  have e23 : Below w2.heap.size w2 w6 := (hb3.trans (hb5.mono (by omega))).trans (hb6.mono (by omega))
  obtain ⟨b1, o1, rfl, _, c1⟩ := (h1.below e12).at_ (by omega)
  obtain ⟨b2, o2, rfl, _, c2⟩ := (h2.below e23).at_ (by omega)
  obtain ⟨b6, o6, rfl, _, c6⟩ := h6.at_ (i := 0) (by omega)
  rw [drop_one P p1] at h7
  obtain ⟨b7, o7, rfl, _, c7⟩ := h7.at_ (by omega)
  have g3 := c1 3 (by omega)
  have g62 := c1 62 (by omega)
  have g63 := c1 63 (by omega)
  have t62 := c2 62 (by omega)
  have t63 := c2 63 (by omega)
  have r7 := c7 0 (by omega)
  rw [p2] at g3
  rw [p3] at g63
  rw [p4] at g62
  rw [q2] at t62
  rw [q3] at t63
  have r6 := c6 0 (.int .u8 97) (by rw [← p5]; simp [p1])
  refine ⟨⟨_, _, rfl⟩, ⟨_, _, rfl⟩, ⟨_, _, _, _, rfl, rfl⟩, ?_, ?_, ?_, ?_, ?_, ?_, ?_, hb1.trans (e12.mono s1)⟩
  all_goals
    intro b o e
    injection e with e
    injection e with e1 e2
    subst e1 e2
    first | exact g3 | exact g63 | exact g62 | exact t62 | exact t63 | exact r7 | (simpa using r6)
theorem conv_const (w : World) (C : Array Value) (n c : Nat) : (convert 22 22 (.slice (some ⟨w.heap.size, 0, none⟩) n c)).run Try.prog (w.alloc (.cells C 5)) = .ok (.slice (some ⟨w.heap.size, 0, none⟩) n c) (w.alloc (.cells C 5 (C.size, C.size + 1))) :=
  Lib.run_convert_bytes_const w 22 5 C n c Try.underlying22 Try.underlying5
set_option maxHeartbeats 2000000 in
set_option maxRecDepth 100000 in
theorem alive2_c (w : World) : Calls Try.prog 7 #[] w fun e w' => e = .returned (.bool true) ∧ Below w.heap.size w w' := by
  obtain ⟨i0, hi, hz0, hz1, hzb⟩ := info_parts info_u8'
  obtain ⟨p1, p2, p3, p4, p5⟩ := pad_abc
  obtain ⟨q1, q2, q3⟩ := tail_x
  obtain ⟨P, hP⟩ : ∃ P, padL [97, 98, 99] = P := ⟨_, rfl⟩
  obtain ⟨T, hT⟩ : ∃ T, tailL [120] 65 = T := ⟨_, rfl⟩
  have cp := fun W => ppad_c (some ⟨W.heap.size, 0, none⟩) 3 3 [97, 98, 99] (W.alloc (.cells #[.int .u8 97, .int .u8 98, .int .u8 99] 5 (3, 4))) ((rd_new W 5 .u8 [97, 98, 99] (3, 4)).fit) (by omega) (by omega)
  have ct := fun W => ptail_c (some ⟨W.heap.size, 0, none⟩) 1 1 [120] 65 (W.alloc (.cells #[.int .u8 120] 5 (1, 2))) ((rd_new W 5 .u8 [120] (1, 2)).fit) (by omega) (by omega) (by omega) (by omega)
  have cn := fun (W : World) => ptail_no (some ⟨W.heap.size, 0, none⟩) 1 1 64 (W.alloc (.cells #[.int .u8 120] 5 (1, 2))) (by omega) (by omega) (by omega) (by omega)
  rw [hP] at p1 p2 p3 p4 p5 cp
  rw [hT] at q1 q2 q3 ct
  have b1 : blocksN 55 = 1 := by decide
  have b2 : blocksN 56 = 2 := by decide
  have CP := Lib.hid cp
  have CT := Lib.hid ct
  have CN := Lib.hid cn
  have P1 := Lib.hid p1
  have Q1 := Lib.hid q1
  have P2 := Lib.hid p2
  have P3 := Lib.hid p3
  have P4 := Lib.hid p4
  have P5 := Lib.hid p5
  have Q2 := Lib.hid q2
  have Q3 := Lib.hid q3
  clear cp ct cn p1 q1 p2 p3 p4 p5 q2 q3 hP hT
  have cv := conv_const
  have cc := fun A c (W : World) hr hc => pcut_c A c 65 (P ++ [7]) W hr hc (by omega)
  rw [show 65 / 64 = 1 from rfl, cut_one P P1.out] at cc
  have CC := Lib.hid cc
  clear cc
  go_enter Try.func7, Try.ntmps7
  go_wp2_with (first
    | (go_at_call 14; (with_reducible refine (CP.out w).mono ?_); rintro e w1 ⟨A1, c1, rfl, hr1, hc1, hb1⟩; rw [P1.out] at hr1 hc1; have H1 := Lib.hid hr1; have hb1' : Below w.heap.size w w1 := (((Below.refl w.heap.size w).alloc (Nat.le_refl _) _).trans (hb1.mono (by simp))); rw [P1.out]; clear hr1 hb1)
    | (go_at_call 8; (with_reducible refine (CT.out w1).mono ?_); rintro e w2 ⟨A2, c2, rfl, hr2, hc2, hb2⟩; rw [Q1.out] at hr2 hc2; have H2 := Lib.hid hr2; have hb2' : Below w1.heap.size w1 w2 := (((Below.refl w1.heap.size w1).alloc (Nat.le_refl _) _).trans (hb2.mono (by simp))); rw [Q1.out]; clear hr2 hb2)
    | (go_at_call 8; (with_reducible refine (CN.out w2).mono ?_); rintro e w3 ⟨A3, c3, rfl, hb3⟩; have hb3' : Below w2.heap.size w2 w3 := (((Below.refl w2.heap.size w2).alloc (Nat.le_refl _) _).trans (hb3.mono (by simp))); clear hb3)
    | (at_builtin; refine wpList_append_ints _ rfl (.tmp 24) (.tmp 25) 22 rfl w3.heap.size 5 i0 _ 1 .u8 Try.underlying22 hi hz0 hz1 hzb rfl _ [] rfl (own_empty w3 5 .u8 (Nat.le_refl _)) w3.heap.size A1 64 c1 P rfl ((((((H1.out.below hb2').mono hb2'.size).below hb3').mono hb3'.size)).alloc (Nat.le_refl _) _) (by simp [maxLen]) (by simp) (by simp) ?_; intro v4 w4 hown4 hg4 _; have hb4 : Below w3.heap.size w3 w4 := (own_empty w3 5 .u8 (Nat.le_refl _)).below_ ((Below.refl _ _).alloc (Nat.le_refl _) _) (by simp) hg4; simp only [List.nil_append] at hown4; clear hg4)
    | (at_builtin; refine wpList_append_ints _ rfl (.tmp 26) (.tmp 27) 22 rfl w3.heap.size 5 i0 _ 1 .u8 Try.underlying22 hi hz0 hz1 hzb rfl v4 P rfl (hown4.alloc _) (w4.heap.size + 1) (some ⟨w4.heap.size, 0, none⟩) 1 1 [7] rfl (rd_one w4 5 .u8 7) (by rw [P1.out]; simp [maxLen]) (by rw [P1.out]; omega) (by have := hb4.size; go_size) ?_; intro v5 w5 hown5 hg5 _; have hb5 : Below w3.heap.size w3 w5 := (hown4.alloc _).below_ (hb4.alloc hb4.size _) (by have := hb4.size; go_size) hg5; obtain ⟨A5, c5, rfl, hc5, _⟩ := hown5.form; have hl5 : (P ++ [7]).length = 65 := (by simp [P1.out]); have hrd5 := hown5.rd rfl; rw [hl5] at hrd5 hc5 ⊢; have H5 := Lib.hid hrd5; clear hg5 hown4 hown5 hl5 hrd5)
    | (go_at_call 12; (with_reducible refine (CC.out _ _ _ H5.out hc5).mono ?_); rintro e w6 ⟨A6, c6, A7, c7, rfl, hr6, hr7, hc7, hb6⟩; obtain ⟨n1, n2, n3, x1, x2, x3, x4, x5, x6, x7, hbt⟩ := alive_facts H1.out H2.out hr6 hr7 hb1' hb2' hb3' hb5 hb6 P1.out P2.out P3.out P4.out P5.out Q2.out Q3.out; obtain ⟨b1, o1, rfl⟩ := n1; obtain ⟨b2, o2, rfl⟩ := n2; obtain ⟨b6, o6, b7, o7, rfl, rfl⟩ := n3; clear hr6 hr7)
    | (go_at_call 10; (with_reducible refine (pblocks_c _ (by omega) (by omega) _).mono ?_); rintro e w7 ⟨rfl, rfl⟩)
    | fail)
  go_ret
  exact ⟨rfl, hbt⟩

theorem str_rd {w : World} {B : Nat} {A : Option Addr} {n c : Nat} {zs : List Int} (h : Rd .u8 w B A n zs) : (convert 22 9 (.slice A n c)).run Try.prog w = .ok (.string (strB zs)) w :=
  run_str Try.underlying22 Try.underlying5 Try.underlying9 h (fun hA => by
    rcases Nat.eq_zero_or_pos n with h0 | h0
    · exact h0
    · obtain ⟨b, off, e, _⟩ := h.2 h0; rw [hA] at e; cases e)

theorem padL_eq (b : List Int) : padL b = b ++ (128 :: (List.replicate (zer (b.length % 64)) 0 ++ put8L (8 * b.length))) := by
  have hd : (b.drop (b.length - b.length % 64)).length = b.length % 64 := by rw [List.length_drop]; omega
  unfold padL tailL
  rw [hd, ← List.append_assoc, ← List.append_assoc, List.take_append_drop]
  simp
theorem put8L_len (x : Int) : (put8L x).length = 8 := rfl
theorem padL_len (b : List Int) : (padL b).length = 64 * ((b.length + 72) / 64) := by
  rw [padL_eq, List.length_append, List.length_cons, List.length_append, List.length_replicate, put8L_len]
  unfold zer
  split <;> omega
theorem put8L_inj {x y : Int} (x0 : 0 ≤ x) (y0 : 0 ≤ y) (x1 : x < 18446744073709551616) (y1 : y < 18446744073709551616) (h : put8L x = put8L y) : x = y := by
  simp only [put8L, List.cons.injEq, and_true] at h
  omega
theorem padL_inj {b c : List Int} (hb : b.length ≤ 2000) (hc : c.length ≤ 2000) (h : padL b = padL c) : b = c := by
  rw [padL_eq, padL_eq] at h
  have e1 : (b ++ (128 :: List.replicate (zer (b.length % 64)) 0)) ++ put8L (8 * b.length) = (c ++ (128 :: List.replicate (zer (c.length % 64)) 0)) ++ put8L (8 * c.length) := by
    simpa using h
  have hl := congrArg List.length e1
  simp only [List.length_append, put8L_len] at hl
  have e2 := (List.append_inj' e1 (by simp only [put8L_len]))
  have e3 := put8L_inj (by omega) (by omega) (by omega) (by omega) e2.2
  have e4 : b.length = c.length := by omega
  exact (List.append_inj e2.1 e4).1
theorem padL_bytes {b : List Int} (hl : b.length ≤ 2000) (hb : ∀ z ∈ b, 0 ≤ z ∧ z < 256) : ∀ z ∈ padL b, 0 ≤ z ∧ z < 256 := by
  intro z hz
  rw [padL_eq] at hz
  rcases List.mem_append.1 hz with h | h
  · exact hb z h
  · rcases List.mem_cons.1 h with h | h
    · omega
    · rcases List.mem_append.1 h with h | h
      · rw [List.eq_of_mem_replicate h]; omega
      · simp only [put8L, List.mem_cons, List.not_mem_nil, or_false] at h
        omega
theorem blocks_small (L : Nat) (h : L ≤ 2000) : blocksN L = ((L + 72) / 64 : Nat) := by
  unfold blocksN
  rw [if_neg (by omega)]
  omega
theorem toL_eq (a b : ByteArray) : a.toList = b.toList ↔ a = b := by
  rw [ByteArray.toList_eq, ByteArray.toList_eq]
  constructor
  · intro h
    obtain ⟨⟨x⟩⟩ := a
    obtain ⟨⟨y⟩⟩ := b
    simp at h
    rw [h]
  · intro h; rw [h]
end Go.Proofs.Ytpconmnlppjkfaa
