/-
  The constants, and the first state, are the first 32 bits behind the point of those roots.
  Conditions: the program's table of constants reads, when the call begins, as its text lays it (the card ties that).
-/
import Derived.Test.YtjmpbmgeaeemnaaDoorLawE
import Derived.Test.YtjmpbmgeaeemnaaDoorRootA
import Derived.Test.YtjmpbmgeaeemnaaDoorHeldA
import Derived.Deep.RegionHeld3
import Derived.ShutString
import Derived.Test.YtjmpbmgeaeemnaaDoorCompK
import Derived.Test.YtjmpbmgeaeemnaaDoorTie
import Derived.Test.YtjmpbmgeaeemnaaDoorCards
import Derived.SevenTiedAt
import Derived.ChangeOld
namespace Go.Proofs.YtjmpbmgeaeemnaaDoor.compRoots
open Go.ChangeShapes Go.WideShapes Go.ChangeAt Go.RowKit
set_option linter.unusedVariables false

theorem own : ownKnob Tryd.prog.godebug = none := by kernel_rfl
theorem laidOut : laidOutB Tryd.prog = true := by kernel_rfl


/-- The two numbers, the bound, and memory below. -/
def RS (w : World) (g7 g8 g9 : Nat) (x y p : List Int) (w' : World) : Prop :=
  BlkI w' g7 35 .u64 x ∧ BlkI w' g8 35 .u64 y ∧ BlkI w' g9 35 .u64 p ∧ Below w.heap.size w w' ∧ w.heap.size ≤ g7 ∧ w.heap.size ≤ g8 ∧ g7 ≠ g8 ∧ g7 ≠ g9 ∧ g8 ≠ g9
section
variable {w w' w'' : World} {g7 g8 g9 : Nat} {x y p : List Int}
theorem RS.below (h : RS w g7 g8 g9 x y p w') (hb : Below w'.heap.size w' w'') : RS w g7 g8 g9 x y p w'' := by
  obtain ⟨h1, h2, h3, h4, h5⟩ := h
  exact ⟨h1.below hb h1.lt, h2.below hb h2.lt, h3.below hb h3.lt, h4.trans (hb.mono h4.size), h5⟩
theorem RS.drew (h : RS w g7 g8 g9 x y p w') : RS w g7 g8 g9 x y p w'.drew := by
  obtain ⟨h1, h2, h3, h4, h5⟩ := h
  exact ⟨h1, h2, h3, h4.drew, h5⟩
theorem RS.store7 (h : RS w g7 g8 g9 x y p w') {z : List Int} (hk : BlkI w'' g7 35 .u64 z) (hb : ∀ B, B ≤ g7 → Below B w' w'') (ho : ∀ j, j ≠ g7 → w''.heap[j]? = w'.heap[j]?) : RS w g7 g8 g9 z y p w'' := by
  obtain ⟨h1, h2, h3, h4, h5, h6, h7, h8, h9⟩ := h
  exact ⟨hk, h2.other ho (Ne.symm h7), h3.other ho (Ne.symm h8), h4.trans (hb _ h5), h5, h6, h7, h8, h9⟩
theorem RS.store8 (h : RS w g7 g8 g9 x y p w') {z : List Int} (hk : BlkI w'' g8 35 .u64 z) (hb : ∀ B, B ≤ g8 → Below B w' w'') (ho : ∀ j, j ≠ g8 → w''.heap[j]? = w'.heap[j]?) : RS w g7 g8 g9 x z p w'' := by
  obtain ⟨h1, h2, h3, h4, h5, h6, h7, h8, h9⟩ := h
  exact ⟨h1.other ho h7, hk, h3.other ho (Ne.symm h9), h4.trans (hb _ h6), h5, h6, h7, h8, h9⟩
/-- The bound of the squares takes the bound's place. -/
theorem RS.next (h : RS w g7 g8 g9 x y p w') {g : Nat} {q : List Int} (hk : BlkI w'' g 35 .u64 q) (hg : w'.heap.size ≤ g) (hb : Below w'.heap.size w' w'') : RS w g7 g8 g x y q w'' := by
  obtain ⟨h1, h2, h3, h4, h5, h6, h7, h8, h9⟩ := h
  have l1 := h1.lt
  have l2 := h2.lt
  exact ⟨h1.below hb l1, h2.below hb l2, hk, h4.trans (hb.mono h4.size), h5, h6, h7, by omega, by omega⟩
end
theorem RS.set7 {w w' : World} {g7 g8 g9 : Nat} {x y p : List Int} (h : RS w g7 g8 g9 x y p w') (i : Nat) (v : Int) : RS w g7 g8 g9 (x.set i v) y p (w'.setCell ⟨g7, i, none⟩ (.int .u64 v)) := by
  obtain ⟨h1, h2, h3, h4, h5, h6, h7, h8, h9⟩ := h
  exact ⟨h1.set_ i v, h2.far (Ne.symm h7) _, h3.far (Ne.symm h8) _, h4.setCell (p := ⟨g7, i, none⟩) h5 _, h5, h6, h7, h8, h9⟩
theorem RS.set8 {w w' : World} {g7 g8 g9 : Nat} {x y p : List Int} (h : RS w g7 g8 g9 x y p w') (i : Nat) (v : Int) : RS w g7 g8 g9 x (y.set i v) p (w'.setCell ⟨g8, i, none⟩ (.int .u64 v)) := by
  obtain ⟨h1, h2, h3, h4, h5, h6, h7, h8, h9⟩ := h
  exact ⟨h1.far h7 _, h2.set_ i v, h3.far (Ne.symm h9) _, h4.setCell (p := ⟨g8, i, none⟩) h6 _, h5, h6, h7, h8, h9⟩
theorem sets4 (x : List Int) (hl : x.length = 4) (a b c d : Int) : (((x.set 0 a).set 1 b).set 2 c).set 3 d = [a, b, c, d] := by
  rcases x with _ | ⟨x0, _ | ⟨x1, _ | ⟨x2, _ | ⟨x3, _ | ⟨x4, x⟩⟩⟩⟩⟩ <;> simp at hl <;> rfl
theorem RS.turn {w w' : World} {g7 g8 g9 : Nat} {x y p : List Int} (h : RS w g7 g8 g9 x y p w') (hx : x.length = 4) (hy : y.length = 4) (a b c d : Int) (q : List Int) :
    RS w g7 g8 w'.heap.size [a, b, 0, 0] [c, d, 0, 0] q (((((((((w'.setCell ⟨g7, 0, none⟩ (.int .u64 a)).setCell ⟨g7, 1, none⟩ (.int .u64 b)).setCell ⟨g7, 2, none⟩ (.int .u64 0)).setCell ⟨g7, 3, none⟩ (.int .u64 0)).setCell ⟨g8, 0, none⟩ (.int .u64 c)).setCell ⟨g8, 1, none⟩ (.int .u64 d)).setCell ⟨g8, 2, none⟩ (.int .u64 0)).setCell ⟨g8, 3, none⟩ (.int .u64 0)).alloc (Obj.cells (intsA .u64 q) 35)) := by
  have h1 := (((((((h.set7 0 a).set7 1 b).set7 2 0).set7 3 0).set8 0 c).set8 1 d).set8 2 0).set8 3 0
  rw [sets4 x hx, sets4 y hy] at h1
  obtain ⟨W, hW⟩ : ∃ W, ((((((((w'.setCell ⟨g7, 0, none⟩ (.int .u64 a)).setCell ⟨g7, 1, none⟩ (.int .u64 b)).setCell ⟨g7, 2, none⟩ (.int .u64 0)).setCell ⟨g7, 3, none⟩ (.int .u64 0)).setCell ⟨g8, 0, none⟩ (.int .u64 c)).setCell ⟨g8, 1, none⟩ (.int .u64 d)).setCell ⟨g8, 2, none⟩ (.int .u64 0)).setCell ⟨g8, 3, none⟩ (.int .u64 0)) = W := ⟨_, rfl⟩
  have hs : W.heap.size = w'.heap.size := by rw [← hW]; simp
  rw [hW] at h1 ⊢
  rw [← hs]
  exact h1.next (BlkI.new W 35 .u64 q) (Nat.le_refl _) ((Below.refl _ _).alloc (Nat.le_refl _) _)
theorem RS.mk3 (w w1 : World) (hb : Below w.heap.size w w1) (x y p : List Int) : RS w w1.heap.size (w1.heap.size + 1) (w1.heap.size + 1 + 1) x y p (((w1.alloc (Obj.cells (intsA .u64 x) 35)).alloc (Obj.cells (intsA .u64 y) 35)).alloc (Obj.cells (intsA .u64 p) 35)) := by
  have s1 : (w1.alloc (Obj.cells (intsA .u64 x) 35)).heap.size = w1.heap.size + 1 := by simp
  have s2 : ((w1.alloc (Obj.cells (intsA .u64 x) 35)).alloc (Obj.cells (intsA .u64 y) 35)).heap.size = w1.heap.size + 1 + 1 := by simp
  have k1 := BlkI.new w1 35 .u64 x
  have k2 := BlkI.new (w1.alloc (Obj.cells (intsA .u64 x) 35)) 35 .u64 y
  have k3 := BlkI.new ((w1.alloc (Obj.cells (intsA .u64 x) 35)).alloc (Obj.cells (intsA .u64 y) 35)) 35 .u64 p
  rw [s1] at k2
  rw [s2] at k3
  have := hb.size
  exact ⟨(k1.alloc _).alloc _, k2.alloc _, k3, ((hb.alloc (by omega) _).alloc (by omega) _).alloc (by omega) _, by omega, by omega, by omega, by omega, by omega⟩
theorem root_parts {i v : Nat} (h : rootOk i v = true) : lessAt [0, 0, 0, (primeN i : Int)] (mulL (mulL [constL.getD i 0, v, 0, 0] [constL.getD i 0, v, 0, 0]) [constL.getD i 0, v, 0, 0]) 4 = false ∧ lessAt [0, 0, 0, (primeN i : Int)] (mulL (mulL [constL.getD i 0 + 1, v, 0, 0] [constL.getD i 0 + 1, v, 0, 0]) [constL.getD i 0 + 1, v, 0, 0]) 4 = true := by
  unfold rootOk at h
  simpa using h
theorem side_parts {i v : Nat} (h : sideOk i v = true) : lessAt [0, 0, (primeN i : Int), 0] (mulL [startL.getD i 0, v, 0, 0] [startL.getD i 0, v, 0, 0]) 4 = false ∧ lessAt [0, 0, (primeN i : Int), 0] (mulL [startL.getD i 0 + 1, v, 0, 0] [startL.getD i 0 + 1, v, 0, 0]) 4 = true := by
  unfold sideOk at h
  simpa using h
theorem len4 (a b c d : Int) : [a, b, c, d].length = 4 := rfl
theorem size4 (a b c d : Int) : (Tryd.prog.info? 35).map (·.size) = some [a, b, c, d].length := size_q4
theorem win4 {a b c d : Int} (ha : 0 ≤ a ∧ a < 4294967296) (hb : 0 ≤ b ∧ b < 4294967296) (hc : 0 ≤ c ∧ c < 4294967296) (hd : 0 ≤ d ∧ d < 4294967296) : WIn [a, b, c, d] := by
  intro z hz
  simp only [List.mem_cons, List.not_mem_nil, or_false] at hz
  rcases hz with h | h | h | h <;> subst h <;> assumption
theorem mulL_win {a b : List Int} (ha : WIn a) (hb : WIn b) : WIn (mulL a b) := mulOut_in a b ha hb 4
theorem mulL_len (a b : List Int) : (mulL a b).length = 4 := mulOut_len a b 4
theorem win_u64 {a : List Int} (ha : WIn a) : ∀ z ∈ a, 0 ≤ z ∧ z < 18446744073709551616 := fun z hz => by have := ha z hz; omega


set_option maxRecDepth 100000 in
set_option maxHeartbeats 4000000 in
theorem of_walk (n : Int) (w : World) (n0 : 0 ≤ n) (n1 : n ≤ 255) (hk : Kst w) :
    Calls Tryd.prog 6 #[.int .u8 n] w fun e w' => e = .returned (.bool true) ∧ Below w.heap.size w w' := by
  obtain ⟨i, hin⟩ : ∃ i : Nat, n % 64 = (i : Int) := ⟨(n % 64).toNat, by omega⟩
  have hi : i < 64 := by omega
  have HIN := Lib.hid hin
  obtain ⟨p, hp⟩ : ∃ p, primeN i = p := ⟨_, rfl⟩
  have hpb := primeN_in i hi
  have HPR := Lib.hid (fun W => prime_c i hi W)
  rw [hp] at hpb HPR
  obtain ⟨C, hC⟩ : ∃ C, constN i = C := ⟨_, rfl⟩
  have hC2 : constL.getD i 0 = C := by rw [← hC]; unfold constN; rw [if_pos (by omega)]; rfl
  have hCb := const_most i hi
  rw [hC2] at hCb
  have HCC := Lib.hid (fun W (h : Kst W) => cconst_c i (by omega) (by omega) W h)
  rw [hC] at HCC
  have HROOT := Lib.hid (root_ok i hi)
  have HSIDE := Lib.hid (fun h => side_ok i h)
  have HP := Lib.hid hp
  have HC2 := Lib.hid hC2
  clear hC hC2 hp
  have HKST := Lib.hid hk
  clear hk
  go_enter Tryd.func6, Tryd.ntmps6
  go_wp2_with (first
    | (go_at_call 7; (with_reducible refine (alive4_c _ HKST.out).mono ?_); rintro e w1 ⟨rfl, hb1⟩)
    | (go_at_call 18; (with_reducible refine (HPR.out _).mono ?_); rintro e _ ⟨rfl, rfl⟩))
  clear hin
  go_loop [5] (fun t => ∃ v : Nat, 1 ≤ v ∧ v ≤ 6 ∧ v * v * v ≤ p ∧ t = .int .u64 v) (fun t => 8 - (intOf t).toNat)
  case atStart => exact ⟨1, by omega, by omega, by omega, rfl⟩
  case round =>
    obtain ⟨v, hv1, hv2, hv3, rfl⟩ := hrel
    have HV3 := Lib.hid hv3
    clear hv3
    obtain ⟨s2, hs2⟩ : ∃ s, (v + 1) * (v + 1) = s := ⟨_, rfl⟩
    obtain ⟨s3, hs3⟩ : ∃ s, s2 * (v + 1) = s := ⟨_, rfl⟩
    have b2 : s2 ≤ 7 * 7 := by rw [← hs2]; exact Nat.mul_le_mul (by omega) (by omega)
    have b3 : s3 ≤ 49 * 7 := by rw [← hs3]; exact Nat.mul_le_mul b2 (by omega)
    have e2 : IntKind.u64.wrap (((v : Int) + 1) * ((v : Int) + 1)) = (s2 : Int) := by rw [IntKind.wrap_u64, show ((v : Int) + 1) * ((v : Int) + 1) = (s2 : Int) by rw [← hs2]; simp]; omega
    have e3 : IntKind.u64.wrap ((s2 : Int) * ((v : Int) + 1)) = (s3 : Int) := by rw [IntKind.wrap_u64, show (s2 : Int) * ((v : Int) + 1) = (s3 : Int) by rw [← hs3]; simp]; omega
    have HS3 := Lib.hid (show s3 = (v + 1) * (v + 1) * (v + 1) by rw [hs2, hs3])
    clear hs2 hs3 b2
    by_cases hle : s3 ≤ p
    · have h6 : v ≤ 5 := by
        rcases Nat.lt_or_ge v 6 with h | h
        · omega
        · obtain rfl : v = 6 := by omega
          have := HS3.out; omega
      go_wp2
      go_round
      case rel => exact ⟨v + 1, by omega, by omega, by rw [← HS3.out]; exact hle, by go_num⟩
      case measure => simp [intOf]; omega
    · have HRT := Lib.hid (HROOT.out v (by omega) (by rw [HP.out]; exact HV3.out) (by rw [HP.out, ← HS3.out]; omega))
      go_wp2
      clear e2 e3 hle b3
      go_loop [6] (fun t => ∃ u : Nat, 1 ≤ u ∧ u ≤ 17 ∧ u * u ≤ p ∧ t = .int .u64 u) (fun t => 20 - (intOf t).toNat)
      case atStart => exact ⟨1, by omega, by omega, by omega, rfl⟩
      case round =>
        obtain ⟨u, hu1, hu2, hu3, rfl⟩ := hrel
        have HU3 := Lib.hid hu3
        clear hu3
        obtain ⟨s4, hs4⟩ : ∃ s, (u + 1) * (u + 1) = s := ⟨_, rfl⟩
        have b4 : s4 ≤ 18 * 18 := by rw [← hs4]; exact Nat.mul_le_mul (by omega) (by omega)
        have e4 : IntKind.u64.wrap (((u : Int) + 1) * ((u : Int) + 1)) = (s4 : Int) := by rw [IntKind.wrap_u64, show ((u : Int) + 1) * ((u : Int) + 1) = (s4 : Int) by rw [← hs4]; simp]; omega
        have HS4 := Lib.hid hs4
        clear hs4
        by_cases hle : s4 ≤ p
        · have h6 : u ≤ 16 := by
            rcases Nat.lt_or_ge u 17 with h | h
            · omega
            · obtain rfl : u = 17 := by omega
              have := HS4.out; omega
          go_wp2
          go_round
          case rel => exact ⟨u + 1, by omega, by omega, by rw [HS4.out]; exact hle, by go_num⟩
          case measure => simp [intOf]; omega
        · have HSD := Lib.hid (fun h => HSIDE.out h u (by omega) (by rw [HP.out]; exact HU3.out) (by rw [HP.out, HS4.out]; omega))
          have hCn : (C == 4294967295) = false := by rw [beq_eq_false_iff_ne]; omega
          go_wp2_with (first
            | (go_at_call 16; (with_reducible refine (HCC.out _ (HKST.out.below hb1)).mono ?_); rintro e _ ⟨rfl, rfl⟩; clear e4 hle b4))
          have hr := root_parts HRT.out
          rw [HC2.out, HP.out] at hr
          have hX : WIn [C, (v : Int), 0, 0] := win4 (by omega) (by omega) (by omega) (by omega)
          have hY : WIn [C + 1, (v : Int), 0, 0] := win4 (by omega) (by omega) (by omega) (by omega)
          have hP : WIn [0, 0, 0, (p : Int)] := win4 (by omega) (by omega) (by omega) (by omega)
          have M1 := fun W => mul_c [C, (v : Int), 0, 0] [C, (v : Int), 0, 0] rfl rfl hX hX W
          have M2 := fun W => mul_c (mulL [C, (v : Int), 0, 0] [C, (v : Int), 0, 0]) [C, (v : Int), 0, 0] (mulL_len _ _) rfl (mulL_win hX hX) hX W
          have N1 := fun W => less_c [0, 0, 0, (p : Int)] (mulL (mulL [C, (v : Int), 0, 0] [C, (v : Int), 0, 0]) [C, (v : Int), 0, 0]) rfl (mulL_len _ _) (win_u64 hP) (win_u64 (mulL_win (mulL_win hX hX) hX)) W
          have M3 := fun W => mul_c [C + 1, (v : Int), 0, 0] [C + 1, (v : Int), 0, 0] rfl rfl hY hY W
          have M4 := fun W => mul_c (mulL [C + 1, (v : Int), 0, 0] [C + 1, (v : Int), 0, 0]) [C + 1, (v : Int), 0, 0] (mulL_len _ _) rfl (mulL_win hY hY) hY W
          have N2 := fun W => less_c [0, 0, 0, (p : Int)] (mulL (mulL [C + 1, (v : Int), 0, 0] [C + 1, (v : Int), 0, 0]) [C + 1, (v : Int), 0, 0]) rfl (mulL_len _ _) (win_u64 hP) (win_u64 (mulL_win (mulL_win hY hY) hY)) W
          rw [hr.1] at N1
          rw [hr.2] at N2
          obtain ⟨W7, hW7⟩ : ∃ W7, ((w1.alloc (Obj.cells (intsA .u64 [C, (v : Int), 0, 0]) 35)).alloc (Obj.cells (intsA .u64 [C + 1, (v : Int), 0, 0]) 35)).alloc (Obj.cells (intsA .u64 [0, 0, 0, (p : Int)]) 35) = W7 := ⟨_, rfl⟩
          have HR : RS w w1.heap.size (w1.heap.size + 1) (w1.heap.size + 1 + 1) [C, (v : Int), 0, 0] [C + 1, (v : Int), 0, 0] [0, 0, 0, (p : Int)] W7 := by
            rw [← hW7]
            exact RS.mk3 w w1 hb1 _ _ _
          rw [show ((w1.alloc (Obj.cells #[.int .u64 C, .int .u64 (v : Int), .int .u64 0, .int .u64 0] 35)).alloc (Obj.cells #[.int .u64 (C + 1), .int .u64 (v : Int), .int .u64 0, .int .u64 0] 35)).alloc (Obj.cells #[.int .u64 0, .int .u64 0, .int .u64 0, .int .u64 (p : Int)] 35) = W7 from hW7]
          obtain ⟨g7, hg7⟩ : ∃ g, w1.heap.size = g := ⟨_, rfl⟩
          obtain ⟨g8, hg8⟩ : ∃ g, g7 + 1 = g := ⟨_, rfl⟩
          obtain ⟨g9, hg9⟩ : ∃ g, g8 + 1 = g := ⟨_, rfl⟩
          rw [hg7, hg8, hg9] at HR ⊢
          clear hW7 hg7 hg8 hg9 hr
          obtain ⟨X, hXe⟩ : ∃ X, [C, (v : Int), 0, 0] = X := ⟨_, rfl⟩
          obtain ⟨Y, hYe⟩ : ∃ Y, [C + 1, (v : Int), 0, 0] = Y := ⟨_, rfl⟩
          obtain ⟨P, hPe⟩ : ∃ P, [0, 0, 0, (p : Int)] = P := ⟨_, rfl⟩
          have SX := Lib.hid (show (Tryd.prog.info? 35).map (·.size) = some X.length by rw [← hXe]; exact size4 _ _ _ _)
          have SY := Lib.hid (show (Tryd.prog.info? 35).map (·.size) = some Y.length by rw [← hYe]; exact size4 _ _ _ _)
          have SP := Lib.hid (show (Tryd.prog.info? 35).map (·.size) = some P.length by rw [← hPe]; exact size4 _ _ _ _)
          have LX := Lib.hid (show X.length = 4 by rw [← hXe]; rfl)
          have LY := Lib.hid (show Y.length = 4 by rw [← hYe]; rfl)
          rw [hXe, hYe, hPe] at HR
          rw [hXe] at M1 M2 N1
          rw [hYe] at M3 M4 N2
          rw [hPe] at N1 N2
          clear hXe hYe hPe
          refine wp_region_held_drew (S := RS w g7 g8 g9 X Y P) (by kernel_rfl) (HR.drew) (fun hH => ?_)
          refine held_load 0 rfl (by kernel_rfl) (by kernel_rfl) (by kernel_rfl) (fun _ _ _ _ h => h) (by rfl) 35 (.tmp 9) rfl g9 (by kernel_rfl) 35 .u64 P (fun _ h => h.2.2.1) _ Tryd.underlying35 rfl (by exact SP.out) hH ?_
          try simp only [Act.put, List.setIfInBounds_toArray, List.set_cons_zero, List.set_cons_succ]
          refine held_load 1 rfl (by kernel_rfl) (by kernel_rfl) (by kernel_rfl) (fun _ _ _ _ h => h) (by rfl) 35 (.tmp 7) rfl g7 (by kernel_rfl) 35 .u64 X (fun _ h => h.1) _ Tryd.underlying35 rfl (by exact SX.out) hH ?_
          try simp only [Act.put, List.setIfInBounds_toArray, List.set_cons_zero, List.set_cons_succ]
          refine held_load 2 rfl (by kernel_rfl) (by kernel_rfl) (by kernel_rfl) (fun _ _ _ _ h => h) (by rfl) 35 (.tmp 7) rfl g7 (by kernel_rfl) 35 .u64 X (fun _ h => h.1) _ Tryd.underlying35 rfl (by exact SX.out) hH ?_
          try simp only [Act.put, List.setIfInBounds_toArray, List.set_cons_zero, List.set_cons_succ]
          refine held_load 4 rfl (by kernel_rfl) (by kernel_rfl) (by kernel_rfl) (fun _ _ _ _ h => h) (by rfl) 35 (.tmp 7) rfl g7 (by kernel_rfl) 35 .u64 X (fun _ h => h.1) _ Tryd.underlying35 rfl (by exact SX.out) hH ?_
          try simp only [Act.put, List.setIfInBounds_toArray, List.set_cons_zero, List.set_cons_succ]
          refine wpAnyH_ready (rs := [3]) (by kernel_rfl) (by decide) ?_
          refine AllReadyH.cons rfl (fun K hK => ?_) AllReadyH.nil
          go_simp
          refine (M1 _).mono ?_
          rintro e w11 ⟨rfl, hbw11⟩
          refine hK.out _ _ (hH.below hbw11) (fun h11 => ?_)
          clear hK K
          try simp only [Act.put, List.setIfInBounds_toArray, List.set_cons_zero, List.set_cons_succ]
          refine wpAnyH_ready (rs := [5]) (by kernel_rfl) (by decide) ?_
          refine AllReadyH.cons rfl (fun K hK => ?_) AllReadyH.nil
          go_simp
          refine (M2 _).mono ?_
          rintro e w12 ⟨rfl, hbw12⟩
          refine hK.out _ _ (h11.below hbw12) (fun h12 => ?_)
          clear hK K
          try simp only [Act.put, List.setIfInBounds_toArray, List.set_cons_zero, List.set_cons_succ]
          refine wpAnyH_ready (rs := [6]) (by kernel_rfl) (by decide) ?_
          refine AllReadyH.cons rfl (fun K hK => ?_) AllReadyH.nil
          go_simp
          refine (N1 _).mono ?_
          rintro e w13 ⟨rfl, hbw13⟩
          refine hK.out _ _ (h12.below hbw13) (fun h13 => ?_)
          clear hK K
          try simp only [Act.put, List.setIfInBounds_toArray, List.set_cons_zero, List.set_cons_succ]
          refine held_val 7 rfl (by kernel_rfl) (by kernel_rfl) (by kernel_rfl) (fun _ _ _ _ h => h) (by rfl) (.bool false) (fun W h => by go_simp) h13 ?_
          try simp only [Act.put, List.setIfInBounds_toArray, List.set_cons_zero, List.set_cons_succ]
          refine held_load 8 rfl (by kernel_rfl) (by kernel_rfl) (by kernel_rfl) (fun _ _ _ _ h => h) (by rfl) 35 (.tmp 9) rfl g9 (by kernel_rfl) 35 .u64 P (fun _ h => h.2.2.1) _ Tryd.underlying35 rfl (by exact SP.out) h13 ?_
          try simp only [Act.put, List.setIfInBounds_toArray, List.set_cons_zero, List.set_cons_succ]
          refine held_load 9 rfl (by kernel_rfl) (by kernel_rfl) (by kernel_rfl) (fun _ _ _ _ h => h) (by rfl) 35 (.tmp 8) rfl g8 (by kernel_rfl) 35 .u64 Y (fun _ h => h.2.1) _ Tryd.underlying35 rfl (by exact SY.out) h13 ?_
          try simp only [Act.put, List.setIfInBounds_toArray, List.set_cons_zero, List.set_cons_succ]
          refine held_load 10 rfl (by kernel_rfl) (by kernel_rfl) (by kernel_rfl) (fun _ _ _ _ h => h) (by rfl) 35 (.tmp 8) rfl g8 (by kernel_rfl) 35 .u64 Y (fun _ h => h.2.1) _ Tryd.underlying35 rfl (by exact SY.out) h13 ?_
          try simp only [Act.put, List.setIfInBounds_toArray, List.set_cons_zero, List.set_cons_succ]
          refine held_load 12 rfl (by kernel_rfl) (by kernel_rfl) (by kernel_rfl) (fun _ _ _ _ h => h) (by rfl) 35 (.tmp 8) rfl g8 (by kernel_rfl) 35 .u64 Y (fun _ h => h.2.1) _ Tryd.underlying35 rfl (by exact SY.out) h13 ?_
          try simp only [Act.put, List.setIfInBounds_toArray, List.set_cons_zero, List.set_cons_succ]
          refine wpAnyH_ready (rs := [11]) (by kernel_rfl) (by decide) ?_
          refine AllReadyH.cons rfl (fun K hK => ?_) AllReadyH.nil
          go_simp
          refine (M3 _).mono ?_
          rintro e w14 ⟨rfl, hbw14⟩
          refine hK.out _ _ (h13.below hbw14) (fun h14 => ?_)
          clear hK K
          try simp only [Act.put, List.setIfInBounds_toArray, List.set_cons_zero, List.set_cons_succ]
          refine wpAnyH_ready (rs := [13]) (by kernel_rfl) (by decide) ?_
          refine AllReadyH.cons rfl (fun K hK => ?_) AllReadyH.nil
          go_simp
          refine (M4 _).mono ?_
          rintro e w15 ⟨rfl, hbw15⟩
          refine hK.out _ _ (h14.below hbw15) (fun h15 => ?_)
          clear hK K
          try simp only [Act.put, List.setIfInBounds_toArray, List.set_cons_zero, List.set_cons_succ]
          refine wpAnyH_ready (rs := [14]) (by kernel_rfl) (by decide) ?_
          refine AllReadyH.cons rfl (fun K hK => ?_) AllReadyH.nil
          go_simp
          refine (N2 _).mono ?_
          rintro e w16 ⟨rfl, hbw16⟩
          refine hK.out _ _ (h15.below hbw16) (fun h16 => ?_)
          clear hK K
          try simp only [Act.put, List.setIfInBounds_toArray, List.set_cons_zero, List.set_cons_succ]
          refine held_val 15 rfl (by kernel_rfl) (by kernel_rfl) (by kernel_rfl) (fun _ _ _ _ h => h) (by rfl) (.bool false) (fun W h => by go_simp) h16 ?_
          try simp only [Act.put, List.setIfInBounds_toArray, List.set_cons_zero, List.set_cons_succ]
          refine held_val 16 rfl (by kernel_rfl) (by kernel_rfl) (by kernel_rfl) (fun _ _ _ _ h => h) (by rfl) (.bool false) (fun W h => by go_simp) h16 ?_
          try simp only [Act.put, List.setIfInBounds_toArray, List.set_cons_zero, List.set_cons_succ]
          refine wpAnyH_done (by kernel_rfl) ?_ _
          by_cases hi7 : i < 8
          · have HSO := Lib.hid (side_parts (HSD.out hi7))
            obtain ⟨D, hD⟩ : ∃ D, startL.getD i 0 = D := ⟨_, rfl⟩
            have hDb := start_most i hi7
            rw [hD] at hDb
            have hix : ∀ W, (Instr.index 24 (.agg (intsA .u32 startL)) (.int .i64 i)).run Tryd.prog W = .ok (.int .u32 D) W := by
              intro W
              obtain ⟨i0, hi0, _, hs0, _⟩ := info_parts info_u32c
              rw [← hD]
              exact run_index_arr Tryd.underlying24 Tryd.underlying22 hi0 hs0 _ _ _ _ (by omega) (by omega) (intsA_at .u32 startL i hi7) W
            have HD := Lib.hid hD
            obtain ⟨SL, hSL⟩ : ∃ S, intsA .u32 startL = S := ⟨_, rfl⟩
            have CS := Lib.hid (fun W => cstart_c W)
            rw [hSL] at hix CS
            have hi8 : (i : Int) ≤ 7 := by omega
            have H16 := Lib.hid h16
            clear hSL hD h16 h15 h14 h13 h12 h11 hH
            go_wp2_with (first
              | (go_at_call 12; (with_reducible refine (CS.out _).mono ?_); rintro e w17 ⟨rfl, hb17⟩; have h17 := H16.out.below hb17; have a0 := h17.1.cell (j := 0) (by rw [LX.out]; omega); have f0 := h17.1.frozen 0; have a1 := h17.1.cell (j := 1) (by rw [LX.out]; omega); have f1 := h17.1.frozen 1; have a2 := h17.1.cell (j := 2) (by rw [LX.out]; omega); have f2 := h17.1.frozen 2; have a3 := h17.1.cell (j := 3) (by rw [LX.out]; omega); have f3 := h17.1.frozen 3; have b0 := h17.2.1.cell (j := 0) (by rw [LY.out]; omega); have k0 := h17.2.1.frozen 0; have b1 := h17.2.1.cell (j := 1) (by rw [LY.out]; omega); have k1 := h17.2.1.frozen 1; have b2 := h17.2.1.cell (j := 2) (by rw [LY.out]; omega); have k2 := h17.2.1.frozen 2; have b3 := h17.2.1.cell (j := 3) (by rw [LY.out]; omega); have k3 := h17.2.1.frozen 3; have H17 := Lib.hid h17; have n78 := h17.2.2.2.2.2.2.1; have n87 := Ne.symm n78; clear h17))
            have ht := H17.out.turn LX.out LY.out D u (D + 1) u [0, 0, (p : Int), 0]
            have hr := HSO.out
            rw [HD.out, HP.out] at hr
            obtain ⟨W20, hW20⟩ : ∃ W20, ((((((((w17.setCell ⟨g7, 0, none⟩ (.int .u64 D)).setCell ⟨g7, 1, none⟩ (.int .u64 u)).setCell ⟨g7, 2, none⟩ (.int .u64 0)).setCell ⟨g7, 3, none⟩ (.int .u64 0)).setCell ⟨g8, 0, none⟩ (.int .u64 (D + 1))).setCell ⟨g8, 1, none⟩ (.int .u64 u)).setCell ⟨g8, 2, none⟩ (.int .u64 0)).setCell ⟨g8, 3, none⟩ (.int .u64 0)).alloc (Obj.cells (intsA .u64 [0, 0, (p : Int), 0]) 35) = W20 := ⟨_, rfl⟩
            rw [hW20] at ht
            rw [show ((((((((w17.setCell ⟨g7, 0, none⟩ (.int .u64 D)).setCell ⟨g7, 1, none⟩ (.int .u64 u)).setCell ⟨g7, 2, none⟩ (.int .u64 0)).setCell ⟨g7, 3, none⟩ (.int .u64 0)).setCell ⟨g8, 0, none⟩ (.int .u64 (D + 1))).setCell ⟨g8, 1, none⟩ (.int .u64 u)).setCell ⟨g8, 2, none⟩ (.int .u64 0)).setCell ⟨g8, 3, none⟩ (.int .u64 0)).alloc (Obj.cells #[.int .u64 0, .int .u64 0, .int .u64 (p : Int), .int .u64 0] 35) = W20 from hW20]
            obtain ⟨g10, hg10⟩ : ∃ g, w17.heap.size = g := ⟨_, rfl⟩
            rw [hg10] at ht ⊢
            have hX2 : WIn [D, (u : Int), 0, 0] := win4 (by omega) (by omega) (by omega) (by omega)
            have hY2 : WIn [D + 1, (u : Int), 0, 0] := win4 (by omega) (by omega) (by omega) (by omega)
            have hP2 : WIn [0, 0, (p : Int), 0] := win4 (by omega) (by omega) (by omega) (by omega)
            have M5 := fun W => mul_c [D, (u : Int), 0, 0] [D, (u : Int), 0, 0] rfl rfl hX2 hX2 W
            have N3 := fun W => less_c [0, 0, (p : Int), 0] (mulL [D, (u : Int), 0, 0] [D, (u : Int), 0, 0]) rfl (mulL_len _ _) (win_u64 hP2) (win_u64 (mulL_win hX2 hX2)) W
            have M6 := fun W => mul_c [D + 1, (u : Int), 0, 0] [D + 1, (u : Int), 0, 0] rfl rfl hY2 hY2 W
            have N4 := fun W => less_c [0, 0, (p : Int), 0] (mulL [D + 1, (u : Int), 0, 0] [D + 1, (u : Int), 0, 0]) rfl (mulL_len _ _) (win_u64 hP2) (win_u64 (mulL_win hY2 hY2)) W
            rw [hr.1] at N3
            rw [hr.2] at N4
            obtain ⟨X2, hXe⟩ : ∃ X, [D, (u : Int), 0, 0] = X := ⟨_, rfl⟩
            obtain ⟨Y2, hYe⟩ : ∃ Y, [D + 1, (u : Int), 0, 0] = Y := ⟨_, rfl⟩
            obtain ⟨P2, hPe⟩ : ∃ P, [0, 0, (p : Int), 0] = P := ⟨_, rfl⟩
            have SX2 := Lib.hid (show (Tryd.prog.info? 35).map (·.size) = some X2.length by rw [← hXe]; exact size4 _ _ _ _)
            have SY2 := Lib.hid (show (Tryd.prog.info? 35).map (·.size) = some Y2.length by rw [← hYe]; exact size4 _ _ _ _)
            have SP2 := Lib.hid (show (Tryd.prog.info? 35).map (·.size) = some P2.length by rw [← hPe]; exact size4 _ _ _ _)
            rw [hXe, hYe, hPe] at ht
            rw [hXe] at M5 N3
            rw [hYe] at M6 N4
            rw [hPe] at N3 N4
            have HR2 := ht
            clear hXe hYe hPe ht hr hW20 hg10 a0 a1 a2 a3 b0 b1 b2 b3 f0 f1 f2 f3 k0 k1 k2 k3
            refine wp_region_held_drew (S := RS w g7 g8 g10 X2 Y2 P2) (by kernel_rfl) (HR2.drew) (fun hH2 => ?_)
            refine held_load 0 rfl (by kernel_rfl) (by kernel_rfl) (by kernel_rfl) (fun _ _ _ _ h => h) (by rfl) 35 (.tmp 10) rfl g10 (by kernel_rfl) 35 .u64 P2 (fun _ h => h.2.2.1) _ Tryd.underlying35 rfl (by exact SP2.out) hH2 ?_
            try simp only [Act.put, List.setIfInBounds_toArray, List.set_cons_zero, List.set_cons_succ]
            refine held_load 1 rfl (by kernel_rfl) (by kernel_rfl) (by kernel_rfl) (fun _ _ _ _ h => h) (by rfl) 35 (.tmp 7) rfl g7 (by kernel_rfl) 35 .u64 X2 (fun _ h => h.1) _ Tryd.underlying35 rfl (by exact SX2.out) hH2 ?_
            try simp only [Act.put, List.setIfInBounds_toArray, List.set_cons_zero, List.set_cons_succ]
            refine held_load 2 rfl (by kernel_rfl) (by kernel_rfl) (by kernel_rfl) (fun _ _ _ _ h => h) (by rfl) 35 (.tmp 7) rfl g7 (by kernel_rfl) 35 .u64 X2 (fun _ h => h.1) _ Tryd.underlying35 rfl (by exact SX2.out) hH2 ?_
            try simp only [Act.put, List.setIfInBounds_toArray, List.set_cons_zero, List.set_cons_succ]
            refine wpAnyH_ready (rs := [3]) (by kernel_rfl) (by decide) ?_
            refine AllReadyH.cons rfl (fun K hK => ?_) AllReadyH.nil
            go_simp
            refine (M5 _).mono ?_
            rintro e w21 ⟨rfl, hbw21⟩
            refine hK.out _ _ (hH2.below hbw21) (fun h21 => ?_)
            clear hK K
            try simp only [Act.put, List.setIfInBounds_toArray, List.set_cons_zero, List.set_cons_succ]
            refine wpAnyH_ready (rs := [4]) (by kernel_rfl) (by decide) ?_
            refine AllReadyH.cons rfl (fun K hK => ?_) AllReadyH.nil
            go_simp
            refine (N3 _).mono ?_
            rintro e w22 ⟨rfl, hbw22⟩
            refine hK.out _ _ (h21.below hbw22) (fun h22 => ?_)
            clear hK K
            try simp only [Act.put, List.setIfInBounds_toArray, List.set_cons_zero, List.set_cons_succ]
            refine held_val 5 rfl (by kernel_rfl) (by kernel_rfl) (by kernel_rfl) (fun _ _ _ _ h => h) (by rfl) (.bool true) (fun W h => by go_simp) h22 ?_
            try simp only [Act.put, List.setIfInBounds_toArray, List.set_cons_zero, List.set_cons_succ]
            refine held_val 6 rfl (by kernel_rfl) (by kernel_rfl) (by kernel_rfl) (fun _ _ _ _ h => h) (by rfl) (.bool true) (fun W h => by go_simp) h22 ?_
            try simp only [Act.put, List.setIfInBounds_toArray, List.set_cons_zero, List.set_cons_succ]
            refine held_load 7 rfl (by kernel_rfl) (by kernel_rfl) (by kernel_rfl) (fun _ _ _ _ h => h) (by rfl) 35 (.tmp 10) rfl g10 (by kernel_rfl) 35 .u64 P2 (fun _ h => h.2.2.1) _ Tryd.underlying35 rfl (by exact SP2.out) h22 ?_
            try simp only [Act.put, List.setIfInBounds_toArray, List.set_cons_zero, List.set_cons_succ]
            refine held_load 8 rfl (by kernel_rfl) (by kernel_rfl) (by kernel_rfl) (fun _ _ _ _ h => h) (by rfl) 35 (.tmp 8) rfl g8 (by kernel_rfl) 35 .u64 Y2 (fun _ h => h.2.1) _ Tryd.underlying35 rfl (by exact SY2.out) h22 ?_
            try simp only [Act.put, List.setIfInBounds_toArray, List.set_cons_zero, List.set_cons_succ]
            refine held_load 9 rfl (by kernel_rfl) (by kernel_rfl) (by kernel_rfl) (fun _ _ _ _ h => h) (by rfl) 35 (.tmp 8) rfl g8 (by kernel_rfl) 35 .u64 Y2 (fun _ h => h.2.1) _ Tryd.underlying35 rfl (by exact SY2.out) h22 ?_
            try simp only [Act.put, List.setIfInBounds_toArray, List.set_cons_zero, List.set_cons_succ]
            refine wpAnyH_ready (rs := [10]) (by kernel_rfl) (by decide) ?_
            refine AllReadyH.cons rfl (fun K hK => ?_) AllReadyH.nil
            go_simp
            refine (M6 _).mono ?_
            rintro e w23 ⟨rfl, hbw23⟩
            refine hK.out _ _ (h22.below hbw23) (fun h23 => ?_)
            clear hK K
            try simp only [Act.put, List.setIfInBounds_toArray, List.set_cons_zero, List.set_cons_succ]
            refine wpAnyH_ready (rs := [11]) (by kernel_rfl) (by decide) ?_
            refine AllReadyH.cons rfl (fun K hK => ?_) AllReadyH.nil
            go_simp
            refine (N4 _).mono ?_
            rintro e w24 ⟨rfl, hbw24⟩
            refine hK.out _ _ (h23.below hbw24) (fun h24 => ?_)
            clear hK K
            try simp only [Act.put, List.setIfInBounds_toArray, List.set_cons_zero, List.set_cons_succ]
            refine held_val 12 rfl (by kernel_rfl) (by kernel_rfl) (by kernel_rfl) (fun _ _ _ _ h => h) (by rfl) (.bool true) (fun W h => by go_simp) h24 ?_
            refine held_val 13 rfl (by kernel_rfl) (by kernel_rfl) (by kernel_rfl) (fun _ _ _ _ h => h) (by rfl) (.bool true) (fun W h => by go_simp) h24 ?_
            refine wpAnyH_done (by kernel_rfl) ?_ _
            go_wp2
            go_ret
            exact ⟨rfl, h24.2.2.2.1⟩
          · have hi8 : 7 < (i : Int) := by omega
            go_wp2
            go_ret
            exact ⟨rfl, h16.2.2.2.1⟩
theorem walk (a0 : Int) (w : World) (w0 : (Lit.int .u8 a0).wf = true) (hk : Kst w) :
    Calls Tryd.prog 6 #[.int .u8 a0] w fun e w' => e = .returned (.bool true) ∧ Below w.heap.size w w' := by
  have h1 := bounds_u8 w0
  exact of_walk a0 w (by omega) (by omega) hk


set_option maxRecDepth 100000 in
theorem lifted (os : Os) (started : os.Started) (H : Type) (enc : TypeId × Value → H) :
    ReturnsInHanded {} Tryd.checked os 6 .any (fun w args => (Rows.compRootsSpec.pre enc Tryd.prog Tryd.f6 [] false w args ∧ laidMetH Tryd.prog laidK w) ∧ sizedMet enc Tryd.prog Tryd.f6 (OpenSpec.ofChange Rows.compRootsSpec) false w args) (Rows.compRootsSpec.post enc Tryd.prog Tryd.f6 false true false false) := by
  refine returnsInHanded_of_change_and (C := Tryd.checked) (X := fun w _ => laidMetH Tryd.prog laidK w) (fun _ _ _ hh h => h.of_heap hh) own started (by kernel_rfl) Tryd.func6
    (ChangeSpec.witness_shaped (enc := enc) (C := Tryd.checked) (os := os) (X := fun w _ => laidMetH Tryd.prog laidK w) false (World.doorLaid Tryd.prog 400 os) #[.int .u8 0] 8 rfl (World.shaped_of_RefB (by kernel_rfl) (by kernel_rfl)) (by kernel_rfl) (by kernel_rfl) (by kernel_rfl) (door_met os _)) ?_
  intro W base args ds gs before hval0 hW _ _ hL _
  have hval : ∀ (j : Nat) t v, Tryd.f6.params[j]? = some t → args[j]? = some v → Value.okWide Tryd.prog W .any base t v := hval0
  have hW' := hW
  obtain ⟨p, q, hA0, hV, rfl, hfz, hnd⟩ := hW
  have hA : DataW.TrodAll enc Tryd.prog W 0 (fun _ => true) true Tryd.f6.params.toList args.toList ds p := hA0
  rw [Tryd.params6] at hA hval
  obtain ⟨v0, vs0, d0, ds0, p0, q0, hargs, rfl, rfl, h0, r0⟩ := trodAll_cons hA
  obtain ⟨rfl, rfl, rfl⟩ := trodAll_nil r0
  obtain rfl : args = #[v0] := by cases args; simp_all
  obtain ⟨rfl, rfl⟩ := trodVars_none hV
  obtain ⟨a0, rfl, rfl, rfl, w0⟩ := open_int Tryd.underlying5 (hval 0 5 v0 rfl rfl) h0
  clear hA0 hval0
  refine (walk a0 W w0 (kst_of_laid hL)).mono fun e W' ⟨he, bel⟩ => ?_
  subst he
  exact ⟨_, rfl, _, _, _, [], _, [], hW', trodAll_mk1 (shut_bool Tryd.underlying4 _), (trodAll_cons_mk (shut_int Tryd.underlying5 w0) trodAll_mk0), rfl, bel.frame _, fun h => by cases h⟩

theorem over : Rows.compRootsRow.holds Tryd.pinned (OpenSpec.ofChange Rows.compRootsSpec) :=
  OpenClaim.holds_of_wide 6 Tryd.f6 rfl rfl rfl rfl rfl rfl rfl ⟨rfl, rfl, rfl, rfl, rfl⟩ rfl rfl rfl rfl rfl (by kernel_rfl) Tryd.func6 (by kernel_rfl)
    (of_decide_eq_true (by kernel_rfl)) (by unfold Func.isWrapper; first | (rw [if_pos (by decide +kernel)]; kernel_rfl) | (rw [if_neg (by decide +kernel)]; exact ⟨rfl, rfl⟩))
    (fun os started H enc _ => lifted os started H enc)

end Go.Proofs.YtjmpbmgeaeemnaaDoor.compRoots
namespace Go.Proofs.YtjmpbmgeaeemnaaDoor
theorem compRoots_holds : Rows.CompRootsCardSaid :=
  Claim7.holds_tied_plain_at .later [] [.data] true _ false
    compRoots.over (fun _ h => by cases h) (by kernel_rfl) (fun _ h => by cases h) compRoots_row_tie rfl ⟨rfl, rfl⟩ (by kernel_rfl) rfl
    (fun f fn hf hfn => by
      obtain rfl : f = 6 := Option.some.inj ((show Tryd.prog.funcNamed "drawlot/drawlotlaw04.CompRoots" = some 6 by kernel_rfl).symm.trans hf) |>.symm
      obtain rfl : fn = Tryd.f6 := (Option.some.inj (Tryd.func6.symm.trans hfn)).symm
      exact ⟨by kernel_rfl, fun j t ht => by
        rw [Tryd.params6] at ht
        have hm : t ∈ [5] := by simpa using Array.mem_of_getElem? ht
        have hall : ([5].all fun u => !Tryd.prog.wantsStandIn u) = true := by kernel_rfl
        exact (show Tryd.prog.wantsStandIn t = false by simpa using List.all_eq_true.1 hall t hm)⟩)
    (by kernel_rfl)
#print axioms compRoots_holds
end Go.Proofs.YtjmpbmgeaeemnaaDoor
