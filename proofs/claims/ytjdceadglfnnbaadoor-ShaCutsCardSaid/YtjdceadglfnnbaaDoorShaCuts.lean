/-
  However a message is cut, all that was written so far has its hash, and goes on; of up to 1000 bytes, and 20 cuts.
  Conditions: the program's table of constants reads, when the call begins, as its text lays it (the card ties that).
-/
import Derived.Test.YtjdceadglfnnbaaDoorLawH
import Derived.Test.YtjdceadglfnnbaaDoorLawG
import Derived.Test.YtjdceadglfnnbaaDoorFact
import Derived.Deep.Cut
import Derived.Deep.CutRange
import Derived.ShutString
import Derived.Test.YtjdceadglfnnbaaDoorCompK
import Derived.Test.YtjdceadglfnnbaaDoorTie
import Derived.Test.YtjdceadglfnnbaaDoorCards
import Derived.SevenTiedAt
import Derived.ChangeOld
set_option linter.unusedSimpArgs false
namespace Go.Proofs.YtjdceadglfnnbaaDoor.shaCuts
open Go.ChangeShapes Go.WideShapes Go.ChangeAt Go.RowKit
set_option linter.unusedVariables false

theorem own : ownKnob Tryd.prog.godebug = none := by kernel_rfl
theorem laidOut : laidOutB Tryd.prog = true := by kernel_rfl

theorem noint_wr (k : IntKind) (h1 : k ≠ .u32) (h2 : k ≠ .u64) (s : List Int) (A : Option Addr) (r c : Nat) (n : Int) : NoInt k (wrV s A r c n) := by
  intro j z h
  have hm := Array.mem_of_getElem? h
  unfold wrV at hm
  simp only [List.mem_toArray, List.mem_append, List.mem_map, List.mem_cons, List.not_mem_nil, or_false] at hm
  rcases hm with ⟨x, _, hx⟩ | hx | hx
  · injection hx with hx; exact h1 hx.symm
  · cases hx
  · injection hx with hx; exact h2 hx
theorem zsizeX (S : List Int) (A : Option Addr) (r c : Nat) (n : Int) (h : S.length = 8) : (wrV Z8 none 0 0 0).size = (wrV S A r c n).size := by rw [wrV_size _ rfl, wrV_size _ h]
theorem run_upto (A : Option Addr) (n c q : Nat) (hq : q ≤ c) (w : World) : (Instr.sliceAt 29 (.slice A n c) none (some (.int .i64 (q : Int))) none).run Tryd.prog w = .ok (.slice A q c) w := by
  have h1 : (0 : Int) ≤ (q : Int) := by omega
  rcases A with _ | ⟨b, off, sp⟩ <;> simp [Instr.sliceAt, Instr.slice, run_underlying Tryd.underlying29, Instr.sliceBounds, Instr.sliceBound, asIntOf, h1, go_sem] <;> (intro h; omega)
theorem run_from (A : Option Addr) (n c q : Nat) (hq : q ≤ n) (hc : n ≤ c) (w : World) : (Instr.sliceAt 29 (.slice A n c) (some (.int .i64 (q : Int))) none none).run Tryd.prog w = .ok (.slice (if c = q then A else A.map (·.add (q * 1))) (n - q) (c - q)) w := by
  have h1 : (0 : Int) ≤ (q : Int) := by omega
  have h4 : (0 : Int) ≤ (n : Int) := by omega
  simp [Instr.sliceAt, Instr.slice, run_underlying Tryd.underlying29, Instr.sliceBounds, Instr.sliceBound, asIntOf, h1, h4, go_sem]
  intro h; omega
theorem run_build_row1 (A : Option Addr) (n c : Nat) (w : World) : (Instr.buildSlice 22 1 #[(0, .slice A n c)]).run Tryd.prog w = .ok (.slice (some ⟨w.heap.size, 0, none⟩) 1 1) (w.alloc (.cells #[.slice A n c] 29)) := by
  go_simp
theorem row1_rd {w : World} {A : Option Addr} {n c : Nat} {zs : List Int} (hr : Rd .u8 w w.heap.size A n zs) (hc : n ≤ c) : RdRows (w.alloc (.cells #[.slice A n c] 29)) (w.alloc (.cells #[.slice A n c] 29)).heap.size (some ⟨w.heap.size, 0, none⟩) 1 [⟨A, n, c, zs⟩] := by
  have k2 := Blk.new w 29 #[.slice A n c]
  refine ⟨rfl, fun _ => ⟨_, 0, rfl, k2.lt, fun j r hj => ?_⟩, fun r hr' => ?_⟩
  · match j, hj with
    | 0, hj => injection hj with hj; subst hj; rw [k2.cell]; rfl
  · obtain rfl := List.mem_singleton.1 hr'
    exact ⟨(hr.alloc (Nat.le_refl _) _).fit, hc⟩
theorem step_row1 {ops : Array Oper} {o : Oper} {a : Act} {w : World} {K : Act → World → Prop} {Q : Exit → Act → World → Prop} {E : Prop} (d : Option Tmp) (hd : o.dst = d) (hw : Region.wanted o (yielded ops a.tmps) = true) (p : Operand) (ho : o.op = .buildSlice 22 1 #[(0, p)])
    (A : Option Addr) (n c : Nat) (zs : List Int) (hp : a.eval p = .slice A n c) (hr : Rd .u8 w w.heap.size A n zs) (hc : n ≤ c)
    (h : ∀ g w', Fx [.rows (some ⟨g, 0, none⟩) 1 [⟨A, n, c, zs⟩]] w' → Below w.heap.size w w' → K (a.put d (.slice (some ⟨g, 0, none⟩) 1 1)) w') :
    if Region.wanted o (yielded ops a.tmps) = true then Oper.wp Tryd.prog o a w K Q else E := by
  subst hd
  rw [if_pos hw]
  have hr1 := run_build_row1 A n c w
  have he : (execOp a.eval o).run Tryd.prog w = .ok (.value (.slice (some ⟨w.heap.size, 0, none⟩) 1 1)) (w.alloc (.cells #[.slice A n c] 29)) := by
    unfold execOp
    simp only [ho, List.map_toArray, List.map_cons, List.map_nil, hp]
    change ((Instr.buildSlice 22 1 #[(0, .slice A n c)]) >>= fun v => pure (Next.value v)).run Tryd.prog w = _
    simp only [Sem.run_bind, hr1, Result.andThen_ok, Sem.run_pure]
  unfold Oper.wp
  rw [he]
  exact h _ _ ⟨row1_rd hr hc, trivial⟩ ((Below.refl _ _).alloc (Nat.le_refl _) _)
theorem run_iaddr (A : Option Addr) (m c i b1 off1 : Nat) (hA : A = some ⟨b1, off1, none⟩) (hi : i < m) (w : World) : (Instr.indexAt 47 (.slice A m c) (.int .i64 (i : Int))).run Tryd.prog w = .ok (.pointer (some ⟨b1, off1 + i, none⟩)) w := by
  subst hA
  have h1 : (0 : Int) ≤ (i : Int) := by omega
  have h2 : (i : Int) < (m : Int) := by omega
  go_simp
theorem join1 (A : Option Addr) (n c : Nat) (zs : List Int) : joinL [⟨A, n, c, zs⟩] = zs := by simp [joinL]
theorem ok1 (A : Option Addr) (n c : Nat) (zs : List Int) (hn : zs.length ≤ 1000) (hz : ∀ z ∈ zs, 0 ≤ z ∧ z < 256) : RowsOk [⟨A, n, c, zs⟩] := ⟨by simp, fun r hr => by
  obtain rfl := List.mem_singleton.1 hr
  exact ⟨hn, hz⟩⟩
theorem qsum_one (A : Option Addr) (n c : Nat) (zs : List Int) (w : World) (hr : Rd .u8 w w.heap.size A n zs) (hc : n ≤ c) (hn : n ≤ 1000) (hz : ∀ z ∈ zs, 0 ≤ z ∧ z < 256) (hk : Kst w) :
    Calls Tryd.prog 9 #[.slice (some ⟨w.heap.size, 0, none⟩) 1 1] (w.alloc (.cells #[.slice A n c] 29)) fun e w' => e = .returned (.agg (intsA .u8 (shaL zs))) ∧ Below w.heap.size w w' := by
  have hb : Below w.heap.size w (w.alloc (.cells #[.slice A n c] 29)) := (Below.refl _ _).alloc (Nat.le_refl _) _
  have h := qsum_c (some ⟨w.heap.size, 0, none⟩) 1 1 _ _ (row1_rd hr hc) (Nat.le_refl _) (ok1 A n c zs (by rw [hr.len]; exact hn) hz) (hk.below hb)
  rw [join1] at h
  refine h.mono ?_
  rintro e w' ⟨rfl, hb'⟩
  exact ⟨rfl, hb.trans (hb'.mono hb.size)⟩
theorem wr_take (b : List Int) (k q : Nat) : wrS (b.take (k + q)) = nextS (wrS (b.take k)) (wrR (b.take k)) ((b.drop k).take q) ∧ wrR (b.take (k + q)) = nextR (wrR (b.take k)) ((b.drop k).take q) := by
  rw [List.take_add]
  exact ⟨wrS_next _ _, wrR_next _ _⟩
/-- k bytes are written, the rest is at p. -/
def CutI (w : World) (g5 : Nat) (a0 : Option Addr) (L : Nat) (b : List Int) (a1 : Option Addr) (m : Nat) (ats : List Int) (k : Nat) (p : Value) (W : World) : Prop :=
  ∃ Ak ck A c, p = .slice Ak (L - k) ck ∧ L - k ≤ ck ∧ (wrR (b.take k)).length ≤ c ∧ Fx [.blk g5 36 (wrV (wrS (b.take k)) A (wrR (b.take k)).length c (k : Int)), .rd .u8 A (wrR (b.take k)).length (wrR (b.take k)), .rd .u8 Ak (L - k) (b.drop k), .rd .u8 a0 L b, .rd .u16 a1 m ats, .bel w] W
set_option maxRecDepth 100000 in
set_option maxHeartbeats 10000000 in
theorem of_walk (a0 : Option Addr) (L c0 : Nat) (b : List Int) (a1 : Option Addr) (m c1 : Nat) (ats : List Int) (w : World) (hr : Rd .u8 w w.heap.size a0 L b) (hc : L ≤ c0) (hm : c0 ≤ maxLen) (hbi : ∀ z ∈ b, 0 ≤ z ∧ z < 256)
    (hr1 : Rd .u16 w w.heap.size a1 m ats) (hc1 : m ≤ c1) (hm1 : c1 ≤ maxLen) (hai : ∀ z ∈ ats, 0 ≤ z ∧ z < 65536) (hkst : Kst w) :
    Calls Tryd.prog 5 #[.slice a0 L c0, .slice a1 m c1] w fun e w' => e = .returned (.bool true) ∧ Below w.heap.size w w' := by
  have HKST := Lib.hid hkst
  have hL63 : L ≤ 9223372036854775807 := by unfold maxLen at hm; omega
  have hm63 : m ≤ 9223372036854775807 := by unfold maxLen at hm1; omega
  by_cases hL : 1000 < L
  · clear hr hr1
    go_enter Tryd.func5, Tryd.ntmps5
    go_wp2_with (go_at_call 7; (with_reducible refine (alive5_c _ HKST.out).mono ?_); rintro e w1 ⟨rfl, hb1⟩)
    go_ret
    exact ⟨rfl, hb1⟩
  by_cases hm20 : 20 < m
  · clear hr hr1
    go_enter Tryd.func5, Tryd.ntmps5
    go_wp2_with (go_at_call 7; (with_reducible refine (alive5_c _ HKST.out).mono ?_); rintro e w1 ⟨rfl, hb1⟩)
    go_ret
    exact ⟨rfl, hb1⟩
  have hbl := hr.len
  have hal := hr1.len
  have F0 := Lib.hid (show Fx [.rd .u8 a0 L b, .rd .u16 a1 m ats, .bel w] w from ⟨hr, hr1, Below.refl _ _, trivial⟩)
  have SS := Lib.hid (sizedW startL rfl none 0 0 0)
  have OS := Lib.hid (wrV_ones startL none 0 0 0)
  have ZS := Lib.hid (zsizeX startL none 0 0 0 rfl)
  have HSA := Lib.hid (fun W h (hk : Kst W) => qsum_one a0 L c0 b W h hc (by omega) hbi hk)
  have HSB := Lib.hid (fun W h => rsum_c a0 c0 L b W h hc (by omega) hbi)
  have ES := Lib.hid (fun W => same_hash (shaL b) (shaL_len _) W)
  obtain ⟨RS, hRS⟩ : ∃ X, shaL b = X := ⟨_, rfl⟩
  rw [hRS] at HSA HSB ES
  have CI0 : wrV (wrS (b.take 0)) none (wrR (b.take 0)).length 0 ((0 : Nat) : Int) = wrV startL none 0 0 0 := by rw [List.take_zero]; rfl
  have HCI := Lib.hid CI0
  have HWR0 := Lib.hid (show wrR (b.take 0) = [] by rw [List.take_zero]; rfl)
  have HBI := Lib.hid hbi
  have HAI := Lib.hid hai
  have HBL := Lib.hid hbl
  have HAL := Lib.hid hal
  have HC := Lib.hid hc
  clear hr hr1 hkst hRS CI0 hbi hai hbl hal hm hm1
  go_enter Tryd.func5, Tryd.ntmps5
  go_wp2_with (first
    | (go_at_call 7; (with_reducible refine (alive5_c _ HKST.out).mono ?_); rintro e w1 ⟨rfl, hb1⟩; have F1 := Lib.hid (F0.out.below hb1))
    | (go_at_call 20; (with_reducible refine (qnew_c _).mono ?_); rintro e w2 ⟨rfl, hb2⟩; have F2 := Lib.hid (F1.out.below hb2))
    | ((with_reducible refine at_any ?_); (with_reducible refine at_dst 5 rfl ?_); (with_reducible refine wpList_alloc_any rfl 36 rfl (wrV Z8 none 0 0 0) zero_wr ?_); intro w3 k3 hs3 hb3)
    | ((with_reducible refine at_any ?_); (with_reducible refine at_store 5 rfl ?_); (with_reducible refine wpList_store_any rfl 36 (.tmp 5) (.tmp 23) rfl w2.heap.size rfl 36 (wrV Z8 none 0 0 0) (wrV startL none 0 0 0) k3.out rfl ZS.out SS.out OS.out ?_); intro w4 k4 hs4 hb4 ho4))
  have F4 : Fx [.rd .u8 a0 L b, .rd .u16 a1 m ats, .bel w] w4 := F2.out.below (hb3.trans (hb4 _ (Nat.le_refl _)))
  have K4 := k4.out
  have HG5 := Lib.hid (show w.heap.size ≤ w2.heap.size from F2.out.2.2.1.size)
  obtain ⟨g5, hg5⟩ : ∃ g, w2.heap.size = g := ⟨_, rfl⟩
  rw [hg5] at K4 HG5
  rw [hg5]
  have HC0 : CutI w g5 a0 L b a1 m ats 0 (.slice a0 L c0) w4 := by
    refine ⟨a0, c0, none, 0, by rw [Nat.sub_zero], by rw [Nat.sub_zero]; exact HC.out, by rw [HWR0.out]; exact Nat.le_refl _, ?_⟩
    rw [HCI.out, HWR0.out, Nat.sub_zero, List.drop_zero]
    exact ⟨K4, Rd.none_, F4.1, F4⟩
  clear hb1 F1 hb2 F2 k3 hs3 hb3 k4 hs4 hb4 ho4 K4 F4 hg5
  go_loopw [6, 7] (fun p v wr => ∃ (i k : Nat), i ≤ m + 1 ∧ k ≤ L ∧ (m < i → k = L) ∧ v = .int .i64 i ∧ CutI w g5 a0 L b a1 m ats k p wr) (fun _ v _ => m + 1 - (intOf v).toNat)
  case atStart => exact ⟨0, 0, by omega, by omega, by omega, rfl, HC0⟩
  case round =>
    clear HC0
    obtain ⟨i, k, hi, hk, hik, rfl, Ak, ck, A, c, rfl, hck, hcc, F⟩ := hrel
    by_cases him : i ≤ m
    · obtain ⟨j, hj⟩ : ∃ j, L - k = j := ⟨_, rfl⟩
      have hjk : k + j = L := by omega
      rw [hj] at hck F ⊢
      have hwl := wrR_len (b.take k)
      have htl : (b.take k).length = k := by rw [List.length_take, HBL.out]; omega
      rw [htl] at hwl
      have hsl := wrS_len (b.take k)
      have hsi := wrS_in (b.take k)
      have hri := wrR_in (b.take k) (fun z h => HBI.out z (List.mem_of_mem_take h))
      have hnx := wr_take b k
      have hxi : ∀ z ∈ b.drop k, 0 ≤ z ∧ z < 256 := fun z h => HBI.out z (List.mem_of_mem_drop h)
      obtain ⟨x, hx⟩ : ∃ x, b.drop k = x := ⟨_, rfl⟩
      obtain ⟨σ, hσ⟩ : ∃ x, wrS (b.take k) = x := ⟨_, rfl⟩
      obtain ⟨ρ, hρ⟩ : ∃ x, wrR (b.take k) = x := ⟨_, rfl⟩
      rw [hσ, hρ, hx] at F
      rw [hρ] at hcc hwl hri
      rw [hσ] at hsl hsi
      rw [hσ, hρ, hx] at hnx
      rw [hx] at hxi
      obtain ⟨u, hu⟩ : ∃ u, ρ.length = u := ⟨_, rfl⟩
      rw [hu] at F hcc hwl
      have SV := Lib.hid (sizedW σ hsl A u c (k : Int))
      have HNV8 := Lib.hid (noint_wr .u8 (by decide) (by decide) σ A u c (k : Int))
      have HNV16 := Lib.hid (noint_wr .u16 (by decide) (by decide) σ A u c (k : Int))
      have HLV := Lib.hid (wrV_size σ hsl A u c (k : Int))
      have hyes : rightB u (k : Int) = true := by unfold rightB; rw [decide_eq_true_iff]; omega
      have HQW := Lib.hid (fun W q ck' y g h1 h2 (h3 : q ≤ 1000) (h4 : y.length = q) (h5 : ∀ z ∈ y, 0 ≤ z ∧ z < 256) h6 => qwrite_c σ ρ hsl hsi A u c (k : Int) (by omega) hcc (by omega) (some ⟨g, 0, none⟩) 1 1 [⟨Ak, q, ck', y⟩] hyes (by rw [join1]; omega) W h1 hri h2 (Nat.le_refl _) (ok1 _ _ _ _ (by omega) h5) h6)
      obtain ⟨V, hV⟩ : ∃ V, wrV σ A u c (k : Int) = V := ⟨_, rfl⟩
      rw [hV] at F SV HQW HNV8 HNV16 HLV
      have F5 := F
      have HXI := Lib.hid hxi
      have HNX := Lib.hid hnx
      have HX := Lib.hid hx
      have e30 : IntKind.i64.wrap ((i : Int) + 1) = ((i + 1 : Nat) : Int) := by rw [IntWalk.i64_in _ (by omega)]; omega
      have q0 : (0 : Int) ≤ (i : Int) ∧ (i : Int) ≤ (m : Int) := by omega
      clear hV hx hσ hρ hu F hxi hnx hri hsi hsl hyes htl hj
      have hqq : ∃ q : Nat, q ≤ j ∧ (i = m → q = j) ∧ (i < m → ∃ b1 off1 t, a1 = some ⟨b1, off1, none⟩ ∧ wr.cell? ⟨b1, off1 + i, none⟩ = some (.int .u16 t) ∧ 0 ≤ t ∧ t < 65536 ∧ t % ((j : Int) + 1) = (q : Int)) := by
        by_cases hi2 : i < m
        · obtain ⟨b1, off1, ha1, hb1, hcell⟩ := Rd.at_ F5.2.2.2.2.1 (by omega)
          have c1 := hcell i hi2
          have hz : 0 ≤ ats.getD i 0 ∧ ats.getD i 0 < 65536 := by
            have h1 : i < ats.length := by rw [HAL.out]; exact hi2
            simp [h1]; exact HAI.out _ (List.getElem_mem h1)
          obtain ⟨t, ht⟩ : ∃ t, ats.getD i 0 = t := ⟨_, rfl⟩
          rw [ht] at c1 hz
          obtain ⟨q, hq⟩ : ∃ q : Nat, t % ((j : Int) + 1) = (q : Int) := ⟨(t % ((j : Int) + 1)).toNat, by have := Int.emod_nonneg t (show (j : Int) + 1 ≠ 0 by omega); omega⟩
          have hqj : (q : Int) < (j : Int) + 1 := by rw [← hq]; exact Int.emod_lt_of_pos t (by omega)
          exact ⟨q, by omega, by omega, fun _ => ⟨b1, off1, t, ha1, c1, hz.1, hz.2, hq⟩⟩
        · exact ⟨j, Nat.le_refl _, fun _ => rfl, fun h => absurd h hi2⟩
      obtain ⟨q, hqj, hqm, hqi⟩ := hqq
      by_cases hi2 : i < m
      all_goals
        first
          | (obtain ⟨b1, off1, t, ha1, cu, t0, t1, hq⟩ := hqi hi2
             have ej : IntKind.i64.wrap ((j : Int) + 1) = (j : Int) + 1 := by rw [IntWalk.i64_in _ (by omega)]
             have et : IntKind.i64.wrap t = t := by rw [IntWalk.i64_in _ (by omega)]
             have hqt : Int.tmod t ((j : Int) + 1) = (q : Int) := by rw [Int.tmod_eq_emod_of_nonneg t0]; exact hq
             have hj0 : ¬ (j : Int) + 1 = 0 := by omega
             have q1 : (i : Int) < (m : Int) := by omega
             have ewq : IntKind.i64.wrap (q : Int) = (q : Int) := by rw [IntWalk.i64_in _ (by omega)]
             have hia := fun W => run_iaddr a1 m c1 i b1 off1 ha1 hi2 W
             go_upto_region 13 with fail
             clear ej et hqt hj0 q1 ewq cu t0 t1 hq hia ha1)
          | (have q1 : ¬ (i : Int) < (m : Int) := by omega
             go_upto_region 13 with fail
             rw [show (j : Int) = (q : Int) by omega]
             clear q1)
        clear hqi hi2
        obtain ⟨kq, hkq⟩ : ∃ kq, k + q = kq := ⟨_, rfl⟩
        obtain ⟨y, hy⟩ : ∃ y, x.take q = y := ⟨_, rfl⟩
        have hyl : y.length = q := by rw [← hy, List.length_take, ← HX.out, List.length_drop, HBL.out]; omega
        have hyi : ∀ z ∈ y, 0 ≤ z ∧ z < 256 := by rw [← hy]; exact fun z h => HXI.out z (List.mem_of_mem_take h)
        have hnq := HNX.out q
        rw [hkq, hy] at hnq
        have htl2 : (b.take kq).length = kq := by rw [List.length_take, HBL.out]; omega
        have hwl2 := wrR_len (b.take kq)
        rw [htl2] at hwl2
        have hsl2 := wrS_len (b.take kq)
        have hsi2 := wrS_in (b.take kq)
        have hri2 := wrR_in (b.take kq) (fun z h => HBI.out z (List.mem_of_mem_take h))
        have hfin := sha_fin (b.take kq)
        rw [htl2] at hfin
        have hHl := shaL_len (b.take kq)
        have HRS := Lib.hid (fun W h => rsum_c a0 c0 kq (b.take kq) W h (by have := HC.out; omega) (by omega) (fun z h => HBI.out z (List.mem_of_mem_take h)))
        have HQW2 := Lib.hid (fun W g h1 h2 h6 => HQW.out W q ck y g h1 h2 (by omega) hyl hyi h6)
        rw [join1, hyl, ← hnq.1, ← hnq.2] at HQW2
        have HREL1 := Lib.hid (fun (An : Option Addr) (jn cn : Nat) (A9 : Option Addr) (c9 : Nat) (W : World) (h1 : jn = L - kq) (h2 : jn ≤ cn) (h3 : (wrR (b.take kq)).length ≤ c9) (h4 : Blk W g5 36 (wrV (wrS (b.take kq)) A9 (wrR (b.take kq)).length c9 (kq : Int))) (h5 : Rd .u8 W W.heap.size A9 (wrR (b.take kq)).length (wrR (b.take kq))) (h6 : Rd .u8 W W.heap.size An jn (b.drop kq)) (h7 : Fx [.rd .u8 a0 L b, .rd .u16 a1 m ats, .bel w] W) =>
          (show CutI w g5 a0 L b a1 m ats kq (.slice An jn cn) W from ⟨An, cn, A9, c9, by rw [h1], by rw [← h1]; exact h2, h3, by rw [← h1]; exact ⟨h4, h5, h6, h7⟩⟩))
        obtain ⟨H, hH⟩ : ∃ X, shaL (b.take kq) = X := ⟨_, rfl⟩
        obtain ⟨σ2, hσ2⟩ : ∃ x, wrS (b.take kq) = x := ⟨_, rfl⟩
        obtain ⟨ρ2, hρ2⟩ : ∃ x, wrR (b.take kq) = x := ⟨_, rfl⟩
        rw [hσ2, hρ2] at hfin HQW2 HREL1
        rw [hσ2] at hsl2 hsi2
        rw [hρ2] at hwl2 hri2
        rw [hH] at hfin hHl HRS
        obtain ⟨N2, hN2⟩ : ∃ N : Int, (kq : Int) = N := ⟨_, rfl⟩
        have hkN : (k : Int) + (q : Int) = N2 := by rw [← hN2, ← hkq]; omega
        rw [hkN] at HQW2
        rw [hN2] at hfin HREL1
        have hyes2 : rightB ρ2.length N2 = true := by unfold rightB; rw [decide_eq_true_iff]; omega
        have HFI := Lib.hid (fun W A9 c9 h1 h2 h3 => qfin_c σ2 ρ2 hsl2 hsi2 A9 ρ2.length c9 N2 (by omega) h1 (by omega) hyes2 W h2 hri2 h3)
        rw [hfin] at HFI
        have HSL2 := Lib.hid hsl2
        have HWT := Lib.hid (fun W g (h1 : Rd .u8 W W.heap.size A u ρ) (h2 : Below w.heap.size w W) h3 => HQW2.out W g h1 h3 (HKST.out.below h2))
        have HRDY := Lib.hid (fun W (h : Rd .u8 W W.heap.size Ak j x) => (show Rd .u8 W W.heap.size Ak q y by have := h.upto hqj; rwa [hy] at this))
        have hqck : q ≤ ck := by omega
        have RUP := Lib.hid (fun W => run_upto Ak j ck q hqck W)
        have hkL : kq ≤ L := by omega
        have RU2 := Lib.hid (fun W => run_upto a0 L c0 kq (by have := HC.out; omega) W)
        have HSUM := Lib.hid (fun W (h : Rd .u8 W W.heap.size a0 L b) => HRS.out W (h.upto hkL))
        have RFR := Lib.hid (fun W => run_from Ak j ck q hqj hck W)
        have HRDN := Lib.hid (fun W (h : Rd .u8 W W.heap.size Ak j x) => h.from_ (i := q) (cap := ck) hqj hck)
        obtain ⟨An, hAn⟩ : ∃ An, (if ck = q then Ak else Ak.map (·.add (q * 1))) = An := ⟨_, rfl⟩
        rw [hAn] at RFR HRDN
        rw [show x.drop q = b.drop kq by rw [← HX.out, List.drop_drop, hkq]] at HRDN
        obtain ⟨jn, hjn⟩ : ∃ jn, j - q = jn := ⟨_, rfl⟩
        obtain ⟨cn, hcn⟩ : ∃ cn, ck - q = cn := ⟨_, rfl⟩
        rw [hjn, hcn] at RFR
        rw [hjn] at HRDN
        have HJN := Lib.hid (show jn = L - kq ∧ jn ≤ cn by omega)
        have HIK := Lib.hid (show m < i + 1 → kq = L by intro h; have := hqm (by omega); omega)
        have e13 : IntKind.i64.wrap ((L : Int) - (j : Int)) = (k : Int) := by rw [IntWalk.i64_in _ (by omega)]; omega
        have e15 : IntKind.i64.wrap ((k : Int) + (q : Int)) = (kq : Int) := by rw [IntWalk.i64_in _ (by omega)]; omega
        have EH := Lib.hid (fun W => same_hash H hHl W)
        have SH := Lib.hid (hash_size H hHl)
        have SHL := Lib.hid (show (Tryd.prog.info? 26).map (·.size) = some H.length by rw [hHl]; exact size_hash)
        obtain ⟨Z, hZ⟩ : ∃ Z : List Int, List.replicate 32 0 = Z := ⟨_, rfl⟩
        have zero_h := zero_hash
        rw [hZ] at zero_h
        have LZH := Lib.hid (show Z.length = H.length by rw [hHl, ← hZ]; simp)
        have hkL2 := Lib.hid hkL
        clear HQW HRS HQW2 hnq htl2 hwl2 hsl2 hsi2 hri2 hfin hHl hH hσ2 hρ2 hN2 hkN hyes2 hyl hyi hy hAn hjn hcn hZ hqm HNX HXI hkq
        go_cut [9, 10] from 46 to 55 (fun s9 s10 wx => ∃ (g9 : Nat) (A9 : Option Addr) (c9 : Nat), s9 = .pointer (some ⟨g9, 0, none⟩) ∧ s10 = .int .i64 0 ∧ ρ2.length ≤ c9 ∧ g5 ≠ g9 ∧ Fx [.blk g9 36 (wrV σ2 A9 ρ2.length c9 N2), .rd .u8 A9 ρ2.length ρ2, .blk g5 36 V, .rd .u8 A u ρ, .rd .u8 Ak j x, .rd .u8 a0 L b, .rd .u16 a1 m ats, .bel w] wx)
        case first =>
          refine wp_region_held_drew (S := (Fx [.blk g5 36 V, .rd .u8 A u ρ, .rd .u8 Ak j x, .rd .u8 a0 L b, .rd .u16 a1 m ats, .bel w])) (by kernel_rfl) (F5.drew) (fun hH => ?_)
          refine wpAnyH_letter #[false, false, false, false, false, false, false, false, false, false, false, false] (by kernel_rfl) (fun _ _ d _ _ h => by cases d <;> exact h) (fun QL HQ1 HQ2 => ?_)
          refine held_row 0 (some 47) rfl (by kernel_rfl) (by kernel_rfl) (by kernel_rfl) (by kernel_rfl) (fun c a v w h => HQ2.out c a _ v w h) (by kernel_rfl) 36 (.tmp 5) rfl g5 (by kernel_rfl) 36 V (fun _ h => h.1) _ Tryd.underlying36 rfl SV.out hH ?_
          try simp only [Act.put, List.setIfInBounds_toArray, List.set_cons_zero, List.set_cons_succ]
          refine held_v 1 (some 48) rfl (by kernel_rfl) (by kernel_rfl) (by kernel_rfl) (by kernel_rfl) (fun c a v w h => HQ2.out c a _ v w h) (by kernel_rfl) (.slice Ak j ck) (fun W h => by kernel_rfl) hH ?_
          try simp only [Act.put, List.setIfInBounds_toArray, List.set_cons_zero, List.set_cons_succ]
          refine held_v 2 (some 49) rfl (by kernel_rfl) (by kernel_rfl) (by kernel_rfl) (by kernel_rfl) (fun c a v w h => HQ2.out c a _ v w h) (by kernel_rfl) (.int .i64 (q : Int)) (fun W h => by kernel_rfl) hH ?_
          try simp only [Act.put, List.setIfInBounds_toArray, List.set_cons_zero, List.set_cons_succ]
          refine held_v 3 (some 50) rfl (by kernel_rfl) (by kernel_rfl) (by kernel_rfl) (by kernel_rfl) (fun c a v w h => HQ2.out c a _ v w h) (by kernel_rfl) (.slice Ak q ck) (fun W h => by have p := RUP.out W; go_simp) hH ?_
          try simp only [Act.put, List.setIfInBounds_toArray, List.set_cons_zero, List.set_cons_succ]
          refine wpAnyH_ready (rs := [4, 9]) (by kernel_rfl) (by decide) ?_
          refine AllReadyH.cons rfl (fun K hK => ?_) (AllReadyH.cons rfl (fun K hK => ?_) AllReadyH.nil)
          · refine step_row1 (some 51) (by kernel_rfl) (by kernel_rfl) (.tmp 50) rfl Ak q ck y (by kernel_rfl) (HRDY.out _ hH.2.2.1) hqck ?_
            intro gr42 w41 hrw41 hbw41
            refine hK.out _ _ (hH.below hbw41) (fun hw41 => ?_)
            clear hK K
            try simp only [Act.put, List.setIfInBounds_toArray, List.set_cons_zero, List.set_cons_succ]
            refine wpAnyH_ready (rs := [5, 9]) (by kernel_rfl) (by decide) ?_
            refine AllReadyH.cons rfl (fun K hK => ?_) (AllReadyH.cons rfl (fun K hK => ?_) AllReadyH.nil)
            · refine step_call (some 52) (by kernel_rfl) (by kernel_rfl) _ _ (by kernel_rfl) _ (HWT.out _ _ hw41.2.1 hw41.2.2.2.2.2.1 hrw41.1) ?_
              rintro e w43 ⟨A9, c9, rfl, hr9, hc9, hbw43⟩
              have ex44 : Fx [.rd .u8 A9 ρ2.length ρ2] w43 := ⟨hr9, trivial⟩
              refine ⟨_, rfl, ?_⟩
              refine hK.out _ _ (hw41.below hbw43) (fun hw43 => ?_)
              clear hK K
              try simp only [Act.put, List.setIfInBounds_toArray, List.set_cons_zero, List.set_cons_succ]
              refine held_v 6 (some 46) rfl (by kernel_rfl) (by kernel_rfl) (by kernel_rfl) (by kernel_rfl) (fun c a v w h => HQ2.out c a _ v w h) (by kernel_rfl) (.tuple #[.agg (wrV σ2 A9 ρ2.length c9 N2), .int .i64 0]) (fun W h => by kernel_rfl) hw43 ?_
              try simp only [Act.put, List.setIfInBounds_toArray, List.set_cons_zero, List.set_cons_succ]
              refine held_v 7 (some 53) rfl (by kernel_rfl) (by kernel_rfl) (by kernel_rfl) (by kernel_rfl) (fun c a v w h => HQ2.out c a _ v w h) (by kernel_rfl) (.agg (wrV σ2 A9 ρ2.length c9 N2)) (fun W h => by kernel_rfl) hw43 ?_
              try simp only [Act.put, List.setIfInBounds_toArray, List.set_cons_zero, List.set_cons_succ]
              refine held_v 8 (some 54) rfl (by kernel_rfl) (by kernel_rfl) (by kernel_rfl) (by kernel_rfl) (fun c a v w h => HQ2.out c a _ v w h) (by kernel_rfl) (.int .i64 0) (fun W h => by kernel_rfl) hw43 ?_
              try simp only [Act.put, List.setIfInBounds_toArray, List.set_cons_zero, List.set_cons_succ]
              refine wpAnyH_ready (rs := [9]) (by kernel_rfl) (by decide) ?_
              refine AllReadyH.cons rfl (fun K hK => ?_) AllReadyH.nil
              refine step_alloc (some 9) (by kernel_rfl) (by kernel_rfl) 36 rfl (wrV Z8 none 0 0 0) zero_wr ?_
              intro w45 hkw45 hsw45 hbw45
              obtain ⟨g9, hg9⟩ : ∃ g, w43.heap.size = g := ⟨_, rfl⟩
              have q9 : g5 ≠ g9 ∧ w.heap.size ≤ g9 := by have a1 := Blk.lt hw43.1; have a4 := Below.size hw43.2.2.2.2.2.1; omega
              rw [hg9] at hkw45
              rw [hg9]
              have ex46 := ex44.below hbw45
              have ex47 : Fx [.blk g9 36 (wrV Z8 none 0 0 0)] w45 := ⟨hkw45.out, trivial⟩
              refine hK.out _ _ (hw43.below hbw45) (fun hw45 => ?_)
              clear hK K
              try simp only [Act.put, List.setIfInBounds_toArray, List.set_cons_zero, List.set_cons_succ]
              refine wpAnyH_ready (rs := [10]) (by kernel_rfl) (by decide) ?_
              refine AllReadyH.cons rfl (fun K hK => ?_) AllReadyH.nil
              refine step_store none (by kernel_rfl) (by kernel_rfl) 36 (.tmp 9) (.tmp 53) rfl g9 (by kernel_rfl) 36 (wrV Z8 none 0 0 0) (wrV σ2 A9 ρ2.length c9 N2) ex47.1 (by kernel_rfl) (zsizeX _ _ _ _ _ HSL2.out) (sizedW σ2 HSL2.out _ _ _ _) (wrV_ones _ _ _ _ _) ?_
              intro w48 hkw48 hsw48 hbw48 how48
              have ex49 := ex46.store ex47.1 ⟨(noint_wr .u8 (by decide) (by decide) _ _ _ _ _), trivial⟩ hsw48.out hbw48 how48
              have ex50 : Fx [.blk g9 36 (wrV σ2 A9 ρ2.length c9 N2)] w48 := ⟨hkw48.out, trivial⟩
              refine hK.out _ _ (hw45.store ex47.1 ⟨q9.1, (noint_wr .u8 (by decide) (by decide) _ _ _ _ _), (noint_wr .u8 (by decide) (by decide) _ _ _ _ _), (noint_wr .u8 (by decide) (by decide) _ _ _ _ _), (noint_wr .u16 (by decide) (by decide) _ _ _ _ _), q9.2, trivial⟩ hsw48.out hbw48 how48) (fun hw48 => ?_)
              clear hK K
              try simp only [Act.put, List.setIfInBounds_toArray, List.set_cons_zero, List.set_cons_succ]
              refine held_v 11 (some 10) rfl (by kernel_rfl) (by kernel_rfl) (by kernel_rfl) (by kernel_rfl) (fun c a v w h => HQ2.out c a _ v w h) (by kernel_rfl) (.int .i64 0) (fun W h => by kernel_rfl) hw48 ?_
              try simp only [Act.put, List.setIfInBounds_toArray, List.set_cons_zero, List.set_cons_succ]
              refine wpAnyH_done (by kernel_rfl) ?_ _
              refine HQ1.out _ _ ?_
              clear HQ1 HQ2
              go_wp2_with fail
              go_meet
              exact ⟨g9, A9, c9, rfl, rfl, hc9, q9.1, ex50.1, ex49.1, hw48⟩
            · refine step_alloc (some 9) (by kernel_rfl) (by kernel_rfl) 36 rfl (wrV Z8 none 0 0 0) zero_wr ?_
              intro w51 hkw51 hsw51 hbw51
              obtain ⟨g9, hg9⟩ : ∃ g, w41.heap.size = g := ⟨_, rfl⟩
              have q9 : g5 ≠ g9 ∧ w.heap.size ≤ g9 := by have a1 := Blk.lt hw41.1; have a4 := Below.size hw41.2.2.2.2.2.1; omega
              rw [hg9] at hkw51
              rw [hg9]
              have ex52 := hrw41.below hbw51
              have ex53 : Fx [.blk g9 36 (wrV Z8 none 0 0 0)] w51 := ⟨hkw51.out, trivial⟩
              refine hK.out _ _ (hw41.below hbw51) (fun hw51 => ?_)
              clear hK K
              try simp only [Act.put, List.setIfInBounds_toArray, List.set_cons_zero, List.set_cons_succ]
              refine wpAnyH_ready (rs := [5]) (by kernel_rfl) (by decide) ?_
              refine AllReadyH.cons rfl (fun K hK => ?_) AllReadyH.nil
              refine step_call (some 52) (by kernel_rfl) (by kernel_rfl) _ _ (by kernel_rfl) _ (HWT.out _ _ hw51.2.1 hw51.2.2.2.2.2.1 ex52.1) ?_
              rintro e w54 ⟨A9, c9, rfl, hr9, hc9, hbw54⟩
              have ex55 := ex53.below hbw54
              have ex56 : Fx [.rd .u8 A9 ρ2.length ρ2] w54 := ⟨hr9, trivial⟩
              refine ⟨_, rfl, ?_⟩
              refine hK.out _ _ (hw51.below hbw54) (fun hw54 => ?_)
              clear hK K
              try simp only [Act.put, List.setIfInBounds_toArray, List.set_cons_zero, List.set_cons_succ]
              refine held_v 6 (some 46) rfl (by kernel_rfl) (by kernel_rfl) (by kernel_rfl) (by kernel_rfl) (fun c a v w h => HQ2.out c a _ v w h) (by kernel_rfl) (.tuple #[.agg (wrV σ2 A9 ρ2.length c9 N2), .int .i64 0]) (fun W h => by kernel_rfl) hw54 ?_
              try simp only [Act.put, List.setIfInBounds_toArray, List.set_cons_zero, List.set_cons_succ]
              refine held_v 7 (some 53) rfl (by kernel_rfl) (by kernel_rfl) (by kernel_rfl) (by kernel_rfl) (fun c a v w h => HQ2.out c a _ v w h) (by kernel_rfl) (.agg (wrV σ2 A9 ρ2.length c9 N2)) (fun W h => by kernel_rfl) hw54 ?_
              try simp only [Act.put, List.setIfInBounds_toArray, List.set_cons_zero, List.set_cons_succ]
              refine held_v 8 (some 54) rfl (by kernel_rfl) (by kernel_rfl) (by kernel_rfl) (by kernel_rfl) (fun c a v w h => HQ2.out c a _ v w h) (by kernel_rfl) (.int .i64 0) (fun W h => by kernel_rfl) hw54 ?_
              try simp only [Act.put, List.setIfInBounds_toArray, List.set_cons_zero, List.set_cons_succ]
              refine wpAnyH_ready (rs := [10]) (by kernel_rfl) (by decide) ?_
              refine AllReadyH.cons rfl (fun K hK => ?_) AllReadyH.nil
              refine step_store none (by kernel_rfl) (by kernel_rfl) 36 (.tmp 9) (.tmp 53) rfl g9 (by kernel_rfl) 36 (wrV Z8 none 0 0 0) (wrV σ2 A9 ρ2.length c9 N2) ex55.1 (by kernel_rfl) (zsizeX _ _ _ _ _ HSL2.out) (sizedW σ2 HSL2.out _ _ _ _) (wrV_ones _ _ _ _ _) ?_
              intro w57 hkw57 hsw57 hbw57 how57
              have ex58 := ex56.store ex55.1 ⟨(noint_wr .u8 (by decide) (by decide) _ _ _ _ _), trivial⟩ hsw57.out hbw57 how57
              have ex59 : Fx [.blk g9 36 (wrV σ2 A9 ρ2.length c9 N2)] w57 := ⟨hkw57.out, trivial⟩
              refine hK.out _ _ (hw54.store ex55.1 ⟨q9.1, (noint_wr .u8 (by decide) (by decide) _ _ _ _ _), (noint_wr .u8 (by decide) (by decide) _ _ _ _ _), (noint_wr .u8 (by decide) (by decide) _ _ _ _ _), (noint_wr .u16 (by decide) (by decide) _ _ _ _ _), q9.2, trivial⟩ hsw57.out hbw57 how57) (fun hw57 => ?_)
              clear hK K
              try simp only [Act.put, List.setIfInBounds_toArray, List.set_cons_zero, List.set_cons_succ]
              refine held_v 11 (some 10) rfl (by kernel_rfl) (by kernel_rfl) (by kernel_rfl) (by kernel_rfl) (fun c a v w h => HQ2.out c a _ v w h) (by kernel_rfl) (.int .i64 0) (fun W h => by kernel_rfl) hw57 ?_
              try simp only [Act.put, List.setIfInBounds_toArray, List.set_cons_zero, List.set_cons_succ]
              refine wpAnyH_done (by kernel_rfl) ?_ _
              refine HQ1.out _ _ ?_
              clear HQ1 HQ2
              go_wp2_with fail
              go_meet
              exact ⟨g9, A9, c9, rfl, rfl, hc9, q9.1, ex59.1, ex58.1, hw57⟩
          · refine step_alloc (some 9) (by kernel_rfl) (by kernel_rfl) 36 rfl (wrV Z8 none 0 0 0) zero_wr ?_
            intro w60 hkw60 hsw60 hbw60
            obtain ⟨g9, hg9⟩ : ∃ g, wr.drew.heap.size = g := ⟨_, rfl⟩
            have q9 : g5 ≠ g9 ∧ w.heap.size ≤ g9 := by have a1 := Blk.lt hH.1; have a4 := Below.size hH.2.2.2.2.2.1; omega
            rw [hg9] at hkw60
            rw [hg9]
            have ex61 : Fx [.blk g9 36 (wrV Z8 none 0 0 0)] w60 := ⟨hkw60.out, trivial⟩
            refine hK.out _ _ (hH.below hbw60) (fun hw60 => ?_)
            clear hK K
            try simp only [Act.put, List.setIfInBounds_toArray, List.set_cons_zero, List.set_cons_succ]
            refine wpAnyH_ready (rs := [4]) (by kernel_rfl) (by decide) ?_
            refine AllReadyH.cons rfl (fun K hK => ?_) AllReadyH.nil
            refine step_row1 (some 51) (by kernel_rfl) (by kernel_rfl) (.tmp 50) rfl Ak q ck y (by kernel_rfl) (HRDY.out _ hw60.2.2.1) hqck ?_
            intro gr63 w62 hrw62 hbw62
            have ex64 := ex61.below hbw62
            refine hK.out _ _ (hw60.below hbw62) (fun hw62 => ?_)
            clear hK K
            try simp only [Act.put, List.setIfInBounds_toArray, List.set_cons_zero, List.set_cons_succ]
            refine wpAnyH_ready (rs := [5]) (by kernel_rfl) (by decide) ?_
            refine AllReadyH.cons rfl (fun K hK => ?_) AllReadyH.nil
            refine step_call (some 52) (by kernel_rfl) (by kernel_rfl) _ _ (by kernel_rfl) _ (HWT.out _ _ hw62.2.1 hw62.2.2.2.2.2.1 hrw62.1) ?_
            rintro e w65 ⟨A9, c9, rfl, hr9, hc9, hbw65⟩
            have ex66 := ex64.below hbw65
            have ex67 : Fx [.rd .u8 A9 ρ2.length ρ2] w65 := ⟨hr9, trivial⟩
            refine ⟨_, rfl, ?_⟩
            refine hK.out _ _ (hw62.below hbw65) (fun hw65 => ?_)
            clear hK K
            try simp only [Act.put, List.setIfInBounds_toArray, List.set_cons_zero, List.set_cons_succ]
            refine held_v 6 (some 46) rfl (by kernel_rfl) (by kernel_rfl) (by kernel_rfl) (by kernel_rfl) (fun c a v w h => HQ2.out c a _ v w h) (by kernel_rfl) (.tuple #[.agg (wrV σ2 A9 ρ2.length c9 N2), .int .i64 0]) (fun W h => by kernel_rfl) hw65 ?_
            try simp only [Act.put, List.setIfInBounds_toArray, List.set_cons_zero, List.set_cons_succ]
            refine held_v 7 (some 53) rfl (by kernel_rfl) (by kernel_rfl) (by kernel_rfl) (by kernel_rfl) (fun c a v w h => HQ2.out c a _ v w h) (by kernel_rfl) (.agg (wrV σ2 A9 ρ2.length c9 N2)) (fun W h => by kernel_rfl) hw65 ?_
            try simp only [Act.put, List.setIfInBounds_toArray, List.set_cons_zero, List.set_cons_succ]
            refine held_v 8 (some 54) rfl (by kernel_rfl) (by kernel_rfl) (by kernel_rfl) (by kernel_rfl) (fun c a v w h => HQ2.out c a _ v w h) (by kernel_rfl) (.int .i64 0) (fun W h => by kernel_rfl) hw65 ?_
            try simp only [Act.put, List.setIfInBounds_toArray, List.set_cons_zero, List.set_cons_succ]
            refine wpAnyH_ready (rs := [10]) (by kernel_rfl) (by decide) ?_
            refine AllReadyH.cons rfl (fun K hK => ?_) AllReadyH.nil
            refine step_store none (by kernel_rfl) (by kernel_rfl) 36 (.tmp 9) (.tmp 53) rfl g9 (by kernel_rfl) 36 (wrV Z8 none 0 0 0) (wrV σ2 A9 ρ2.length c9 N2) ex66.1 (by kernel_rfl) (zsizeX _ _ _ _ _ HSL2.out) (sizedW σ2 HSL2.out _ _ _ _) (wrV_ones _ _ _ _ _) ?_
            intro w68 hkw68 hsw68 hbw68 how68
            have ex69 := ex67.store ex66.1 ⟨(noint_wr .u8 (by decide) (by decide) _ _ _ _ _), trivial⟩ hsw68.out hbw68 how68
            have ex70 : Fx [.blk g9 36 (wrV σ2 A9 ρ2.length c9 N2)] w68 := ⟨hkw68.out, trivial⟩
            refine hK.out _ _ (hw65.store ex66.1 ⟨q9.1, (noint_wr .u8 (by decide) (by decide) _ _ _ _ _), (noint_wr .u8 (by decide) (by decide) _ _ _ _ _), (noint_wr .u8 (by decide) (by decide) _ _ _ _ _), (noint_wr .u16 (by decide) (by decide) _ _ _ _ _), q9.2, trivial⟩ hsw68.out hbw68 how68) (fun hw68 => ?_)
            clear hK K
            try simp only [Act.put, List.setIfInBounds_toArray, List.set_cons_zero, List.set_cons_succ]
            refine held_v 11 (some 10) rfl (by kernel_rfl) (by kernel_rfl) (by kernel_rfl) (by kernel_rfl) (fun c a v w h => HQ2.out c a _ v w h) (by kernel_rfl) (.int .i64 0) (fun W h => by kernel_rfl) hw68 ?_
            try simp only [Act.put, List.setIfInBounds_toArray, List.set_cons_zero, List.set_cons_succ]
            refine wpAnyH_done (by kernel_rfl) ?_ _
            refine HQ1.out _ _ ?_
            clear HQ1 HQ2
            go_wp2_with fail
            go_meet
            exact ⟨g9, A9, c9, rfl, rfl, hc9, q9.1, ex70.1, ex69.1, hw68⟩
        case rest =>
        obtain ⟨g9, A9, c9, rfl, rfl, hc9, hne, FC⟩ := hcut
        have FC := Lib.hid FC
        have HREL := Lib.hid (fun W (h1 : Blk W g5 36 (wrV σ2 A9 ρ2.length c9 N2)) (h2 : Fx [.blk g9 36 (wrV σ2 A9 ρ2.length c9 N2), .rd .u8 A9 ρ2.length ρ2, .rd .u8 Ak j x, .rd .u8 a0 L b, .rd .u16 a1 m ats, .bel w] W) =>
          (show ∃ (i' k' : Nat), i' ≤ m + 1 ∧ k' ≤ L ∧ (m < i' → k' = L) ∧ Value.int .i64 ((i : Int) + 1) = .int .i64 i' ∧ CutI w g5 a0 L b a1 m ats k' (.slice An jn cn) W from
            ⟨i + 1, kq, by omega, hkL2.out, HIK.out, by rw [Int.natCast_add]; rfl, HREL1.out An jn cn A9 c9 W HJN.out.1 HJN.out.2 hc9 h1 h2.2.1 (HRDN.out W h2.2.2.1) h2.2.2.2⟩))
        have HF1 := Lib.hid (fun W h2 h3 => HFI.out W A9 c9 hc9 h2 h3)
        have S9 := Lib.hid (sizedW σ2 HSL2.out A9 ρ2.length c9 N2)
        have O9 := Lib.hid (wrV_ones σ2 A9 ρ2.length c9 N2)
        have LV9 := Lib.hid (show V.size = (wrV σ2 A9 ρ2.length c9 N2).size by rw [HLV.out, wrV_size σ2 HSL2.out])
        obtain ⟨V9, hV9⟩ : ∃ V, wrV σ2 A9 ρ2.length c9 N2 = V := ⟨_, rfl⟩
        rw [hV9] at FC HREL HF1 S9 O9 LV9
        clear hV9 HREL1 HFI HWT RUP HRDY F5 HRDN
        go_wp2_with (first
          | ((with_reducible refine at_any ?_); (with_reducible refine at_dst 56 rfl ?_); have q4 : Blk wc g9 36 V9 := FC.out.1; (with_reducible refine wpList_load_blk rfl 36 (.tmp 9) rfl g9 rfl 36 V9 q4 _ Tryd.underlying36 rfl S9.out ?_))
          | (go_at_call 14; have q1 : Rd .u8 wc wc.heap.size A9 ρ2.length ρ2 := FC.out.2.1; have q2 : Below w.heap.size w wc := FC.out.2.2.2.2.2.2.2.1; (with_reducible refine (HF1.out wc q1 (HKST.out.below q2)).mono ?_); rintro e w11 ⟨rfl, hb11⟩; have F11 := Lib.hid (FC.out.below hb11))
          | ((with_reducible refine at_any ?_); (with_reducible refine at_dst 11 rfl ?_); (with_reducible refine wpList_alloc_ints rfl 26 rfl .u8 Z zero_h ?_); intro w12 k12' hs12 hb12)
          | ((with_reducible refine at_any ?_); (with_reducible refine at_store 11 rfl ?_); (with_reducible refine wpList_store_ints rfl 26 (.tmp 11) (.tmp 58) rfl w11.heap.size rfl 26 .u8 Z H k12'.out rfl LZH.out SHL.out ?_); intro wz k12 hs13 hb13 ho13))
        have F14 : Fx [.blk w11.heap.size 26 (intsA .u8 H), .blk g9 36 V9, .rd .u8 A9 ρ2.length ρ2, .blk g5 36 V, .rd .u8 A u ρ, .rd .u8 Ak j x, .rd .u8 a0 L b, .rd .u16 a1 m ats, .bel w] wz := ⟨k12.out, F11.out.below (hb12.trans (hb13 _ (Nat.le_refl _)))⟩
        obtain ⟨g11, hg11⟩ : ∃ g, w11.heap.size = g := ⟨_, rfl⟩
        rw [hg11] at F14
        rw [hg11]
        clear FC hb11 F11 k12' hs12 hb12 k12 hs13 hb13 ho13 hg11
        refine wp_region_held_drew (S := (Fx [.blk g11 26 (intsA .u8 H), .blk g9 36 V9, .rd .u8 A9 ρ2.length ρ2, .blk g5 36 V, .rd .u8 A u ρ, .rd .u8 Ak j x, .rd .u8 a0 L b, .rd .u16 a1 m ats, .bel w])) (by kernel_rfl) (F14.drew) (fun hH => ?_)
        refine wpAnyH_letter #[false, false, false, false, false, false, false, false, false, false, false, false, false, false, false, false, false, false, false, false] (by kernel_rfl) (fun _ _ d _ _ h => by cases d <;> exact h) (fun QL HQ1 HQ2 => ?_)
        refine held_v 0 (some 60) rfl (by kernel_rfl) (by kernel_rfl) (by kernel_rfl) (by kernel_rfl) (fun c a v w h => HQ2.out c a _ v w h) (by kernel_rfl) (.int .i64 0) (fun W h => by kernel_rfl) hH ?_
        try simp only [Act.put, List.setIfInBounds_toArray, List.set_cons_zero, List.set_cons_succ]
        refine held_v 1 (some 61) rfl (by kernel_rfl) (by kernel_rfl) (by kernel_rfl) (by kernel_rfl) (fun c a v w h => HQ2.out c a _ v w h) (by kernel_rfl) (.bool false) (fun W h => by go_simp) hH ?_
        try simp only [Act.put, List.setIfInBounds_toArray, List.set_cons_zero, List.set_cons_succ]
        refine held_v 2 (some 62) rfl (by kernel_rfl) (by kernel_rfl) (by kernel_rfl) (by kernel_rfl) (fun c a v w h => HQ2.out c a _ v w h) (by kernel_rfl) (.bool false) (fun W h => by kernel_rfl) hH ?_
        try simp only [Act.put, List.setIfInBounds_toArray, List.set_cons_zero, List.set_cons_succ]
        refine held_v 3 (some 63) rfl (by kernel_rfl) (by kernel_rfl) (by kernel_rfl) (by kernel_rfl) (fun c a v w h => HQ2.out c a _ v w h) (by kernel_rfl) (.int .i64 0) (fun W h => by kernel_rfl) hH ?_
        try simp only [Act.put, List.setIfInBounds_toArray, List.set_cons_zero, List.set_cons_succ]
        refine held_v 4 (some 64) rfl (by kernel_rfl) (by kernel_rfl) (by kernel_rfl) (by kernel_rfl) (fun c a v w h => HQ2.out c a _ v w h) (by kernel_rfl) (.bool false) (fun W h => by go_simp) hH ?_
        try simp only [Act.put, List.setIfInBounds_toArray, List.set_cons_zero, List.set_cons_succ]
        refine held_v 5 (some 65) rfl (by kernel_rfl) (by kernel_rfl) (by kernel_rfl) (by kernel_rfl) (fun c a v w h => HQ2.out c a _ v w h) (by kernel_rfl) (.bool false) (fun W h => by kernel_rfl) hH ?_
        try simp only [Act.put, List.setIfInBounds_toArray, List.set_cons_zero, List.set_cons_succ]
        refine held_v 6 (some 66) rfl (by kernel_rfl) (by kernel_rfl) (by kernel_rfl) (by kernel_rfl) (fun c a v w h => HQ2.out c a _ v w h) (by kernel_rfl) (.bool false) (fun W h => by kernel_rfl) hH ?_
        try simp only [Act.put, List.setIfInBounds_toArray, List.set_cons_zero, List.set_cons_succ]
        refine held_row 7 (some 67) rfl (by kernel_rfl) (by kernel_rfl) (by kernel_rfl) (by kernel_rfl) (fun c a v w h => HQ2.out c a _ v w h) (by kernel_rfl) 26 (.tmp 11) rfl g11 (by kernel_rfl) 26 (intsA .u8 H) (fun _ h => h.1) _ Tryd.underlying26 rfl SH.out hH ?_
        try simp only [Act.put, List.setIfInBounds_toArray, List.set_cons_zero, List.set_cons_succ]
        refine held_v 8 (some 68) rfl (by kernel_rfl) (by kernel_rfl) (by kernel_rfl) (by kernel_rfl) (fun c a v w h => HQ2.out c a _ v w h) (by kernel_rfl) (.slice a0 L c0) (fun W h => by kernel_rfl) hH ?_
        try simp only [Act.put, List.setIfInBounds_toArray, List.set_cons_zero, List.set_cons_succ]
        refine held_v 9 (some 69) rfl (by kernel_rfl) (by kernel_rfl) (by kernel_rfl) (by kernel_rfl) (fun c a v w h => HQ2.out c a _ v w h) (by kernel_rfl) (.slice a0 L c0) (fun W h => by kernel_rfl) hH ?_
        try simp only [Act.put, List.setIfInBounds_toArray, List.set_cons_zero, List.set_cons_succ]
        refine held_v 10 (some 70) rfl (by kernel_rfl) (by kernel_rfl) (by kernel_rfl) (by kernel_rfl) (fun c a v w h => HQ2.out c a _ v w h) (by kernel_rfl) (.int .i64 L) (fun W h => by go_simp) hH ?_
        try simp only [Act.put, List.setIfInBounds_toArray, List.set_cons_zero, List.set_cons_succ]
        refine held_v 11 (some 71) rfl (by kernel_rfl) (by kernel_rfl) (by kernel_rfl) (by kernel_rfl) (fun c a v w h => HQ2.out c a _ v w h) (by kernel_rfl) (.slice Ak j ck) (fun W h => by kernel_rfl) hH ?_
        try simp only [Act.put, List.setIfInBounds_toArray, List.set_cons_zero, List.set_cons_succ]
        refine held_v 12 (some 72) rfl (by kernel_rfl) (by kernel_rfl) (by kernel_rfl) (by kernel_rfl) (fun c a v w h => HQ2.out c a _ v w h) (by kernel_rfl) (.int .i64 j) (fun W h => by go_simp) hH ?_
        try simp only [Act.put, List.setIfInBounds_toArray, List.set_cons_zero, List.set_cons_succ]
        refine held_v 13 (some 73) rfl (by kernel_rfl) (by kernel_rfl) (by kernel_rfl) (by kernel_rfl) (fun c a v w h => HQ2.out c a _ v w h) (by kernel_rfl) (.int .i64 (k : Int)) (fun W h => by go_simp) hH ?_
        try simp only [Act.put, List.setIfInBounds_toArray, List.set_cons_zero, List.set_cons_succ]
        refine held_v 14 (some 74) rfl (by kernel_rfl) (by kernel_rfl) (by kernel_rfl) (by kernel_rfl) (fun c a v w h => HQ2.out c a _ v w h) (by kernel_rfl) (.int .i64 (q : Int)) (fun W h => by kernel_rfl) hH ?_
        try simp only [Act.put, List.setIfInBounds_toArray, List.set_cons_zero, List.set_cons_succ]
        refine held_v 15 (some 75) rfl (by kernel_rfl) (by kernel_rfl) (by kernel_rfl) (by kernel_rfl) (fun c a v w h => HQ2.out c a _ v w h) (by kernel_rfl) (.int .i64 (kq : Int)) (fun W h => by go_simp) hH ?_
        try simp only [Act.put, List.setIfInBounds_toArray, List.set_cons_zero, List.set_cons_succ]
        refine held_v 16 (some 76) rfl (by kernel_rfl) (by kernel_rfl) (by kernel_rfl) (by kernel_rfl) (fun c a v w h => HQ2.out c a _ v w h) (by kernel_rfl) (.slice a0 kq c0) (fun W h => by have p := RU2.out W; go_simp) hH ?_
        try simp only [Act.put, List.setIfInBounds_toArray, List.set_cons_zero, List.set_cons_succ]
        refine wpAnyH_ready (rs := [17]) (by kernel_rfl) (by decide) ?_
        refine AllReadyH.cons rfl (fun K hK => ?_) AllReadyH.nil
        refine step_call (some 77) (by kernel_rfl) (by kernel_rfl) _ _ (by kernel_rfl) _ (HSUM.out _ hH.2.2.2.2.2.2.1) ?_
        rintro e w81 ⟨rfl, hbw81⟩
        refine ⟨_, rfl, ?_⟩
        refine hK.out _ _ (hH.below hbw81) (fun hw81 => ?_)
        clear hK K
        try simp only [Act.put, List.setIfInBounds_toArray, List.set_cons_zero, List.set_cons_succ]
        refine held_v 18 (some 78) rfl (by kernel_rfl) (by kernel_rfl) (by kernel_rfl) (by kernel_rfl) (fun c a v w h => HQ2.out c a _ v w h) (by kernel_rfl) (.bool false) (fun W h => by have p := EH.out W; go_simp) hw81 ?_
        try simp only [Act.put, List.setIfInBounds_toArray, List.set_cons_zero, List.set_cons_succ]
        refine held_v 19 (some 79) rfl (by kernel_rfl) (by kernel_rfl) (by kernel_rfl) (by kernel_rfl) (fun c a v w h => HQ2.out c a _ v w h) (by kernel_rfl) (.bool false) (fun W h => by kernel_rfl) hw81 ?_
        try simp only [Act.put, List.setIfInBounds_toArray, List.set_cons_zero, List.set_cons_succ]
        refine wpAnyH_done (by kernel_rfl) ?_ _
        refine HQ1.out _ _ ?_
        clear HQ1 HQ2
        have HF15 := Lib.hid hw81
        have F17 : (Fx [.blk g9 36 V9, .rd .u8 A9 ρ2.length ρ2, .rd .u8 Ak j x, .rd .u8 a0 L b, .rd .u16 a1 m ats, .bel w]) w81 := ⟨hw81.2.1, hw81.2.2.1, hw81.2.2.2.2.2.1, hw81.2.2.2.2.2.2.1, hw81.2.2.2.2.2.2.2.1, hw81.2.2.2.2.2.2.2.2.1, trivial⟩
        have HZ5a : Fx [.blk g5 36 V] w81 := ⟨hw81.2.2.2.1, trivial⟩
        go_wp2
        refine wp_region_held_drew (S := (Fx [.blk g9 36 V9, .rd .u8 A9 ρ2.length ρ2, .rd .u8 Ak j x, .rd .u8 a0 L b, .rd .u16 a1 m ats, .bel w])) (by kernel_rfl) (F17.drew) (fun hH17 => ?_)
        have HZ5 := HZ5a.drew
        refine wpAnyH_letter #[false, false, false, false, false, false] (by kernel_rfl) (fun _ _ d _ _ h => by cases d <;> exact h) (fun QL HQ1 HQ2 => ?_)
        refine held_row 0 (some 80) rfl (by kernel_rfl) (by kernel_rfl) (by kernel_rfl) (by kernel_rfl) (fun c a v w h => HQ2.out c a _ v w h) (by kernel_rfl) 36 (.tmp 9) rfl g9 (by kernel_rfl) 36 V9 (fun _ h => h.1) _ Tryd.underlying36 rfl S9.out hH17 ?_
        try simp only [Act.put, List.setIfInBounds_toArray, List.set_cons_zero, List.set_cons_succ]
        refine held_v 1 (some 81) rfl (by kernel_rfl) (by kernel_rfl) (by kernel_rfl) (by kernel_rfl) (fun c a v w h => HQ2.out c a _ v w h) (by kernel_rfl) (.slice Ak j ck) (fun W h => by kernel_rfl) hH17 ?_
        try simp only [Act.put, List.setIfInBounds_toArray, List.set_cons_zero, List.set_cons_succ]
        refine held_v 2 (some 82) rfl (by kernel_rfl) (by kernel_rfl) (by kernel_rfl) (by kernel_rfl) (fun c a v w h => HQ2.out c a _ v w h) (by kernel_rfl) (.int .i64 (q : Int)) (fun W h => by kernel_rfl) hH17 ?_
        try simp only [Act.put, List.setIfInBounds_toArray, List.set_cons_zero, List.set_cons_succ]
        refine held_v 3 (some 83) rfl (by kernel_rfl) (by kernel_rfl) (by kernel_rfl) (by kernel_rfl) (fun c a v w h => HQ2.out c a _ v w h) (by kernel_rfl) (.slice An jn cn) (fun W h => by have p := RFR.out W; go_simp) hH17 ?_
        try simp only [Act.put, List.setIfInBounds_toArray, List.set_cons_zero, List.set_cons_succ]
        refine wpAnyH_ready (rs := [4]) (by kernel_rfl) (by decide) ?_
        refine AllReadyH.cons rfl (fun K hK => ?_) AllReadyH.nil
        refine step_store none (by kernel_rfl) (by kernel_rfl) 36 (.tmp 5) (.tmp 80) rfl g5 (by kernel_rfl) 36 V V9 HZ5.1 (by kernel_rfl) LV9.out S9.out O9.out ?_
        intro w121 hkw121 hsw121 hbw121 how121
        have ex122 : Fx [.blk g5 36 V9] w121 := ⟨hkw121.out, trivial⟩
        refine hK.out _ _ (hH17.store HZ5.1 ⟨hne.symm, HNV8.out, HNV8.out, HNV8.out, HNV16.out, HG5.out, trivial⟩ hsw121.out hbw121 how121) (fun hw121 => ?_)
        clear hK K
        try simp only [Act.put, List.setIfInBounds_toArray, List.set_cons_zero, List.set_cons_succ]
        refine held_v 5 (some 6) rfl (by kernel_rfl) (by kernel_rfl) (by kernel_rfl) (by kernel_rfl) (fun c a v w h => HQ2.out c a _ v w h) (by kernel_rfl) (.slice An jn cn) (fun W h => by kernel_rfl) hw121 ?_
        try simp only [Act.put, List.setIfInBounds_toArray, List.set_cons_zero, List.set_cons_succ]
        refine wpAnyH_done (by kernel_rfl) ?_ _
        refine HQ1.out _ _ ?_
        clear HQ1 HQ2
        go_wp2
        refine ⟨?_, ?_⟩
        · first
            | exact HREL.out _ ex122.1 hw121
            | ((repeat apply Exists.intro); exact ⟨HREL.out _ ex122.1 hw121, rfl⟩)
        · simp [intOf]; omega
    · obtain rfl : i = m + 1 := by omega
      obtain rfl : k = L := hik (by omega)
      rw [Nat.sub_self]
      have FE := Lib.hid F
      have q1 : ¬ ((m + 1 : Nat) : Int) ≤ (m : Int) := by omega
      have q2 : (m : Int) < ((m + 1 : Nat) : Int) := by omega
      clear F
      go_wp2_with (first
        | (go_at_call 9; have q3 : Rd .u8 wr wr.heap.size a0 k b := FE.out.2.2.2.1; have q4 : Below w.heap.size w wr := FE.out.2.2.2.2.2.1; (with_reducible refine (HSA.out wr q3 (HKST.out.below q4)).mono ?_); rintro e w5 ⟨rfl, hb5⟩; have F5 := Lib.hid (FE.out.below hb5))
        | (go_at_call 10; have q5 : Rd .u8 w5 w5.heap.size a0 k b := F5.out.2.2.2.1; (with_reducible refine (HSB.out w5 q5).mono ?_); rintro e w6 ⟨rfl, hb6⟩; have F6 := Lib.hid (F5.out.below hb6); have ES6 := ES.out w6))
      go_ret
      exact ⟨rfl, F6.out.2.2.2.2.2.1⟩
theorem walk (a0 : Option Addr) (n0 c0 : Nat) (z0 : List Int) (a1 : Option Addr) (n1 c1 : Nat) (z1 : List Int) (w : World) (rd0 : Rd .u8 w w.heap.size a0 n0 z0) (lc0 : n0 ≤ c0) (cm0 : c0 ≤ maxLen) (w0 : ∀ z ∈ z0, (Lit.int .u8 z).wf = true)
    (rd1 : Rd .u16 w w.heap.size a1 n1 z1) (lc1 : n1 ≤ c1) (cm1 : c1 ≤ maxLen) (w1 : ∀ z ∈ z1, (Lit.int .u16 z).wf = true) (hkst : Kst w) :
    Calls Tryd.prog 5 #[.slice a0 n0 c0, .slice a1 n1 c1] w fun e w' => e = .returned (.bool true) ∧ Below w.heap.size w w' :=
  of_walk a0 n0 c0 z0 a1 n1 c1 z1 w rd0 lc0 cm0 (u8b w0) rd1 lc1 cm1 (fun z hz => by have := bounds_u16 (w1 z hz); omega) hkst


set_option maxRecDepth 100000 in
theorem lifted (os : Os) (started : os.Started) (H : Type) (enc : TypeId × Value → H) :
    ReturnsInHanded {} Tryd.checked os 5 .any (fun w args => (Rows.shaCutsSpec.pre enc Tryd.prog Tryd.f5 [] false w args ∧ laidMetH Tryd.prog laidK w) ∧ sizedMet enc Tryd.prog Tryd.f5 (OpenSpec.ofChange Rows.shaCutsSpec) false w args) (Rows.shaCutsSpec.post enc Tryd.prog Tryd.f5 false true false false) := by
  refine returnsInHanded_of_change_and (C := Tryd.checked) (X := fun w _ => laidMetH Tryd.prog laidK w) (fun _ _ _ hh h => h.of_heap hh) own started (by kernel_rfl) Tryd.func5
    (ChangeSpec.witness_shaped (enc := enc) (C := Tryd.checked) (os := os) (X := fun w _ => laidMetH Tryd.prog laidK w) false (World.doorLaid Tryd.prog 400 os) #[.slice none 0 0, .slice none 0 0] 8 rfl (World.shaped_of_RefB (by kernel_rfl) (by kernel_rfl)) (by kernel_rfl) (by kernel_rfl) (by kernel_rfl) (door_met os _)) ?_
  intro W base args ds gs before hval0 hW _ _ hL _
  have hval : ∀ (j : Nat) t v, Tryd.f5.params[j]? = some t → args[j]? = some v → Value.okWide Tryd.prog W .any base t v := hval0
  have hW' := hW
  obtain ⟨p, q, hA0, hV, rfl, hfz, hnd⟩ := hW
  have hA : DataW.TrodAll enc Tryd.prog W 0 (fun _ => true) true Tryd.f5.params.toList args.toList ds p := hA0
  rw [Tryd.params5] at hA hval
  obtain ⟨v0, vs0, d0, ds0, p0, q0, hargs, rfl, rfl, h0, r0⟩ := trodAll_cons hA
  obtain ⟨v1, vs1, d1, ds1, p1, q1, rfl, rfl, rfl, h1, r1⟩ := trodAll_cons r0
  obtain ⟨rfl, rfl, rfl⟩ := trodAll_nil r1
  obtain rfl : args = #[v0, v1] := by cases args; simp_all
  obtain ⟨rfl, rfl⟩ := trodVars_none hV
  obtain ⟨a0, n0, c0, rfl⟩ := okWide_slice Tryd.underlying29 (hval 0 29 v0 rfl rfl)
  have k0 := h0
  have lt0 : ∀ x ∈ p0, x.block < W.heap.size := by obtain ⟨m, hm⟩ := k0; exact DataW.trod_lt m _ _ _ hm
  obtain ⟨z0, rd0, lc0, cm0, w0⟩ := open_rd Tryd.underlying29 Tryd.underlying5 (by kernel_rfl) h0
  obtain ⟨a1, n1, c1, rfl⟩ := okWide_slice Tryd.underlying47 (hval 1 47 v1 rfl rfl)
  have k1 := h1
  have lt1 : ∀ x ∈ p1, x.block < W.heap.size := by obtain ⟨m, hm⟩ := k1; exact DataW.trod_lt m _ _ _ hm
  obtain ⟨z1, rd1, lc1, cm1, w1⟩ := open_rd Tryd.underlying47 Tryd.underlying48 (by kernel_rfl) h1
  clear hA0 hval0
  refine (walk a0 n0 c0 z0 a1 n1 c1 z1 W rd0 lc0 cm0 w0 rd1 lc1 cm1 w1 (kst_of_laid hL)).mono fun e W' ⟨he, bel⟩ => ?_
  subst he
  exact ⟨_, rfl, _, _, _, [], _, [], hW', trodAll_mk1 (shut_bool Tryd.underlying4 _), (trodAll_cons_mk (Below.trod laidOut (by kernel_rfl) (of_decide_eq_true (by kernel_rfl)) k0 bel lt0) (trodAll_cons_mk (Below.trod laidOut (by kernel_rfl) (of_decide_eq_true (by kernel_rfl)) k1 bel lt1) trodAll_mk0)), rfl, bel.frame _, fun h => by cases h⟩

theorem over : Rows.shaCutsRow.holds Tryd.pinned (OpenSpec.ofChange Rows.shaCutsSpec) :=
  OpenClaim.holds_of_wide 5 Tryd.f5 rfl rfl rfl rfl rfl rfl rfl ⟨rfl, rfl, rfl, rfl, rfl⟩ rfl rfl rfl rfl rfl (by kernel_rfl) Tryd.func5 (by kernel_rfl)
    (of_decide_eq_true (by kernel_rfl)) (by unfold Func.isWrapper; first | (rw [if_pos (by decide +kernel)]; kernel_rfl) | (rw [if_neg (by decide +kernel)]; exact ⟨rfl, rfl⟩))
    (fun os started H enc _ => lifted os started H enc)

end Go.Proofs.YtjdceadglfnnbaaDoor.shaCuts
namespace Go.Proofs.YtjdceadglfnnbaaDoor
theorem shaCuts_holds : Rows.ShaCutsCardSaid :=
  Claim7.holds_tied_plain_at .later [] [.data] true _ false
    shaCuts.over (fun _ h => by cases h) (by kernel_rfl) (fun _ h => by cases h) shaCuts_row_tie rfl ⟨rfl, rfl⟩ (by kernel_rfl) rfl
    (fun f fn hf hfn => by
      obtain rfl : f = 5 := Option.some.inj ((show Tryd.prog.funcNamed "drawlot/drawlotlaw05.ShaCuts" = some 5 by kernel_rfl).symm.trans hf) |>.symm
      obtain rfl : fn = Tryd.f5 := (Option.some.inj (Tryd.func5.symm.trans hfn)).symm
      exact ⟨by kernel_rfl, fun j t ht => by
        rw [Tryd.params5] at ht
        have hm : t ∈ [29, 47] := by simpa using Array.mem_of_getElem? ht
        have hall : ([29, 47].all fun u => !Tryd.prog.wantsStandIn u) = true := by kernel_rfl
        exact (show Tryd.prog.wantsStandIn t = false by simpa using List.all_eq_true.1 hall t hm)⟩)
    (by kernel_rfl)
#print axioms shaCuts_holds
end Go.Proofs.YtjdceadglfnnbaaDoor
