/-
  What the library's slices.Repeat returns of one number, and the program's Pow.
  Conditions: at most 64 times.
-/
import Derived.Test.YtoimepmignlmkaaDoorNatG
import Derived.Test.YtoimepmignlmkaaDoorNatH
import Derived.Laws.CopyRow
import Derived.Lib.SlBuf
set_option maxRecDepth 100000
set_option linter.unusedSimpArgs false
namespace Go.Proofs.YtoimepmignlmkaaDoor
open Go.ChangeShapes Go.WideShapes Go.ChangeAt Go.RowKit
set_option linter.unusedVariables false
def q10AnyN (_ : World) : Prop := True
theorem mul1_c (k : Nat) (h : k ≤ 64) (w : World) : Calls Tryd.prog 52 #[.int .u64 1, .int .u64 (k : Int)] w fun e w' => e = .returned (.tuple #[.int .u64 0, .int .u64 (k : Int)]) ∧ w = w' := by
  have h1 := Any.bits_Mul lays212 1 k (by omega) (by omega) w
  rw [Nat.one_mul, Nat.div_eq_of_lt (by omega), Nat.mod_eq_of_lt (by omega)] at h1
  exact h1.mono fun e w' h => ⟨h.1, h.2.symm⟩
section
variable {P : Program} {ops : Array Oper} {Q : Exit → Act → World → Prop} {a : Act} {w : World} {o : Oper}
/-- A copy, where its run is known, where it comes up. -/
theorem step_copy {K : Act → World → Prop} {E : Prop} (d : Option Tmp) (hd : o.dst = d) (hw : Region.wanted o (yielded ops a.tmps) = true) (x y : Operand) (t t' : TypeId)
    (ho : o.op = .call { callee := .builtin .copy, args := #[x, y], argTypes := #[t, t'] }) (v u : Value) (hx : a.eval x = v) (hy : a.eval y = u) {v' : Value} {w' : World}
    (hr : (Builtin.copy_ #[t, t'] o.type #[v, u]).run P w = .ok v' w') (h : K (a.put d v') w') :
    if Region.wanted o (yielded ops a.tmps) = true then Oper.wp P o a w K Q else E := by
  subst hd
  rw [if_pos hw]
  exact Lib.wp_copy_run w x y t t' ho v u hx hy hr h
end
/-- A row of which n places hold v, the others z. -/
def rowK (v z : Value) (n k : Nat) : Array Value := (List.replicate n v ++ List.replicate (k - n) z).toArray
theorem rowK_at {v z : Value} {n k j : Nat} (h : j < n) : (rowK v z n k)[j]? = some v := by
  simp [rowK, List.getElem?_append, h]
theorem rowK_splice {v z : Value} {n m k : Nat} (h : n + m ≤ k) : (List.take n (rowK v z n k).toList ++ List.replicate m v ++ List.drop (n + m) (rowK v z n k).toList).toArray = rowK v z (n + m) k := by
  unfold rowK
  congr 1
  rw [List.take_append_of_le_length (by simp), List.take_of_length_le (by simp), List.drop_append, List.drop_of_length_le (by simp)]
  simp only [List.length_replicate, List.drop_replicate, List.nil_append]
  rw [List.replicate_append_replicate]
  congr 2
  omega
theorem rowK_full {v z : Value} {k : Nat} : rowK v z k k = (List.replicate k v).toArray := by simp [rowK]
theorem info_natS : (Tryd.prog.info? 26).map (·.size) = some 1 := by kernel_rfl
/-- A row is written over from place n on, by so many copies. -/
theorem run_rep {w : World} {g n m k : Nat} {v z : Value} (hv : v.oneCell' = true) (hb : Blk w g 26 (rowK v z n k)) (hk : n ≤ k) (dLen dCap : Nat) (a : Addr) (sLen sCap : Nat) (hm : m = min sLen dLen) (hd : n + m ≤ k) (hs : ∀ j, j < m → w.cell? (a.add j) = some v) (ty : TypeId) :
    ∃ w', (Builtin.copy_ #[22, 22] ty #[.slice (some ⟨g, n, none⟩) dLen dCap, .slice (some a) sLen sCap]).run Tryd.prog w = .ok (.int .i64 (m : Int)) w' ∧ Blk w' g 26 (rowK v z (n + m) k) ∧ (∀ B, B ≤ g → Below B w w') := by
  have hl : (rowK v z n k).size = k := by simp [rowK]; omega
  have h := Go.run_copy_row (P := Tryd.prog) w 22 22 ty 26 g n dLen dCap a sLen sCap (rowK v z n k) 26 (List.replicate m v) Tryd.underlying22 info_natS hb (by rw [List.length_replicate]; exact hm) (fun j u hj => by
    have hjl : j < m := by
      rcases Nat.lt_or_ge j m with h5 | h5
      · exact h5
      · rw [List.getElem?_eq_none (by simpa using h5)] at hj; cases hj
    rw [List.getElem?_replicate, if_pos hjl] at hj
    rw [← hj]
    exact hs j hjl) (by rw [List.length_replicate, hl]; exact hd) (fun u hu => by rw [List.eq_of_mem_replicate hu]; exact hv)
  rw [List.length_replicate, rowK_splice hd] at h
  exact ⟨_, h, setRow_heap w g _ _ _ _ hb, fun B hB => below_setRow (Below.refl _ _) hB _⟩
theorem run_make_nats (k : Nat) (hk : k ≤ 64) (W : World) : (Instr.makeSlice 22 (.int .i64 (k : Int)) (.int .i64 (k : Int))).run Tryd.prog W = .ok (.slice (some ⟨W.heap.size, 0, none⟩) k k) (W.alloc (.cells (rowK (.slice none 0 0) (.slice none 0 0) 0 k) 26)) := by
  obtain ⟨i, hi, hz, hs, hb⟩ := info_parts info_nat
  have hr := run_make (P := Tryd.prog) W 22 26 i _ Tryd.underlying22 hi hz .i64 .i64 k k (by omega) (by omega) (by rw [hb]; omega) (by omega)
  simp only [Int.toNat_natCast, hs, Nat.mul_one] at hr
  rw [hr, show madeCells (Value.slice none 0 0).cells k = rowK (.slice none 0 0) (.slice none 0 0) 0 k from ?_]
  have h1 := madeCells_same (.slice none 0 0) 1 k (by omega)
  simpa [rowK, Value.cells] using h1
theorem rowK_none {v z : Value} {k : Nat} : rowK v z 0 k = rowK z z 0 k := by simp [rowK]
set_option maxHeartbeats 4000000 in
theorem repeat_c (v : Value) (hv : v.oneCell' = true) (b0 o0 cx : Nat) (k : Nat) (hk : k ≤ 64) (w : World) (hlt : b0 < w.heap.size) (hx : w.cell? ⟨b0, o0, none⟩ = some v) : Calls Tryd.prog 46 #[.slice (some ⟨b0, o0, none⟩) 1 cx, .int .i64 (k : Int)] w fun e w' => ∃ g, e = .returned (.slice (some ⟨g, 0, none⟩) k k) ∧ Blk w' g 26 (List.replicate k v).toArray ∧ w.heap.size ≤ g ∧ Below w.heap.size w w' := by
  have HMUL := Lib.hid (fun W => mul1_c k hk W)
  have hmk := fun W => run_make_nats k hk W
  have f1 : IntKind.u64.wrap (k : Int) = (k : Int) := by rw [IntKind.wrap_u64]; omega
  have f2 : IntKind.i64.wrap (k : Int) = (k : Int) := by rw [IntKind.wrap_i64]; omega
  have hk64 : (k : Int) ≤ 64 := by omega
  have HK := Lib.hid hk
  obtain ⟨z, hz⟩ : ∃ z : Value, (Value.slice none 0 0) = z := ⟨_, rfl⟩
  have hcp0 : ∀ ty, ∃ w', (Builtin.copy_ #[22, 22] ty #[.slice (some ⟨w.heap.size, 0, none⟩) k k, .slice (some ⟨b0, o0, none⟩) 1 cx]).run Tryd.prog (w.alloc (.cells (rowK (.slice none 0 0) (.slice none 0 0) 0 k) 26)) = .ok (.int .i64 ((min 1 k : Nat) : Int)) w' ∧ Blk w' w.heap.size 26 (rowK v (.slice none 0 0) (min 1 k) k) ∧ Below w.heap.size w w' := fun ty => by
    obtain ⟨w', h1, h2, h3⟩ := run_rep (m := min 1 k) (v := v) (z := .slice none 0 0) (n := 0) (k := k) hv (by rw [rowK_none]; exact Blk.new w 26 _) (by omega) k k ⟨b0, o0, none⟩ 1 cx rfl (by omega) (fun j hj => by
      obtain rfl : j = 0 := by omega
      show (w.alloc _).cell? (Addr.add ⟨b0, o0, none⟩ 0) = some v
      rw [show Addr.add ⟨b0, o0, none⟩ 0 = ⟨b0, o0, none⟩ from rfl]
      exact (((Below.refl w.heap.size w).alloc (Nat.le_refl _) _).cell (p := ⟨b0, o0, none⟩) hlt).trans hx) ty
    rw [Nat.zero_add] at h2
    exact ⟨w', h1, h2, ((Below.refl _ _).alloc (Nat.le_refl _) _).trans (h3 _ (Nat.le_refl _))⟩
  have HCP0 := Lib.hid hcp0
  clear hcp0 hx hlt hz
  go_enter Tryd.func46, Tryd.ntmps46
  go_upto_region 7 with (first
    | (go_at_call 52; (with_reducible refine (HMUL.out _).mono ?_); rintro e _ ⟨rfl, rfl⟩))
  clear hmk
  obtain ⟨w1, hr1, hb1, hl1⟩ := HCP0.out 3
  obtain ⟨n0, hn0⟩ : ∃ n, min 1 k = n := ⟨_, rfl⟩
  rw [hn0] at hr1 hb1
  have HR1 := Lib.hid hr1
  clear hr1 HCP0
  obtain ⟨g, hg⟩ : ∃ g, w.heap.size = g := ⟨_, rfl⟩
  have HG : Hid (w.heap.size ≤ g) := Lib.hid (by omega)
  have HB1 : Hid (Blk w1 g 26 (rowK v (.slice none 0 0) n0 k)) := Lib.hid (by rw [← hg]; exact hb1)
  have HL1 := Lib.hid hl1
  rw [hg] at HR1 ⊢
  clear hb1 hl1 hg
  have HN0 : Hid (n0 = min 1 k) := Lib.hid hn0.symm
  clear hn0
  have hr1 := HR1.out
  go_wp2
  clear hr1
  go_loopw [8] (fun vn wr => ∃ n : Nat, n ≤ k ∧ (n = 0 → k = 0) ∧ vn = .int .i64 (n : Int) ∧ Blk wr g 26 (rowK v (.slice none 0 0) n k) ∧ Below w.heap.size w wr) (fun vn _ => k - (intOf vn).toNat)
  case atStart => exact ⟨n0, by have := HN0.out; omega, by have := HN0.out; omega, rfl, HB1.out, HL1.out⟩
  case round =>
    clear HB1 HL1 HN0 HR1
    obtain ⟨n, hn, hn0, rfl, hb, hbl⟩ := hrel
    by_cases hlt : n < k
    · obtain ⟨kn, hkn⟩ : ∃ kn, k - n = kn := ⟨_, rfl⟩
      obtain ⟨w2, hr2, hb2, hl2⟩ := run_rep (w := wr.drew) (m := min n kn) hv hb hn kn kn ⟨g, 0, none⟩ n k rfl (by omega) (fun j hj => by
        have e : Addr.add ⟨g, 0, none⟩ j = ⟨g, j, none⟩ := by
          unfold Addr.add
          split
          · rename_i h; subst h; rfl
          · simp
        rw [e, Blk.cell (h := hb.drew)]
        exact rowK_at (by omega)) 3
      obtain ⟨nm, hnm⟩ : ∃ nm, n + min n kn = nm := ⟨_, rfl⟩
      obtain ⟨m, hm⟩ : ∃ m, min n kn = m := ⟨_, rfl⟩
      rw [hm] at hr2 hnm
      rw [hm, hnm] at hb2
      have hnm1 : nm ≤ k := by omega
      have hnm2 : n < nm := by omega
      have HCP := Lib.hid hr2
      have HB2 := Lib.hid hb2
      have HL2 := Lib.hid ((hbl.trans (Below.refl _ _).drew).trans (hl2 _ HG.out))
      have HNK : Hid (n ≤ k ∧ ¬ k = n ∧ k - n = kn ∧ ¬ k < n) := Lib.hid ⟨by omega, by omega, hkn, by omega⟩
      have HNM : Hid ((n : Int) + (m : Int) = (nm : Int)) := Lib.hid (by omega)
      have HNW : Hid (IntKind.i64.wrap (nm : Int) = (nm : Int)) := Lib.hid (by rw [IntKind.wrap_i64]; omega)
      have HN1 : Hid (nm ≤ k ∧ n < nm ∧ (nm = 0 → k = 0)) := Lib.hid ⟨hnm1, hnm2, by omega⟩
      have i1 : (n : Int) < (k : Int) := by omega
      clear hb hbl hr2 hb2 hl2 hnm hm hnm1 hnm2 hkn hn hn0 hlt
      go_wp2
      refine wp_region_held_drew (S := q10AnyN) (by kernel_rfl) trivial (fun _ => ?_)
      refine wpAnyH_letter #[false, false, false, false, false, false, false, false, false, false] (by kernel_rfl) (fun _ _ d _ _ h => by cases d <;> exact h) (fun QL HQ1 HQ2 => ?_)
      refine held_v 0 (some 38) rfl (by kernel_rfl) (by kernel_rfl) (by kernel_rfl) (by kernel_rfl) (fun c a v w h => HQ2.out c a _ v w h) (by kernel_rfl) (.int .i64 (n : Int)) (fun W h => by kernel_rfl) trivial ?_
      try simp only [Act.put, List.setIfInBounds_toArray, List.set_cons_zero, List.set_cons_succ]
      refine held_v 1 (some 39) rfl (by kernel_rfl) (by kernel_rfl) (by kernel_rfl) (by kernel_rfl) (fun c a v w h => HQ2.out c a _ v w h) (by kernel_rfl) (.slice (some ⟨g, 0, none⟩) k k) (fun W h => by kernel_rfl) trivial ?_
      try simp only [Act.put, List.setIfInBounds_toArray, List.set_cons_zero, List.set_cons_succ]
      refine held_v 2 (some 40) rfl (by kernel_rfl) (by kernel_rfl) (by kernel_rfl) (by kernel_rfl) (fun c a v w h => HQ2.out c a _ v w h) (by kernel_rfl) (.int .i64 (n : Int)) (fun W h => by kernel_rfl) trivial ?_
      try simp only [Act.put, List.setIfInBounds_toArray, List.set_cons_zero, List.set_cons_succ]
      refine held_v 3 (some 41) rfl (by kernel_rfl) (by kernel_rfl) (by kernel_rfl) (by kernel_rfl) (fun c a v w h => HQ2.out c a _ v w h) (by kernel_rfl) (.slice (some ⟨g, n, none⟩) kn kn) (fun W h => by have p := HNK.out.1; have p2 := HNK.out.2.1; have p3 := HNK.out.2.2.1; go_simp) trivial ?_
      try simp only [Act.put, List.setIfInBounds_toArray, List.set_cons_zero, List.set_cons_succ]
      refine held_v 4 (some 42) rfl (by kernel_rfl) (by kernel_rfl) (by kernel_rfl) (by kernel_rfl) (fun c a v w h => HQ2.out c a _ v w h) (by kernel_rfl) (.slice (some ⟨g, 0, none⟩) k k) (fun W h => by kernel_rfl) trivial ?_
      try simp only [Act.put, List.setIfInBounds_toArray, List.set_cons_zero, List.set_cons_succ]
      refine held_v 5 (some 43) rfl (by kernel_rfl) (by kernel_rfl) (by kernel_rfl) (by kernel_rfl) (fun c a v w h => HQ2.out c a _ v w h) (by kernel_rfl) (.int .i64 (n : Int)) (fun W h => by kernel_rfl) trivial ?_
      try simp only [Act.put, List.setIfInBounds_toArray, List.set_cons_zero, List.set_cons_succ]
      refine held_v 6 (some 44) rfl (by kernel_rfl) (by kernel_rfl) (by kernel_rfl) (by kernel_rfl) (fun c a v w h => HQ2.out c a _ v w h) (by kernel_rfl) (.slice (some ⟨g, 0, none⟩) n k) (fun W h => by have p2 := HNK.out.2.2.2; have p := HNK.out.1; go_simp) trivial ?_
      try simp only [Act.put, List.setIfInBounds_toArray, List.set_cons_zero, List.set_cons_succ]
      refine wpAnyH_ready (rs := [7]) (by kernel_rfl) (by decide) ?_
      refine AllReadyH.cons rfl (fun K hK => ?_) AllReadyH.nil
      refine step_copy (some 45) (by kernel_rfl) (by kernel_rfl) (.tmp 41) (.tmp 44) 22 22 (by kernel_rfl) _ _ (by kernel_rfl) (by kernel_rfl) HCP.out ?_
      refine hK.out _ _ trivial (fun _ => ?_)
      clear hK K
      try simp only [Act.put, List.setIfInBounds_toArray, List.set_cons_zero, List.set_cons_succ]
      refine held_v 8 (some 46) rfl (by kernel_rfl) (by kernel_rfl) (by kernel_rfl) (by kernel_rfl) (fun c a v w h => HQ2.out c a _ v w h) (by kernel_rfl) (.int .i64 (nm : Int)) (fun W h => by have p := HNM.out; have p2 := HNW.out; go_simp) trivial ?_
      try simp only [Act.put, List.setIfInBounds_toArray, List.set_cons_zero, List.set_cons_succ]
      refine held_v 9 (some 8) rfl (by kernel_rfl) (by kernel_rfl) (by kernel_rfl) (by kernel_rfl) (fun c a v w h => HQ2.out c a _ v w h) (by kernel_rfl) (.int .i64 (nm : Int)) (fun W h => by kernel_rfl) trivial ?_
      try simp only [Act.put, List.setIfInBounds_toArray, List.set_cons_zero, List.set_cons_succ]
      refine wpAnyH_done (by kernel_rfl) ?_ _
      refine HQ1.out _ _ ?_
      clear HQ1 HQ2
      go_wp2
      go_roundw
      case rel => exact ⟨nm, HN1.out.1, HN1.out.2.2, rfl, HB2.out, HL2.out⟩
      case measure => have := HN1.out; simp [intOf]; omega
    · obtain rfl : n = k := by omega
      have HB2 : Hid (Blk wr g 26 (List.replicate n v).toArray) := Lib.hid (by rw [← rowK_full]; exact hb)
      have HL2 := Lib.hid hbl
      clear hb hbl hn0 hn
      go_wp2
      go_ret
      exact ⟨g, rfl, HB2.out, HG.out, HL2.out⟩
/-- So many copies of a number, as a list of numbers. -/
theorem rdNs_rep {w : World} {g k : Nat} {A : Option Addr} {n c : Nat} {zs : List Int} (h : Blk w g 26 (List.replicate k (Value.slice A n c)).toArray) (hr : Rd .u32 w w.heap.size A n zs) (hnc : n ≤ c) (hcm : c ≤ maxLen) (hz : Lim zs) : RdNs w w.heap.size (some ⟨g, 0, none⟩) k (List.replicate k ⟨A, n, c, zs⟩) :=
  ⟨List.length_replicate, fun _ => ⟨g, 0, rfl, h.lt, fun j r hj => by
    have hjl : j < k := by
      rcases Nat.lt_or_ge j k with h5 | h5
      · exact h5
      · rw [List.getElem?_eq_none (by simpa using h5)] at hj; cases hj
    rw [List.getElem?_replicate, if_pos hjl] at hj
    injection hj with hj
    subst hj
    rw [Nat.zero_add, h.cell]
    simp [hjl]
    rfl⟩, fun r hr' => by
    rw [List.eq_of_mem_replicate hr']
    exact ⟨hr, hnc, hcm, hz⟩⟩
set_option maxHeartbeats 4000000 in
theorem q10pow_c (zs : List Int) (hz : Lim zs) (A : Option Addr) (n c : Nat) (hnc : n ≤ c) (hcm : c ≤ maxLen) (k : Int) (k0 : -9223372036854775808 ≤ k) (k1 : k < 9223372036854775808) (w : World) (hrd : Rd .u32 w w.heap.size A n zs) : Calls Tryd.prog 26 #[.slice A n c, .int .i64 k] w (RetNE w (powR zs k)) := by
  have hrt := fun W h => q10right_c zs A n c (by omega) W h
  have HR := Lib.hid hrd
  by_cases hok : rightN zs = true ∧ 0 ≤ k ∧ k ≤ 64
  · obtain ⟨hr, h0, h1⟩ := hok
    obtain ⟨m, rfl⟩ := Int.eq_ofNat_of_zero_le h0
    rw [hr] at hrt
    have HRT := Lib.hid hrt
    have hm64 : m ≤ 64 := by omega
    have hrep := repeat_c (.slice A n c) rfl w.heap.size 0 1 m hm64 (w.alloc (.cells #[.slice A n c] 26)) (by simp) (by rw [(Blk.new w 26 #[Value.slice A n c]).cell]; rfl)
    have HREP := Lib.hid hrep
    have hmul := fun g W (h : RdNs W W.heap.size (some ⟨g, 0, none⟩) m (List.replicate m ⟨A, n, c, zs⟩)) => q10mul_c (List.replicate m ⟨A, n, c, zs⟩) (some ⟨g, 0, none⟩) m m (by omega) W h
    rw [powR_zs (zs := zs) (k := m) (rs := List.replicate m ⟨A, n, c, zs⟩) hr (by omega) (by rw [List.map_replicate])] at hmul
    have HMUL := Lib.hid hmul
    have HN := Lib.hid (fun (g : Nat) (W : World) (hb : Below w.heap.size w W) h => rdNs_rep (w := W) (g := g) (k := m) h ((HR.out.below hb).mono hb.size) hnc hcm hz)
    have HB0 := Lib.hid ((Below.refl w.heap.size w).alloc (Nat.le_refl _) (.cells #[.slice A n c] 26))
    have hmI : (m : Int) ≤ 64 := h1
    have hm0 : ¬ (m : Int) < 0 := by omega
    obtain ⟨⟨re, rz⟩, hR⟩ : ∃ R, powR zs (m : Int) = R := ⟨_, rfl⟩
    rw [hR] at HMUL ⊢
    clear hrd hrt hr hz hnc hcm h0 k0 k1 hrep hmul hR h1
    go_enter Tryd.func26, Tryd.ntmps26
    go_wp2_with (first
      | (go_at_call 22; (with_reducible refine (HRT.out _ HR.out).mono ?_); rintro e _ ⟨rfl, rfl⟩)
      | (go_at_call 46; (with_reducible refine HREP.out.mono ?_); rintro e w4 ⟨g4, rfl, hb4, _, hl4⟩; have HB4 := Lib.hid (HB0.out.trans (hl4.mono HB0.out.size)); have HN4 := Lib.hid (HN.out g4 w4 HB4.out hb4); clear hb4 hl4)
      | (go_at_call 12; (with_reducible refine (HMUL.out _ _ HN4.out).mono ?_); rintro e w5 ⟨A5, c5, rfl, hl5, hm5, hr5, hb5⟩; have HB5 := Lib.hid (HB4.out.trans (hb5.mono HB4.out.size)); have HL5 := Lib.hid hl5; have HM5 := Lib.hid hm5; have HR5 := Lib.hid hr5; clear hl5 hm5 hr5 hb5))
    go_ret2
    exact ⟨_, _, rfl, HL5.out, HM5.out, HR5.out, HB5.out⟩
  · have e1 : powR zs k = (1, []) := if_neg hok
    rw [e1]
    have h2 : rightN zs = false ∨ (rightN zs = true ∧ k < 0) ∨ (rightN zs = true ∧ ¬ k < 0 ∧ 64 < k) := by
      cases h : rightN zs
      · exact .inl rfl
      · rw [h] at hok
        by_cases h3 : k < 0
        · exact .inr (.inl ⟨rfl, h3⟩)
        · exact .inr (.inr ⟨rfl, h3, by
            by_cases h4 : 64 < k
            · exact h4
            · exact absurd ⟨rfl, by omega, by omega⟩ hok⟩)
    clear hok e1 hrd
    rcases h2 with h | ⟨h, h'⟩ | ⟨h, h', h''⟩
    all_goals
      rw [h] at hrt
      have HRT := Lib.hid hrt
      clear hrt h
      go_enter Tryd.func26, Tryd.ntmps26
      go_wp2_with (first
        | (go_at_call 22; (with_reducible refine (HRT.out _ HR.out).mono ?_); rintro e _ ⟨rfl, rfl⟩))
      go_ret2
      exact RetNE.nil 1 (Below.refl _ _)
end Go.Proofs.YtoimepmignlmkaaDoor
