/-
  What the program's (writing).write does: the bytes are taken, older memory stays.
  Conditions: the arguments lie in their types' ranges.
-/
import Derived.Test.YtdnjnbeoioicfaaDoorShaH
import Derived.Test.YtdnjnbeoioicfaaDoorShaR
import Derived.Laws.Cover3
set_option linter.unusedSimpArgs false
namespace Go.Proofs.YtdnjnbeoioicfaaDoor
open Go.ChangeShapes Go.WideShapes Go.ChangeAt Go.RowKit
set_option linter.unusedVariables false
theorem size_u64w : (Tryd.prog.info? 24).map (·.size) = some 1 := by kernel_rfl
section
variable {P : Program} {w w' : World} {ops : Array Oper} {rest : List Oper} {o : Oper} {a : Act} {Q : Exit → Act → World → Prop}
theorem wpList_min (hgd : o.guard = none) (x y : Operand) (t : TypeId) (ho : o.op = .call { callee := .builtin .min, args := #[x, y], argTypes := #[t, t] }) (f j q : Int) (hx : a.eval x = .int .i64 f) (hy : a.eval y = .int .i64 j) (hq : (if j < f then j else f) = q)
    (h : wpList P ops Q rest (a.put o.dst (.int .i64 q)) w) : wpList P ops Q (o :: rest) a w := by
  refine wpList_plain hgd fun K hK => ?_
  unfold Oper.wp execOp
  simp only [ho, resolve, invoke, builtin, Sem.run_bind, Sem.run_pure, Result.andThen_ok, List.map_toArray, List.map_cons, List.map_nil, hx, hy, run_min_int2, hq]
  exact hK _ _ h
end
theorem Rd.range {w : World} {B n b off : Nat} {k : IntKind} {zs : List Int} (h : Rd k w B (some ⟨b, off, none⟩) n zs) : w.rangeAt b off (zs.map (Value.int k)) := fun j u hu => by
  have := h.news j u hu
  rwa [add_flat] at this
theorem Rd.keepB {k : IntKind} {w w' : World} {B n : Nat} {A : Option Addr} {zs : List Int} (h : Rd k w B A n zs) (hb : Below B w w') : Rd k w' B A n zs := h.below hb
/-- The bytes so far, and what is still to be taken. -/
def Wq (w0 : World) (g : Nat) (s r zs : List Int) (N : Int) (k : Nat) (p : Value) (w : World) : Prop :=
  ∃ Ak ck A' c', p = .slice Ak (zs.length - k) ck ∧ zs.length - k ≤ ck ∧ Rd .u8 w w0.heap.size Ak (zs.length - k) (zs.drop k) ∧ Wrt w0 g A' c' (nextS s r (zs.take k)) (nextR r (zs.take k)) N w
def RetN (w0 : World) (g : Nat) (s r : List Int) (n : Int) (e : Ending) (w' : World) : Prop := e = .returned (.tuple #[]) ∧ ∃ A c, Wrt w0 g A c s r n w'
theorem Wrt.blk' {w0 w : World} {g : Nat} {A : Option Addr} {c u : Nat} {s r : List Int} {n : Int} (h : Wrt w0 g A c s r n w) (hu : r.length = u) : Blk w g 71 (wrV s A u c n) := by subst hu; exact h.1
theorem Wrt.own {w0 w : World} {g : Nat} {A : Option Addr} {c : Nat} {s r : List Int} {n : Int} (h : Wrt w0 g A c s r n w) : OwnI w w0.heap.size 5 .u8 (.slice A r.length c) r := h.2.1
theorem Wrt.ge {w0 w : World} {g : Nat} {A : Option Addr} {c : Nat} {s r : List Int} {n : Int} (h : Wrt w0 g A c s r n w) : w0.heap.size ≤ g := h.2.2.2
/-- The rest has grown, and is stored. -/
theorem Wrt.more {w0 w w1 w2 : World} {g : Nat} {A A' : Option Addr} {c c' u : Nat} {s r r' : List Int} {n : Int} (h : Wrt w0 g A c s r n w) (hs : s.length = 8) (hu : r'.length = u) (hown : OwnI w1 w0.heap.size 5 .u8 (.slice A' u c') r') (hg : w.grownBy w1 (Value.slice A r.length c).ownBlock)
    (hk : Blk w2 g 71 ((wrV s A r.length c n).setIfInBounds 8 (.slice A' u c'))) (ho : Only g w1 w2) : Wrt w0 g A' c' s r' n w2 ∧ Below w0.heap.size w w2 := by
  subst hu
  rw [wrV_set8 s hs] at hk
  have hb1 : Blk w1 g 71 (wrV s A r.length c n) := h.1.grown h.2.1 (by decide) hg
  have hl1 : Below w0.heap.size w w1 := h.2.1.below_ (Below.refl _ _) h.size hg
  have hl2 : Below w0.heap.size w1 w2 := ho.below h.2.2.2 (Nat.le_trans h.size hl1.size)
  exact ⟨⟨hk, hown.only hb1 (by decide) ho, h.bel.trans (hl1.trans hl2), h.2.2.2⟩, hl1.trans hl2⟩
/-- The rest is emptied. -/
theorem Wrt.empty {w0 w w2 : World} {g : Nat} {A : Option Addr} {c : Nat} {s r : List Int} {n : Int} (h : Wrt w0 g A c s r n w) (hs : s.length = 8) (hr : 0 < r.length)
    (hk : Blk w2 g 71 ((wrV s A r.length c n).setIfInBounds 8 (.slice A 0 c))) (ho : Only g w w2) : Wrt w0 g A c s [] n w2 ∧ Below w0.heap.size w w2 := by
  rw [wrV_set8 s hs] at hk
  have hl2 : Below w0.heap.size w w2 := ho.below h.2.2.2 h.size
  exact ⟨⟨hk, (h.2.1.zero hr).only h.1 (by decide) ho, h.bel.trans hl2, h.2.2.2⟩, hl2⟩
theorem Wrt.bytes {w0 w w2 : World} {g : Nat} {A : Option Addr} {c : Nat} {s r : List Int} {n m : Int} (h : Wrt w0 g A c s r n w) (hs : s.length = 8) (hk : Blk w2 g 71 ((wrV s A r.length c n).setIfInBounds 9 (.int .u64 m))) (ho : Only g w w2) : Wrt w0 g A c s r m w2 := by
  rw [wrV_set9 s hs] at hk
  exact h.only ho hk
theorem Wrt.head {w0 w : World} {g : Nat} {A : Option Addr} {c : Nat} {s r : List Int} {n : Int} (h : Wrt w0 g A c s r n w) (hr : 0 < r.length) : ∃ b, A = some ⟨b, 0, none⟩ := by
  obtain ⟨g', cap, hv, _, _⟩ := World.ownsRow.form (show w.ownsRow w0.heap.size 5 1 (.slice A r.length c) r.length (r.map (Value.int .u8)) from h.2.1) hr
  exact ⟨g', by injection hv⟩
theorem take_more (zs : List Int) (k q : Nat) : zs.take (k + q) = zs.take k ++ (zs.drop k).take q := List.take_add
set_option maxHeartbeats 4000000 in
theorem qwr_c (w0 : World) (g : Nat) (A : Option Addr) (c : Nat) (s r zs : List Int) (n : Int) (hl : s.length = 8) (hs : WIn s) (hri : ∀ z ∈ r, 0 ≤ z ∧ z < 256) (hr : r.length ≤ 63) (Ap : Option Addr) (m cp : Nat) (hzi : ∀ z ∈ zs, 0 ≤ z ∧ z < 256) (n0 : 0 ≤ n) (n1 : n + m < 2305843009213693952)
    (w : World) (hw : Wrt w0 g A c s r n w) (hp : Rd .u8 w w0.heap.size Ap m zs) (hmc : m ≤ cp) (hm : m ≤ 1000000) (hkst : Kst w0) :
    Calls Tryd.prog 36 #[.pointer (some ⟨g, 0, none⟩), .slice Ap m cp] w (RetN w0 g (nextS s r zs) (nextR r zs) (n + m)) := by
  obtain ⟨i0, hi, hz0, hz1, hzb⟩ := info_parts info_u8'
  have hpl := hp.len
  have w1e : IntKind.u64.wrap (m : Int) = m := by rw [IntKind.wrap_u64]; omega
  obtain ⟨N, hN⟩ : ∃ N, n + (m : Int) = N := ⟨_, rfl⟩
  have w2e : IntKind.u64.wrap (n + (m : Int)) = N := by rw [IntKind.wrap_u64]; omega
  rw [hN]
  have c9 := hw.cell9 hl
  have HW := Lib.hid hw
  have HP := Lib.hid hp
  have SV := Lib.hid (wrV_size s hl A r.length c n)
  have HL := Lib.hid hl
  have HPL := Lib.hid hpl
  have HKS := Lib.hid hkst
  have HSL := Lib.hid (fun k => nextS_len s r (zs.take k) hl)
  have HSI := Lib.hid (fun k => nextS_in s r (zs.take k) hs)
  have HRL := Lib.hid (fun k => nextR_len r (zs.take k))
  have HRI := Lib.hid (fun k => nextR_in r (zs.take k) hri (fun z h => hzi z (List.mem_of_mem_take h)))
  have HZI := Lib.hid hzi
  have HNM := Lib.hid (fun k q => (show nextS s r (zs.take (k + q)) = nextS (nextS s r (zs.take k)) (nextR r (zs.take k)) ((zs.drop k).take q) ∧ nextR r (zs.take (k + q)) = nextR (nextR r (zs.take k)) ((zs.drop k).take q) by rw [take_more]; exact ⟨nextS_more _ _ _ _, nextR_more _ _ _⟩))
  have HST := Lib.hid (show nextS s r (zs.take 0) = s ∧ nextR r (zs.take 0) = r from ⟨nextS_nil s r (by omega), nextR_nil r (by omega)⟩)
  have HZA := Lib.hid (show zs.take m = zs by rw [← hpl, List.take_length])
  clear hw hp hl hs hri hr hzi hpl hN hkst n1
  go_enter Tryd.func36, Tryd.ntmps36
  go_wp2_with (with_reducible refine at_any ?_; refine at_store 16 rfl ?_; refine wpList_store_cell rfl 24 (.tmp 16) (.tmp 13) rfl g 9 rfl 71 (wrV s A r.length c n) HW.out.blk (.int .u64 N) rfl (by rw [SV.out]; omega) size_u64w rfl rfl ?_; intro w1 hk1 ho1)
  have hW1 := HW.out.bytes HL.out hk1.out ho1
  have HQ : Wq w0 g s r zs N 0 (.slice Ap m cp) w1 := by
    refine ⟨Ap, cp, A, c, by rw [Nat.sub_zero, HPL.out], by rw [Nat.sub_zero, HPL.out]; exact hmc, ?_, ?_⟩
    · rw [Nat.sub_zero, HPL.out, List.drop_zero]
      exact HP.out.below (ho1.below HW.out.ge HW.out.size)
    · rw [HST.out.1, HST.out.2]; exact hW1
  clear hk1 ho1 hW1 c9 w2e
  try simp only [Act.put]
  go_loopw [1] (fun p wr => ∃ k : Nat, k ≤ m ∧ Wq w0 g s r zs N k p wr) (fun p _ => lenV p)
  case atStart => exact ⟨0, by omega, HQ⟩
  case round =>
    clear HQ
    obtain ⟨k, hk, Ak, ck, A', c', rfl, hck, hrd, hW⟩ := hrel
    rw [HPL.out] at hck hrd ⊢
    by_cases hlt : k < m
    · obtain ⟨j, hj⟩ : ∃ j, m - k = j := ⟨_, rfl⟩
      rw [hj] at hck hrd ⊢
      have hsl := HSL.out k
      have hsi := HSI.out k
      have hrl := HRL.out k
      have hri := HRI.out k
      have hnm := HNM.out k
      obtain ⟨σ, hσ⟩ : ∃ x, nextS s r (zs.take k) = x := ⟨_, rfl⟩
      obtain ⟨ρ, hρ⟩ : ∃ x, nextR r (zs.take k) = x := ⟨_, rfl⟩
      rw [hσ] at hsl hsi hW hnm
      rw [hρ] at hrl hri hW hnm
      obtain ⟨v, hv⟩ : ∃ v, ρ.length = v := ⟨_, rfl⟩
      rw [hv] at hrl
      have hv63 : v ≤ 63 := by omega
      obtain ⟨f, hf⟩ : ∃ f, 64 - v = f := ⟨_, rfl⟩
      obtain ⟨q, hq⟩ : ∃ q, min f j = q := ⟨_, rfl⟩
      have hq1 : 1 ≤ q := by omega
      have hqj : q ≤ j := by omega
      have hqf : q ≤ f := by omega
      have e26 : IntKind.i64.wrap (64 - (v : Int)) = (f : Int) := by rw [IntWalk.i64_in _ (by omega)]; omega
      have HMIN := Lib.hid (show (if (j : Int) < (f : Int) then (j : Int) else (f : Int)) = (q : Int) by split <;> omega)
      obtain ⟨b0, off0, rfl, hb0, _⟩ := hrd.at_ (by omega)
      have hup := hrd.upto hqj
      have hdn := hrd.from_ (cap := ck) hqj hck
      have hnk := hnm q
      obtain ⟨y, hy⟩ : ∃ y, (zs.drop k).take q = y := ⟨_, rfl⟩
      rw [hy] at hup hnk
      have hyl := hup.len
      have hyi : ∀ z ∈ y, 0 ≤ z ∧ z < 256 := by rw [← hy]; intro z h; exact HZI.out z (List.mem_of_mem_drop (List.mem_of_mem_take h))
      obtain ⟨u, hu⟩ : ∃ u, v + q = u := ⟨_, rfl⟩
      have hul : (ρ ++ y).length = u := by rw [List.length_append, hv, hyl]; exact hu
      have hu64 : u ≤ 64 := by omega
      have c8 := hW.cell8 hsl
      rw [hv] at c8
      have q0 : (0 : Int) < (j : Int) := by omega
      have q2 : (0 : Int) ≤ (q : Int) := by omega
      have q3 : (q : Int) ≤ (ck : Int) := by omega
      have q4 : (q : Int) ≤ (j : Int) := by omega
      have q5 : q ≤ ck := by omega
      have q6 : q ≤ j := hqj
      have HWk := Lib.hid hW
      have HUP := Lib.hid hup
      have HDN := Lib.hid hdn
      have HNK := Lib.hid hnk
      have HYI := Lib.hid hyi
      have HUL := Lib.hid hul
      have HVL := Lib.hid hv
      have HSLk := Lib.hid hsl
      have HSIk := Lib.hid hsi
      have HRIk := Lib.hid hri
      have HYL := Lib.hid hyl
      have HDD := Lib.hid (show (zs.drop k).drop q = zs.drop (k + q) by rw [List.drop_drop])
      have HJK := Lib.hid (show k + j = m by omega)
      have HKQ := Lib.hid (show j - q = zs.length - (k + q) by rw [HPL.out]; omega)
      clear hrd hW hup hdn hnm hnk hyi hul hsl hsi hrl hri hy hσ hρ hf hq hj hyl hv
      go_wp2_with (with_reducible refine at_any ?_; refine at_dst 29 rfl ?_; refine wpList_min rfl (.tmp 26) (.tmp 28) 3 rfl (f : Int) (j : Int) (q : Int) rfl rfl HMIN.out ?_)
      have hWd := HWk.out.drew
      refine wp_region_held_drew (S := AnyW) (by kernel_rfl) trivial (fun hH => ?_)
      refine wpAnyH_letter #[false, false, false, false, false, false, false, false, false, false, false, false, false, false] (by kernel_rfl) (fun _ _ d _ _ h => by cases d <;> exact h) (fun QL HQ1 HQ2 => ?_)
      refine held_v 0 (some 30) rfl rfl (by kernel_rfl) (by kernel_rfl) (by kernel_rfl) (fun c a v w h => HQ2.out c a _ v w h) (by kernel_rfl) (.pointer (some ⟨g, 0, none⟩)) (fun W h => by go_simp) hH ?_
      try simp only [Act.put, List.setIfInBounds_toArray, List.set_cons_zero, List.set_cons_succ]
      refine held_v 1 (some 31) rfl rfl (by kernel_rfl) (by kernel_rfl) (by kernel_rfl) (fun c a v w h => HQ2.out c a _ v w h) (by kernel_rfl) (.pointer (some ⟨g, 0, none⟩)) (fun W h => by go_simp) hH ?_
      try simp only [Act.put, List.setIfInBounds_toArray, List.set_cons_zero, List.set_cons_succ]
      refine held_v 2 (some 32) rfl rfl (by kernel_rfl) (by kernel_rfl) (by kernel_rfl) (fun c a v w h => HQ2.out c a _ v w h) (by kernel_rfl) (.pointer (some ⟨g, 0, none⟩)) (fun W h => by go_simp) hH ?_
      try simp only [Act.put, List.setIfInBounds_toArray, List.set_cons_zero, List.set_cons_succ]
      refine held_v 3 (some 33) rfl rfl (by kernel_rfl) (by kernel_rfl) (by kernel_rfl) (fun c a v w h => HQ2.out c a _ v w h) (by kernel_rfl) (.pointer (some ⟨g, 0, none⟩)) (fun W h => by go_simp) hH ?_
      try simp only [Act.put, List.setIfInBounds_toArray, List.set_cons_zero, List.set_cons_succ]
      refine held_v 4 (some 34) rfl rfl (by kernel_rfl) (by kernel_rfl) (by kernel_rfl) (fun c a v w h => HQ2.out c a _ v w h) (by kernel_rfl) (.pointer (some ⟨g, 8, none⟩)) (fun W h => by go_simp) hH ?_
      try simp only [Act.put, List.setIfInBounds_toArray, List.set_cons_zero, List.set_cons_succ]
      refine held_v 6 (some 36) rfl rfl (by kernel_rfl) (by kernel_rfl) (by kernel_rfl) (fun c a v w h => HQ2.out c a _ v w h) (by kernel_rfl) (.slice (some ⟨b0, off0, none⟩) j ck) (fun W h => by go_simp) hH ?_
      try simp only [Act.put, List.setIfInBounds_toArray, List.set_cons_zero, List.set_cons_succ]
      refine held_v 7 (some 37) rfl rfl (by kernel_rfl) (by kernel_rfl) (by kernel_rfl) (fun c a v w h => HQ2.out c a _ v w h) (by kernel_rfl) (.int .i64 (q : Int)) (fun W h => by go_simp) hH ?_
      try simp only [Act.put, List.setIfInBounds_toArray, List.set_cons_zero, List.set_cons_succ]
      refine held_v 8 (some 38) rfl rfl (by kernel_rfl) (by kernel_rfl) (by kernel_rfl) (fun c a v w h => HQ2.out c a _ v w h) (by kernel_rfl) (.slice (some ⟨b0, off0, none⟩) q ck) (fun W h => by go_simp) hH ?_
      try simp only [Act.put, List.setIfInBounds_toArray, List.set_cons_zero, List.set_cons_succ]
      refine wpAnyH_ready (rs := [5]) (by kernel_rfl) (by decide) ?_
      refine AllReadyH.cons rfl (fun K hK => ?_) AllReadyH.nil
      refine step_v (some 35) rfl (by kernel_rfl) (.slice A' v c') (by go_simp) ?_
      refine hK.out _ _ hH (fun _ => ?_)
      clear hK K
      try simp only [Act.put, List.setIfInBounds_toArray, List.set_cons_zero, List.set_cons_succ]
      refine wpAnyH_ready (rs := [9]) (by kernel_rfl) (by decide) ?_
      refine AllReadyH.cons rfl (fun K hK => ?_) AllReadyH.nil
      refine step_append_d wr.drew (some 39) rfl rfl (.tmp 35) (.tmp 38) 29 rfl w0.heap.size 5 i0 _ 1 .u8 Tryd.underlying29 hi hz0 hz1 hzb rfl (.slice A' v c') ρ (by kernel_rfl) (by have := hWd.own; rw [HVL.out] at this; exact this) w0.heap.size (some ⟨b0, off0, none⟩) q ck y (by kernel_rfl) HUP.out.drew (by rw [HVL.out]; simp [maxLen]; omega) (by rw [HVL.out]; omega) hWd.size ?_
      intro v6 w6 hown6 hg6 hat6
      obtain ⟨A6, c6, rfl, hc6, _⟩ := hown6.form
      rw [HUL.out] at hown6 hc6 hat6 ⊢
      have HK6 : Blk w6 g 71 (wrV σ A' v c' N) := by
        have h1 := hWd.blk.grown hWd.own (by decide) (by rw [HVL.out]; exact hg6)
        rwa [HVL.out] at h1
      have HO6 := Lib.hid hown6
      have HG6 := Lib.hid hg6
      clear hown6 hg6 hat6
      refine hK.out _ _ hH (fun hH => ?_)
      clear hK K
      try simp only [Act.put, List.setIfInBounds_toArray, List.set_cons_zero, List.set_cons_succ]
      refine held_v 10 (some 40) rfl rfl (by kernel_rfl) (by kernel_rfl) (by kernel_rfl) (fun c a v w h => HQ2.out c a _ v w h) (by kernel_rfl) (.pointer (some ⟨g, 0, none⟩)) (fun W h => by go_simp) hH ?_
      try simp only [Act.put, List.setIfInBounds_toArray, List.set_cons_zero, List.set_cons_succ]
      refine held_v 11 (some 41) rfl rfl (by kernel_rfl) (by kernel_rfl) (by kernel_rfl) (fun c a v w h => HQ2.out c a _ v w h) (by kernel_rfl) (.pointer (some ⟨g, 0, none⟩)) (fun W h => by go_simp) hH ?_
      try simp only [Act.put, List.setIfInBounds_toArray, List.set_cons_zero, List.set_cons_succ]
      refine held_v 12 (some 42) rfl rfl (by kernel_rfl) (by kernel_rfl) (by kernel_rfl) (fun c a v w h => HQ2.out c a _ v w h) (by kernel_rfl) (.pointer (some ⟨g, 8, none⟩)) (fun W h => by go_simp) hH ?_
      try simp only [Act.put, List.setIfInBounds_toArray, List.set_cons_zero, List.set_cons_succ]
      refine wpAnyH_ready (rs := [13]) (by kernel_rfl) (by decide) ?_
      refine AllReadyH.cons rfl (fun K hK => ?_) AllReadyH.nil
      refine step_store_cell none rfl (by kernel_rfl) 29 (.tmp 42) (.tmp 39) rfl g 8 (by kernel_rfl) 71 (wrV σ A' v c' N) HK6 (.slice A6 u c6) (by kernel_rfl) (by rw [wrV_size σ HSLk.out]; omega) size_sl rfl rfl ?_
      intro w7 hk7 ho7
      have hm7 := hWd.more HSLk.out HUL.out HO6.out (by rw [HVL.out]; exact HG6.out) (by rw [HVL.out]; exact hk7.out) ho7
      refine hK.out _ _ hH (fun hH => ?_)
      clear hK K
      try simp only [Act.put, List.setIfInBounds_toArray, List.set_cons_zero, List.set_cons_succ]
      refine wpAnyH_done (by kernel_rfl) ?_ _
      refine HQ1.out _ _ ?_
      clear HQ1 HQ2
      obtain ⟨hW7, hb7⟩ := hm7
      have d8 := hW7.cell8 HSLk.out
      rw [HUL.out] at d8
      have HW7 := Lib.hid hW7
      have HDN7 := Lib.hid (HDN.out.drew.below hb7)
      clear hk7 ho7 HK6 HO6 HG6 hWd hH c8 HWk HUP HDN hW7 hb7 e26
      have HU := Lib.hid hu
      have hkm : k + q ≤ m := by have := HJK.out; omega
      have hrel : ∀ (w9 : World) (σ' ρ' : List Int) (A9 : Option Addr) (c9 : Nat), Below w0.heap.size w7 w9 → nextS σ ρ y = σ' → nextR ρ y = ρ' → Wrt w0 g A9 c9 σ' ρ' N w9 → ∀ Aq : Option Addr, (if ck = q then some ⟨b0, off0, none⟩ else (some (⟨b0, off0, none⟩ : Addr)).map (·.add (q * 1))) = Aq → ∃ k : Nat, k ≤ m ∧ Wq w0 g s r zs N k (.slice Aq (j - q) (ck - q)) w9 := by
        intro w9 σ' ρ' A9 c9 hb9 hs9 hr9 hW9 Aq hA
        have h1 := HDN7.out.below hb9
        rw [hA, HDD.out, HKQ.out] at h1
        refine ⟨k + q, hkm, Aq, ck - q, A9, c9, by rw [HKQ.out], by rw [← HKQ.out]; omega, h1, ?_⟩
        rw [HNK.out.1, HNK.out.2, hs9, hr9]
        exact hW9
      have HREL := Lib.hid hrel
      have hif1 : ck = q → (if ck = q then some ⟨b0, off0, none⟩ else (some (⟨b0, off0, none⟩ : Addr)).map (·.add (q * 1))) = some ⟨b0, off0, none⟩ := fun h => if_pos h
      have hif2 : ¬ ck = q → (if ck = q then some ⟨b0, off0, none⟩ else (some (⟨b0, off0, none⟩ : Addr)).map (·.add (q * 1))) = some ⟨b0, off0 + q, none⟩ := fun h => by rw [if_neg h, Option.map_some, Nat.mul_one, add_flat]
      have HI1 := Lib.hid hif1
      have HI2 := Lib.hid hif2
      clear hrel hif1 hif2
      by_cases h64 : u = 64
      · have t64 : ((u : Int) == 64) = true := by rw [beq_iff_eq]; omega
        obtain ⟨b6, rfl⟩ := HW7.out.head (by rw [HUL.out]; omega)
        obtain ⟨T, hT⟩ : ∃ T, ρ ++ y = T := ⟨_, rfl⟩
        have hTi : ∀ z ∈ T, 0 ≤ z ∧ z < 256 := by
          rw [← hT]; intro z hz
          rcases List.mem_append.1 hz with h | h
          · exact HRIk.out z h
          · exact HYI.out z h
        have HFS := Lib.hid (nextS_full σ ρ y (by rw [HUL.out]; exact h64))
        have HFR := Lib.hid (nextR_full ρ y (by rw [HUL.out]; exact h64))
        rw [hT] at HW7 HUL HFS
        have HTL := Lib.hid (show T.length = 64 by rw [HUL.out]; exact h64)
        have HTK := Lib.hid (fun W h k => qtake_c g (some ⟨b6, 0, none⟩) u c6 σ T N HSLk.out HSIk.out HTL.out hTi W h k)
        have HRG := Lib.hid (HW7.out.rd.range)
        have SB := Lib.hid (show (Tryd.prog.info? 64).map (·.size) = some T.length by rw [HTL.out]; exact size_blk)
        obtain ⟨τ, hτ⟩ : ∃ τ, takeL σ T = τ := ⟨_, rfl⟩
        have HSτ := Lib.hid (show τ.length = 8 by rw [← hτ]; exact takeL_len σ T HSLk.out)
        rw [hτ] at HTK HFS
        have hu64i : (64 : Int) ≤ (u : Int) := by omega
        have hu64n : 64 ≤ u := by omega
        have hc0 : ¬ c6 = 0 := by omega
        have hat := fun W => run_arrayAt (P := Tryd.prog) W 64 _ 64 (some ⟨b6, 0, none⟩) u c6 Tryd.underlying64 hu64n
        clear hT hτ hTi h64
        by_cases hcq : ck = q
        all_goals
          go_wp2_with (first
            | (with_reducible refine at_any ?_; refine at_dst 60 rfl ?_; refine wpList_load_at rfl 64 (.tmp 59) rfl b6 0 rfl .u8 T HRG.out _ Tryd.underlying64 rfl SB.out ?_)
            | (go_at_call 39; (with_reducible refine (HTK.out w7 (HW7.out.blk' HUL.out) (HKS.out.below HW7.out.bel)).mono ?_); rintro e w8 ⟨rfl, hk8, ho8⟩; have e8 := hk8.cell 8; rw [wrV_rest τ HSτ.out] at e8; have f8 := hk8.frozen 8; have HO8 := Lib.hid ho8; have HB8 := Lib.hid hk8; clear ho8 hk8)
            | (with_reducible refine at_any ?_; refine at_store 71 rfl ?_; refine wpList_store_cell rfl 29 (.tmp 71) (.tmp 68) rfl g 8 rfl 71 (wrV τ (some ⟨b6, 0, none⟩) u c6 N) HB8.out (.slice (some ⟨b6, 0, none⟩) 0 c6) rfl (by rw [wrV_size τ HSτ.out]; omega) size_sl rfl rfl ?_; intro w9 hk9 ho9))
          try simp only [Act.put]
          go_roundw
          case rel =>
            have hW8 : Wrt w0 g (some ⟨b6, 0, none⟩) c6 τ T N w8 := HW7.out.only HO8.out (by rw [HUL.out]; exact HB8.out)
            obtain ⟨hW9, hb9⟩ := hW8.empty HSτ.out (by rw [HTL.out]; omega) (by rw [HUL.out]; exact hk9.out) ho9
            have hb79 : Below w0.heap.size w7 w9 := (HO8.out.below HW7.out.ge HW7.out.size).trans hb9
            first
              | (have h := HREL.out w9 τ [] _ c6 hb79 HFS.out HFR.out hW9 _ (HI1.out hcq); rw [show ck - q = 0 by omega] at h; exact h)
              | exact HREL.out w9 τ [] _ c6 hb79 HFS.out HFR.out hW9 _ (HI2.out hcq)
          case measure => simp only [lenV]; omega
      · have t64 : ((u : Int) == 64) = false := by rw [beq_eq_false_iff_ne]; omega
        have HFS := Lib.hid (nextS_few σ ρ y (by rw [HUL.out]; omega))
        have HFR := Lib.hid (nextR_few ρ y (by rw [HUL.out]; omega))
        by_cases hcq : ck = q
        · go_wp2
          go_roundw
          case rel =>
            have h := HREL.out w7 σ (ρ ++ y) A6 c6 (Below.refl _ _) HFS.out HFR.out HW7.out _ (HI1.out hcq)
            rw [show ck - q = 0 by omega] at h
            exact h
          case measure => simp only [lenV]; omega
        · go_wp2
          go_roundw
          case rel => exact HREL.out w7 σ (ρ ++ y) A6 c6 (Below.refl _ _) HFS.out HFR.out HW7.out _ (HI2.out hcq)
          case measure => simp only [lenV]; omega
    · obtain rfl : k = m := by omega
      rw [Nat.sub_self] at hrd ⊢
      have HWk := Lib.hid hW
      rw [HZA.out] at HWk
      clear hrd hW
      go_wp2
      go_end0
      exact ⟨rfl, A', c', HWk.out⟩
end Go.Proofs.YtdnjnbeoioicfaaDoor
